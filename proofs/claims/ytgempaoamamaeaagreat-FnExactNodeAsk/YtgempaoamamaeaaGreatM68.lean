/- NodeAsk (the specification), over arrays of cells. -/
import Derived.Test.YtgempaoamamaeaaGreatM0
import Derived.Test.YtgempaoamamaeaaGreatM28
import Derived.Test.YtgempaoamamaeaaGreatM67
namespace Go.Proofs.YtgempaoamamaeaaGreat
open Go.RowKit
set_option linter.unusedVariables false
theorem own_rwA {w : World} {base : Nat} {T : TypeId} {n c : Nat} {a : Option Addr} {G : Nat → KT} (h : w.ownsRow base T 4 (.slice a n c) n (krow G n)) : Rwo w base w.heap.size T 4 a n c (MFAsk G) := ⟨h, fun g e => (World.ownsRow.lt h g e).2⟩
theorem rwo_froms {w : World} {a : Option Addr} {n c : Nat} {M : Nat → KT} (h : RwO w a n c 4 (MFAsk M)) : FromsO w a M n c := by
  rcases h with h | ⟨b, off, e, h⟩
  · exact .inl h
  · exact .inr ⟨⟨b, off, none⟩, e, h.imp id fun h => ⟨rfl, h⟩⟩
abbrev MsT : Type := Int × Int × Int × Int × Int × Int × Int × ByteArray
def zMs : MsT := (0, 0, 0, 0, 0, 0, 0, ⟨#[]⟩)
def fitB (x : NdX) (xt : Int) : Bool := nodB xt && !(xt == x.ni)
def askX (y : CfX) (x : NdX) (ct xt : Int) : NdX × MsT × Int := match fitB x xt with
  | false => (zX 0 0 0 0 0 0, zMs, 1)
  | true => match staI y x ct == 0 with
    | false => (match staI y x ct == 1 with | true => (zX 0 0 0 0 0 0, zMs, 1) | false => (x, zMs, 2))
    | true => match x.us == 1000 with
      | true => (x, zMs, 4)
      | false => match x.na == 16 with
        | true => (x, zMs, 5)
        | false => ({ x with us := x.us + 1, AM := addG x.AM x.na (kT (x.te * 1000 + x.us) xt ct 1), na := x.na + 1 }, (1, x.ni, xt, (x.te * 1000 + x.us), 0, 0, 0, ⟨#[]⟩), 0)
theorem ok_tab {x : NdX} (h : okX x = true) : tabB x.te x.us x.AM x.na = true := by
  unfold okX ndB ndA at h
  simp only [Bool.and_eq_true] at h
  exact h.1.2.2.2.1
theorem come_tm {y : CfX} {x : NdX} {ct : Int} (h : staI y x ct ≠ 1) : tmB ct = true := by
  unfold staI at h
  cases h1 : cokX y
  · rw [h1] at h; exact absurd rfl h
  · rw [h1] at h
    unfold fiI at h
    cases h2 : okX x
    · rw [h2] at h; exact absurd rfl h
    · cases h3 : cmX x ct
      · rw [h2, h3] at h; exact absurd rfl h
      · have h4 : okT ct = true := by
          unfold cmX cmB at h3
          simp only [Bool.and_eq_true] at h3
          exact h3.1.1
        exact h4
attribute [-go_sem] loadCells storeCells in
set_option maxRecDepth 100000 in
set_option maxHeartbeats 8000000 in
theorem specAskunfit1 (AC AN : Array Value) (y : CfX) (x : NdX) (ct xt : Int) (w : World) (HC : CfS w AC y) (HN : NdS w AN x) (hnd : nodB xt = false) :
    Calls Tryz.prog 8 #[.agg AC, .agg AN, .int .i64 ct, .int .i64 xt] w fun e w' => ∃ R, e = .returned (.tuple #[.agg R, .agg #[.int .i64 ((askX y x ct xt).2.1.1), .int .i64 ((askX y x ct xt).2.1.2.1), .int .i64 ((askX y x ct xt).2.1.2.2.1), .int .i64 ((askX y x ct xt).2.1.2.2.2.1), .int .i64 ((askX y x ct xt).2.1.2.2.2.2.1), .int .i64 ((askX y x ct xt).2.1.2.2.2.2.2.1), .int .i64 ((askX y x ct xt).2.1.2.2.2.2.2.2.1), .string ((askX y x ct xt).2.1.2.2.2.2.2.2.2)], .int .i64 (askX y x ct xt).2.2]) ∧ NdO w' w.heap.size w'.heap.size R (askX y x ct xt).1 ∧ Below w.heap.size w w' := by
  have hft : fitB x xt = false := by unfold fitB; rw [hnd]; rfl
  have hF : askX y x ct xt = (zX 0 0 0 0 0 0, zMs, 1) := by unfold askX; simp only [hft]
  rw [hF]
  clear hF
  clear hft
  have CST := fun (v : World) (h : Below w.heap.size w v) => specStartX AC AN y x ct v (HC.below h) (HN.below h)
  have CBB := fun (v : World) (h : Below w.heap.size w v) => specBackX_bad AN x v (HN.below h)
  have CBA := fun (hs : x.na ≤ 16 ∧ x.np ≤ 8 ∧ x.nh ≤ 16) (v : World) (h : Below w.heap.size w v) => specBackX_any AN x 2 v (HN.below h) (by decide) hs
  have CCP := fun (hs : x.na ≤ 16 ∧ x.np ≤ 8 ∧ x.nh ≤ 16) (v : World) (h : Below w.heap.size w v) => specCopyX AN x v (HN.below h) hs
  obtain ⟨p, d, rfl, -, -⟩ := HC
  obtain ⟨aa, ac, pa, pc, ha, hc, rfl, hl, sA, -, -⟩ := HN
  have CL4 := fun v => l4Node_any xt v
  clear hl sA
  have A0 := Below.nw w (.cells (cfV y p d) 67)
  have A1 := Below.nw (w.alloc (.cells (cfV y p d) 67)) (.cells (ndV x aa ac pa pc ha hc) 57)
  have A2 := Below.nw (((w.alloc (.cells (cfV y p d) 67))).alloc (.cells (ndV x aa ac pa pc ha hc) 57)) (.cells #[.int .i64 0, .int .i64 0, .int .i64 0, .int .i64 0, .bool false, .int .i64 0, .int .i64 0, .int .i64 0, .int .i64 0, .int .i64 0, .slice none 0 0, .slice none 0 0, .bool false, .int .i64 0, .slice none 0 0, .int .i64 0] 57)
  have A3 := Below.nw (((((w.alloc (.cells (cfV y p d) 67))).alloc (.cells (ndV x aa ac pa pc ha hc) 57))).alloc (.cells #[.int .i64 0, .int .i64 0, .int .i64 0, .int .i64 0, .bool false, .int .i64 0, .int .i64 0, .int .i64 0, .int .i64 0, .int .i64 0, .slice none 0 0, .slice none 0 0, .bool false, .int .i64 0, .slice none 0 0, .int .i64 0] 57)) (.cells #[.int .i64 0, .int .i64 0, .int .i64 0, .int .i64 0, .int .i64 0, .int .i64 0, .int .i64 0, .string ⟨#[]⟩] 59)
  have C := (((Bo.new w (cfV y p d) 67).below A1).below A2).below A3
  have N := ((Bo.new (w.alloc (.cells (cfV y p d) 67)) (ndV x aa ac pa pc ha hc) 57).below A2).below A3
  have R := (Bo.new (((w.alloc (.cells (cfV y p d) 67))).alloc (.cells (ndV x aa ac pa pc ha hc) 57)) #[.int .i64 0, .int .i64 0, .int .i64 0, .int .i64 0, .bool false, .int .i64 0, .int .i64 0, .int .i64 0, .int .i64 0, .int .i64 0, .slice none 0 0, .slice none 0 0, .bool false, .int .i64 0, .slice none 0 0, .int .i64 0] 57).below A3
  have M := Bo.new (((((w.alloc (.cells (cfV y p d) 67))).alloc (.cells (ndV x aa ac pa pc ha hc) 57))).alloc (.cells #[.int .i64 0, .int .i64 0, .int .i64 0, .int .i64 0, .bool false, .int .i64 0, .int .i64 0, .int .i64 0, .int .i64 0, .int .i64 0, .slice none 0 0, .slice none 0 0, .bool false, .int .i64 0, .slice none 0 0, .int .i64 0] 57)) #[.int .i64 0, .int .i64 0, .int .i64 0, .int .i64 0, .int .i64 0, .int .i64 0, .int .i64 0, .string ⟨#[]⟩] 59
  have B := A0
  replace B := B.trans (A1.mono B.size)
  replace B := B.trans (A2.mono B.size)
  replace B := B.trans (A3.mono B.size)
  simp only [World.size_alloc] at N R M
  clear A0 A1 A2 A3
  go_enter Tryz.func8, Tryz.ntmps8
  go_upto_region 1 with fail
  generalize ((((((w.alloc (.cells (cfV y p d) 67))).alloc (.cells (ndV x aa ac pa pc ha hc) 57))).alloc (.cells #[.int .i64 0, .int .i64 0, .int .i64 0, .int .i64 0, .bool false, .int .i64 0, .int .i64 0, .int .i64 0, .int .i64 0, .int .i64 0, .slice none 0 0, .slice none 0 0, .bool false, .int .i64 0, .slice none 0 0, .int .i64 0] 57))).alloc (.cells #[.int .i64 0, .int .i64 0, .int .i64 0, .int .i64 0, .int .i64 0, .int .i64 0, .int .i64 0, .string ⟨#[]⟩] 59) = v0 at *
  have hL0 := C.load (P := Tryz.prog) (show ((cfV y p d) : Array Value).size = 11 from rfl)
  have hL1 := N.load (P := Tryz.prog) (show ((ndV x aa ac pa pc ha hc) : Array Value).size = 16 from rfl)
  go_wp2_with (first | rw [hL0] | rw [hL1])
  refine (CST v0 B).mono ?_
  rintro e v1 ⟨rfl, hb⟩
  clear hL0 hL1
  replace B := B.trans (hb.mono B.size)
  replace C := C.below hb
  replace N := N.below hb
  replace R := R.below hb
  replace M := M.below hb
  clear hb
  go_wp2_with fail
  refine (CL4 _).mono ?_
  rintro e w' ⟨rfl, rfl⟩
  rw [hnd]
  have hL0 := N.load (P := Tryz.prog) (show ((ndV x aa ac pa pc ha hc) : Array Value).size = 16 from rfl)
  go_wp2_with (rw [hL0])
  refine (CBB v1 B).mono ?_
  rintro e v2 ⟨U, rfl, OU, hb⟩
  clear hL0
  have q1C : w.heap.size < v1.heap.size := C.1
  have q1N : w.heap.size + 1 < v1.heap.size := N.1
  have q1R : w.heap.size + 2 < v1.heap.size := R.1
  have q1M : w.heap.size + 3 < v1.heap.size := M.1
  have q1 : w.heap.size ≤ v1.heap.size := B.size
  have zv2 : v1.heap.size ≤ v2.heap.size := hb.size
  replace B := B.trans (hb.mono B.size)
  replace C := C.below hb
  replace N := N.below hb
  replace R := R.below hb
  replace M := M.below hb
  clear hb
  have hU := OU.size
  have hUl : 0 + (U.toList).length ≤ 16 := by simp [hU]
  have hst := Bo.store (P := Tryz.prog) (b := 0) (U.toList) 0 0 R rfl hUl OU.one
  have hb : Btw (w.heap.size + 2) (w.heap.size + 2 + 1) v2 (putA v2 (w.heap.size + 2) 0 (U.toList)) := putA_btw (U.toList) v2 0 (w.heap.size + 2)
  have B1 := putA_below (k := w.heap.size + 2) (U.toList) w v2 0 B (by omega)
  have R1 := R.putW (U := U) hU
  obtain ⟨vm, hvm⟩ : ∃ vm, putA v2 (w.heap.size + 2) 0 (U.toList) = vm := ⟨_, rfl⟩
  rw [hvm] at hst hb B1 R1
  clear hvm
  have M1 := M.btw hb (by omega)
  have hst2 := Bo.store (P := Tryz.prog) (b := 0) ([.int .i64 0, .int .i64 0, .int .i64 0, .int .i64 0, .int .i64 0, .int .i64 0, .int .i64 0, .string ⟨#[]⟩]) 0 0 M1 rfl (show 0 + 8 ≤ 8 by decide) (List.forall_mem_cons.2 ⟨rfl, (List.forall_mem_cons.2 ⟨rfl, (List.forall_mem_cons.2 ⟨rfl, (List.forall_mem_cons.2 ⟨rfl, (List.forall_mem_cons.2 ⟨rfl, (List.forall_mem_cons.2 ⟨rfl, (List.forall_mem_cons.2 ⟨rfl, (List.forall_mem_cons.2 ⟨rfl, fun _ h => nomatch h⟩)⟩)⟩)⟩)⟩)⟩)⟩)⟩)
  have hb2 : Btw (w.heap.size + 3) (w.heap.size + 3 + 1) vm (putA vm (w.heap.size + 3) 0 ([.int .i64 0, .int .i64 0, .int .i64 0, .int .i64 0, .int .i64 0, .int .i64 0, .int .i64 0, .string ⟨#[]⟩])) := putA_btw ([.int .i64 0, .int .i64 0, .int .i64 0, .int .i64 0, .int .i64 0, .int .i64 0, .int .i64 0, .string ⟨#[]⟩]) vm 0 (w.heap.size + 3)
  have B2 := putA_below (k := w.heap.size + 3) ([.int .i64 0, .int .i64 0, .int .i64 0, .int .i64 0, .int .i64 0, .int .i64 0, .int .i64 0, .string ⟨#[]⟩]) w vm 0 B1 (by omega)
  have M2 : Bo (putA vm (w.heap.size + 3) 0 ([.int .i64 0, .int .i64 0, .int .i64 0, .int .i64 0, .int .i64 0, .int .i64 0, .int .i64 0, .string ⟨#[]⟩])) (w.heap.size + 3) (#[.int .i64 0, .int .i64 0, .int .i64 0, .int .i64 0, .int .i64 0, .int .i64 0, .int .i64 0, .string ⟨#[]⟩]) := M1.putW (U := #[.int .i64 0, .int .i64 0, .int .i64 0, .int .i64 0, .int .i64 0, .int .i64 0, .int .i64 0, .string ⟨#[]⟩]) rfl
  have R2 := R1.btw hb2 (by omega)
  replace OU := (OU.btw hb (by omega)).btw hb2 (by omega)
  have zz : v2.heap.size ≤ (putA vm (w.heap.size + 3) 0 ([.int .i64 0, .int .i64 0, .int .i64 0, .int .i64 0, .int .i64 0, .int .i64 0, .int .i64 0, .string ⟨#[]⟩])).heap.size := Nat.le_trans hb.2.2.2.1 hb2.2.2.2.1
  go_wp2_with (first | rw [hst] | rw [hst2])
  clear hst hst2 hb hb2 R M R1 M1 B B1 C N
  generalize putA vm (w.heap.size + 3) 0 ([.int .i64 0, .int .i64 0, .int .i64 0, .int .i64 0, .int .i64 0, .int .i64 0, .int .i64 0, .string ⟨#[]⟩]) = v3 at *
  have B := B2
  have R := R2
  have M := M2
  clear B2 R2 M2
  have hL0 := R.load (P := Tryz.prog) hU
  have hL1 := M.load (P := Tryz.prog) (show (#[.int .i64 0, .int .i64 0, .int .i64 0, .int .i64 0, .int .i64 0, .int .i64 0, .int .i64 0, .string ⟨#[]⟩] : Array Value).size = 8 from rfl)
  exact bodyPost_ret (v := .tuple #[.agg U, .agg #[.int .i64 0, .int .i64 0, .int .i64 0, .int .i64 0, .int .i64 0, .int .i64 0, .int .i64 0, .string ⟨#[]⟩], .int .i64 1]) (by simp [results, Tryz.results8, go_sem]; rw [hL0]; simp only [Result.andThen_ok]; rw [show w.heap.size + 1 + 1 + 1 = w.heap.size + 3 from rfl, hL1]; rfl) rfl ⟨_, rfl, OU.low (by omega), B⟩
attribute [-go_sem] loadCells storeCells in
set_option maxRecDepth 100000 in
set_option maxHeartbeats 8000000 in
theorem specAskunfit2 (AC AN : Array Value) (y : CfX) (x : NdX) (ct xt : Int) (w : World) (HC : CfS w AC y) (HN : NdS w AN x) (hnd : nodB xt = true) (hne : (xt == x.ni) = true) :
    Calls Tryz.prog 8 #[.agg AC, .agg AN, .int .i64 ct, .int .i64 xt] w fun e w' => ∃ R, e = .returned (.tuple #[.agg R, .agg #[.int .i64 ((askX y x ct xt).2.1.1), .int .i64 ((askX y x ct xt).2.1.2.1), .int .i64 ((askX y x ct xt).2.1.2.2.1), .int .i64 ((askX y x ct xt).2.1.2.2.2.1), .int .i64 ((askX y x ct xt).2.1.2.2.2.2.1), .int .i64 ((askX y x ct xt).2.1.2.2.2.2.2.1), .int .i64 ((askX y x ct xt).2.1.2.2.2.2.2.2.1), .string ((askX y x ct xt).2.1.2.2.2.2.2.2.2)], .int .i64 (askX y x ct xt).2.2]) ∧ NdO w' w.heap.size w'.heap.size R (askX y x ct xt).1 ∧ Below w.heap.size w w' := by
  have hft : fitB x xt = false := by unfold fitB; rw [hnd, hne]; rfl
  have hF : askX y x ct xt = (zX 0 0 0 0 0 0, zMs, 1) := by unfold askX; simp only [hft]
  rw [hF]
  clear hF
  clear hft
  have CST := fun (v : World) (h : Below w.heap.size w v) => specStartX AC AN y x ct v (HC.below h) (HN.below h)
  have CBB := fun (v : World) (h : Below w.heap.size w v) => specBackX_bad AN x v (HN.below h)
  have CBA := fun (hs : x.na ≤ 16 ∧ x.np ≤ 8 ∧ x.nh ≤ 16) (v : World) (h : Below w.heap.size w v) => specBackX_any AN x 2 v (HN.below h) (by decide) hs
  have CCP := fun (hs : x.na ≤ 16 ∧ x.np ≤ 8 ∧ x.nh ≤ 16) (v : World) (h : Below w.heap.size w v) => specCopyX AN x v (HN.below h) hs
  obtain ⟨p, d, rfl, -, -⟩ := HC
  obtain ⟨aa, ac, pa, pc, ha, hc, rfl, hl, sA, -, -⟩ := HN
  have CL4 := fun v => l4Node_any xt v
  clear hl sA
  have A0 := Below.nw w (.cells (cfV y p d) 67)
  have A1 := Below.nw (w.alloc (.cells (cfV y p d) 67)) (.cells (ndV x aa ac pa pc ha hc) 57)
  have A2 := Below.nw (((w.alloc (.cells (cfV y p d) 67))).alloc (.cells (ndV x aa ac pa pc ha hc) 57)) (.cells #[.int .i64 0, .int .i64 0, .int .i64 0, .int .i64 0, .bool false, .int .i64 0, .int .i64 0, .int .i64 0, .int .i64 0, .int .i64 0, .slice none 0 0, .slice none 0 0, .bool false, .int .i64 0, .slice none 0 0, .int .i64 0] 57)
  have A3 := Below.nw (((((w.alloc (.cells (cfV y p d) 67))).alloc (.cells (ndV x aa ac pa pc ha hc) 57))).alloc (.cells #[.int .i64 0, .int .i64 0, .int .i64 0, .int .i64 0, .bool false, .int .i64 0, .int .i64 0, .int .i64 0, .int .i64 0, .int .i64 0, .slice none 0 0, .slice none 0 0, .bool false, .int .i64 0, .slice none 0 0, .int .i64 0] 57)) (.cells #[.int .i64 0, .int .i64 0, .int .i64 0, .int .i64 0, .int .i64 0, .int .i64 0, .int .i64 0, .string ⟨#[]⟩] 59)
  have C := (((Bo.new w (cfV y p d) 67).below A1).below A2).below A3
  have N := ((Bo.new (w.alloc (.cells (cfV y p d) 67)) (ndV x aa ac pa pc ha hc) 57).below A2).below A3
  have R := (Bo.new (((w.alloc (.cells (cfV y p d) 67))).alloc (.cells (ndV x aa ac pa pc ha hc) 57)) #[.int .i64 0, .int .i64 0, .int .i64 0, .int .i64 0, .bool false, .int .i64 0, .int .i64 0, .int .i64 0, .int .i64 0, .int .i64 0, .slice none 0 0, .slice none 0 0, .bool false, .int .i64 0, .slice none 0 0, .int .i64 0] 57).below A3
  have M := Bo.new (((((w.alloc (.cells (cfV y p d) 67))).alloc (.cells (ndV x aa ac pa pc ha hc) 57))).alloc (.cells #[.int .i64 0, .int .i64 0, .int .i64 0, .int .i64 0, .bool false, .int .i64 0, .int .i64 0, .int .i64 0, .int .i64 0, .int .i64 0, .slice none 0 0, .slice none 0 0, .bool false, .int .i64 0, .slice none 0 0, .int .i64 0] 57)) #[.int .i64 0, .int .i64 0, .int .i64 0, .int .i64 0, .int .i64 0, .int .i64 0, .int .i64 0, .string ⟨#[]⟩] 59
  have B := A0
  replace B := B.trans (A1.mono B.size)
  replace B := B.trans (A2.mono B.size)
  replace B := B.trans (A3.mono B.size)
  simp only [World.size_alloc] at N R M
  clear A0 A1 A2 A3
  go_enter Tryz.func8, Tryz.ntmps8
  go_upto_region 1 with fail
  generalize ((((((w.alloc (.cells (cfV y p d) 67))).alloc (.cells (ndV x aa ac pa pc ha hc) 57))).alloc (.cells #[.int .i64 0, .int .i64 0, .int .i64 0, .int .i64 0, .bool false, .int .i64 0, .int .i64 0, .int .i64 0, .int .i64 0, .int .i64 0, .slice none 0 0, .slice none 0 0, .bool false, .int .i64 0, .slice none 0 0, .int .i64 0] 57))).alloc (.cells #[.int .i64 0, .int .i64 0, .int .i64 0, .int .i64 0, .int .i64 0, .int .i64 0, .int .i64 0, .string ⟨#[]⟩] 59) = v0 at *
  have hL0 := C.load (P := Tryz.prog) (show ((cfV y p d) : Array Value).size = 11 from rfl)
  have hL1 := N.load (P := Tryz.prog) (show ((ndV x aa ac pa pc ha hc) : Array Value).size = 16 from rfl)
  go_wp2_with (first | rw [hL0] | rw [hL1])
  refine (CST v0 B).mono ?_
  rintro e v1 ⟨rfl, hb⟩
  clear hL0 hL1
  replace B := B.trans (hb.mono B.size)
  replace C := C.below hb
  replace N := N.below hb
  replace R := R.below hb
  replace M := M.below hb
  clear hb
  go_wp2_with fail
  refine (CL4 _).mono ?_
  rintro e w' ⟨rfl, rfl⟩
  rw [hnd]
  have c0 : v1.cell? ⟨w.heap.size + 1, 0, none⟩ = some (.int .i64 x.ni) := N.cell rfl
  have hL0 := N.load (P := Tryz.prog) (show ((ndV x aa ac pa pc ha hc) : Array Value).size = 16 from rfl)
  go_wp2_with (rw [hL0])
  refine (CBB v1 B).mono ?_
  rintro e v2 ⟨U, rfl, OU, hb⟩
  clear hL0
  have q1C : w.heap.size < v1.heap.size := C.1
  have q1N : w.heap.size + 1 < v1.heap.size := N.1
  have q1R : w.heap.size + 2 < v1.heap.size := R.1
  have q1M : w.heap.size + 3 < v1.heap.size := M.1
  have q1 : w.heap.size ≤ v1.heap.size := B.size
  have zv2 : v1.heap.size ≤ v2.heap.size := hb.size
  replace B := B.trans (hb.mono B.size)
  replace C := C.below hb
  replace N := N.below hb
  replace R := R.below hb
  replace M := M.below hb
  clear hb
  have hU := OU.size
  have hUl : 0 + (U.toList).length ≤ 16 := by simp [hU]
  have hst := Bo.store (P := Tryz.prog) (b := 0) (U.toList) 0 0 R rfl hUl OU.one
  have hb : Btw (w.heap.size + 2) (w.heap.size + 2 + 1) v2 (putA v2 (w.heap.size + 2) 0 (U.toList)) := putA_btw (U.toList) v2 0 (w.heap.size + 2)
  have B1 := putA_below (k := w.heap.size + 2) (U.toList) w v2 0 B (by omega)
  have R1 := R.putW (U := U) hU
  obtain ⟨vm, hvm⟩ : ∃ vm, putA v2 (w.heap.size + 2) 0 (U.toList) = vm := ⟨_, rfl⟩
  rw [hvm] at hst hb B1 R1
  clear hvm
  have M1 := M.btw hb (by omega)
  have hst2 := Bo.store (P := Tryz.prog) (b := 0) ([.int .i64 0, .int .i64 0, .int .i64 0, .int .i64 0, .int .i64 0, .int .i64 0, .int .i64 0, .string ⟨#[]⟩]) 0 0 M1 rfl (show 0 + 8 ≤ 8 by decide) (List.forall_mem_cons.2 ⟨rfl, (List.forall_mem_cons.2 ⟨rfl, (List.forall_mem_cons.2 ⟨rfl, (List.forall_mem_cons.2 ⟨rfl, (List.forall_mem_cons.2 ⟨rfl, (List.forall_mem_cons.2 ⟨rfl, (List.forall_mem_cons.2 ⟨rfl, (List.forall_mem_cons.2 ⟨rfl, fun _ h => nomatch h⟩)⟩)⟩)⟩)⟩)⟩)⟩)⟩)
  have hb2 : Btw (w.heap.size + 3) (w.heap.size + 3 + 1) vm (putA vm (w.heap.size + 3) 0 ([.int .i64 0, .int .i64 0, .int .i64 0, .int .i64 0, .int .i64 0, .int .i64 0, .int .i64 0, .string ⟨#[]⟩])) := putA_btw ([.int .i64 0, .int .i64 0, .int .i64 0, .int .i64 0, .int .i64 0, .int .i64 0, .int .i64 0, .string ⟨#[]⟩]) vm 0 (w.heap.size + 3)
  have B2 := putA_below (k := w.heap.size + 3) ([.int .i64 0, .int .i64 0, .int .i64 0, .int .i64 0, .int .i64 0, .int .i64 0, .int .i64 0, .string ⟨#[]⟩]) w vm 0 B1 (by omega)
  have M2 : Bo (putA vm (w.heap.size + 3) 0 ([.int .i64 0, .int .i64 0, .int .i64 0, .int .i64 0, .int .i64 0, .int .i64 0, .int .i64 0, .string ⟨#[]⟩])) (w.heap.size + 3) (#[.int .i64 0, .int .i64 0, .int .i64 0, .int .i64 0, .int .i64 0, .int .i64 0, .int .i64 0, .string ⟨#[]⟩]) := M1.putW (U := #[.int .i64 0, .int .i64 0, .int .i64 0, .int .i64 0, .int .i64 0, .int .i64 0, .int .i64 0, .string ⟨#[]⟩]) rfl
  have R2 := R1.btw hb2 (by omega)
  replace OU := (OU.btw hb (by omega)).btw hb2 (by omega)
  have zz : v2.heap.size ≤ (putA vm (w.heap.size + 3) 0 ([.int .i64 0, .int .i64 0, .int .i64 0, .int .i64 0, .int .i64 0, .int .i64 0, .int .i64 0, .string ⟨#[]⟩])).heap.size := Nat.le_trans hb.2.2.2.1 hb2.2.2.2.1
  go_wp2_with (first | rw [hst] | rw [hst2])
  clear hst hst2 hb hb2 R M R1 M1 B B1 C N
  generalize putA vm (w.heap.size + 3) 0 ([.int .i64 0, .int .i64 0, .int .i64 0, .int .i64 0, .int .i64 0, .int .i64 0, .int .i64 0, .string ⟨#[]⟩]) = v3 at *
  have B := B2
  have R := R2
  have M := M2
  clear B2 R2 M2
  have hL0 := R.load (P := Tryz.prog) hU
  have hL1 := M.load (P := Tryz.prog) (show (#[.int .i64 0, .int .i64 0, .int .i64 0, .int .i64 0, .int .i64 0, .int .i64 0, .int .i64 0, .string ⟨#[]⟩] : Array Value).size = 8 from rfl)
  exact bodyPost_ret (v := .tuple #[.agg U, .agg #[.int .i64 0, .int .i64 0, .int .i64 0, .int .i64 0, .int .i64 0, .int .i64 0, .int .i64 0, .string ⟨#[]⟩], .int .i64 1]) (by simp [results, Tryz.results8, go_sem]; rw [hL0]; simp only [Result.andThen_ok]; rw [show w.heap.size + 1 + 1 + 1 = w.heap.size + 3 from rfl, hL1]; rfl) rfl ⟨_, rfl, OU.low (by omega), B⟩
attribute [-go_sem] loadCells storeCells in
set_option maxRecDepth 100000 in
set_option maxHeartbeats 8000000 in
theorem specAskbad (AC AN : Array Value) (y : CfX) (x : NdX) (ct xt : Int) (w : World) (HC : CfS w AC y) (HN : NdS w AN x) (hnd : nodB xt = true) (hne : (xt == x.ni) = false) (hst0 : staI y x ct = 1) :
    Calls Tryz.prog 8 #[.agg AC, .agg AN, .int .i64 ct, .int .i64 xt] w fun e w' => ∃ R, e = .returned (.tuple #[.agg R, .agg #[.int .i64 ((askX y x ct xt).2.1.1), .int .i64 ((askX y x ct xt).2.1.2.1), .int .i64 ((askX y x ct xt).2.1.2.2.1), .int .i64 ((askX y x ct xt).2.1.2.2.2.1), .int .i64 ((askX y x ct xt).2.1.2.2.2.2.1), .int .i64 ((askX y x ct xt).2.1.2.2.2.2.2.1), .int .i64 ((askX y x ct xt).2.1.2.2.2.2.2.2.1), .string ((askX y x ct xt).2.1.2.2.2.2.2.2.2)], .int .i64 (askX y x ct xt).2.2]) ∧ NdO w' w.heap.size w'.heap.size R (askX y x ct xt).1 ∧ Below w.heap.size w w' := by
  have hft : fitB x xt = true := by unfold fitB; rw [hnd, hne]; rfl
  have hF : askX y x ct xt = (zX 0 0 0 0 0 0, zMs, 1) := by unfold askX; simp only [hft, hst0, Int.reduceBEq]
  rw [hF]
  clear hF
  clear hft
  have CST := fun (v : World) (h : Below w.heap.size w v) => specStartX AC AN y x ct v (HC.below h) (HN.below h)
  have CBB := fun (v : World) (h : Below w.heap.size w v) => specBackX_bad AN x v (HN.below h)
  have CBA := fun (hs : x.na ≤ 16 ∧ x.np ≤ 8 ∧ x.nh ≤ 16) (v : World) (h : Below w.heap.size w v) => specBackX_any AN x 2 v (HN.below h) (by decide) hs
  have CCP := fun (hs : x.na ≤ 16 ∧ x.np ≤ 8 ∧ x.nh ≤ 16) (v : World) (h : Below w.heap.size w v) => specCopyX AN x v (HN.below h) hs
  obtain ⟨p, d, rfl, -, -⟩ := HC
  obtain ⟨aa, ac, pa, pc, ha, hc, rfl, hl, sA, -, -⟩ := HN
  have CL4 := fun v => l4Node_any xt v
  clear hl sA
  have A0 := Below.nw w (.cells (cfV y p d) 67)
  have A1 := Below.nw (w.alloc (.cells (cfV y p d) 67)) (.cells (ndV x aa ac pa pc ha hc) 57)
  have A2 := Below.nw (((w.alloc (.cells (cfV y p d) 67))).alloc (.cells (ndV x aa ac pa pc ha hc) 57)) (.cells #[.int .i64 0, .int .i64 0, .int .i64 0, .int .i64 0, .bool false, .int .i64 0, .int .i64 0, .int .i64 0, .int .i64 0, .int .i64 0, .slice none 0 0, .slice none 0 0, .bool false, .int .i64 0, .slice none 0 0, .int .i64 0] 57)
  have A3 := Below.nw (((((w.alloc (.cells (cfV y p d) 67))).alloc (.cells (ndV x aa ac pa pc ha hc) 57))).alloc (.cells #[.int .i64 0, .int .i64 0, .int .i64 0, .int .i64 0, .bool false, .int .i64 0, .int .i64 0, .int .i64 0, .int .i64 0, .int .i64 0, .slice none 0 0, .slice none 0 0, .bool false, .int .i64 0, .slice none 0 0, .int .i64 0] 57)) (.cells #[.int .i64 0, .int .i64 0, .int .i64 0, .int .i64 0, .int .i64 0, .int .i64 0, .int .i64 0, .string ⟨#[]⟩] 59)
  have C := (((Bo.new w (cfV y p d) 67).below A1).below A2).below A3
  have N := ((Bo.new (w.alloc (.cells (cfV y p d) 67)) (ndV x aa ac pa pc ha hc) 57).below A2).below A3
  have R := (Bo.new (((w.alloc (.cells (cfV y p d) 67))).alloc (.cells (ndV x aa ac pa pc ha hc) 57)) #[.int .i64 0, .int .i64 0, .int .i64 0, .int .i64 0, .bool false, .int .i64 0, .int .i64 0, .int .i64 0, .int .i64 0, .int .i64 0, .slice none 0 0, .slice none 0 0, .bool false, .int .i64 0, .slice none 0 0, .int .i64 0] 57).below A3
  have M := Bo.new (((((w.alloc (.cells (cfV y p d) 67))).alloc (.cells (ndV x aa ac pa pc ha hc) 57))).alloc (.cells #[.int .i64 0, .int .i64 0, .int .i64 0, .int .i64 0, .bool false, .int .i64 0, .int .i64 0, .int .i64 0, .int .i64 0, .int .i64 0, .slice none 0 0, .slice none 0 0, .bool false, .int .i64 0, .slice none 0 0, .int .i64 0] 57)) #[.int .i64 0, .int .i64 0, .int .i64 0, .int .i64 0, .int .i64 0, .int .i64 0, .int .i64 0, .string ⟨#[]⟩] 59
  have B := A0
  replace B := B.trans (A1.mono B.size)
  replace B := B.trans (A2.mono B.size)
  replace B := B.trans (A3.mono B.size)
  simp only [World.size_alloc] at N R M
  clear A0 A1 A2 A3
  go_enter Tryz.func8, Tryz.ntmps8
  go_upto_region 1 with fail
  generalize ((((((w.alloc (.cells (cfV y p d) 67))).alloc (.cells (ndV x aa ac pa pc ha hc) 57))).alloc (.cells #[.int .i64 0, .int .i64 0, .int .i64 0, .int .i64 0, .bool false, .int .i64 0, .int .i64 0, .int .i64 0, .int .i64 0, .int .i64 0, .slice none 0 0, .slice none 0 0, .bool false, .int .i64 0, .slice none 0 0, .int .i64 0] 57))).alloc (.cells #[.int .i64 0, .int .i64 0, .int .i64 0, .int .i64 0, .int .i64 0, .int .i64 0, .int .i64 0, .string ⟨#[]⟩] 59) = v0 at *
  have hL0 := C.load (P := Tryz.prog) (show ((cfV y p d) : Array Value).size = 11 from rfl)
  have hL1 := N.load (P := Tryz.prog) (show ((ndV x aa ac pa pc ha hc) : Array Value).size = 16 from rfl)
  go_wp2_with (first | rw [hL0] | rw [hL1])
  refine (CST v0 B).mono ?_
  rintro e v1 ⟨rfl, hb⟩
  clear hL0 hL1
  rw [hst0]
  replace B := B.trans (hb.mono B.size)
  replace C := C.below hb
  replace N := N.below hb
  replace R := R.below hb
  replace M := M.below hb
  clear hb
  go_wp2_with fail
  refine (CL4 _).mono ?_
  rintro e w' ⟨rfl, rfl⟩
  rw [hnd]
  have c0 : v1.cell? ⟨w.heap.size + 1, 0, none⟩ = some (.int .i64 x.ni) := N.cell rfl
  have hL0 := N.load (P := Tryz.prog) (show ((ndV x aa ac pa pc ha hc) : Array Value).size = 16 from rfl)
  go_wp2_with (rw [hL0])
  refine (CBB v1 B).mono ?_
  rintro e v2 ⟨U, rfl, OU, hb⟩
  clear hL0
  have q1C : w.heap.size < v1.heap.size := C.1
  have q1N : w.heap.size + 1 < v1.heap.size := N.1
  have q1R : w.heap.size + 2 < v1.heap.size := R.1
  have q1M : w.heap.size + 3 < v1.heap.size := M.1
  have q1 : w.heap.size ≤ v1.heap.size := B.size
  have zv2 : v1.heap.size ≤ v2.heap.size := hb.size
  replace B := B.trans (hb.mono B.size)
  replace C := C.below hb
  replace N := N.below hb
  replace R := R.below hb
  replace M := M.below hb
  clear hb
  have hU := OU.size
  have hUl : 0 + (U.toList).length ≤ 16 := by simp [hU]
  have hst := Bo.store (P := Tryz.prog) (b := 0) (U.toList) 0 0 R rfl hUl OU.one
  have hb : Btw (w.heap.size + 2) (w.heap.size + 2 + 1) v2 (putA v2 (w.heap.size + 2) 0 (U.toList)) := putA_btw (U.toList) v2 0 (w.heap.size + 2)
  have B1 := putA_below (k := w.heap.size + 2) (U.toList) w v2 0 B (by omega)
  have R1 := R.putW (U := U) hU
  obtain ⟨vm, hvm⟩ : ∃ vm, putA v2 (w.heap.size + 2) 0 (U.toList) = vm := ⟨_, rfl⟩
  rw [hvm] at hst hb B1 R1
  clear hvm
  have M1 := M.btw hb (by omega)
  have hst2 := Bo.store (P := Tryz.prog) (b := 0) ([.int .i64 0, .int .i64 0, .int .i64 0, .int .i64 0, .int .i64 0, .int .i64 0, .int .i64 0, .string ⟨#[]⟩]) 0 0 M1 rfl (show 0 + 8 ≤ 8 by decide) (List.forall_mem_cons.2 ⟨rfl, (List.forall_mem_cons.2 ⟨rfl, (List.forall_mem_cons.2 ⟨rfl, (List.forall_mem_cons.2 ⟨rfl, (List.forall_mem_cons.2 ⟨rfl, (List.forall_mem_cons.2 ⟨rfl, (List.forall_mem_cons.2 ⟨rfl, (List.forall_mem_cons.2 ⟨rfl, fun _ h => nomatch h⟩)⟩)⟩)⟩)⟩)⟩)⟩)⟩)
  have hb2 : Btw (w.heap.size + 3) (w.heap.size + 3 + 1) vm (putA vm (w.heap.size + 3) 0 ([.int .i64 0, .int .i64 0, .int .i64 0, .int .i64 0, .int .i64 0, .int .i64 0, .int .i64 0, .string ⟨#[]⟩])) := putA_btw ([.int .i64 0, .int .i64 0, .int .i64 0, .int .i64 0, .int .i64 0, .int .i64 0, .int .i64 0, .string ⟨#[]⟩]) vm 0 (w.heap.size + 3)
  have B2 := putA_below (k := w.heap.size + 3) ([.int .i64 0, .int .i64 0, .int .i64 0, .int .i64 0, .int .i64 0, .int .i64 0, .int .i64 0, .string ⟨#[]⟩]) w vm 0 B1 (by omega)
  have M2 : Bo (putA vm (w.heap.size + 3) 0 ([.int .i64 0, .int .i64 0, .int .i64 0, .int .i64 0, .int .i64 0, .int .i64 0, .int .i64 0, .string ⟨#[]⟩])) (w.heap.size + 3) (#[.int .i64 0, .int .i64 0, .int .i64 0, .int .i64 0, .int .i64 0, .int .i64 0, .int .i64 0, .string ⟨#[]⟩]) := M1.putW (U := #[.int .i64 0, .int .i64 0, .int .i64 0, .int .i64 0, .int .i64 0, .int .i64 0, .int .i64 0, .string ⟨#[]⟩]) rfl
  have R2 := R1.btw hb2 (by omega)
  replace OU := (OU.btw hb (by omega)).btw hb2 (by omega)
  have zz : v2.heap.size ≤ (putA vm (w.heap.size + 3) 0 ([.int .i64 0, .int .i64 0, .int .i64 0, .int .i64 0, .int .i64 0, .int .i64 0, .int .i64 0, .string ⟨#[]⟩])).heap.size := Nat.le_trans hb.2.2.2.1 hb2.2.2.2.1
  go_wp2_with (first | rw [hst] | rw [hst2])
  clear hst hst2 hb hb2 R M R1 M1 B B1 C N
  generalize putA vm (w.heap.size + 3) 0 ([.int .i64 0, .int .i64 0, .int .i64 0, .int .i64 0, .int .i64 0, .int .i64 0, .int .i64 0, .string ⟨#[]⟩]) = v3 at *
  have B := B2
  have R := R2
  have M := M2
  clear B2 R2 M2
  have hL0 := R.load (P := Tryz.prog) hU
  have hL1 := M.load (P := Tryz.prog) (show (#[.int .i64 0, .int .i64 0, .int .i64 0, .int .i64 0, .int .i64 0, .int .i64 0, .int .i64 0, .string ⟨#[]⟩] : Array Value).size = 8 from rfl)
  exact bodyPost_ret (v := .tuple #[.agg U, .agg #[.int .i64 0, .int .i64 0, .int .i64 0, .int .i64 0, .int .i64 0, .int .i64 0, .int .i64 0, .string ⟨#[]⟩], .int .i64 1]) (by simp [results, Tryz.results8, go_sem]; rw [hL0]; simp only [Result.andThen_ok]; rw [show w.heap.size + 1 + 1 + 1 = w.heap.size + 3 from rfl, hL1]; rfl) rfl ⟨_, rfl, OU.low (by omega), B⟩
attribute [-go_sem] loadCells storeCells in
set_option maxRecDepth 100000 in
set_option maxHeartbeats 8000000 in
theorem specAskoff (AC AN : Array Value) (y : CfX) (x : NdX) (ct xt : Int) (w : World) (HC : CfS w AC y) (HN : NdS w AN x) (hnd : nodB xt = true) (hne : (xt == x.ni) = false) (hst0 : staI y x ct = 2) (hok : okX x = true) :
    Calls Tryz.prog 8 #[.agg AC, .agg AN, .int .i64 ct, .int .i64 xt] w fun e w' => ∃ R, e = .returned (.tuple #[.agg R, .agg #[.int .i64 ((askX y x ct xt).2.1.1), .int .i64 ((askX y x ct xt).2.1.2.1), .int .i64 ((askX y x ct xt).2.1.2.2.1), .int .i64 ((askX y x ct xt).2.1.2.2.2.1), .int .i64 ((askX y x ct xt).2.1.2.2.2.2.1), .int .i64 ((askX y x ct xt).2.1.2.2.2.2.2.1), .int .i64 ((askX y x ct xt).2.1.2.2.2.2.2.2.1), .string ((askX y x ct xt).2.1.2.2.2.2.2.2.2)], .int .i64 (askX y x ct xt).2.2]) ∧ NdO w' w.heap.size w'.heap.size R (askX y x ct xt).1 ∧ Below w.heap.size w w' := by
  have hft : fitB x xt = true := by unfold fitB; rw [hnd, hne]; rfl
  have hF : askX y x ct xt = (x, zMs, 2) := by unfold askX; simp only [hft, hst0, Int.reduceBEq]
  rw [hF]
  clear hF
  clear hft
  have CST := fun (v : World) (h : Below w.heap.size w v) => specStartX AC AN y x ct v (HC.below h) (HN.below h)
  have CBB := fun (v : World) (h : Below w.heap.size w v) => specBackX_bad AN x v (HN.below h)
  have CBA := fun (hs : x.na ≤ 16 ∧ x.np ≤ 8 ∧ x.nh ≤ 16) (v : World) (h : Below w.heap.size w v) => specBackX_any AN x 2 v (HN.below h) (by decide) hs
  have CCP := fun (hs : x.na ≤ 16 ∧ x.np ≤ 8 ∧ x.nh ≤ 16) (v : World) (h : Below w.heap.size w v) => specCopyX AN x v (HN.below h) hs
  obtain ⟨p, d, rfl, -, -⟩ := HC
  obtain ⟨aa, ac, pa, pc, ha, hc, rfl, hl, sA, -, -⟩ := HN
  have CL4 := fun v => l4Node_any xt v
  have hsh := okX_short hok
  clear hok hl sA
  have A0 := Below.nw w (.cells (cfV y p d) 67)
  have A1 := Below.nw (w.alloc (.cells (cfV y p d) 67)) (.cells (ndV x aa ac pa pc ha hc) 57)
  have A2 := Below.nw (((w.alloc (.cells (cfV y p d) 67))).alloc (.cells (ndV x aa ac pa pc ha hc) 57)) (.cells #[.int .i64 0, .int .i64 0, .int .i64 0, .int .i64 0, .bool false, .int .i64 0, .int .i64 0, .int .i64 0, .int .i64 0, .int .i64 0, .slice none 0 0, .slice none 0 0, .bool false, .int .i64 0, .slice none 0 0, .int .i64 0] 57)
  have A3 := Below.nw (((((w.alloc (.cells (cfV y p d) 67))).alloc (.cells (ndV x aa ac pa pc ha hc) 57))).alloc (.cells #[.int .i64 0, .int .i64 0, .int .i64 0, .int .i64 0, .bool false, .int .i64 0, .int .i64 0, .int .i64 0, .int .i64 0, .int .i64 0, .slice none 0 0, .slice none 0 0, .bool false, .int .i64 0, .slice none 0 0, .int .i64 0] 57)) (.cells #[.int .i64 0, .int .i64 0, .int .i64 0, .int .i64 0, .int .i64 0, .int .i64 0, .int .i64 0, .string ⟨#[]⟩] 59)
  have C := (((Bo.new w (cfV y p d) 67).below A1).below A2).below A3
  have N := ((Bo.new (w.alloc (.cells (cfV y p d) 67)) (ndV x aa ac pa pc ha hc) 57).below A2).below A3
  have R := (Bo.new (((w.alloc (.cells (cfV y p d) 67))).alloc (.cells (ndV x aa ac pa pc ha hc) 57)) #[.int .i64 0, .int .i64 0, .int .i64 0, .int .i64 0, .bool false, .int .i64 0, .int .i64 0, .int .i64 0, .int .i64 0, .int .i64 0, .slice none 0 0, .slice none 0 0, .bool false, .int .i64 0, .slice none 0 0, .int .i64 0] 57).below A3
  have M := Bo.new (((((w.alloc (.cells (cfV y p d) 67))).alloc (.cells (ndV x aa ac pa pc ha hc) 57))).alloc (.cells #[.int .i64 0, .int .i64 0, .int .i64 0, .int .i64 0, .bool false, .int .i64 0, .int .i64 0, .int .i64 0, .int .i64 0, .int .i64 0, .slice none 0 0, .slice none 0 0, .bool false, .int .i64 0, .slice none 0 0, .int .i64 0] 57)) #[.int .i64 0, .int .i64 0, .int .i64 0, .int .i64 0, .int .i64 0, .int .i64 0, .int .i64 0, .string ⟨#[]⟩] 59
  have B := A0
  replace B := B.trans (A1.mono B.size)
  replace B := B.trans (A2.mono B.size)
  replace B := B.trans (A3.mono B.size)
  simp only [World.size_alloc] at N R M
  clear A0 A1 A2 A3
  go_enter Tryz.func8, Tryz.ntmps8
  go_upto_region 1 with fail
  generalize ((((((w.alloc (.cells (cfV y p d) 67))).alloc (.cells (ndV x aa ac pa pc ha hc) 57))).alloc (.cells #[.int .i64 0, .int .i64 0, .int .i64 0, .int .i64 0, .bool false, .int .i64 0, .int .i64 0, .int .i64 0, .int .i64 0, .int .i64 0, .slice none 0 0, .slice none 0 0, .bool false, .int .i64 0, .slice none 0 0, .int .i64 0] 57))).alloc (.cells #[.int .i64 0, .int .i64 0, .int .i64 0, .int .i64 0, .int .i64 0, .int .i64 0, .int .i64 0, .string ⟨#[]⟩] 59) = v0 at *
  have hL0 := C.load (P := Tryz.prog) (show ((cfV y p d) : Array Value).size = 11 from rfl)
  have hL1 := N.load (P := Tryz.prog) (show ((ndV x aa ac pa pc ha hc) : Array Value).size = 16 from rfl)
  go_wp2_with (first | rw [hL0] | rw [hL1])
  refine (CST v0 B).mono ?_
  rintro e v1 ⟨rfl, hb⟩
  clear hL0 hL1
  rw [hst0]
  replace B := B.trans (hb.mono B.size)
  replace C := C.below hb
  replace N := N.below hb
  replace R := R.below hb
  replace M := M.below hb
  clear hb
  go_wp2_with fail
  refine (CL4 _).mono ?_
  rintro e w' ⟨rfl, rfl⟩
  rw [hnd]
  have c0 : v1.cell? ⟨w.heap.size + 1, 0, none⟩ = some (.int .i64 x.ni) := N.cell rfl
  have hL0 := N.load (P := Tryz.prog) (show ((ndV x aa ac pa pc ha hc) : Array Value).size = 16 from rfl)
  go_wp2_with (rw [hL0])
  refine (CBA hsh v1 B).mono ?_
  rintro e v2 ⟨U, rfl, OU, hb⟩
  clear hL0
  have q1C : w.heap.size < v1.heap.size := C.1
  have q1N : w.heap.size + 1 < v1.heap.size := N.1
  have q1R : w.heap.size + 2 < v1.heap.size := R.1
  have q1M : w.heap.size + 3 < v1.heap.size := M.1
  have q1 : w.heap.size ≤ v1.heap.size := B.size
  have zv2 : v1.heap.size ≤ v2.heap.size := hb.size
  replace B := B.trans (hb.mono B.size)
  replace C := C.below hb
  replace N := N.below hb
  replace R := R.below hb
  replace M := M.below hb
  clear hb
  have hU := OU.size
  have hUl : 0 + (U.toList).length ≤ 16 := by simp [hU]
  have hst := Bo.store (P := Tryz.prog) (b := 0) (U.toList) 0 0 R rfl hUl OU.one
  have hb : Btw (w.heap.size + 2) (w.heap.size + 2 + 1) v2 (putA v2 (w.heap.size + 2) 0 (U.toList)) := putA_btw (U.toList) v2 0 (w.heap.size + 2)
  have B1 := putA_below (k := w.heap.size + 2) (U.toList) w v2 0 B (by omega)
  have R1 := R.putW (U := U) hU
  obtain ⟨vm, hvm⟩ : ∃ vm, putA v2 (w.heap.size + 2) 0 (U.toList) = vm := ⟨_, rfl⟩
  rw [hvm] at hst hb B1 R1
  clear hvm
  have M1 := M.btw hb (by omega)
  have hst2 := Bo.store (P := Tryz.prog) (b := 0) ([.int .i64 0, .int .i64 0, .int .i64 0, .int .i64 0, .int .i64 0, .int .i64 0, .int .i64 0, .string ⟨#[]⟩]) 0 0 M1 rfl (show 0 + 8 ≤ 8 by decide) (List.forall_mem_cons.2 ⟨rfl, (List.forall_mem_cons.2 ⟨rfl, (List.forall_mem_cons.2 ⟨rfl, (List.forall_mem_cons.2 ⟨rfl, (List.forall_mem_cons.2 ⟨rfl, (List.forall_mem_cons.2 ⟨rfl, (List.forall_mem_cons.2 ⟨rfl, (List.forall_mem_cons.2 ⟨rfl, fun _ h => nomatch h⟩)⟩)⟩)⟩)⟩)⟩)⟩)⟩)
  have hb2 : Btw (w.heap.size + 3) (w.heap.size + 3 + 1) vm (putA vm (w.heap.size + 3) 0 ([.int .i64 0, .int .i64 0, .int .i64 0, .int .i64 0, .int .i64 0, .int .i64 0, .int .i64 0, .string ⟨#[]⟩])) := putA_btw ([.int .i64 0, .int .i64 0, .int .i64 0, .int .i64 0, .int .i64 0, .int .i64 0, .int .i64 0, .string ⟨#[]⟩]) vm 0 (w.heap.size + 3)
  have B2 := putA_below (k := w.heap.size + 3) ([.int .i64 0, .int .i64 0, .int .i64 0, .int .i64 0, .int .i64 0, .int .i64 0, .int .i64 0, .string ⟨#[]⟩]) w vm 0 B1 (by omega)
  have M2 : Bo (putA vm (w.heap.size + 3) 0 ([.int .i64 0, .int .i64 0, .int .i64 0, .int .i64 0, .int .i64 0, .int .i64 0, .int .i64 0, .string ⟨#[]⟩])) (w.heap.size + 3) (#[.int .i64 0, .int .i64 0, .int .i64 0, .int .i64 0, .int .i64 0, .int .i64 0, .int .i64 0, .string ⟨#[]⟩]) := M1.putW (U := #[.int .i64 0, .int .i64 0, .int .i64 0, .int .i64 0, .int .i64 0, .int .i64 0, .int .i64 0, .string ⟨#[]⟩]) rfl
  have R2 := R1.btw hb2 (by omega)
  replace OU := (OU.btw hb (by omega)).btw hb2 (by omega)
  have zz : v2.heap.size ≤ (putA vm (w.heap.size + 3) 0 ([.int .i64 0, .int .i64 0, .int .i64 0, .int .i64 0, .int .i64 0, .int .i64 0, .int .i64 0, .string ⟨#[]⟩])).heap.size := Nat.le_trans hb.2.2.2.1 hb2.2.2.2.1
  go_wp2_with (first | rw [hst] | rw [hst2])
  clear hst hst2 hb hb2 R M R1 M1 B B1 C N
  generalize putA vm (w.heap.size + 3) 0 ([.int .i64 0, .int .i64 0, .int .i64 0, .int .i64 0, .int .i64 0, .int .i64 0, .int .i64 0, .string ⟨#[]⟩]) = v3 at *
  have B := B2
  have R := R2
  have M := M2
  clear B2 R2 M2
  have hL0 := R.load (P := Tryz.prog) hU
  have hL1 := M.load (P := Tryz.prog) (show (#[.int .i64 0, .int .i64 0, .int .i64 0, .int .i64 0, .int .i64 0, .int .i64 0, .int .i64 0, .string ⟨#[]⟩] : Array Value).size = 8 from rfl)
  exact bodyPost_ret (v := .tuple #[.agg U, .agg #[.int .i64 0, .int .i64 0, .int .i64 0, .int .i64 0, .int .i64 0, .int .i64 0, .int .i64 0, .string ⟨#[]⟩], .int .i64 2]) (by simp [results, Tryz.results8, go_sem]; rw [hL0]; simp only [Result.andThen_ok]; rw [show w.heap.size + 1 + 1 + 1 = w.heap.size + 3 from rfl, hL1]; rfl) rfl ⟨_, rfl, OU.low (by omega), B⟩
attribute [-go_sem] loadCells storeCells in
set_option maxRecDepth 100000 in
set_option maxHeartbeats 8000000 in
theorem specAskspent (AC AN : Array Value) (y : CfX) (x : NdX) (ct xt : Int) (w : World) (HC : CfS w AC y) (HN : NdS w AN x) (hnd : nodB xt = true) (hne : (xt == x.ni) = false) (hst0 : staI y x ct = 0) (hok : okX x = true) (hus : x.us = 1000) :
    Calls Tryz.prog 8 #[.agg AC, .agg AN, .int .i64 ct, .int .i64 xt] w fun e w' => ∃ R, e = .returned (.tuple #[.agg R, .agg #[.int .i64 ((askX y x ct xt).2.1.1), .int .i64 ((askX y x ct xt).2.1.2.1), .int .i64 ((askX y x ct xt).2.1.2.2.1), .int .i64 ((askX y x ct xt).2.1.2.2.2.1), .int .i64 ((askX y x ct xt).2.1.2.2.2.2.1), .int .i64 ((askX y x ct xt).2.1.2.2.2.2.2.1), .int .i64 ((askX y x ct xt).2.1.2.2.2.2.2.2.1), .string ((askX y x ct xt).2.1.2.2.2.2.2.2.2)], .int .i64 (askX y x ct xt).2.2]) ∧ NdO w' w.heap.size w'.heap.size R (askX y x ct xt).1 ∧ Below w.heap.size w w' := by
  have hft : fitB x xt = true := by unfold fitB; rw [hnd, hne]; rfl
  have hub : (x.us == 1000) = true := by rw [hus]; rfl
  have hF : askX y x ct xt = (x, zMs, 4) := by unfold askX; simp only [hft, hst0, Int.reduceBEq, hub]
  rw [hF]
  clear hF
  clear hft hub
  have CST := fun (v : World) (h : Below w.heap.size w v) => specStartX AC AN y x ct v (HC.below h) (HN.below h)
  have CBB := fun (v : World) (h : Below w.heap.size w v) => specBackX_bad AN x v (HN.below h)
  have CBA := fun (hs : x.na ≤ 16 ∧ x.np ≤ 8 ∧ x.nh ≤ 16) (v : World) (h : Below w.heap.size w v) => specBackX_any AN x 2 v (HN.below h) (by decide) hs
  have CCP := fun (hs : x.na ≤ 16 ∧ x.np ≤ 8 ∧ x.nh ≤ 16) (v : World) (h : Below w.heap.size w v) => specCopyX AN x v (HN.below h) hs
  obtain ⟨p, d, rfl, -, -⟩ := HC
  obtain ⟨aa, ac, pa, pc, ha, hc, rfl, hl, sA, -, -⟩ := HN
  have CL4 := fun v => l4Node_any xt v
  have htb := ok_tab hok
  have htm := come_tm (y := y) (x := x) (ct := ct) (by rw [hst0]; decide)
  have hsh := okX_short hok
  clear hok
  have CIS := fun (v : World) (h : Below w.heap.size w v) => specIssue_spentO x.te x.us aa x.na ac x.AM xt ct v hl.1 (rwo_froms (sA.below h)) htb hnd htm hus
  clear hl sA htb htm hus
  have A0 := Below.nw w (.cells (cfV y p d) 67)
  have A1 := Below.nw (w.alloc (.cells (cfV y p d) 67)) (.cells (ndV x aa ac pa pc ha hc) 57)
  have A2 := Below.nw (((w.alloc (.cells (cfV y p d) 67))).alloc (.cells (ndV x aa ac pa pc ha hc) 57)) (.cells #[.int .i64 0, .int .i64 0, .int .i64 0, .int .i64 0, .bool false, .int .i64 0, .int .i64 0, .int .i64 0, .int .i64 0, .int .i64 0, .slice none 0 0, .slice none 0 0, .bool false, .int .i64 0, .slice none 0 0, .int .i64 0] 57)
  have A3 := Below.nw (((((w.alloc (.cells (cfV y p d) 67))).alloc (.cells (ndV x aa ac pa pc ha hc) 57))).alloc (.cells #[.int .i64 0, .int .i64 0, .int .i64 0, .int .i64 0, .bool false, .int .i64 0, .int .i64 0, .int .i64 0, .int .i64 0, .int .i64 0, .slice none 0 0, .slice none 0 0, .bool false, .int .i64 0, .slice none 0 0, .int .i64 0] 57)) (.cells #[.int .i64 0, .int .i64 0, .int .i64 0, .int .i64 0, .int .i64 0, .int .i64 0, .int .i64 0, .string ⟨#[]⟩] 59)
  have C := (((Bo.new w (cfV y p d) 67).below A1).below A2).below A3
  have N := ((Bo.new (w.alloc (.cells (cfV y p d) 67)) (ndV x aa ac pa pc ha hc) 57).below A2).below A3
  have R := (Bo.new (((w.alloc (.cells (cfV y p d) 67))).alloc (.cells (ndV x aa ac pa pc ha hc) 57)) #[.int .i64 0, .int .i64 0, .int .i64 0, .int .i64 0, .bool false, .int .i64 0, .int .i64 0, .int .i64 0, .int .i64 0, .int .i64 0, .slice none 0 0, .slice none 0 0, .bool false, .int .i64 0, .slice none 0 0, .int .i64 0] 57).below A3
  have M := Bo.new (((((w.alloc (.cells (cfV y p d) 67))).alloc (.cells (ndV x aa ac pa pc ha hc) 57))).alloc (.cells #[.int .i64 0, .int .i64 0, .int .i64 0, .int .i64 0, .bool false, .int .i64 0, .int .i64 0, .int .i64 0, .int .i64 0, .int .i64 0, .slice none 0 0, .slice none 0 0, .bool false, .int .i64 0, .slice none 0 0, .int .i64 0] 57)) #[.int .i64 0, .int .i64 0, .int .i64 0, .int .i64 0, .int .i64 0, .int .i64 0, .int .i64 0, .string ⟨#[]⟩] 59
  have B := A0
  replace B := B.trans (A1.mono B.size)
  replace B := B.trans (A2.mono B.size)
  replace B := B.trans (A3.mono B.size)
  simp only [World.size_alloc] at N R M
  clear A0 A1 A2 A3
  go_enter Tryz.func8, Tryz.ntmps8
  go_upto_region 1 with fail
  generalize ((((((w.alloc (.cells (cfV y p d) 67))).alloc (.cells (ndV x aa ac pa pc ha hc) 57))).alloc (.cells #[.int .i64 0, .int .i64 0, .int .i64 0, .int .i64 0, .bool false, .int .i64 0, .int .i64 0, .int .i64 0, .int .i64 0, .int .i64 0, .slice none 0 0, .slice none 0 0, .bool false, .int .i64 0, .slice none 0 0, .int .i64 0] 57))).alloc (.cells #[.int .i64 0, .int .i64 0, .int .i64 0, .int .i64 0, .int .i64 0, .int .i64 0, .int .i64 0, .string ⟨#[]⟩] 59) = v0 at *
  have hL0 := C.load (P := Tryz.prog) (show ((cfV y p d) : Array Value).size = 11 from rfl)
  have hL1 := N.load (P := Tryz.prog) (show ((ndV x aa ac pa pc ha hc) : Array Value).size = 16 from rfl)
  go_wp2_with (first | rw [hL0] | rw [hL1])
  refine (CST v0 B).mono ?_
  rintro e v1 ⟨rfl, hb⟩
  clear hL0 hL1
  rw [hst0]
  replace B := B.trans (hb.mono B.size)
  replace C := C.below hb
  replace N := N.below hb
  replace R := R.below hb
  replace M := M.below hb
  clear hb
  go_wp2_with fail
  refine (CL4 _).mono ?_
  rintro e w' ⟨rfl, rfl⟩
  rw [hnd]
  have c0 : v1.cell? ⟨w.heap.size + 1, 0, none⟩ = some (.int .i64 x.ni) := N.cell rfl
  have hL0 : (loadCells ⟨w.heap.size + 1, 8, none⟩ 3).run Tryz.prog v1 = .ok #[.int .i64 x.te, .int .i64 x.us, .slice aa x.na ac] v1 := N.loadAt (P := Tryz.prog) 8 3 (show 8 + 3 ≤ 16 by decide)
  go_wp2_with (rw [hL0])
  refine (CIS v1 B).mono ?_
  rintro e v2 ⟨ta, tc, rfl, OT, hb⟩
  clear hL0
  have q1C : w.heap.size < v1.heap.size := C.1
  have q1N : w.heap.size + 1 < v1.heap.size := N.1
  have q1R : w.heap.size + 2 < v1.heap.size := R.1
  have q1M : w.heap.size + 3 < v1.heap.size := M.1
  have q1 : w.heap.size ≤ v1.heap.size := B.size
  have zv2 : v1.heap.size ≤ v2.heap.size := hb.size
  clear c0
  have RT := own_rwA OT
  clear OT
  replace B := B.trans (hb.mono B.size)
  replace C := C.below hb
  replace N := N.below hb
  replace R := R.below hb
  replace M := M.below hb
  clear hb
  clear RT
  have hst := storeNew (P := Tryz.prog) v2 (#[.int .i64 0, .int .i64 0, .slice none 0 0]) (#[.int .i64 x.te, .int .i64 x.us, .slice ta x.na tc]) 52 rfl (List.forall_mem_cons.2 ⟨rfl, (List.forall_mem_cons.2 ⟨rfl, (List.forall_mem_cons.2 ⟨rfl, fun _ h => nomatch h⟩)⟩)⟩)
  have gTBC : w.heap.size < v2.heap.size := C.1
  have gTBN : w.heap.size + 1 < v2.heap.size := N.1
  have gTBR : w.heap.size + 2 < v2.heap.size := R.1
  have gTBM : w.heap.size + 3 < v2.heap.size := M.1
  have hb := Below.nw v2 (.cells #[.int .i64 x.te, .int .i64 x.us, .slice ta x.na tc] 52)
  have TB := Bo.new v2 #[.int .i64 x.te, .int .i64 x.us, .slice ta x.na tc] 52
  go_upto_region 7 with (rw [hst])
  clear hst
  replace B := B.trans (hb.mono B.size)
  replace C := C.below hb
  replace N := N.below hb
  replace R := R.below hb
  replace M := M.below hb
  clear hb
  generalize v2.alloc (.cells #[.int .i64 x.te, .int .i64 x.us, .slice ta x.na tc] 52) = v3 at *
  generalize v2.heap.size = kTB at *
  have hL0 := N.load (P := Tryz.prog) (show ((ndV x aa ac pa pc ha hc) : Array Value).size = 16 from rfl)
  go_wp2_with (rw [hL0])
  refine (CCP hsh v3 B).mono ?_
  rintro e v4 ⟨U, rfl, OU, hb⟩
  clear hL0
  have q2C : w.heap.size < v3.heap.size := C.1
  have q2N : w.heap.size + 1 < v3.heap.size := N.1
  have q2R : w.heap.size + 2 < v3.heap.size := R.1
  have q2M : w.heap.size + 3 < v3.heap.size := M.1
  have q2TB : kTB < v3.heap.size := TB.1
  have q2 : w.heap.size ≤ v3.heap.size := B.size
  have zv4 : v3.heap.size ≤ v4.heap.size := hb.size
  replace B := B.trans (hb.mono B.size)
  replace C := C.below hb
  replace N := N.below hb
  replace R := R.below hb
  replace M := M.below hb
  replace TB := TB.below hb
  clear hb
  have hU := OU.size
  have hUl : 0 + (U.toList).length ≤ 16 := by simp [hU]
  have hst := Bo.store (P := Tryz.prog) (b := 0) (U.toList) 0 0 R rfl hUl OU.one
  have hb : Btw (w.heap.size + 2) (w.heap.size + 2 + 1) v4 (putA v4 (w.heap.size + 2) 0 (U.toList)) := putA_btw (U.toList) v4 0 (w.heap.size + 2)
  have B1 := putA_below (k := w.heap.size + 2) (U.toList) w v4 0 B (by omega)
  have R1 := R.putW (U := U) hU
  obtain ⟨vm, hvm⟩ : ∃ vm, putA v4 (w.heap.size + 2) 0 (U.toList) = vm := ⟨_, rfl⟩
  rw [hvm] at hst hb B1 R1
  clear hvm
  have M1 := M.btw hb (by omega)
  have hst2 := Bo.store (P := Tryz.prog) (b := 0) ([.int .i64 0, .int .i64 0, .int .i64 0, .int .i64 0, .int .i64 0, .int .i64 0, .int .i64 0, .string ⟨#[]⟩]) 0 0 M1 rfl (show 0 + 8 ≤ 8 by decide) (List.forall_mem_cons.2 ⟨rfl, (List.forall_mem_cons.2 ⟨rfl, (List.forall_mem_cons.2 ⟨rfl, (List.forall_mem_cons.2 ⟨rfl, (List.forall_mem_cons.2 ⟨rfl, (List.forall_mem_cons.2 ⟨rfl, (List.forall_mem_cons.2 ⟨rfl, (List.forall_mem_cons.2 ⟨rfl, fun _ h => nomatch h⟩)⟩)⟩)⟩)⟩)⟩)⟩)⟩)
  have hb2 : Btw (w.heap.size + 3) (w.heap.size + 3 + 1) vm (putA vm (w.heap.size + 3) 0 ([.int .i64 0, .int .i64 0, .int .i64 0, .int .i64 0, .int .i64 0, .int .i64 0, .int .i64 0, .string ⟨#[]⟩])) := putA_btw ([.int .i64 0, .int .i64 0, .int .i64 0, .int .i64 0, .int .i64 0, .int .i64 0, .int .i64 0, .string ⟨#[]⟩]) vm 0 (w.heap.size + 3)
  have B2 := putA_below (k := w.heap.size + 3) ([.int .i64 0, .int .i64 0, .int .i64 0, .int .i64 0, .int .i64 0, .int .i64 0, .int .i64 0, .string ⟨#[]⟩]) w vm 0 B1 (by omega)
  have M2 : Bo (putA vm (w.heap.size + 3) 0 ([.int .i64 0, .int .i64 0, .int .i64 0, .int .i64 0, .int .i64 0, .int .i64 0, .int .i64 0, .string ⟨#[]⟩])) (w.heap.size + 3) (#[.int .i64 0, .int .i64 0, .int .i64 0, .int .i64 0, .int .i64 0, .int .i64 0, .int .i64 0, .string ⟨#[]⟩]) := M1.putW (U := #[.int .i64 0, .int .i64 0, .int .i64 0, .int .i64 0, .int .i64 0, .int .i64 0, .int .i64 0, .string ⟨#[]⟩]) rfl
  have R2 := R1.btw hb2 (by omega)
  replace OU := (OU.btw hb (by omega)).btw hb2 (by omega)
  have zz : v4.heap.size ≤ (putA vm (w.heap.size + 3) 0 ([.int .i64 0, .int .i64 0, .int .i64 0, .int .i64 0, .int .i64 0, .int .i64 0, .int .i64 0, .string ⟨#[]⟩])).heap.size := Nat.le_trans hb.2.2.2.1 hb2.2.2.2.1
  go_wp2_with (first | rw [hst] | rw [hst2])
  clear hst hst2 hb hb2 R M R1 M1 B B1 C N TB
  generalize putA vm (w.heap.size + 3) 0 ([.int .i64 0, .int .i64 0, .int .i64 0, .int .i64 0, .int .i64 0, .int .i64 0, .int .i64 0, .string ⟨#[]⟩]) = v5 at *
  have B := B2
  have R := R2
  have M := M2
  clear B2 R2 M2
  have hL0 := R.load (P := Tryz.prog) hU
  have hL1 := M.load (P := Tryz.prog) (show (#[.int .i64 0, .int .i64 0, .int .i64 0, .int .i64 0, .int .i64 0, .int .i64 0, .int .i64 0, .string ⟨#[]⟩] : Array Value).size = 8 from rfl)
  exact bodyPost_ret (v := .tuple #[.agg U, .agg #[.int .i64 0, .int .i64 0, .int .i64 0, .int .i64 0, .int .i64 0, .int .i64 0, .int .i64 0, .string ⟨#[]⟩], .int .i64 4]) (by simp [results, Tryz.results8, go_sem]; rw [hL0]; simp only [Result.andThen_ok]; rw [show w.heap.size + 1 + 1 + 1 = w.heap.size + 3 from rfl, hL1]; rfl) rfl ⟨_, rfl, OU.low (by omega), B⟩
attribute [-go_sem] loadCells storeCells in
set_option maxRecDepth 100000 in
set_option maxHeartbeats 8000000 in
theorem specAskfull (AC AN : Array Value) (y : CfX) (x : NdX) (ct xt : Int) (w : World) (HC : CfS w AC y) (HN : NdS w AN x) (hnd : nodB xt = true) (hne : (xt == x.ni) = false) (hst0 : staI y x ct = 0) (hok : okX x = true) (hus : x.us ≠ 1000) (hn16 : x.na = 16) :
    Calls Tryz.prog 8 #[.agg AC, .agg AN, .int .i64 ct, .int .i64 xt] w fun e w' => ∃ R, e = .returned (.tuple #[.agg R, .agg #[.int .i64 ((askX y x ct xt).2.1.1), .int .i64 ((askX y x ct xt).2.1.2.1), .int .i64 ((askX y x ct xt).2.1.2.2.1), .int .i64 ((askX y x ct xt).2.1.2.2.2.1), .int .i64 ((askX y x ct xt).2.1.2.2.2.2.1), .int .i64 ((askX y x ct xt).2.1.2.2.2.2.2.1), .int .i64 ((askX y x ct xt).2.1.2.2.2.2.2.2.1), .string ((askX y x ct xt).2.1.2.2.2.2.2.2.2)], .int .i64 (askX y x ct xt).2.2]) ∧ NdO w' w.heap.size w'.heap.size R (askX y x ct xt).1 ∧ Below w.heap.size w w' := by
  have hft : fitB x xt = true := by unfold fitB; rw [hnd, hne]; rfl
  have hub : (x.us == 1000) = false := by simpa using hus
  have hnb : (x.na == 16) = true := by rw [hn16]; rfl
  have hF : askX y x ct xt = (x, zMs, 5) := by unfold askX; simp only [hft, hst0, Int.reduceBEq, hub, hnb]
  rw [hF]
  clear hF
  clear hft hub hnb
  have CST := fun (v : World) (h : Below w.heap.size w v) => specStartX AC AN y x ct v (HC.below h) (HN.below h)
  have CBB := fun (v : World) (h : Below w.heap.size w v) => specBackX_bad AN x v (HN.below h)
  have CBA := fun (hs : x.na ≤ 16 ∧ x.np ≤ 8 ∧ x.nh ≤ 16) (v : World) (h : Below w.heap.size w v) => specBackX_any AN x 2 v (HN.below h) (by decide) hs
  have CCP := fun (hs : x.na ≤ 16 ∧ x.np ≤ 8 ∧ x.nh ≤ 16) (v : World) (h : Below w.heap.size w v) => specCopyX AN x v (HN.below h) hs
  obtain ⟨p, d, rfl, -, -⟩ := HC
  obtain ⟨aa, ac, pa, pc, ha, hc, rfl, hl, sA, -, -⟩ := HN
  have CL4 := fun v => l4Node_any xt v
  have htb := ok_tab hok
  have htm := come_tm (y := y) (x := x) (ct := ct) (by rw [hst0]; decide)
  have hsh := okX_short hok
  clear hok
  have CIS := fun (v : World) (h : Below w.heap.size w v) => specIssue_fullO x.te x.us aa x.na ac x.AM xt ct v hl.1 (rwo_froms (sA.below h)) htb hnd htm hus hn16
  clear hl sA htb htm hus hn16
  have A0 := Below.nw w (.cells (cfV y p d) 67)
  have A1 := Below.nw (w.alloc (.cells (cfV y p d) 67)) (.cells (ndV x aa ac pa pc ha hc) 57)
  have A2 := Below.nw (((w.alloc (.cells (cfV y p d) 67))).alloc (.cells (ndV x aa ac pa pc ha hc) 57)) (.cells #[.int .i64 0, .int .i64 0, .int .i64 0, .int .i64 0, .bool false, .int .i64 0, .int .i64 0, .int .i64 0, .int .i64 0, .int .i64 0, .slice none 0 0, .slice none 0 0, .bool false, .int .i64 0, .slice none 0 0, .int .i64 0] 57)
  have A3 := Below.nw (((((w.alloc (.cells (cfV y p d) 67))).alloc (.cells (ndV x aa ac pa pc ha hc) 57))).alloc (.cells #[.int .i64 0, .int .i64 0, .int .i64 0, .int .i64 0, .bool false, .int .i64 0, .int .i64 0, .int .i64 0, .int .i64 0, .int .i64 0, .slice none 0 0, .slice none 0 0, .bool false, .int .i64 0, .slice none 0 0, .int .i64 0] 57)) (.cells #[.int .i64 0, .int .i64 0, .int .i64 0, .int .i64 0, .int .i64 0, .int .i64 0, .int .i64 0, .string ⟨#[]⟩] 59)
  have C := (((Bo.new w (cfV y p d) 67).below A1).below A2).below A3
  have N := ((Bo.new (w.alloc (.cells (cfV y p d) 67)) (ndV x aa ac pa pc ha hc) 57).below A2).below A3
  have R := (Bo.new (((w.alloc (.cells (cfV y p d) 67))).alloc (.cells (ndV x aa ac pa pc ha hc) 57)) #[.int .i64 0, .int .i64 0, .int .i64 0, .int .i64 0, .bool false, .int .i64 0, .int .i64 0, .int .i64 0, .int .i64 0, .int .i64 0, .slice none 0 0, .slice none 0 0, .bool false, .int .i64 0, .slice none 0 0, .int .i64 0] 57).below A3
  have M := Bo.new (((((w.alloc (.cells (cfV y p d) 67))).alloc (.cells (ndV x aa ac pa pc ha hc) 57))).alloc (.cells #[.int .i64 0, .int .i64 0, .int .i64 0, .int .i64 0, .bool false, .int .i64 0, .int .i64 0, .int .i64 0, .int .i64 0, .int .i64 0, .slice none 0 0, .slice none 0 0, .bool false, .int .i64 0, .slice none 0 0, .int .i64 0] 57)) #[.int .i64 0, .int .i64 0, .int .i64 0, .int .i64 0, .int .i64 0, .int .i64 0, .int .i64 0, .string ⟨#[]⟩] 59
  have B := A0
  replace B := B.trans (A1.mono B.size)
  replace B := B.trans (A2.mono B.size)
  replace B := B.trans (A3.mono B.size)
  simp only [World.size_alloc] at N R M
  clear A0 A1 A2 A3
  go_enter Tryz.func8, Tryz.ntmps8
  go_upto_region 1 with fail
  generalize ((((((w.alloc (.cells (cfV y p d) 67))).alloc (.cells (ndV x aa ac pa pc ha hc) 57))).alloc (.cells #[.int .i64 0, .int .i64 0, .int .i64 0, .int .i64 0, .bool false, .int .i64 0, .int .i64 0, .int .i64 0, .int .i64 0, .int .i64 0, .slice none 0 0, .slice none 0 0, .bool false, .int .i64 0, .slice none 0 0, .int .i64 0] 57))).alloc (.cells #[.int .i64 0, .int .i64 0, .int .i64 0, .int .i64 0, .int .i64 0, .int .i64 0, .int .i64 0, .string ⟨#[]⟩] 59) = v0 at *
  have hL0 := C.load (P := Tryz.prog) (show ((cfV y p d) : Array Value).size = 11 from rfl)
  have hL1 := N.load (P := Tryz.prog) (show ((ndV x aa ac pa pc ha hc) : Array Value).size = 16 from rfl)
  go_wp2_with (first | rw [hL0] | rw [hL1])
  refine (CST v0 B).mono ?_
  rintro e v1 ⟨rfl, hb⟩
  clear hL0 hL1
  rw [hst0]
  replace B := B.trans (hb.mono B.size)
  replace C := C.below hb
  replace N := N.below hb
  replace R := R.below hb
  replace M := M.below hb
  clear hb
  go_wp2_with fail
  refine (CL4 _).mono ?_
  rintro e w' ⟨rfl, rfl⟩
  rw [hnd]
  have c0 : v1.cell? ⟨w.heap.size + 1, 0, none⟩ = some (.int .i64 x.ni) := N.cell rfl
  have hL0 : (loadCells ⟨w.heap.size + 1, 8, none⟩ 3).run Tryz.prog v1 = .ok #[.int .i64 x.te, .int .i64 x.us, .slice aa x.na ac] v1 := N.loadAt (P := Tryz.prog) 8 3 (show 8 + 3 ≤ 16 by decide)
  go_wp2_with (rw [hL0])
  refine (CIS v1 B).mono ?_
  rintro e v2 ⟨ta, tc, rfl, OT, hb⟩
  clear hL0
  have q1C : w.heap.size < v1.heap.size := C.1
  have q1N : w.heap.size + 1 < v1.heap.size := N.1
  have q1R : w.heap.size + 2 < v1.heap.size := R.1
  have q1M : w.heap.size + 3 < v1.heap.size := M.1
  have q1 : w.heap.size ≤ v1.heap.size := B.size
  have zv2 : v1.heap.size ≤ v2.heap.size := hb.size
  clear c0
  have RT := own_rwA OT
  clear OT
  replace B := B.trans (hb.mono B.size)
  replace C := C.below hb
  replace N := N.below hb
  replace R := R.below hb
  replace M := M.below hb
  clear hb
  clear RT
  have hst := storeNew (P := Tryz.prog) v2 (#[.int .i64 0, .int .i64 0, .slice none 0 0]) (#[.int .i64 x.te, .int .i64 x.us, .slice ta x.na tc]) 52 rfl (List.forall_mem_cons.2 ⟨rfl, (List.forall_mem_cons.2 ⟨rfl, (List.forall_mem_cons.2 ⟨rfl, fun _ h => nomatch h⟩)⟩)⟩)
  have gTBC : w.heap.size < v2.heap.size := C.1
  have gTBN : w.heap.size + 1 < v2.heap.size := N.1
  have gTBR : w.heap.size + 2 < v2.heap.size := R.1
  have gTBM : w.heap.size + 3 < v2.heap.size := M.1
  have hb := Below.nw v2 (.cells #[.int .i64 x.te, .int .i64 x.us, .slice ta x.na tc] 52)
  have TB := Bo.new v2 #[.int .i64 x.te, .int .i64 x.us, .slice ta x.na tc] 52
  go_upto_region 7 with (rw [hst])
  clear hst
  replace B := B.trans (hb.mono B.size)
  replace C := C.below hb
  replace N := N.below hb
  replace R := R.below hb
  replace M := M.below hb
  clear hb
  generalize v2.alloc (.cells #[.int .i64 x.te, .int .i64 x.us, .slice ta x.na tc] 52) = v3 at *
  generalize v2.heap.size = kTB at *
  have hL0 := N.load (P := Tryz.prog) (show ((ndV x aa ac pa pc ha hc) : Array Value).size = 16 from rfl)
  go_wp2_with (rw [hL0])
  refine (CCP hsh v3 B).mono ?_
  rintro e v4 ⟨U, rfl, OU, hb⟩
  clear hL0
  have q2C : w.heap.size < v3.heap.size := C.1
  have q2N : w.heap.size + 1 < v3.heap.size := N.1
  have q2R : w.heap.size + 2 < v3.heap.size := R.1
  have q2M : w.heap.size + 3 < v3.heap.size := M.1
  have q2TB : kTB < v3.heap.size := TB.1
  have q2 : w.heap.size ≤ v3.heap.size := B.size
  have zv4 : v3.heap.size ≤ v4.heap.size := hb.size
  replace B := B.trans (hb.mono B.size)
  replace C := C.below hb
  replace N := N.below hb
  replace R := R.below hb
  replace M := M.below hb
  replace TB := TB.below hb
  clear hb
  have hU := OU.size
  have hUl : 0 + (U.toList).length ≤ 16 := by simp [hU]
  have hst := Bo.store (P := Tryz.prog) (b := 0) (U.toList) 0 0 R rfl hUl OU.one
  have hb : Btw (w.heap.size + 2) (w.heap.size + 2 + 1) v4 (putA v4 (w.heap.size + 2) 0 (U.toList)) := putA_btw (U.toList) v4 0 (w.heap.size + 2)
  have B1 := putA_below (k := w.heap.size + 2) (U.toList) w v4 0 B (by omega)
  have R1 := R.putW (U := U) hU
  obtain ⟨vm, hvm⟩ : ∃ vm, putA v4 (w.heap.size + 2) 0 (U.toList) = vm := ⟨_, rfl⟩
  rw [hvm] at hst hb B1 R1
  clear hvm
  have M1 := M.btw hb (by omega)
  have hst2 := Bo.store (P := Tryz.prog) (b := 0) ([.int .i64 0, .int .i64 0, .int .i64 0, .int .i64 0, .int .i64 0, .int .i64 0, .int .i64 0, .string ⟨#[]⟩]) 0 0 M1 rfl (show 0 + 8 ≤ 8 by decide) (List.forall_mem_cons.2 ⟨rfl, (List.forall_mem_cons.2 ⟨rfl, (List.forall_mem_cons.2 ⟨rfl, (List.forall_mem_cons.2 ⟨rfl, (List.forall_mem_cons.2 ⟨rfl, (List.forall_mem_cons.2 ⟨rfl, (List.forall_mem_cons.2 ⟨rfl, (List.forall_mem_cons.2 ⟨rfl, fun _ h => nomatch h⟩)⟩)⟩)⟩)⟩)⟩)⟩)⟩)
  have hb2 : Btw (w.heap.size + 3) (w.heap.size + 3 + 1) vm (putA vm (w.heap.size + 3) 0 ([.int .i64 0, .int .i64 0, .int .i64 0, .int .i64 0, .int .i64 0, .int .i64 0, .int .i64 0, .string ⟨#[]⟩])) := putA_btw ([.int .i64 0, .int .i64 0, .int .i64 0, .int .i64 0, .int .i64 0, .int .i64 0, .int .i64 0, .string ⟨#[]⟩]) vm 0 (w.heap.size + 3)
  have B2 := putA_below (k := w.heap.size + 3) ([.int .i64 0, .int .i64 0, .int .i64 0, .int .i64 0, .int .i64 0, .int .i64 0, .int .i64 0, .string ⟨#[]⟩]) w vm 0 B1 (by omega)
  have M2 : Bo (putA vm (w.heap.size + 3) 0 ([.int .i64 0, .int .i64 0, .int .i64 0, .int .i64 0, .int .i64 0, .int .i64 0, .int .i64 0, .string ⟨#[]⟩])) (w.heap.size + 3) (#[.int .i64 0, .int .i64 0, .int .i64 0, .int .i64 0, .int .i64 0, .int .i64 0, .int .i64 0, .string ⟨#[]⟩]) := M1.putW (U := #[.int .i64 0, .int .i64 0, .int .i64 0, .int .i64 0, .int .i64 0, .int .i64 0, .int .i64 0, .string ⟨#[]⟩]) rfl
  have R2 := R1.btw hb2 (by omega)
  replace OU := (OU.btw hb (by omega)).btw hb2 (by omega)
  have zz : v4.heap.size ≤ (putA vm (w.heap.size + 3) 0 ([.int .i64 0, .int .i64 0, .int .i64 0, .int .i64 0, .int .i64 0, .int .i64 0, .int .i64 0, .string ⟨#[]⟩])).heap.size := Nat.le_trans hb.2.2.2.1 hb2.2.2.2.1
  go_wp2_with (first | rw [hst] | rw [hst2])
  clear hst hst2 hb hb2 R M R1 M1 B B1 C N TB
  generalize putA vm (w.heap.size + 3) 0 ([.int .i64 0, .int .i64 0, .int .i64 0, .int .i64 0, .int .i64 0, .int .i64 0, .int .i64 0, .string ⟨#[]⟩]) = v5 at *
  have B := B2
  have R := R2
  have M := M2
  clear B2 R2 M2
  have hL0 := R.load (P := Tryz.prog) hU
  have hL1 := M.load (P := Tryz.prog) (show (#[.int .i64 0, .int .i64 0, .int .i64 0, .int .i64 0, .int .i64 0, .int .i64 0, .int .i64 0, .string ⟨#[]⟩] : Array Value).size = 8 from rfl)
  exact bodyPost_ret (v := .tuple #[.agg U, .agg #[.int .i64 0, .int .i64 0, .int .i64 0, .int .i64 0, .int .i64 0, .int .i64 0, .int .i64 0, .string ⟨#[]⟩], .int .i64 5]) (by simp [results, Tryz.results8, go_sem]; rw [hL0]; simp only [Result.andThen_ok]; rw [show w.heap.size + 1 + 1 + 1 = w.heap.size + 3 from rfl, hL1]; rfl) rfl ⟨_, rfl, OU.low (by omega), B⟩
attribute [-go_sem] loadCells storeCells in
set_option maxRecDepth 100000 in
set_option maxHeartbeats 8000000 in
theorem specAskdone (AC AN : Array Value) (y : CfX) (x : NdX) (ct xt : Int) (w : World) (HC : CfS w AC y) (HN : NdS w AN x) (hnd : nodB xt = true) (hne : (xt == x.ni) = false) (hst0 : staI y x ct = 0) (hok : okX x = true) (hus : x.us ≠ 1000) (hn16 : x.na ≠ 16) :
    Calls Tryz.prog 8 #[.agg AC, .agg AN, .int .i64 ct, .int .i64 xt] w fun e w' => ∃ R, e = .returned (.tuple #[.agg R, .agg #[.int .i64 ((askX y x ct xt).2.1.1), .int .i64 ((askX y x ct xt).2.1.2.1), .int .i64 ((askX y x ct xt).2.1.2.2.1), .int .i64 ((askX y x ct xt).2.1.2.2.2.1), .int .i64 ((askX y x ct xt).2.1.2.2.2.2.1), .int .i64 ((askX y x ct xt).2.1.2.2.2.2.2.1), .int .i64 ((askX y x ct xt).2.1.2.2.2.2.2.2.1), .string ((askX y x ct xt).2.1.2.2.2.2.2.2.2)], .int .i64 (askX y x ct xt).2.2]) ∧ NdO w' w.heap.size w'.heap.size R (askX y x ct xt).1 ∧ Below w.heap.size w w' := by
  have hft : fitB x xt = true := by unfold fitB; rw [hnd, hne]; rfl
  have hub : (x.us == 1000) = false := by simpa using hus
  have hnb : (x.na == 16) = false := by simpa using hn16
  have hF : askX y x ct xt = ({ x with us := x.us + 1, AM := addG x.AM x.na (kT (x.te * 1000 + x.us) xt ct 1), na := x.na + 1 }, (1, x.ni, xt, (x.te * 1000 + x.us), 0, 0, 0, ⟨#[]⟩), 0) := by unfold askX; simp only [hft, hst0, Int.reduceBEq, hub, hnb]
  rw [hF]
  clear hF
  clear hft hub hnb
  have CST := fun (v : World) (h : Below w.heap.size w v) => specStartX AC AN y x ct v (HC.below h) (HN.below h)
  have CBB := fun (v : World) (h : Below w.heap.size w v) => specBackX_bad AN x v (HN.below h)
  have CBA := fun (hs : x.na ≤ 16 ∧ x.np ≤ 8 ∧ x.nh ≤ 16) (v : World) (h : Below w.heap.size w v) => specBackX_any AN x 2 v (HN.below h) (by decide) hs
  have CCP := fun (hs : x.na ≤ 16 ∧ x.np ≤ 8 ∧ x.nh ≤ 16) (v : World) (h : Below w.heap.size w v) => specCopyX AN x v (HN.below h) hs
  obtain ⟨p, d, rfl, -, -⟩ := HC
  obtain ⟨aa, ac, pa, pc, ha, hc, rfl, hl, sA, -, -⟩ := HN
  have CL4 := fun v => l4Node_any xt v
  have htb := ok_tab hok
  have htm := come_tm (y := y) (x := x) (ct := ct) (by rw [hst0]; decide)
  have hsh := okX_short hok
  clear hok
  have CIS := fun (v : World) (h : Below w.heap.size w v) => specIssue_doneO x.te x.us aa x.na ac x.AM xt ct v hl.1 (rwo_froms (sA.below h)) htb hnd htm hus hn16 (x.te * 1000 + x.us) rfl
  clear hl sA htb htm hus hn16
  have A0 := Below.nw w (.cells (cfV y p d) 67)
  have A1 := Below.nw (w.alloc (.cells (cfV y p d) 67)) (.cells (ndV x aa ac pa pc ha hc) 57)
  have A2 := Below.nw (((w.alloc (.cells (cfV y p d) 67))).alloc (.cells (ndV x aa ac pa pc ha hc) 57)) (.cells #[.int .i64 0, .int .i64 0, .int .i64 0, .int .i64 0, .bool false, .int .i64 0, .int .i64 0, .int .i64 0, .int .i64 0, .int .i64 0, .slice none 0 0, .slice none 0 0, .bool false, .int .i64 0, .slice none 0 0, .int .i64 0] 57)
  have A3 := Below.nw (((((w.alloc (.cells (cfV y p d) 67))).alloc (.cells (ndV x aa ac pa pc ha hc) 57))).alloc (.cells #[.int .i64 0, .int .i64 0, .int .i64 0, .int .i64 0, .bool false, .int .i64 0, .int .i64 0, .int .i64 0, .int .i64 0, .int .i64 0, .slice none 0 0, .slice none 0 0, .bool false, .int .i64 0, .slice none 0 0, .int .i64 0] 57)) (.cells #[.int .i64 0, .int .i64 0, .int .i64 0, .int .i64 0, .int .i64 0, .int .i64 0, .int .i64 0, .string ⟨#[]⟩] 59)
  have C := (((Bo.new w (cfV y p d) 67).below A1).below A2).below A3
  have N := ((Bo.new (w.alloc (.cells (cfV y p d) 67)) (ndV x aa ac pa pc ha hc) 57).below A2).below A3
  have R := (Bo.new (((w.alloc (.cells (cfV y p d) 67))).alloc (.cells (ndV x aa ac pa pc ha hc) 57)) #[.int .i64 0, .int .i64 0, .int .i64 0, .int .i64 0, .bool false, .int .i64 0, .int .i64 0, .int .i64 0, .int .i64 0, .int .i64 0, .slice none 0 0, .slice none 0 0, .bool false, .int .i64 0, .slice none 0 0, .int .i64 0] 57).below A3
  have M := Bo.new (((((w.alloc (.cells (cfV y p d) 67))).alloc (.cells (ndV x aa ac pa pc ha hc) 57))).alloc (.cells #[.int .i64 0, .int .i64 0, .int .i64 0, .int .i64 0, .bool false, .int .i64 0, .int .i64 0, .int .i64 0, .int .i64 0, .int .i64 0, .slice none 0 0, .slice none 0 0, .bool false, .int .i64 0, .slice none 0 0, .int .i64 0] 57)) #[.int .i64 0, .int .i64 0, .int .i64 0, .int .i64 0, .int .i64 0, .int .i64 0, .int .i64 0, .string ⟨#[]⟩] 59
  have B := A0
  replace B := B.trans (A1.mono B.size)
  replace B := B.trans (A2.mono B.size)
  replace B := B.trans (A3.mono B.size)
  simp only [World.size_alloc] at N R M
  clear A0 A1 A2 A3
  go_enter Tryz.func8, Tryz.ntmps8
  go_upto_region 1 with fail
  generalize ((((((w.alloc (.cells (cfV y p d) 67))).alloc (.cells (ndV x aa ac pa pc ha hc) 57))).alloc (.cells #[.int .i64 0, .int .i64 0, .int .i64 0, .int .i64 0, .bool false, .int .i64 0, .int .i64 0, .int .i64 0, .int .i64 0, .int .i64 0, .slice none 0 0, .slice none 0 0, .bool false, .int .i64 0, .slice none 0 0, .int .i64 0] 57))).alloc (.cells #[.int .i64 0, .int .i64 0, .int .i64 0, .int .i64 0, .int .i64 0, .int .i64 0, .int .i64 0, .string ⟨#[]⟩] 59) = v0 at *
  have hL0 := C.load (P := Tryz.prog) (show ((cfV y p d) : Array Value).size = 11 from rfl)
  have hL1 := N.load (P := Tryz.prog) (show ((ndV x aa ac pa pc ha hc) : Array Value).size = 16 from rfl)
  go_wp2_with (first | rw [hL0] | rw [hL1])
  refine (CST v0 B).mono ?_
  rintro e v1 ⟨rfl, hb⟩
  clear hL0 hL1
  rw [hst0]
  replace B := B.trans (hb.mono B.size)
  replace C := C.below hb
  replace N := N.below hb
  replace R := R.below hb
  replace M := M.below hb
  clear hb
  go_wp2_with fail
  refine (CL4 _).mono ?_
  rintro e w' ⟨rfl, rfl⟩
  rw [hnd]
  have c0 : v1.cell? ⟨w.heap.size + 1, 0, none⟩ = some (.int .i64 x.ni) := N.cell rfl
  have hL0 : (loadCells ⟨w.heap.size + 1, 8, none⟩ 3).run Tryz.prog v1 = .ok #[.int .i64 x.te, .int .i64 x.us, .slice aa x.na ac] v1 := N.loadAt (P := Tryz.prog) 8 3 (show 8 + 3 ≤ 16 by decide)
  go_wp2_with (rw [hL0])
  refine (CIS v1 B).mono ?_
  rintro e v2 ⟨ta, tc, rfl, OT, hb⟩
  clear hL0
  have q1C : w.heap.size < v1.heap.size := C.1
  have q1N : w.heap.size + 1 < v1.heap.size := N.1
  have q1R : w.heap.size + 2 < v1.heap.size := R.1
  have q1M : w.heap.size + 3 < v1.heap.size := M.1
  have q1 : w.heap.size ≤ v1.heap.size := B.size
  have zv2 : v1.heap.size ≤ v2.heap.size := hb.size
  clear c0
  have RT := own_rwA OT
  clear OT
  replace B := B.trans (hb.mono B.size)
  replace C := C.below hb
  replace N := N.below hb
  replace R := R.below hb
  replace M := M.below hb
  clear hb
  have hst := storeNew (P := Tryz.prog) v2 (#[.int .i64 0, .int .i64 0, .slice none 0 0]) (#[.int .i64 x.te, .int .i64 (x.us + 1), .slice ta (x.na + 1) tc]) 52 rfl (List.forall_mem_cons.2 ⟨rfl, (List.forall_mem_cons.2 ⟨rfl, (List.forall_mem_cons.2 ⟨rfl, fun _ h => nomatch h⟩)⟩)⟩)
  have gTBC : w.heap.size < v2.heap.size := C.1
  have gTBN : w.heap.size + 1 < v2.heap.size := N.1
  have gTBR : w.heap.size + 2 < v2.heap.size := R.1
  have gTBM : w.heap.size + 3 < v2.heap.size := M.1
  have gTBRT : v2.heap.size ≤ v2.heap.size := by omega
  have hb := Below.nw v2 (.cells #[.int .i64 x.te, .int .i64 (x.us + 1), .slice ta (x.na + 1) tc] 52)
  have TB := Bo.new v2 #[.int .i64 x.te, .int .i64 (x.us + 1), .slice ta (x.na + 1) tc] 52
  go_upto_region 7 with (rw [hst])
  clear hst
  replace B := B.trans (hb.mono B.size)
  replace C := C.below hb
  replace N := N.below hb
  replace R := R.below hb
  replace M := M.below hb
  replace RT := RT.below hb
  clear hb
  generalize v2.alloc (.cells #[.int .i64 x.te, .int .i64 (x.us + 1), .slice ta (x.na + 1) tc] 52) = v3 at *
  generalize v2.heap.size = kTB at *
  have zv3 : kTB ≤ v3.heap.size := Nat.le_of_lt TB.1
  have hL0 := N.load (P := Tryz.prog) (show ((ndV x aa ac pa pc ha hc) : Array Value).size = 16 from rfl)
  go_wp2_with (rw [hL0])
  refine (CCP hsh v3 B).mono ?_
  rintro e v4 ⟨U, rfl, OU, hb⟩
  clear hL0
  have q2C : w.heap.size < v3.heap.size := C.1
  have q2N : w.heap.size + 1 < v3.heap.size := N.1
  have q2R : w.heap.size + 2 < v3.heap.size := R.1
  have q2M : w.heap.size + 3 < v3.heap.size := M.1
  have q2TB : kTB < v3.heap.size := TB.1
  have q2 : w.heap.size ≤ v3.heap.size := B.size
  have zv4 : v3.heap.size ≤ v4.heap.size := hb.size
  replace B := B.trans (hb.mono B.size)
  replace C := C.below hb
  replace N := N.below hb
  replace R := R.below hb
  replace M := M.below hb
  replace TB := TB.below hb
  replace RT := RT.below hb
  clear hb
  have hU := OU.size
  have hst := storeNew (P := Tryz.prog) v4 (#[.int .i64 0, .int .i64 0, .int .i64 0, .int .i64 0, .bool false, .int .i64 0, .int .i64 0, .int .i64 0, .int .i64 0, .int .i64 0, .slice none 0 0, .slice none 0 0, .bool false, .int .i64 0, .slice none 0 0, .int .i64 0]) U 57 (by rw [hU]; rfl) OU.one
  have gOC : w.heap.size < v4.heap.size := C.1
  have gON : w.heap.size + 1 < v4.heap.size := N.1
  have gOR : w.heap.size + 2 < v4.heap.size := R.1
  have gOM : w.heap.size + 3 < v4.heap.size := M.1
  have gOTB : kTB < v4.heap.size := TB.1
  have gORT : kTB ≤ v4.heap.size := by omega
  have gOOU : v4.heap.size ≤ v4.heap.size := by omega
  have hb := Below.nw v4 (.cells U 57)
  have O := Bo.new v4 U 57
  go_upto_region 13 with (rw [hst])
  clear hst
  replace B := B.trans (hb.mono B.size)
  replace C := C.below hb
  replace N := N.below hb
  replace R := R.below hb
  replace M := M.below hb
  replace TB := TB.below hb
  replace RT := RT.below hb
  replace OU := OU.below hb
  clear hb
  generalize v4.alloc (.cells U 57) = v5 at *
  generalize v4.heap.size = kO at *
  have zv5 : kO ≤ v5.heap.size := Nat.le_of_lt O.1
  obtain ⟨a1, c1, a2, c2, a3, c3, rfl, hbn, P1, P2, P3⟩ := OU
  clear hU P1
  have hL0 := TB.load (P := Tryz.prog) (show (#[.int .i64 x.te, .int .i64 (x.us + 1), .slice ta (x.na + 1) tc] : Array Value).size = 3 from rfl)
  have hst := Bo.store (P := Tryz.prog) (b := 8) ([.int .i64 x.te, .int .i64 (x.us + 1), .slice ta (x.na + 1) tc]) 8 0 O rfl (show 8 + 3 ≤ 16 by decide) (List.forall_mem_cons.2 ⟨rfl, (List.forall_mem_cons.2 ⟨rfl, (List.forall_mem_cons.2 ⟨rfl, fun _ h => nomatch h⟩)⟩)⟩)
  have hb : Btw (kO) (kO + 1) v5 _ := putA_btw ([.int .i64 x.te, .int .i64 (x.us + 1), .slice ta (x.na + 1) tc]) v5 8 (kO)
  have B1 := putA_below (k := kO) ([.int .i64 x.te, .int .i64 (x.us + 1), .slice ta (x.na + 1) tc]) w v5 8 B (by omega)
  have N1 : Bo (putA v5 (kO) 8 ([.int .i64 x.te, .int .i64 (x.us + 1), .slice ta (x.na + 1) tc])) (kO) ((ndV { x with us := x.us + 1, AM := addG x.AM x.na (kT (x.te * 1000 + x.us) xt ct 1), na := x.na + 1 } ta tc a2 c2 a3 c3)) := Bo.put ([.int .i64 x.te, .int .i64 (x.us + 1), .slice ta (x.na + 1) tc]) 8 O
  go_upto_region 14 with (first | rw [hL0] | rw [hst])
  clear hst hL0 O B
  replace C := C.btw hb (by omega)
  replace N := N.btw hb (by omega)
  replace R := R.btw hb (by omega)
  replace M := M.btw hb (by omega)
  replace TB := TB.btw hb (by omega)
  replace RT := RT.btw hb (by omega)
  replace P2 := P2.btw hb (by omega)
  replace P3 := P3.btw hb (by omega)
  have zv6 := hb.2.2.2.1
  clear hb
  generalize putA v5 (kO) 8 ([.int .i64 x.te, .int .i64 (x.us + 1), .slice ta (x.na + 1) tc]) = v6 at *
  have B := B1
  have O := N1
  clear B1 N1
  refine wp_region_held_drew (S := (fun w' => (loadCells ⟨kO, 0, none⟩ 16).run Tryz.prog w' = .ok (ndV { x with us := x.us + 1, AM := addG x.AM x.na (kT (x.te * 1000 + x.us) xt ct 1), na := x.na + 1 } ta tc a2 c2 a3 c3) w' ∧ w'.cell? ⟨w.heap.size + 1, 0, none⟩ = some (.int .i64 x.ni))) (by kernel_rfl) ?_ (fun hHeld => ?_)
  · first | exact hS2 | exact hS1 | exact hS0 | exact ⟨(Bo.drew O).load (P := Tryz.prog) (show ((ndV { x with us := x.us + 1, AM := addG x.AM x.na (kT (x.te * 1000 + x.us) xt ct 1), na := x.na + 1 } ta tc a2 c2 a3 c3) : Array Value).size = 16 from rfl), (Bo.drew N).cell rfl⟩
  have hb : Below v6.heap.size v6 v6.drew := Below.drew (Below.refl _ _)
  replace B := B.trans (hb.mono B.size)
  replace C := C.below hb
  replace N := N.below hb
  replace R := R.below hb
  replace M := M.below hb
  replace TB := TB.below hb
  replace O := O.below hb
  replace RT := RT.below hb
  replace P2 := P2.below hb
  replace P3 := P3.below hb
  clear hb
  generalize v6.drew = vx at *
  have hS0 : (fun w' => (loadCells ⟨kO, 0, none⟩ 16).run Tryz.prog w' = .ok (ndV { x with us := x.us + 1, AM := addG x.AM x.na (kT (x.te * 1000 + x.us) xt ct 1), na := x.na + 1 } ta tc a2 c2 a3 c3) w' ∧ w'.cell? ⟨w.heap.size + 1, 0, none⟩ = some (.int .i64 x.ni)) vx := ⟨O.load (P := Tryz.prog) (show ((ndV { x with us := x.us + 1, AM := addG x.AM x.na (kT (x.te * 1000 + x.us) xt ct 1), na := x.na + 1 } ta tc a2 c2 a3 c3) : Array Value).size = 16 from rfl), N.cell rfl⟩
  have hU : (ndV { x with us := x.us + 1, AM := addG x.AM x.na (kT (x.te * 1000 + x.us) xt ct 1), na := x.na + 1 } ta tc a2 c2 a3 c3).size = 16 := rfl
  have hst := Bo.store (P := Tryz.prog) (b := 0) (ndV { x with us := x.us + 1, AM := addG x.AM x.na (kT (x.te * 1000 + x.us) xt ct 1), na := x.na + 1 } ta tc a2 c2 a3 c3).toList 0 0 R rfl (by simp [hU]) (ndV_one _ _ _ _ _ _ _)
  refine zTk 0 ?_
  (try simp only [Act.put, zSb, zS0, zS1])
  refine zTk 1 ?_
  (try simp only [Act.put, zSb, zS0, zS1])
  refine zTk 2 ?_
  (try simp only [Act.put, zSb, zS0, zS1])
  refine zTk 3 ?_
  (try simp only [Act.put, zSb, zS0, zS1])
  refine zTk 4 ?_
  (try simp only [Act.put, zSb, zS0, zS1])
  refine zTk 5 ?_
  (try simp only [Act.put, zSb, zS0, zS1])
  refine wpAnyH_ready (rs := [6]) (by kernel_rfl) (by simp) ?_
  refine (AllReadyH.cons (by rw [List.getElem?_toArray]; rfl) (fun K hK => ?_) AllReadyH.nil)
  go_simp
  (have hbt := putA_btw (ndV { x with us := x.us + 1, AM := addG x.AM x.na (kT (x.te * 1000 + x.us) xt ct 1), na := x.na + 1 } ta tc a2 c2 a3 c3).toList vx 0 (w.heap.size + 2)); (replace B := putA_below (k := w.heap.size + 2) (ndV { x with us := x.us + 1, AM := addG x.AM x.na (kT (x.te * 1000 + x.us) xt ct 1), na := x.na + 1 } ta tc a2 c2 a3 c3).toList w vx 0 B (by omega)); (replace R := R.putW (U := (ndV { x with us := x.us + 1, AM := addG x.AM x.na (kT (x.te * 1000 + x.us) xt ct 1), na := x.na + 1 } ta tc a2 c2 a3 c3)) hU); (replace M := M.btw hbt (by omega)); (replace RT := RT.btw hbt (by omega)); (replace P2 := P2.btw hbt (by omega)); (replace P3 := P3.btw hbt (by omega)); (replace O := O.btw hbt (by omega)); (replace N := N.btw hbt (by omega)); (have zz1 := hbt.2.2.2.1); (clear hst hbt); (generalize putA vx (w.heap.size + 2) 0 (ndV { x with us := x.us + 1, AM := addG x.AM x.na (kT (x.te * 1000 + x.us) xt ct 1), na := x.na + 1 } ta tc a2 c2 a3 c3).toList = vy at *); (have hS1 : (fun w' => (loadCells ⟨kO, 0, none⟩ 16).run Tryz.prog w' = .ok (ndV { x with us := x.us + 1, AM := addG x.AM x.na (kT (x.te * 1000 + x.us) xt ct 1), na := x.na + 1 } ta tc a2 c2 a3 c3) w' ∧ w'.cell? ⟨w.heap.size + 1, 0, none⟩ = some (.int .i64 x.ni)) vy := ⟨O.load (P := Tryz.prog) (show ((ndV { x with us := x.us + 1, AM := addG x.AM x.na (kT (x.te * 1000 + x.us) xt ct 1), na := x.na + 1 } ta tc a2 c2 a3 c3) : Array Value).size = 16 from rfl), N.cell rfl⟩); (have hst := Bo.store (P := Tryz.prog) (b := 0) ([.int .i64 1, .int .i64 x.ni, .int .i64 xt, .int .i64 (x.te * 1000 + x.us), .int .i64 0, .int .i64 0, .int .i64 0, .string ⟨#[]⟩]) 0 0 M rfl (show 0 + 8 ≤ 8 by decide) (List.forall_mem_cons.2 ⟨rfl, (List.forall_mem_cons.2 ⟨rfl, (List.forall_mem_cons.2 ⟨rfl, (List.forall_mem_cons.2 ⟨rfl, (List.forall_mem_cons.2 ⟨rfl, (List.forall_mem_cons.2 ⟨rfl, (List.forall_mem_cons.2 ⟨rfl, (List.forall_mem_cons.2 ⟨rfl, fun _ h => nomatch h⟩)⟩)⟩)⟩)⟩)⟩)⟩)⟩))
  refine hK.out _ _ ?_ (fun hHeld => ?_)
  · first | exact hS2 | exact hS1 | exact hS0 | exact ⟨(Bo.drew O).load (P := Tryz.prog) (show ((ndV { x with us := x.us + 1, AM := addG x.AM x.na (kT (x.te * 1000 + x.us) xt ct 1), na := x.na + 1 } ta tc a2 c2 a3 c3) : Array Value).size = 16 from rfl), (Bo.drew N).cell rfl⟩
  clear hK K
  (try simp only [Act.put, zSb, zS0, zS1])
  refine wpAnyH_ready (rs := [7]) (by kernel_rfl) (by simp) ?_
  refine (AllReadyH.cons (by rw [List.getElem?_toArray]; rfl) (fun K hK => ?_) AllReadyH.nil)
  go_simp
  (have hbt := putA_btw ([.int .i64 1, .int .i64 x.ni, .int .i64 xt, .int .i64 (x.te * 1000 + x.us), .int .i64 0, .int .i64 0, .int .i64 0, .string ⟨#[]⟩]) vy 0 (w.heap.size + 3)); (replace B := putA_below (k := w.heap.size + 3) ([.int .i64 1, .int .i64 x.ni, .int .i64 xt, .int .i64 (x.te * 1000 + x.us), .int .i64 0, .int .i64 0, .int .i64 0, .string ⟨#[]⟩]) w vy 0 B (by omega)); (have M9 : Bo (putA vy (w.heap.size + 3) 0 ([.int .i64 1, .int .i64 x.ni, .int .i64 xt, .int .i64 (x.te * 1000 + x.us), .int .i64 0, .int .i64 0, .int .i64 0, .string ⟨#[]⟩])) (w.heap.size + 3) (#[.int .i64 1, .int .i64 x.ni, .int .i64 xt, .int .i64 (x.te * 1000 + x.us), .int .i64 0, .int .i64 0, .int .i64 0, .string ⟨#[]⟩]) := M.putW (U := #[.int .i64 1, .int .i64 x.ni, .int .i64 xt, .int .i64 (x.te * 1000 + x.us), .int .i64 0, .int .i64 0, .int .i64 0, .string ⟨#[]⟩]) rfl); (replace R := R.btw hbt (by omega)); (replace RT := RT.btw hbt (by omega)); (replace P2 := P2.btw hbt (by omega)); (replace P3 := P3.btw hbt (by omega)); (replace O := O.btw hbt (by omega)); (replace N := N.btw hbt (by omega)); (have zz2 := hbt.2.2.2.1); (clear hst hbt M); (generalize putA vy (w.heap.size + 3) 0 ([.int .i64 1, .int .i64 x.ni, .int .i64 xt, .int .i64 (x.te * 1000 + x.us), .int .i64 0, .int .i64 0, .int .i64 0, .string ⟨#[]⟩]) = vz at *); (have hS2 : (fun w' => (loadCells ⟨kO, 0, none⟩ 16).run Tryz.prog w' = .ok (ndV { x with us := x.us + 1, AM := addG x.AM x.na (kT (x.te * 1000 + x.us) xt ct 1), na := x.na + 1 } ta tc a2 c2 a3 c3) w' ∧ w'.cell? ⟨w.heap.size + 1, 0, none⟩ = some (.int .i64 x.ni)) vz := ⟨O.load (P := Tryz.prog) (show ((ndV { x with us := x.us + 1, AM := addG x.AM x.na (kT (x.te * 1000 + x.us) xt ct 1), na := x.na + 1 } ta tc a2 c2 a3 c3) : Array Value).size = 16 from rfl), N.cell rfl⟩)
  refine hK.out _ _ ?_ (fun hHeld => ?_)
  · first | exact hS2 | exact hS1 | exact hS0 | exact ⟨(Bo.drew O).load (P := Tryz.prog) (show ((ndV { x with us := x.us + 1, AM := addG x.AM x.na (kT (x.te * 1000 + x.us) xt ct 1), na := x.na + 1 } ta tc a2 c2 a3 c3) : Array Value).size = 16 from rfl), (Bo.drew N).cell rfl⟩
  clear hK K
  (try simp only [Act.put, zSb, zS0, zS1])
  refine zTk 8 ?_
  (try simp only [Act.put, zSb, zS0, zS1])
  refine wpAnyH_done (by kernel_rfl) ?_ _
  go_wp2_with fail
  have hL0 := R.load (P := Tryz.prog) hU
  have hL1 := M9.load (P := Tryz.prog) (show (#[.int .i64 1, .int .i64 x.ni, .int .i64 xt, .int .i64 (x.te * 1000 + x.us), .int .i64 0, .int .i64 0, .int .i64 0, .string ⟨#[]⟩] : Array Value).size = 8 from rfl)
  exact bodyPost_ret (v := .tuple #[.agg (ndV { x with us := x.us + 1, AM := addG x.AM x.na (kT (x.te * 1000 + x.us) xt ct 1), na := x.na + 1 } ta tc a2 c2 a3 c3), .agg #[.int .i64 1, .int .i64 x.ni, .int .i64 xt, .int .i64 (x.te * 1000 + x.us), .int .i64 0, .int .i64 0, .int .i64 0, .string ⟨#[]⟩], .int .i64 0]) (by simp [results, Tryz.results8, go_sem]; rw [hL0]; simp only [Result.andThen_ok]; rw [show w.heap.size + 1 + 1 + 1 = w.heap.size + 3 from rfl, hL1]; rfl) rfl ⟨_, rfl, ⟨ta, tc, a2, c2, a3, c3, rfl, ⟨by have := hsh.1; show x.na + 1 ≤ 1048576; omega, hbn.2.1, hbn.2.2⟩, RT.low (by omega), P2.low (by omega), P3.low (by omega)⟩, B⟩
theorem specAskX (AC AN : Array Value) (y : CfX) (x : NdX) (ct xt : Int) (w : World) (HC : CfS w AC y) (HN : NdS w AN x) :
    Calls Tryz.prog 8 #[.agg AC, .agg AN, .int .i64 ct, .int .i64 xt] w fun e w' => ∃ R, e = .returned (.tuple #[.agg R, .agg #[.int .i64 ((askX y x ct xt).2.1.1), .int .i64 ((askX y x ct xt).2.1.2.1), .int .i64 ((askX y x ct xt).2.1.2.2.1), .int .i64 ((askX y x ct xt).2.1.2.2.2.1), .int .i64 ((askX y x ct xt).2.1.2.2.2.2.1), .int .i64 ((askX y x ct xt).2.1.2.2.2.2.2.1), .int .i64 ((askX y x ct xt).2.1.2.2.2.2.2.2.1), .string ((askX y x ct xt).2.1.2.2.2.2.2.2.2)], .int .i64 (askX y x ct xt).2.2]) ∧ NdO w' w.heap.size w'.heap.size R (askX y x ct xt).1 ∧ Below w.heap.size w w' := by
  cases hnd : nodB xt
  · exact specAskunfit1 AC AN y x ct xt w HC HN hnd
  cases hne : (xt == x.ni)
  rotate_left
  · exact specAskunfit2 AC AN y x ct xt w HC HN hnd hne
  rcases sta_cases y x ct with h0 | ⟨h0, hok⟩ | ⟨h0, hok⟩
  · exact specAskbad AC AN y x ct xt w HC HN hnd hne h0
  · exact specAskoff AC AN y x ct xt w HC HN hnd hne h0 hok
  by_cases hus : x.us = 1000
  · exact specAskspent AC AN y x ct xt w HC HN hnd hne h0 hok hus
  by_cases hn16 : x.na = 16
  · exact specAskfull AC AN y x ct xt w HC HN hnd hne h0 hok hus hn16
  · exact specAskdone AC AN y x ct xt w HC HN hnd hne h0 hok hus hn16
end Go.Proofs.YtgempaoamamaeaaGreat
