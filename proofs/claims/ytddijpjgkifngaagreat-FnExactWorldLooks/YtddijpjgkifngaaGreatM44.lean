/- Contracts of Rebase, Learn, Narrow, WidthAt. A node while a call works on it: what it knows, learns, is told and reads (the program). NodeNow, NodeTrue, NodeRead, NodeFix (the program), over arrays of cells. -/
import Derived.Test.YtddijpjgkifngaaGreatM0
import Derived.Test.YtddijpjgkifngaaGreatM39
import Derived.Test.YtddijpjgkifngaaGreatM43
namespace Go.Proofs.YtddijpjgkifngaaGreat
open Go.RowKit
set_option linter.unusedVariables false
theorem cr_cases (kn : Bool) (lo hi a n d c : Int) : (crP kn lo hi a n d c = false ∧ crC kn lo hi a n d c = 1) ∨ (crP kn lo hi a n d c = true ∧ kn = false ∧ crC kn lo hi a n d c = 2) ∨ (crP kn lo hi a n d c = true ∧ kn = true ∧ (crC kn lo hi a n d c = 3 ∨ crC kn lo hi a n d c = 4 ∨ crC kn lo hi a n d c = 0)) := by
 cases hp : crP kn lo hi a n d c
 ·exact .inl ⟨rfl, (crC_1 hp).1⟩
 cases kn
 ·exact .inr (.inl ⟨rfl, rfl, (crC_2 hp).1⟩)
 refine .inr (.inr ⟨rfl, rfl, ?_⟩)
 by_cases h4 : c < a
 ·exact .inl (crC_3 hp h4).1
 cases h5 : btB n d (c - a)
 ·exact .inr (.inl (crC_4 hp h4 h5).1)
 cases h6 : plusB lo hi (upI ((c - a) * d) (d + n)) (dnI ((c - a) * d) (d - n))
 ·exact .inr (.inl (crC_5 hp h4 h5 h6).1)
 ·exact .inr (.inr (crC_0 hp h4 h5 h6).1)
end Go.Proofs.YtddijpjgkifngaaGreat
namespace Go.Proofs.YtddijpjgkifngaaGreat
open Go.RowKit
set_option linter.unusedVariables false
def pnC (y : CfX) (x : NdX) (ct : Int) : Int := match x.kn with | false => 8 | true => (match crC x.kn x.lo x.hi x.la y.dn y.dd ct == 0 with | true => 0 | false => 10)
def pnL (y : CfX) (x : NdX) (ct : Int) : Int := match pnC y x ct == 0 with | true => crL x.kn x.lo x.hi x.la y.dn y.dd ct | false => 0
def pnH (y : CfX) (x : NdX) (ct : Int) : Int := match pnC y x ct == 0 with | true => crH x.kn x.lo x.hi x.la y.dn y.dd ct | false => 0
theorem sta_parts {y : CfX} {x : NdX} {ct : Int} (h : staI y x ct ≠ 1) : cokX y = true ∧ okX x = true ∧ cmX x ct = true := by
 unfold staI at h
 cases h1 : cokX y
 ·rw [h1] at h; exact absurd rfl h
 ·rw [h1] at h
  unfold fiI at h
  cases h2 : okX x
  ·rw [h2] at h; exact absurd rfl h
  ·cases h3 : cmX x ct
   ·rw [h2, h3] at h; exact absurd rfl h
   ·exact ⟨rfl, rfl, rfl⟩
theorem pn_now {y : CfX} {x : NdX} {ct : Int} (h : staI y x ct ≠ 1) : nowC y x ct = pnC y x ct ∧ nowL y x ct = pnL y x ct ∧ nowH y x ct = pnH y x ct := by
 obtain ⟨h1, h2, h3⟩ := sta_parts h
 have e : nowC y x ct = pnC y x ct := by
  unfold nowC pnC
  rw [h1, h2, h3]
  have hd : okD y.dn y.dd = true := by
   unfold cokX cfB at h1
   simp only [Bool.and_eq_true] at h1
   exact h1.1
  have hL : okL x.kn x.lo x.hi x.la = true := by
   unfold okX ndB ndA at h2
   simp only [Bool.and_eq_true] at h2
   exact h2.1.2.2.1
  have ht : okT ct = true := by
   unfold cmX cmB at h3
   simp only [Bool.and_eq_true] at h3
   exact h3.1.1
  rcases cr_cases x.kn x.lo x.hi x.la y.dn y.dd ct with ⟨q, _⟩ | ⟨_, q, r⟩ | ⟨_, q, r⟩
  ·unfold crP at q; rw [hL, hd, ht] at q; exact absurd q (by decide)
  ·rw [q] at r ⊢; rw [r]; rfl
  ·rw [q] at r ⊢
   rcases r with r | r | r <;> (rw [r]; rfl)
 refine ⟨e, ?_, ?_⟩
 ·unfold nowL pnL; rw [e]; cases pnC y x ct == 0 <;> rfl
 ·unfold nowH pnH; rw [e]; cases pnC y x ct == 0 <;> rfl
attribute [-go_sem] loadCells storeCells in
set_option maxRecDepth 100000 in
set_option maxHeartbeats 8000000 in
theorem wkNow (y : CfX) (x : NdX) (ct : Int) (p : Option Addr) (d : Nat) (aa : Option Addr) (ac : Nat) (pa : Option Addr) (pc : Nat) (ha : Option Addr) (hc k : Nat) (w : World) (HK : Bo w k (wkV y x ct p d aa ac pa pc ha hc)) :
 Calls Tryz.prog 169 #[.pointer (some ⟨k, 0, none⟩)] w fun e w' => e = .returned (.tuple #[.agg #[.int .i64 (pnL y x ct), .int .i64 (pnH y x ct)], .int .i64 (pnC y x ct)]) ∧ Below w.heap.size w w' := by
 have CA := fun v => implCarryOn_any x.kn x.lo x.hi x.la y.dn y.dd ct v
 rcases Bool.eq_false_or_eq_true x.kn with hkn | hkn
 rotate_left
 ·skip
  have hC' : pnC y x ct = 8 := by unfold pnC; rw [hkn]
  have hL' : pnL y x ct = 0 := by unfold pnL; rw [hC']; rfl
  have hH' : pnH y x ct = 0 := by unfold pnH; rw [hC']; rfl
  have HKN : Hid (x.kn = false) := hkn
  clear hkn
  have hk := HK.1
  have A0 := Below.nw w (.cells #[.int .i64 0, .int .i64 0] 87)
  have R := Bo.new w #[.int .i64 0, .int .i64 0] 87
  have B := A0
  clear A0
  have KW := (HK.below (Below.nw w (.cells #[.int .i64 0, .int .i64 0] 87)))
  clear HK
  go_enter Tryz.func169, Tryz.ntmps169
  go_upto_region 1 with fail
  generalize w.alloc (.cells #[.int .i64 0, .int .i64 0] 87) = v0 at *
  have c21 : v0.cell? ⟨k, 21, none⟩ = some (.bool false) := KW.cell (show ((wkV y x ct p d aa ac pa pc ha hc))[21]? = _ by rw [← HKN.out]; rfl)
  have hst := Bo.store (P := Tryz.prog) (b := 0) ([.int .i64 0, .int .i64 0]) 0 0 R rfl (show 0 + 2 ≤ 2 by decide) (List.forall_mem_cons.2 ⟨rfl, (List.forall_mem_cons.2 ⟨rfl, fun _ h => nomatch h⟩)⟩)
  have hb : Btw (w.heap.size) (w.heap.size + 1) v0 _ := putA_btw ([.int .i64 0, .int .i64 0]) v0 0 (w.heap.size)
  have B1 := putA_below (k := w.heap.size) ([.int .i64 0, .int .i64 0]) w v0 0 B (by omega)
  have N1 : Bo (putA v0 (w.heap.size) 0 ([.int .i64 0, .int .i64 0])) (w.heap.size) (#[.int .i64 0, .int .i64 0]) := Bo.put ([.int .i64 0, .int .i64 0]) 0 R
  go_wp2_with (rw [hst])
  clear hst  R B
  replace KW := KW.btw hb (by omega)
  clear hb
  generalize putA v0 (w.heap.size) 0 ([.int .i64 0, .int .i64 0]) = v1 at *
  have B := B1
  have R := N1
  clear B1 N1
  have hL0 := R.load (P := Tryz.prog) (show (#[.int .i64 0, .int .i64 0] : Array Value).size = 2 from rfl)
  exact bodyPost_ret (v := .tuple #[.agg #[.int .i64 0, .int .i64 0], .int .i64 8]) (by simp [results, Tryz.results169, go_sem]; rw [hL0]; rfl) rfl ⟨by rw [hC', hL', hH'], B⟩
 cases h0 : crC x.kn x.lo x.hi x.la y.dn y.dd ct == 0
 ·skip
  have hC' : pnC y x ct = 10 := by unfold pnC; rw [h0, hkn]
  have hL' : pnL y x ct = 0 := by unfold pnL; rw [hC']; rfl
  have hH' : pnH y x ct = 0 := by unfold pnH; rw [hC']; rfl
  have HKN : Hid (x.kn = true) := hkn
  clear hkn
  have h0n : (crC x.kn x.lo x.hi x.la y.dn y.dd ct != 0) = true := by rw [bne, h0]; rfl
  have hk := HK.1
  have A0 := Below.nw w (.cells #[.int .i64 0, .int .i64 0] 87)
  have R := Bo.new w #[.int .i64 0, .int .i64 0] 87
  have B := A0
  clear A0
  have KW := (HK.below (Below.nw w (.cells #[.int .i64 0, .int .i64 0] 87)))
  clear HK
  go_enter Tryz.func169, Tryz.ntmps169
  go_upto_region 1 with fail
  generalize w.alloc (.cells #[.int .i64 0, .int .i64 0] 87) = v0 at *
  have c21 : v0.cell? ⟨k, 21, none⟩ = some (.bool true) := KW.cell (show ((wkV y x ct p d aa ac pa pc ha hc))[21]? = _ by rw [← HKN.out]; rfl)
  go_upto_region 3 with fail
  clear c21
  go_upto_region 3 with fail
  have SK : Hid (∀ w', Below v0.heap.size v0 w' → (fun w' => (loadCells ⟨k, 21, none⟩ 4).run Tryz.prog w' = .ok #[.bool x.kn, .int .i64 x.lo, .int .i64 x.hi, .int .i64 x.la] w' ∧ (loadCells ⟨k, 5, none⟩ 2).run Tryz.prog w' = .ok #[.int .i64 y.dn, .int .i64 y.dd] w' ∧ w'.cell? ⟨k, 16, none⟩ = some (.int .i64 ct)) w') := fun w' hw => ⟨(KW.below hw).loadAt (P := Tryz.prog) 21 4 (show 21 + 4 ≤ 28 by decide), (KW.below hw).loadAt (P := Tryz.prog) 5 2 (show 5 + 2 ≤ 28 by decide), (KW.below hw).cell rfl⟩
  go_cut [4, 5] (fun s4 s5 wx => ∃ (j : Nat), s4 = .pointer (some ⟨j, 0, none⟩) ∧ s5 = .int .i64 (crC x.kn x.lo x.hi x.la y.dn y.dd ct) ∧ Bo wx j (#[.int .i64 (crL x.kn x.lo x.hi x.la y.dn y.dd ct), .int .i64 (crH x.kn x.lo x.hi x.la y.dn y.dd ct)]) ∧ v0.heap.size ≤ j ∧ Below v0.heap.size v0 wx)
  case first => as_aux_lemma =>
   refine wp_region_held_drew (S := (fun w' => (loadCells ⟨k, 21, none⟩ 4).run Tryz.prog w' = .ok #[.bool x.kn, .int .i64 x.lo, .int .i64 x.hi, .int .i64 x.la] w' ∧ (loadCells ⟨k, 5, none⟩ 2).run Tryz.prog w' = .ok #[.int .i64 y.dn, .int .i64 y.dd] w' ∧ w'.cell? ⟨k, 16, none⟩ = some (.int .i64 ct))) (by kernel_rfl) ?_ (fun hHeld => ?_)
   ·first | exact SK.out _ XB | exact SK.out _ (Below.drew (Below.refl _ _)) | exact SK.out _ XF
   have XB : Below v0.heap.size v0 v0.drew := Below.drew (Below.refl _ _)
   generalize v0.drew = vx at *
   refine zTk 0 ?_
   refine zTk 1 ?_
   refine zTk 2 ?_
   refine zTk 3 ?_
   refine zTk 4 ?_
   refine zTk 5 ?_
   refine zTk 6 ?_
   refine zTk 7 ?_
   refine zTk 8 ?_
   refine zTk 9 ?_
   refine zTk 10 ?_
   refine zTk 11 ?_
   refine zTk 12 ?_
   refine wpAnyH_ready (rs := [13, 17]) (by kernel_rfl) (by simp) ?_
   refine (AllReadyH.cons (by rw [List.getElem?_toArray]; rfl) (fun K hK => ?_) (AllReadyH.cons (by rw [List.getElem?_toArray]; rfl) (fun K hK => ?_) AllReadyH.nil))
   ·go_simp
    refine (CA vx).mono ?_; rintro ee vs ⟨rfl, hbl⟩; (replace XB := XB.trans (hbl.mono XB.size)); (clear hbl)
    (try go_wp2_with fail)
    refine hK.out _ _ ?_ (fun hHeld => ?_)
    ·first | exact SK.out _ XB | exact SK.out _ (Below.drew (Below.refl _ _)) | exact SK.out _ XF
    clear hK K
    (try simp only [Act.put, zSb, zS0, zS1])
    refine zTk 14 ?_
    refine zTk 15 ?_
    refine zTk 16 ?_
    refine wpAnyH_ready (rs := [17]) (by kernel_rfl) (by simp) ?_
    refine (AllReadyH.cons (by rw [List.getElem?_toArray]; rfl) (fun K hK => ?_) AllReadyH.nil)
    go_simp
    (have Z := Bo.new vs (#[.int .i64 0, .int .i64 0]) 87); (have NL := Below.nw vs (.cells (#[.int .i64 0, .int .i64 0]) 87)); (have hzv : v0.heap.size ≤ vs.heap.size := XB.size); (replace XB := XB.trans (NL.mono XB.size)); (clear NL); (generalize vs.alloc (.cells (#[.int .i64 0, .int .i64 0]) 87) = vy at *); (generalize vs.heap.size = jz at *); (have hst : (storeCells ⟨jz, 0, none⟩ ([.int .i64 (crL x.kn x.lo x.hi x.la y.dn y.dd ct), .int .i64 (crH x.kn x.lo x.hi x.la y.dn y.dd ct)])).run Tryz.prog vy = .ok () (putA vy jz 0 (#[.int .i64 (crL x.kn x.lo x.hi x.la y.dn y.dd ct), .int .i64 (crH x.kn x.lo x.hi x.la y.dn y.dd ct)] : Array Value).toList) := Bo.store (P := Tryz.prog) (b := 0) (#[.int .i64 (crL x.kn x.lo x.hi x.la y.dn y.dd ct), .int .i64 (crH x.kn x.lo x.hi x.la y.dn y.dd ct)] : Array Value).toList 0 0 Z rfl (show 0 + 2 ≤ 2 by decide) (show ∀ u ∈ ([.int .i64 (crL x.kn x.lo x.hi x.la y.dn y.dd ct), .int .i64 (crH x.kn x.lo x.hi x.la y.dn y.dd ct)] : List Value), u.oneCell' = true from (List.forall_mem_cons.2 ⟨rfl, (List.forall_mem_cons.2 ⟨rfl, fun _ h => nomatch h⟩)⟩))); (have XF := putA_below (k := jz) (#[.int .i64 (crL x.kn x.lo x.hi x.la y.dn y.dd ct), .int .i64 (crH x.kn x.lo x.hi x.la y.dn y.dd ct)] : Array Value).toList v0 vy 0 XB hzv); (have ZF := Z.putW (U := #[.int .i64 (crL x.kn x.lo x.hi x.la y.dn y.dd ct), .int .i64 (crH x.kn x.lo x.hi x.la y.dn y.dd ct)]) rfl); (generalize putA vy jz 0 (#[.int .i64 (crL x.kn x.lo x.hi x.la y.dn y.dd ct), .int .i64 (crH x.kn x.lo x.hi x.la y.dn y.dd ct)] : Array Value).toList = vf at *)
    refine hK.out _ _ ?_ (fun hHeld => ?_)
    ·first | exact SK.out _ XB | exact SK.out _ (Below.drew (Below.refl _ _)) | exact SK.out _ XF
    clear hK K
    (try simp only [Act.put, zSb, zS0, zS1])
    refine wpAnyH_ready (rs := [18]) (by kernel_rfl) (by simp) ?_
    refine (AllReadyH.cons (by rw [List.getElem?_toArray]; rfl) (fun K hK => ?_) AllReadyH.nil)
    go_simp
    refine hK.out _ _ ?_ (fun hHeld => ?_)
    ·first | exact SK.out _ XB | exact SK.out _ (Below.drew (Below.refl _ _)) | exact SK.out _ XF
    clear hK K
    (try simp only [Act.put, zSb, zS0, zS1])
    refine zTk 19 ?_
    refine wpAnyH_done (by kernel_rfl) ?_ _
    go_wp2_with (rw [hst])
    go_meet
    case rel => exact ⟨jz, rfl, rfl, ZF, hzv, XF⟩
   ·go_simp
    (have Z := Bo.new vx (#[.int .i64 0, .int .i64 0]) 87); (have NL := Below.nw vx (.cells (#[.int .i64 0, .int .i64 0]) 87)); (have hzv : v0.heap.size ≤ vx.heap.size := XB.size); (replace XB := XB.trans (NL.mono XB.size)); (clear NL); (generalize vx.alloc (.cells (#[.int .i64 0, .int .i64 0]) 87) = vy at *); (generalize vx.heap.size = jz at *)
    refine hK.out _ _ ?_ (fun hHeld => ?_)
    ·first | exact SK.out _ XB | exact SK.out _ (Below.drew (Below.refl _ _)) | exact SK.out _ XF
    clear hK K
    (try simp only [Act.put, zSb, zS0, zS1])
    refine wpAnyH_ready (rs := [13]) (by kernel_rfl) (by simp) ?_
    refine (AllReadyH.cons (by rw [List.getElem?_toArray]; rfl) (fun K hK => ?_) AllReadyH.nil)
    go_simp
    refine (CA vy).mono ?_; rintro ee vs ⟨rfl, hbl⟩; (replace XB := XB.trans (hbl.mono XB.size)); (replace Z := Z.below hbl); (clear hbl); (have hst : (storeCells ⟨jz, 0, none⟩ ([.int .i64 (crL x.kn x.lo x.hi x.la y.dn y.dd ct), .int .i64 (crH x.kn x.lo x.hi x.la y.dn y.dd ct)])).run Tryz.prog vs = .ok () (putA vs jz 0 (#[.int .i64 (crL x.kn x.lo x.hi x.la y.dn y.dd ct), .int .i64 (crH x.kn x.lo x.hi x.la y.dn y.dd ct)] : Array Value).toList) := Bo.store (P := Tryz.prog) (b := 0) (#[.int .i64 (crL x.kn x.lo x.hi x.la y.dn y.dd ct), .int .i64 (crH x.kn x.lo x.hi x.la y.dn y.dd ct)] : Array Value).toList 0 0 Z rfl (show 0 + 2 ≤ 2 by decide) (show ∀ u ∈ ([.int .i64 (crL x.kn x.lo x.hi x.la y.dn y.dd ct), .int .i64 (crH x.kn x.lo x.hi x.la y.dn y.dd ct)] : List Value), u.oneCell' = true from (List.forall_mem_cons.2 ⟨rfl, (List.forall_mem_cons.2 ⟨rfl, fun _ h => nomatch h⟩)⟩))); (have XF := putA_below (k := jz) (#[.int .i64 (crL x.kn x.lo x.hi x.la y.dn y.dd ct), .int .i64 (crH x.kn x.lo x.hi x.la y.dn y.dd ct)] : Array Value).toList v0 vs 0 XB hzv); (have ZF := Z.putW (U := #[.int .i64 (crL x.kn x.lo x.hi x.la y.dn y.dd ct), .int .i64 (crH x.kn x.lo x.hi x.la y.dn y.dd ct)]) rfl); (generalize putA vs jz 0 (#[.int .i64 (crL x.kn x.lo x.hi x.la y.dn y.dd ct), .int .i64 (crH x.kn x.lo x.hi x.la y.dn y.dd ct)] : Array Value).toList = vf at *)
    (try go_wp2_with fail)
    refine hK.out _ _ ?_ (fun hHeld => ?_)
    ·first | exact SK.out _ XB | exact SK.out _ (Below.drew (Below.refl _ _)) | exact SK.out _ XF
    clear hK K
    (try simp only [Act.put, zSb, zS0, zS1])
    refine zTk 14 ?_
    refine zTk 15 ?_
    refine zTk 16 ?_
    refine wpAnyH_ready (rs := [18]) (by kernel_rfl) (by simp) ?_
    refine (AllReadyH.cons (by rw [List.getElem?_toArray]; rfl) (fun K hK => ?_) AllReadyH.nil)
    go_simp
    refine hK.out _ _ ?_ (fun hHeld => ?_)
    ·first | exact SK.out _ XB | exact SK.out _ (Below.drew (Below.refl _ _)) | exact SK.out _ XF
    clear hK K
    (try simp only [Act.put, zSb, zS0, zS1])
    refine zTk 19 ?_
    refine wpAnyH_done (by kernel_rfl) ?_ _
    go_wp2_with (rw [hst])
    go_meet
    case rel => exact ⟨jz, rfl, rfl, ZF, hzv, XF⟩
  case rest =>
  obtain ⟨kQ, rfl, rfl, Q, hjQ, hb⟩ := hcut
  clear SK
  have gQR : w.heap.size < v0.heap.size := R.1
  have gQKW : k < v0.heap.size := KW.1
  generalize wc = v1 at *
  replace B := B.trans (hb.mono B.size)
  replace R := R.below hb
  replace KW := KW.below hb
  clear hb
  have hst := Bo.store (P := Tryz.prog) (b := 0) ([.int .i64 0, .int .i64 0]) 0 0 R rfl (show 0 + 2 ≤ 2 by decide) (List.forall_mem_cons.2 ⟨rfl, (List.forall_mem_cons.2 ⟨rfl, fun _ h => nomatch h⟩)⟩)
  have hb : Btw (w.heap.size) (w.heap.size + 1) v1 _ := putA_btw ([.int .i64 0, .int .i64 0]) v1 0 (w.heap.size)
  have B1 := putA_below (k := w.heap.size) ([.int .i64 0, .int .i64 0]) w v1 0 B (by omega)
  have N1 : Bo (putA v1 (w.heap.size) 0 ([.int .i64 0, .int .i64 0])) (w.heap.size) (#[.int .i64 0, .int .i64 0]) := Bo.put ([.int .i64 0, .int .i64 0]) 0 R
  go_wp2_with (rw [hst])
  clear hst  R B
  replace KW := KW.btw hb (by omega)
  replace Q := Q.btw hb (by omega)
  clear hb
  generalize putA v1 (w.heap.size) 0 ([.int .i64 0, .int .i64 0]) = v2 at *
  have B := B1
  have R := N1
  clear B1 N1
  have hL0 := R.load (P := Tryz.prog) (show (#[.int .i64 0, .int .i64 0] : Array Value).size = 2 from rfl)
  exact bodyPost_ret (v := .tuple #[.agg #[.int .i64 0, .int .i64 0], .int .i64 10]) (by simp [results, Tryz.results169, go_sem]; rw [hL0]; rfl) rfl ⟨by rw [hC', hL', hH'], B⟩
 ·skip
  have hC' : pnC y x ct = 0 := by unfold pnC; rw [h0, hkn]
  have hL' : pnL y x ct = crL x.kn x.lo x.hi x.la y.dn y.dd ct := by unfold pnL; rw [hC']; rfl
  have hH' : pnH y x ct = crH x.kn x.lo x.hi x.la y.dn y.dd ct := by unfold pnH; rw [hC']; rfl
  have HKN : Hid (x.kn = true) := hkn
  clear hkn
  have h0n : (crC x.kn x.lo x.hi x.la y.dn y.dd ct != 0) = false := by rw [bne, h0]; rfl
  have hk := HK.1
  have A0 := Below.nw w (.cells #[.int .i64 0, .int .i64 0] 87)
  have R := Bo.new w #[.int .i64 0, .int .i64 0] 87
  have B := A0
  clear A0
  have KW := (HK.below (Below.nw w (.cells #[.int .i64 0, .int .i64 0] 87)))
  clear HK
  go_enter Tryz.func169, Tryz.ntmps169
  go_upto_region 1 with fail
  generalize w.alloc (.cells #[.int .i64 0, .int .i64 0] 87) = v0 at *
  have c21 : v0.cell? ⟨k, 21, none⟩ = some (.bool true) := KW.cell (show ((wkV y x ct p d aa ac pa pc ha hc))[21]? = _ by rw [← HKN.out]; rfl)
  go_upto_region 3 with fail
  clear c21
  go_upto_region 3 with fail
  have SK : Hid (∀ w', Below v0.heap.size v0 w' → (fun w' => (loadCells ⟨k, 21, none⟩ 4).run Tryz.prog w' = .ok #[.bool x.kn, .int .i64 x.lo, .int .i64 x.hi, .int .i64 x.la] w' ∧ (loadCells ⟨k, 5, none⟩ 2).run Tryz.prog w' = .ok #[.int .i64 y.dn, .int .i64 y.dd] w' ∧ w'.cell? ⟨k, 16, none⟩ = some (.int .i64 ct)) w') := fun w' hw => ⟨(KW.below hw).loadAt (P := Tryz.prog) 21 4 (show 21 + 4 ≤ 28 by decide), (KW.below hw).loadAt (P := Tryz.prog) 5 2 (show 5 + 2 ≤ 28 by decide), (KW.below hw).cell rfl⟩
  go_cut [4, 5] (fun s4 s5 wx => ∃ (j : Nat), s4 = .pointer (some ⟨j, 0, none⟩) ∧ s5 = .int .i64 (crC x.kn x.lo x.hi x.la y.dn y.dd ct) ∧ Bo wx j (#[.int .i64 (crL x.kn x.lo x.hi x.la y.dn y.dd ct), .int .i64 (crH x.kn x.lo x.hi x.la y.dn y.dd ct)]) ∧ v0.heap.size ≤ j ∧ Below v0.heap.size v0 wx)
  case first => as_aux_lemma =>
   refine wp_region_held_drew (S := (fun w' => (loadCells ⟨k, 21, none⟩ 4).run Tryz.prog w' = .ok #[.bool x.kn, .int .i64 x.lo, .int .i64 x.hi, .int .i64 x.la] w' ∧ (loadCells ⟨k, 5, none⟩ 2).run Tryz.prog w' = .ok #[.int .i64 y.dn, .int .i64 y.dd] w' ∧ w'.cell? ⟨k, 16, none⟩ = some (.int .i64 ct))) (by kernel_rfl) ?_ (fun hHeld => ?_)
   ·first | exact SK.out _ XB | exact SK.out _ (Below.drew (Below.refl _ _)) | exact SK.out _ XF
   have XB : Below v0.heap.size v0 v0.drew := Below.drew (Below.refl _ _)
   generalize v0.drew = vx at *
   refine zTk 0 ?_
   refine zTk 1 ?_
   refine zTk 2 ?_
   refine zTk 3 ?_
   refine zTk 4 ?_
   refine zTk 5 ?_
   refine zTk 6 ?_
   refine zTk 7 ?_
   refine zTk 8 ?_
   refine zTk 9 ?_
   refine zTk 10 ?_
   refine zTk 11 ?_
   refine zTk 12 ?_
   refine wpAnyH_ready (rs := [13, 17]) (by kernel_rfl) (by simp) ?_
   refine (AllReadyH.cons (by rw [List.getElem?_toArray]; rfl) (fun K hK => ?_) (AllReadyH.cons (by rw [List.getElem?_toArray]; rfl) (fun K hK => ?_) AllReadyH.nil))
   ·go_simp
    refine (CA vx).mono ?_; rintro ee vs ⟨rfl, hbl⟩; (replace XB := XB.trans (hbl.mono XB.size)); (clear hbl)
    (try go_wp2_with fail)
    refine hK.out _ _ ?_ (fun hHeld => ?_)
    ·first | exact SK.out _ XB | exact SK.out _ (Below.drew (Below.refl _ _)) | exact SK.out _ XF
    clear hK K
    (try simp only [Act.put, zSb, zS0, zS1])
    refine zTk 14 ?_
    refine zTk 15 ?_
    refine zTk 16 ?_
    refine wpAnyH_ready (rs := [17]) (by kernel_rfl) (by simp) ?_
    refine (AllReadyH.cons (by rw [List.getElem?_toArray]; rfl) (fun K hK => ?_) AllReadyH.nil)
    go_simp
    (have Z := Bo.new vs (#[.int .i64 0, .int .i64 0]) 87); (have NL := Below.nw vs (.cells (#[.int .i64 0, .int .i64 0]) 87)); (have hzv : v0.heap.size ≤ vs.heap.size := XB.size); (replace XB := XB.trans (NL.mono XB.size)); (clear NL); (generalize vs.alloc (.cells (#[.int .i64 0, .int .i64 0]) 87) = vy at *); (generalize vs.heap.size = jz at *); (have hst : (storeCells ⟨jz, 0, none⟩ ([.int .i64 (crL x.kn x.lo x.hi x.la y.dn y.dd ct), .int .i64 (crH x.kn x.lo x.hi x.la y.dn y.dd ct)])).run Tryz.prog vy = .ok () (putA vy jz 0 (#[.int .i64 (crL x.kn x.lo x.hi x.la y.dn y.dd ct), .int .i64 (crH x.kn x.lo x.hi x.la y.dn y.dd ct)] : Array Value).toList) := Bo.store (P := Tryz.prog) (b := 0) (#[.int .i64 (crL x.kn x.lo x.hi x.la y.dn y.dd ct), .int .i64 (crH x.kn x.lo x.hi x.la y.dn y.dd ct)] : Array Value).toList 0 0 Z rfl (show 0 + 2 ≤ 2 by decide) (show ∀ u ∈ ([.int .i64 (crL x.kn x.lo x.hi x.la y.dn y.dd ct), .int .i64 (crH x.kn x.lo x.hi x.la y.dn y.dd ct)] : List Value), u.oneCell' = true from (List.forall_mem_cons.2 ⟨rfl, (List.forall_mem_cons.2 ⟨rfl, fun _ h => nomatch h⟩)⟩))); (have XF := putA_below (k := jz) (#[.int .i64 (crL x.kn x.lo x.hi x.la y.dn y.dd ct), .int .i64 (crH x.kn x.lo x.hi x.la y.dn y.dd ct)] : Array Value).toList v0 vy 0 XB hzv); (have ZF := Z.putW (U := #[.int .i64 (crL x.kn x.lo x.hi x.la y.dn y.dd ct), .int .i64 (crH x.kn x.lo x.hi x.la y.dn y.dd ct)]) rfl); (generalize putA vy jz 0 (#[.int .i64 (crL x.kn x.lo x.hi x.la y.dn y.dd ct), .int .i64 (crH x.kn x.lo x.hi x.la y.dn y.dd ct)] : Array Value).toList = vf at *)
    refine hK.out _ _ ?_ (fun hHeld => ?_)
    ·first | exact SK.out _ XB | exact SK.out _ (Below.drew (Below.refl _ _)) | exact SK.out _ XF
    clear hK K
    (try simp only [Act.put, zSb, zS0, zS1])
    refine wpAnyH_ready (rs := [18]) (by kernel_rfl) (by simp) ?_
    refine (AllReadyH.cons (by rw [List.getElem?_toArray]; rfl) (fun K hK => ?_) AllReadyH.nil)
    go_simp
    refine hK.out _ _ ?_ (fun hHeld => ?_)
    ·first | exact SK.out _ XB | exact SK.out _ (Below.drew (Below.refl _ _)) | exact SK.out _ XF
    clear hK K
    (try simp only [Act.put, zSb, zS0, zS1])
    refine zTk 19 ?_
    refine wpAnyH_done (by kernel_rfl) ?_ _
    go_wp2_with (rw [hst])
    go_meet
    case rel => exact ⟨jz, rfl, rfl, ZF, hzv, XF⟩
   ·go_simp
    (have Z := Bo.new vx (#[.int .i64 0, .int .i64 0]) 87); (have NL := Below.nw vx (.cells (#[.int .i64 0, .int .i64 0]) 87)); (have hzv : v0.heap.size ≤ vx.heap.size := XB.size); (replace XB := XB.trans (NL.mono XB.size)); (clear NL); (generalize vx.alloc (.cells (#[.int .i64 0, .int .i64 0]) 87) = vy at *); (generalize vx.heap.size = jz at *)
    refine hK.out _ _ ?_ (fun hHeld => ?_)
    ·first | exact SK.out _ XB | exact SK.out _ (Below.drew (Below.refl _ _)) | exact SK.out _ XF
    clear hK K
    (try simp only [Act.put, zSb, zS0, zS1])
    refine wpAnyH_ready (rs := [13]) (by kernel_rfl) (by simp) ?_
    refine (AllReadyH.cons (by rw [List.getElem?_toArray]; rfl) (fun K hK => ?_) AllReadyH.nil)
    go_simp
    refine (CA vy).mono ?_; rintro ee vs ⟨rfl, hbl⟩; (replace XB := XB.trans (hbl.mono XB.size)); (replace Z := Z.below hbl); (clear hbl); (have hst : (storeCells ⟨jz, 0, none⟩ ([.int .i64 (crL x.kn x.lo x.hi x.la y.dn y.dd ct), .int .i64 (crH x.kn x.lo x.hi x.la y.dn y.dd ct)])).run Tryz.prog vs = .ok () (putA vs jz 0 (#[.int .i64 (crL x.kn x.lo x.hi x.la y.dn y.dd ct), .int .i64 (crH x.kn x.lo x.hi x.la y.dn y.dd ct)] : Array Value).toList) := Bo.store (P := Tryz.prog) (b := 0) (#[.int .i64 (crL x.kn x.lo x.hi x.la y.dn y.dd ct), .int .i64 (crH x.kn x.lo x.hi x.la y.dn y.dd ct)] : Array Value).toList 0 0 Z rfl (show 0 + 2 ≤ 2 by decide) (show ∀ u ∈ ([.int .i64 (crL x.kn x.lo x.hi x.la y.dn y.dd ct), .int .i64 (crH x.kn x.lo x.hi x.la y.dn y.dd ct)] : List Value), u.oneCell' = true from (List.forall_mem_cons.2 ⟨rfl, (List.forall_mem_cons.2 ⟨rfl, fun _ h => nomatch h⟩)⟩))); (have XF := putA_below (k := jz) (#[.int .i64 (crL x.kn x.lo x.hi x.la y.dn y.dd ct), .int .i64 (crH x.kn x.lo x.hi x.la y.dn y.dd ct)] : Array Value).toList v0 vs 0 XB hzv); (have ZF := Z.putW (U := #[.int .i64 (crL x.kn x.lo x.hi x.la y.dn y.dd ct), .int .i64 (crH x.kn x.lo x.hi x.la y.dn y.dd ct)]) rfl); (generalize putA vs jz 0 (#[.int .i64 (crL x.kn x.lo x.hi x.la y.dn y.dd ct), .int .i64 (crH x.kn x.lo x.hi x.la y.dn y.dd ct)] : Array Value).toList = vf at *)
    (try go_wp2_with fail)
    refine hK.out _ _ ?_ (fun hHeld => ?_)
    ·first | exact SK.out _ XB | exact SK.out _ (Below.drew (Below.refl _ _)) | exact SK.out _ XF
    clear hK K
    (try simp only [Act.put, zSb, zS0, zS1])
    refine zTk 14 ?_
    refine zTk 15 ?_
    refine zTk 16 ?_
    refine wpAnyH_ready (rs := [18]) (by kernel_rfl) (by simp) ?_
    refine (AllReadyH.cons (by rw [List.getElem?_toArray]; rfl) (fun K hK => ?_) AllReadyH.nil)
    go_simp
    refine hK.out _ _ ?_ (fun hHeld => ?_)
    ·first | exact SK.out _ XB | exact SK.out _ (Below.drew (Below.refl _ _)) | exact SK.out _ XF
    clear hK K
    (try simp only [Act.put, zSb, zS0, zS1])
    refine zTk 19 ?_
    refine wpAnyH_done (by kernel_rfl) ?_ _
    go_wp2_with (rw [hst])
    go_meet
    case rel => exact ⟨jz, rfl, rfl, ZF, hzv, XF⟩
  case rest =>
  obtain ⟨kQ, rfl, rfl, Q, hjQ, hb⟩ := hcut
  clear SK
  have gQR : w.heap.size < v0.heap.size := R.1
  have gQKW : k < v0.heap.size := KW.1
  generalize wc = v1 at *
  replace B := B.trans (hb.mono B.size)
  replace R := R.below hb
  replace KW := KW.below hb
  clear hb
  have hL0 := Q.load (P := Tryz.prog) (show (#[.int .i64 (crL x.kn x.lo x.hi x.la y.dn y.dd ct), .int .i64 (crH x.kn x.lo x.hi x.la y.dn y.dd ct)] : Array Value).size = 2 from rfl)
  have hst := Bo.store (P := Tryz.prog) (b := 0) ([.int .i64 (crL x.kn x.lo x.hi x.la y.dn y.dd ct), .int .i64 (crH x.kn x.lo x.hi x.la y.dn y.dd ct)]) 0 0 R rfl (show 0 + 2 ≤ 2 by decide) (List.forall_mem_cons.2 ⟨rfl, (List.forall_mem_cons.2 ⟨rfl, fun _ h => nomatch h⟩)⟩)
  have hb : Btw (w.heap.size) (w.heap.size + 1) v1 _ := putA_btw ([.int .i64 (crL x.kn x.lo x.hi x.la y.dn y.dd ct), .int .i64 (crH x.kn x.lo x.hi x.la y.dn y.dd ct)]) v1 0 (w.heap.size)
  have B1 := putA_below (k := w.heap.size) ([.int .i64 (crL x.kn x.lo x.hi x.la y.dn y.dd ct), .int .i64 (crH x.kn x.lo x.hi x.la y.dn y.dd ct)]) w v1 0 B (by omega)
  have N1 : Bo (putA v1 (w.heap.size) 0 ([.int .i64 (crL x.kn x.lo x.hi x.la y.dn y.dd ct), .int .i64 (crH x.kn x.lo x.hi x.la y.dn y.dd ct)])) (w.heap.size) (#[.int .i64 (crL x.kn x.lo x.hi x.la y.dn y.dd ct), .int .i64 (crH x.kn x.lo x.hi x.la y.dn y.dd ct)]) := Bo.put ([.int .i64 (crL x.kn x.lo x.hi x.la y.dn y.dd ct), .int .i64 (crH x.kn x.lo x.hi x.la y.dn y.dd ct)]) 0 R
  go_wp2_with (first | rw [hL0] | rw [hst])
  clear hst hL0 R B
  replace KW := KW.btw hb (by omega)
  replace Q := Q.btw hb (by omega)
  clear hb
  generalize putA v1 (w.heap.size) 0 ([.int .i64 (crL x.kn x.lo x.hi x.la y.dn y.dd ct), .int .i64 (crH x.kn x.lo x.hi x.la y.dn y.dd ct)]) = v2 at *
  have B := B1
  have R := N1
  clear B1 N1
  have hL0 := R.load (P := Tryz.prog) (show (#[.int .i64 (crL x.kn x.lo x.hi x.la y.dn y.dd ct), .int .i64 (crH x.kn x.lo x.hi x.la y.dn y.dd ct)] : Array Value).size = 2 from rfl)
  exact bodyPost_ret (v := .tuple #[.agg #[.int .i64 (crL x.kn x.lo x.hi x.la y.dn y.dd ct), .int .i64 (crH x.kn x.lo x.hi x.la y.dn y.dd ct)], .int .i64 0]) (by simp [results, Tryz.results169, go_sem]; rw [hL0]; rfl) rfl ⟨by rw [hC', hL', hH'], B⟩
end Go.Proofs.YtddijpjgkifngaaGreat
namespace Go.Proofs.YtddijpjgkifngaaGreat
open Go.RowKit
set_option linter.unusedVariables false
theorem now_bad {y : CfX} {x : NdX} {ct : Int} (h : staI y x ct = 1) : nowC y x ct = 1 := by
 unfold nowC
 unfold staI at h
 cases h1 : cokX y
 ·rfl
 ·rw [h1] at h
  cases h2 : okX x && cmX x ct
  ·rfl
  ·exfalso
   unfold fiI at h
   rw [h2] at h
   cases h3 : (x.mo == 0) <;> (rw [h3] at h; exact absurd h (by decide))
attribute [-go_sem] loadCells storeCells in
set_option maxRecDepth 100000 in
set_option maxHeartbeats 8000000 in
theorem implNowX (AC AN : Array Value) (y : CfX) (x : NdX) (ct : Int) (w : World) (HC : CfS w AC y) (HN : NdS w AN x) (hwf : wfX x) :
 Calls Tryz.prog 130 #[.agg AC, .agg AN, .int .i64 ct] w fun e w' => e = .returned (.tuple #[.agg #[.int .i64 (nowL y x ct), .int .i64 (nowH y x ct)], .int .i64 (nowC y x ct)]) ∧ Below w.heap.size w w' := by
 by_cases hs1 : staI y x ct = 1
 ·have hbad : staI y x ct = 1 ∨ true = false := .inl hs1
  have hC' : nowC y x ct = 1 := now_bad hs1
  have hL' : nowL y x ct = 0 := by unfold nowL; rw [hC']; rfl
  have hH' : nowH y x ct = 0 := by unfold nowH; rw [hC']; rfl
  clear hs1
  have hC := HC.size
  have hN := HN.size
  have CW := fun (v : World) (h : Below w.heap.size w v) => workOn_bad AC AN y x ct true v (HC.below h) (HN.below h) hwf (hbad)
  clear HC HN hwf
  have A0 := Below.nw w (.cells AC 45)
  have A1 := Below.nw (w.alloc (.cells AC 45)) (.cells AN 98)
  have A2 := Below.nw (((w.alloc (.cells AC 45))).alloc (.cells AN 98)) (.cells #[.int .i64 0, .int .i64 0] 87)
  have C := ((Bo.new w AC 45).below A1).below A2
  have N := (Bo.new (w.alloc (.cells AC 45)) AN 98).below A2
  have R := Bo.new (((w.alloc (.cells AC 45))).alloc (.cells AN 98)) #[.int .i64 0, .int .i64 0] 87
  have B := A0
  replace B := B.trans (A1.mono B.size)
  replace B := B.trans (A2.mono B.size)
  simp only [World.size_alloc] at N R
  clear A0 A1 A2
  go_enter Tryz.func130, Tryz.ntmps130
  go_upto_region 1 with fail
  generalize ((((w.alloc (.cells AC 45))).alloc (.cells AN 98))).alloc (.cells #[.int .i64 0, .int .i64 0] 87) = v0 at *
  have hL0 := C.load (P := Tryz.prog) hC
  have hL1 := N.load (P := Tryz.prog) hN
  go_wp2_with (first | rw [hL0] | rw [hL1])
  refine (CW v0 B).mono ?_
  rintro e v1 ⟨rfl, hb⟩
  clear hL0 hL1
  replace B := B.trans (hb.mono B.size)
  replace C := C.below hb
  replace N := N.below hb
  replace R := R.below hb
  clear hb
  have hU := zWk_size
  have hst := storeNew (P := Tryz.prog) v1 (#[.int .i64 0, .int .i64 0, .slice none 0 0, .bool false, .int .i64 0, .int .i64 0, .int .i64 0, .int .i64 0, .int .i64 0, .int .i64 0, .int .i64 0, .int .i64 0, .int .i64 0, .int .i64 0, .int .i64 0, .slice none 0 0, .int .i64 0, .int .i64 0, .int .i64 0, .int .i64 0, .int .i64 0, .bool false, .int .i64 0, .int .i64 0, .int .i64 0, .slice none 0 0, .slice none 0 0, .int .i64 0]) zWk 221 (by rw [hU]; rfl) zWk_one
  have gKWC : w.heap.size < v1.heap.size := C.1
  have gKWN : w.heap.size + 1 < v1.heap.size := N.1
  have gKWR : w.heap.size + 2 < v1.heap.size := R.1
  have hb := Below.nw v1 (.cells zWk 221)
  have KW := Bo.new v1 zWk 221
  go_upto_region 2 with (rw [hst])
  clear hst
  replace B := B.trans (hb.mono B.size)
  replace C := C.below hb
  replace N := N.below hb
  replace R := R.below hb
  clear hb
  generalize v1.alloc (.cells zWk 221) = v2 at *
  generalize v1.heap.size = kKW at *
  clear hU
  have hst := Bo.store (P := Tryz.prog) (b := 0) ([.int .i64 0, .int .i64 0]) 0 0 R rfl (show 0 + 2 ≤ 2 by decide) (List.forall_mem_cons.2 ⟨rfl, (List.forall_mem_cons.2 ⟨rfl, fun _ h => nomatch h⟩)⟩)
  have hb : Btw (w.heap.size + 2) (w.heap.size + 2 + 1) v2 _ := putA_btw ([.int .i64 0, .int .i64 0]) v2 0 (w.heap.size + 2)
  have B1 := putA_below (k := w.heap.size + 2) ([.int .i64 0, .int .i64 0]) w v2 0 B (by omega)
  have N1 : Bo (putA v2 (w.heap.size + 2) 0 ([.int .i64 0, .int .i64 0])) (w.heap.size + 2) (#[.int .i64 0, .int .i64 0]) := Bo.put ([.int .i64 0, .int .i64 0]) 0 R
  go_wp2_with (rw [hst])
  clear hst  R B
  replace C := C.btw hb (by omega)
  replace N := N.btw hb (by omega)
  replace KW := KW.btw hb (by omega)
  clear hb
  generalize putA v2 (w.heap.size + 2) 0 ([.int .i64 0, .int .i64 0]) = v3 at *
  have B := B1
  have R := N1
  clear B1 N1
  have hL0 := R.load (P := Tryz.prog) (show (#[.int .i64 0, .int .i64 0] : Array Value).size = 2 from rfl)
  exact bodyPost_ret (v := .tuple #[.agg #[.int .i64 0, .int .i64 0], .int .i64 1]) (by simp [results, Tryz.results130, go_sem]; rw [hL0]; rfl) rfl ⟨by rw [hC', hL', hH'], B⟩
 ·obtain ⟨hC', hL', hH'⟩ := pn_now hs1
  have hok := (sta_parts hs1).2.1
  have hC := HC.size
  have hN := HN.size
  obtain ⟨p, d, hpd, hm, hr⟩ := id HC
  have CW := fun (v : World) (h : Below w.heap.size w v) => workOn_ok AC AN y x ct p d v (HC.below h) (HN.below h) hwf hpd hok hs1
  clear HC HN hwf hm hr hpd
  have A0 := Below.nw w (.cells AC 45)
  have A1 := Below.nw (w.alloc (.cells AC 45)) (.cells AN 98)
  have A2 := Below.nw (((w.alloc (.cells AC 45))).alloc (.cells AN 98)) (.cells #[.int .i64 0, .int .i64 0] 87)
  have C := ((Bo.new w AC 45).below A1).below A2
  have N := (Bo.new (w.alloc (.cells AC 45)) AN 98).below A2
  have R := Bo.new (((w.alloc (.cells AC 45))).alloc (.cells AN 98)) #[.int .i64 0, .int .i64 0] 87
  have B := A0
  replace B := B.trans (A1.mono B.size)
  replace B := B.trans (A2.mono B.size)
  simp only [World.size_alloc] at N R
  clear A0 A1 A2
  go_enter Tryz.func130, Tryz.ntmps130
  go_upto_region 1 with fail
  generalize ((((w.alloc (.cells AC 45))).alloc (.cells AN 98))).alloc (.cells #[.int .i64 0, .int .i64 0] 87) = v0 at *
  have hL0 := C.load (P := Tryz.prog) hC
  have hL1 := N.load (P := Tryz.prog) hN
  go_wp2_with (first | rw [hL0] | rw [hL1])
  refine (CW v0 B).mono ?_
  rintro e v1 ⟨U, rfl, OU, hb⟩
  clear hL0 hL1
  have q1C : w.heap.size < v0.heap.size := C.1
  have q1N : w.heap.size + 1 < v0.heap.size := N.1
  have q1R : w.heap.size + 2 < v0.heap.size := R.1
  have q1 : w.heap.size ≤ v0.heap.size := B.size
  have zv1 : v0.heap.size ≤ v1.heap.size := hb.size
  replace B := B.trans (hb.mono B.size)
  replace C := C.below hb
  replace N := N.below hb
  replace R := R.below hb
  clear hb
  have hU := OU.size
  have hst := storeNew (P := Tryz.prog) v1 (#[.int .i64 0, .int .i64 0, .slice none 0 0, .bool false, .int .i64 0, .int .i64 0, .int .i64 0, .int .i64 0, .int .i64 0, .int .i64 0, .int .i64 0, .int .i64 0, .int .i64 0, .int .i64 0, .int .i64 0, .slice none 0 0, .int .i64 0, .int .i64 0, .int .i64 0, .int .i64 0, .int .i64 0, .bool false, .int .i64 0, .int .i64 0, .int .i64 0, .slice none 0 0, .slice none 0 0, .int .i64 0]) U 221 (by rw [hU]; rfl) OU.one
  have gKWC : w.heap.size < v1.heap.size := C.1
  have gKWN : w.heap.size + 1 < v1.heap.size := N.1
  have gKWR : w.heap.size + 2 < v1.heap.size := R.1
  have gKWOU : v1.heap.size ≤ v1.heap.size := by omega
  have hb := Below.nw v1 (.cells U 221)
  have KW := Bo.new v1 U 221
  go_upto_region 2 with (rw [hst])
  clear hst
  replace B := B.trans (hb.mono B.size)
  replace C := C.below hb
  replace N := N.below hb
  replace R := R.below hb
  replace OU := OU.below hb
  clear hb
  generalize v1.alloc (.cells U 221) = v2 at *
  generalize v1.heap.size = kKW at *
  have zv2 : kKW ≤ v2.heap.size := Nat.le_of_lt KW.1
  clear hU
  obtain ⟨aa, ac, pa, pc, ha, hc, rfl, hbn, P1, P2, P3⟩ := OU
  have hs1b : (staI y x ct == 1) = false := by rw [beq_eq_false_iff_ne]; exact hs1
  go_wp2_with fail
  refine (wkNow y x ct p d aa ac pa pc ha hc kKW v2 KW).mono ?_
  rintro e v3 ⟨rfl, hb⟩
  have zv3 : v2.heap.size ≤ v3.heap.size := hb.size
  replace B := B.trans (hb.mono B.size)
  replace C := C.below hb
  replace N := N.below hb
  replace R := R.below hb
  replace KW := KW.below hb
  replace P1 := P1.below hb
  replace P2 := P2.below hb
  replace P3 := P3.below hb
  clear hb
  have hst := Bo.store (P := Tryz.prog) (b := 0) ([.int .i64 (pnL y x ct), .int .i64 (pnH y x ct)]) 0 0 R rfl (show 0 + 2 ≤ 2 by decide) (List.forall_mem_cons.2 ⟨rfl, (List.forall_mem_cons.2 ⟨rfl, fun _ h => nomatch h⟩)⟩)
  have hb : Btw (w.heap.size + 2) (w.heap.size + 2 + 1) v3 _ := putA_btw ([.int .i64 (pnL y x ct), .int .i64 (pnH y x ct)]) v3 0 (w.heap.size + 2)
  have B1 := putA_below (k := w.heap.size + 2) ([.int .i64 (pnL y x ct), .int .i64 (pnH y x ct)]) w v3 0 B (by omega)
  have N1 : Bo (putA v3 (w.heap.size + 2) 0 ([.int .i64 (pnL y x ct), .int .i64 (pnH y x ct)])) (w.heap.size + 2) (#[.int .i64 (pnL y x ct), .int .i64 (pnH y x ct)]) := Bo.put ([.int .i64 (pnL y x ct), .int .i64 (pnH y x ct)]) 0 R
  go_wp2_with (rw [hst])
  clear hst  R B
  replace C := C.btw hb (by omega)
  replace N := N.btw hb (by omega)
  replace KW := KW.btw hb (by omega)
  replace P1 := P1.btw hb (by omega)
  replace P2 := P2.btw hb (by omega)
  replace P3 := P3.btw hb (by omega)
  have zv4 := hb.2.2.2.1
  clear hb
  generalize putA v3 (w.heap.size + 2) 0 ([.int .i64 (pnL y x ct), .int .i64 (pnH y x ct)]) = v4 at *
  have B := B1
  have R := N1
  clear B1 N1
  have hL0 := R.load (P := Tryz.prog) (show (#[.int .i64 (pnL y x ct), .int .i64 (pnH y x ct)] : Array Value).size = 2 from rfl)
  exact bodyPost_ret (v := .tuple #[.agg #[.int .i64 (pnL y x ct), .int .i64 (pnH y x ct)], .int .i64 (pnC y x ct)]) (by simp [results, Tryz.results130, go_sem]; rw [hL0]; rfl) rfl ⟨by rw [hC', hL', hH'], B⟩
end Go.Proofs.YtddijpjgkifngaaGreat
