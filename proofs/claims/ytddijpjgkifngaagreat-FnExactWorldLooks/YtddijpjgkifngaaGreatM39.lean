/- Flights by their Id: a map, told by a function of the Id. A node while a call works on it (the program), over arrays of cells. What all nodes of a world know: the specification, the program. -/
import Derived.Maps.OwnSet
import Derived.Laws.EntriesVeiled
import Derived.Laws.AppendOwnNone
import Derived.Test.YtddijpjgkifngaaGreatM28
import Derived.Test.YtddijpjgkifngaaGreatM33
import Derived.Test.YtddijpjgkifngaaGreatM37
import Derived.Test.YtddijpjgkifngaaGreatM38
namespace Go.Proofs.YtddijpjgkifngaaGreat
open Go.RowKit
set_option linter.unusedVariables false
def fv (M : FT) : Value := .agg #[.int .i64 M.1, .int .i64 M.2.1, .int .i64 M.2.2.1, .string M.2.2.2.1, .int .i64 M.2.2.2.2]
def R0 (v : Value) : Option (DataW Value × List MemPlace) := some (.held v, [])
def atF (o : Option FT) (z : DataW Value) : DataW Value := match o with | some M => .held (fv M) | none => z
def MapI (w : World) (b n : Nat) (F : Int → Option FT) : Prop := ∃ D : DataW Value, w.ownsMap Tryz.prog 3 R0 b n D ∧ ∀ x, (∀ z, D.atKey (.int .i64 x) z = atF (F x) z) ∧ Maps.has D (.int .i64 x) = (F x).isSome
theorem lawK : Maps.Keyed Tryz.prog 3 := Maps.int_keyed Tryz.underlying3
theorem zeroFl (w : World) : (zeroValue 101).run Tryz.prog w = .ok (fv zF) w := by kernel_rfl
set_option maxRecDepth 100000 in
theorem run_mkmap (n : Nat) (w : World) : (Instr.makeMap 235 (some (.int .i64 (n : Int)))).run Tryz.prog w = .ok (.map (some w.heap.size)) (w.alloc (.map #[] 0)) := by
 first | rfl | (simp [Instr.makeMap, go_sem]; done) | (simp [Instr.makeMap]; done)
theorem MapI.made (w : World) : MapI (w.alloc (.map #[] 0)) w.heap.size 0 (fun _ => none) := ⟨.map [], World.ownsMap_made w _ _ _, fun x => ⟨fun z => rfl, rfl⟩⟩
theorem MapI.kept {w w' : World} {b n : Nat} {F : Int → Option FT} (h : MapI w b n F) {row : Option Nat} (hg : w.grownBy w' row) (hne : some b ≠ row) : MapI w' b n F := by
 obtain ⟨D, h1, h2⟩ := h
 exact ⟨D, h1.kept hg hne, h2⟩
theorem MapI.lt {w : World} {b n : Nat} {F : Int → Option FT} (h : MapI w b n F) : b < w.heap.size := by
 obtain ⟨D, h1, h2⟩ := h
 exact h1.lt
theorem MapI.below {w w' : World} {b n : Nat} {F : Int → Option FT} (h : MapI w b n F) (hb : Below w.heap.size w w') : MapI w' b n F :=
 h.kept (row := none) ⟨hb.os, hb.tape, hb.output, hb.size, fun k hk _ => hb.block k hk⟩ (by simp)
theorem MapI.setCell {w : World} {b n : Nat} {F : Int → Option FT} (h : MapI w b n F) {a : Addr} (ha : b ≠ a.block) (u : Value) : MapI (w.setCell a u) b n F := by
 obtain ⟨D, h1, h2⟩ := h
 exact ⟨D, h1.setCell ha u, h2⟩
theorem MapI.congr {w : World} {b n : Nat} {F G : Int → Option FT} (h : MapI w b n F) (e : ∀ x, F x = G x) : MapI w b n G := by
 obtain ⟨D, h1, h2⟩ := h
 exact ⟨D, h1, fun x => by rw [← e x]; exact h2 x⟩
theorem held_inj {o : Option FT} {v : Value} {ps : List MemPlace} (h : R0 v = some (atF o (.held (fv zF)), ps)) : v = fv (o.getD zF) := by
 unfold R0 at h
 simp only [Option.some.injEq, Prod.mk.injEq] at h
 cases o with
 | none => simp only [atF, DataW.held.injEq] at h; exact h.1
 | some M => simp only [atF, DataW.held.injEq] at h; exact h.1
theorem MapI.look_ok {w : World} {b n : Nat} {F : Int → Option FT} (h : MapI w b n F) {x : Int} (hx : (Lit.int .i64 x).wf = true) : (Instr.lookup 235 (.map (some b)) (.int .i64 x) true).run Tryz.prog w = .ok (.tuple #[fv ((F x).getD zF), .bool (F x).isSome]) w := by
 obtain ⟨D, h1, h2⟩ := h
 obtain ⟨v, ps, hrun, hv⟩ := h1.look_ok (t := 235) (e := 101) lawK Tryz.underlying235 (zeroFl w) (zd := .held (fv zF)) (zp := []) rfl (Maps.keyOf_int_mk Tryz.underlying3 hx)
 rw [(h2 x).1] at hv
 rw [hrun, held_inj hv, (h2 x).2]
theorem lit_ne {x y : Int} (h : x ≠ y) : (Lit.int .i64 x) ≠ (Lit.int .i64 y) := fun e => h (by injection e)
theorem MapI.put {w : World} {b n : Nat} {F : Int → Option FT} (h : MapI w b n F) {x : Int} (hx : (Lit.int .i64 x).wf = true) (hn : n < maxLen) (M : FT) :
 ∃ w', (Instr.mapUpdate 235 (.map (some b)) (.int .i64 x) (fv M)).run Tryz.prog w = .ok () w' ∧ MapI w' b (n + 1) (fun y => if y = x then some M else F y) ∧ w.grownBy w' (some b) := by
 obtain ⟨D, h1, h2⟩ := h
 have hD := h1.isMap
 obtain ⟨w', hrun, ho, hg⟩ := h1.update (t := 235) (e := 101) lawK Tryz.underlying235 hn (key := .int .i64 x) (val := fv M) (d := .held (fv M)) (ps := []) (Maps.keyOf_int_mk Tryz.underlying3 hx) rfl
 refine ⟨w', hrun, ⟨_, ho, fun y => ?_⟩, hg⟩
 by_cases e : y = x
 ·subst e
  simp only [if_true]
  exact ⟨fun z => Maps.atKey_put_same hD (show WideAt.IsKeyLit (.int .i64 y) from trivial) _ _, Maps.has_put_same hD (show WideAt.IsKeyLit (.int .i64 y) from trivial) _⟩
 ·simp only [if_neg e]
  exact ⟨fun z => (Maps.atKey_put_other (lit_ne e) _ _).trans ((h2 y).1 z), (Maps.has_put_other (lit_ne e) _).trans (h2 y).2⟩
end Go.Proofs.YtddijpjgkifngaaGreat
namespace Go.Proofs.YtddijpjgkifngaaGreat
open Go.RowKit
set_option linter.unusedVariables false
def wkV (y : CfX) (x : NdX) (ct : Int) (p : Option Addr) (d : Nat) (aa : Option Addr) (ac : Nat) (pa : Option Addr) (pc : Nat) (ha : Option Addr) (hc : Nat) : Array Value :=
 #[.int .i64 x.te, .int .i64 x.us, .slice aa x.na ac, .bool x.hs, .int .i64 x.ls, .int .i64 y.dn, .int .i64 y.dd, .int .i64 y.li, .int .i64 y.le, .int .i64 y.pt, .int .i64 y.ag, .int .i64 y.ke, .int .i64 y.lg, .int .i64 y.s, .int .i64 y.g, .slice p y.m d, .int .i64 ct, .int .i64 x.ni, .int .i64 x.mo, .int .i64 x.ep, .int .i64 x.si, .bool x.kn, .int .i64 x.lo, .int .i64 x.hi, .int .i64 x.la, .slice pa x.np pc, .slice ha x.nh hc, .int .i64 x.se]
theorem wkV_one (y : CfX) (x : NdX) (ct : Int) (p : Option Addr) (d : Nat) (aa : Option Addr) (ac : Nat) (pa : Option Addr) (pc : Nat) (ha : Option Addr) (hc : Nat) : ∀ u ∈ (wkV y x ct p d aa ac pa pc ha hc).toList, u.oneCell' = true := by
 show ∀ u ∈ ([.int .i64 x.te, .int .i64 x.us, .slice aa x.na ac, .bool x.hs, .int .i64 x.ls, .int .i64 y.dn, .int .i64 y.dd, .int .i64 y.li, .int .i64 y.le, .int .i64 y.pt, .int .i64 y.ag, .int .i64 y.ke, .int .i64 y.lg, .int .i64 y.s, .int .i64 y.g, .slice p y.m d, .int .i64 ct, .int .i64 x.ni, .int .i64 x.mo, .int .i64 x.ep, .int .i64 x.si, .bool x.kn, .int .i64 x.lo, .int .i64 x.hi, .int .i64 x.la, .slice pa x.np pc, .slice ha x.nh hc, .int .i64 x.se] : List Value), u.oneCell' = true
 simp only [List.forall_mem_cons]
 exact ⟨rfl, rfl, rfl, rfl, rfl, rfl, rfl, rfl, rfl, rfl, rfl, rfl, rfl, rfl, rfl, rfl, rfl, rfl, rfl, rfl, rfl, rfl, rfl, rfl, rfl, rfl, rfl, rfl, fun _ h => nomatch h⟩
def zY : CfX := ⟨0, 0, 0, 0, 0, 0, 0, 0, 0, 0, fun _ => (0, 0), 0⟩
def zWk : Array Value := wkV zY (zX 0 0 0 0 0 0) 0 none 0 none 0 none 0 none 0
theorem zWk_one : ∀ u ∈ zWk.toList, u.oneCell' = true := wkV_one _ _ _ _ _ _ _ _ _ _ _
theorem zWk_size : zWk.size = 28 := rfl
def WkO (w : World) (l u : Nat) (A : Array Value) (y : CfX) (x : NdX) (ct : Int) (p : Option Addr) (d : Nat) : Prop := ∃ aa ac pa pc ha hc, A = wkV y x ct p d aa ac pa pc ha hc ∧ (x.na ≤ 1048576 ∧ x.np ≤ 1048576 ∧ x.nh ≤ 1048576) ∧ Rwo w l u 160 4 aa x.na ac (MFAsk x.AM) ∧ Rwo w l u 157 5 pa x.np pc (MFPeer x.QM) ∧ Rwo w l u 162 2 ha x.nh hc (MFIval x.HM)
theorem WkO.below {w w' : World} {l u : Nat} {A : Array Value} {y : CfX} {x : NdX} {ct : Int} {p : Option Addr} {d : Nat} (h : WkO w l u A y x ct p d) (hb : Below w.heap.size w w') : WkO w' l u A y x ct p d := by
 obtain ⟨aa, ac, pa, pc, ha, hc, e, hl, h1, h2, h3⟩ := h
 exact ⟨aa, ac, pa, pc, ha, hc, e, hl, h1.below hb, h2.below hb, h3.below hb⟩
theorem WkO.btw {w w' : World} {l u l' u' : Nat} {A : Array Value} {y : CfX} {x : NdX} {ct : Int} {p : Option Addr} {d : Nat} (h : WkO w l u A y x ct p d) (hb : Btw l' u' w w') (ho : u ≤ l' ∨ u' ≤ l) : WkO w' l u A y x ct p d := by
 obtain ⟨aa, ac, pa, pc, ha, hc, e, hl, h1, h2, h3⟩ := h
 exact ⟨aa, ac, pa, pc, ha, hc, e, hl, h1.btw hb ho, h2.btw hb ho, h3.btw hb ho⟩
theorem WkO.low {w : World} {l u l' : Nat} {A : Array Value} {y : CfX} {x : NdX} {ct : Int} {p : Option Addr} {d : Nat} (h : WkO w l u A y x ct p d) (hl : l' ≤ l) : WkO w l' w.heap.size A y x ct p d := by
 obtain ⟨aa, ac, pa, pc, ha, hc, e, hb, h1, h2, h3⟩ := h
 exact ⟨aa, ac, pa, pc, ha, hc, e, hb, h1.low hl, h2.low hl, h3.low hl⟩
theorem WkO.size {w : World} {l u : Nat} {A : Array Value} {y : CfX} {x : NdX} {ct : Int} {p : Option Addr} {d : Nat} (h : WkO w l u A y x ct p d) : A.size = 28 := by
 obtain ⟨aa, ac, pa, pc, ha, hc, e, _⟩ := h
 rw [e]; rfl
theorem WkO.one {w : World} {l u : Nat} {A : Array Value} {y : CfX} {x : NdX} {ct : Int} {p : Option Addr} {d : Nat} (h : WkO w l u A y x ct p d) : ∀ v ∈ A.toList, v.oneCell' = true := by
 obtain ⟨aa, ac, pa, pc, ha, hc, e, _⟩ := h
 rw [e]; exact wkV_one _ _ _ _ _ _ _ _ _ _ _
attribute [-go_sem] loadCells storeCells in
set_option maxRecDepth 100000 in
set_option maxHeartbeats 8000000 in
theorem workOn_bad (AC AN : Array Value) (y : CfX) (x : NdX) (ct : Int) (fit : Bool) (w : World) (HC : CfS w AC y) (HN : NdS w AN x) (hwf : wfX x) (hb : staI y x ct = 1 ∨ fit = false) :
 Calls Tryz.prog 168 #[.agg AC, .agg AN, .int .i64 ct, .bool fit] w fun e w' => e = .returned (.tuple #[.agg zWk, .int .i64 1]) ∧ Below w.heap.size w w' := by
 by_cases hfi : fiI (okX x) (cmX x ct) x.mo = 1
 ·clear hb
  have hC := HC.size
  have hN := HN.size
  have CC := fun (v : World) (h : Below w.heap.size w v) => codeAt_any AN x ct v (HN.below h).weak hwf
  have CK := fun (v : World) (h : Below w.heap.size w v) => cfgok_any AC y v (HC.below h).weak
  have CP := fun (hs : x.na ≤ 16 ∧ x.np ≤ 8 ∧ x.nh ≤ 16) (v : World) (h : Below w.heap.size w v) => copiedX AN x v (HN.below h) hs
  clear hwf
  clear HC HN CP
  have A0 := Below.nw w (.cells AC 45)
  have A1 := Below.nw (w.alloc (.cells AC 45)) (.cells AN 98)
  have A2 := Below.nw (((w.alloc (.cells AC 45))).alloc (.cells AN 98)) (.cells #[.int .i64 0, .int .i64 0, .slice none 0 0, .bool false, .int .i64 0, .int .i64 0, .int .i64 0, .int .i64 0, .int .i64 0, .int .i64 0, .int .i64 0, .int .i64 0, .int .i64 0, .int .i64 0, .int .i64 0, .slice none 0 0, .int .i64 0, .int .i64 0, .int .i64 0, .int .i64 0, .int .i64 0, .bool false, .int .i64 0, .int .i64 0, .int .i64 0, .slice none 0 0, .slice none 0 0, .int .i64 0] 221)
  have C := ((Bo.new w AC 45).below A1).below A2
  have N := (Bo.new (w.alloc (.cells AC 45)) AN 98).below A2
  have R := Bo.new (((w.alloc (.cells AC 45))).alloc (.cells AN 98)) #[.int .i64 0, .int .i64 0, .slice none 0 0, .bool false, .int .i64 0, .int .i64 0, .int .i64 0, .int .i64 0, .int .i64 0, .int .i64 0, .int .i64 0, .int .i64 0, .int .i64 0, .int .i64 0, .int .i64 0, .slice none 0 0, .int .i64 0, .int .i64 0, .int .i64 0, .int .i64 0, .int .i64 0, .bool false, .int .i64 0, .int .i64 0, .int .i64 0, .slice none 0 0, .slice none 0 0, .int .i64 0] 221
  have B := A0
  replace B := B.trans (A1.mono B.size)
  replace B := B.trans (A2.mono B.size)
  simp only [World.size_alloc] at N R
  clear A0 A1 A2
  go_enter Tryz.func168, Tryz.ntmps168
  go_upto_region 1 with fail
  generalize ((((w.alloc (.cells AC 45))).alloc (.cells AN 98))).alloc (.cells #[.int .i64 0, .int .i64 0, .slice none 0 0, .bool false, .int .i64 0, .int .i64 0, .int .i64 0, .int .i64 0, .int .i64 0, .int .i64 0, .int .i64 0, .int .i64 0, .int .i64 0, .int .i64 0, .int .i64 0, .slice none 0 0, .int .i64 0, .int .i64 0, .int .i64 0, .int .i64 0, .int .i64 0, .bool false, .int .i64 0, .int .i64 0, .int .i64 0, .slice none 0 0, .slice none 0 0, .int .i64 0] 221) = v0 at *
  have hL0 := N.load (P := Tryz.prog) hN
  go_wp2_with (rw [hL0])
  refine (CC v0 B).mono ?_
  rintro e v1 ⟨rfl, hb⟩
  clear hL0
  rw [hfi]
  replace B := B.trans (hb.mono B.size)
  replace C := C.below hb
  replace N := N.below hb
  replace R := R.below hb
  clear hb
  have hU := zWk_size
  have hUl : 0 + zWk.toList.length ≤ 28 := by simp [hU]
  have hst : (storeCells ⟨w.heap.size + 2, 0, none⟩ [.int .i64 0, .int .i64 0, .slice none 0 0, .bool false, .int .i64 0, .int .i64 0, .int .i64 0, .int .i64 0, .int .i64 0, .int .i64 0, .int .i64 0, .int .i64 0, .int .i64 0, .int .i64 0, .int .i64 0, .slice none 0 0, .int .i64 0, .int .i64 0, .int .i64 0, .int .i64 0, .int .i64 0, .bool false, .int .i64 0, .int .i64 0, .int .i64 0, .slice none 0 0, .slice none 0 0, .int .i64 0] 0).run Tryz.prog v1 = .ok () (putA v1 (w.heap.size + 2) 0 (zWk.toList)) := Bo.store (P := Tryz.prog) (b := 0) (zWk.toList) 0 0 R rfl hUl zWk_one
  have hb : Btw (w.heap.size + 2) (w.heap.size + 2 + 1) v1 _ := putA_btw (zWk.toList) v1 0 (w.heap.size + 2)
  have B1 := putA_below (k := w.heap.size + 2) (zWk.toList) w v1 0 B (by omega)
  have N1 := R.putW (U := zWk) hU
  go_wp2_with (rw [hst])
  clear hst  R B
  replace C := C.btw hb (by omega)
  replace N := N.btw hb (by omega)
  clear hb
  generalize putA v1 (w.heap.size + 2) 0 (zWk.toList) = v2 at *
  have B := B1
  have R := N1
  clear B1 N1
  have hL0 := R.load (P := Tryz.prog) hU
  exact bodyPost_ret (v := .tuple #[.agg zWk, .int .i64 1]) (by simp [results, Tryz.results168, go_sem]; rw [hL0]; rfl) rfl ⟨rfl, B⟩
 cases hk : cokX y
 ·clear hb
  have hC := HC.size
  have hN := HN.size
  have CC := fun (v : World) (h : Below w.heap.size w v) => codeAt_any AN x ct v (HN.below h).weak hwf
  have CK := fun (v : World) (h : Below w.heap.size w v) => cfgok_any AC y v (HC.below h).weak
  have CP := fun (hs : x.na ≤ 16 ∧ x.np ≤ 8 ∧ x.nh ≤ 16) (v : World) (h : Below w.heap.size w v) => copiedX AN x v (HN.below h) hs
  clear hwf
  clear HC HN CP
  have A0 := Below.nw w (.cells AC 45)
  have A1 := Below.nw (w.alloc (.cells AC 45)) (.cells AN 98)
  have A2 := Below.nw (((w.alloc (.cells AC 45))).alloc (.cells AN 98)) (.cells #[.int .i64 0, .int .i64 0, .slice none 0 0, .bool false, .int .i64 0, .int .i64 0, .int .i64 0, .int .i64 0, .int .i64 0, .int .i64 0, .int .i64 0, .int .i64 0, .int .i64 0, .int .i64 0, .int .i64 0, .slice none 0 0, .int .i64 0, .int .i64 0, .int .i64 0, .int .i64 0, .int .i64 0, .bool false, .int .i64 0, .int .i64 0, .int .i64 0, .slice none 0 0, .slice none 0 0, .int .i64 0] 221)
  have C := ((Bo.new w AC 45).below A1).below A2
  have N := (Bo.new (w.alloc (.cells AC 45)) AN 98).below A2
  have R := Bo.new (((w.alloc (.cells AC 45))).alloc (.cells AN 98)) #[.int .i64 0, .int .i64 0, .slice none 0 0, .bool false, .int .i64 0, .int .i64 0, .int .i64 0, .int .i64 0, .int .i64 0, .int .i64 0, .int .i64 0, .int .i64 0, .int .i64 0, .int .i64 0, .int .i64 0, .slice none 0 0, .int .i64 0, .int .i64 0, .int .i64 0, .int .i64 0, .int .i64 0, .bool false, .int .i64 0, .int .i64 0, .int .i64 0, .slice none 0 0, .slice none 0 0, .int .i64 0] 221
  have B := A0
  replace B := B.trans (A1.mono B.size)
  replace B := B.trans (A2.mono B.size)
  simp only [World.size_alloc] at N R
  clear A0 A1 A2
  go_enter Tryz.func168, Tryz.ntmps168
  go_upto_region 1 with fail
  generalize ((((w.alloc (.cells AC 45))).alloc (.cells AN 98))).alloc (.cells #[.int .i64 0, .int .i64 0, .slice none 0 0, .bool false, .int .i64 0, .int .i64 0, .int .i64 0, .int .i64 0, .int .i64 0, .int .i64 0, .int .i64 0, .int .i64 0, .int .i64 0, .int .i64 0, .int .i64 0, .slice none 0 0, .int .i64 0, .int .i64 0, .int .i64 0, .int .i64 0, .int .i64 0, .bool false, .int .i64 0, .int .i64 0, .int .i64 0, .slice none 0 0, .slice none 0 0, .int .i64 0] 221) = v0 at *
  have hL0 := N.load (P := Tryz.prog) hN
  go_wp2_with (rw [hL0])
  refine (CC v0 B).mono ?_
  rintro e v1 ⟨rfl, hb⟩
  clear hL0
  replace B := B.trans (hb.mono B.size)
  replace C := C.below hb
  replace N := N.below hb
  replace R := R.below hb
  clear hb
  have hf1 : (fiI (okX x) (cmX x ct) x.mo == 1) = false := by rw [beq_eq_false_iff_ne]; exact hfi
  have hL0 := C.load (P := Tryz.prog) hC
  go_wp2_with (rw [hL0])
  refine (CK v1 B).mono ?_
  rintro e v2 ⟨rfl, hb⟩
  clear hL0
  rw [hk]
  replace B := B.trans (hb.mono B.size)
  replace C := C.below hb
  replace N := N.below hb
  replace R := R.below hb
  clear hb
  have hU := zWk_size
  have hUl : 0 + zWk.toList.length ≤ 28 := by simp [hU]
  have hst : (storeCells ⟨w.heap.size + 2, 0, none⟩ [.int .i64 0, .int .i64 0, .slice none 0 0, .bool false, .int .i64 0, .int .i64 0, .int .i64 0, .int .i64 0, .int .i64 0, .int .i64 0, .int .i64 0, .int .i64 0, .int .i64 0, .int .i64 0, .int .i64 0, .slice none 0 0, .int .i64 0, .int .i64 0, .int .i64 0, .int .i64 0, .int .i64 0, .bool false, .int .i64 0, .int .i64 0, .int .i64 0, .slice none 0 0, .slice none 0 0, .int .i64 0] 0).run Tryz.prog v2 = .ok () (putA v2 (w.heap.size + 2) 0 (zWk.toList)) := Bo.store (P := Tryz.prog) (b := 0) (zWk.toList) 0 0 R rfl hUl zWk_one
  have hb : Btw (w.heap.size + 2) (w.heap.size + 2 + 1) v2 _ := putA_btw (zWk.toList) v2 0 (w.heap.size + 2)
  have B1 := putA_below (k := w.heap.size + 2) (zWk.toList) w v2 0 B (by omega)
  have N1 := R.putW (U := zWk) hU
  go_wp2_with (rw [hst])
  clear hst  R B
  replace C := C.btw hb (by omega)
  replace N := N.btw hb (by omega)
  clear hb
  generalize putA v2 (w.heap.size + 2) 0 (zWk.toList) = v3 at *
  have B := B1
  have R := N1
  clear B1 N1
  have hL0 := R.load (P := Tryz.prog) hU
  exact bodyPost_ret (v := .tuple #[.agg zWk, .int .i64 1]) (by simp [results, Tryz.results168, go_sem]; rw [hL0]; rfl) rfl ⟨rfl, B⟩
 have hft : fit = false := by
  rcases hb with h | h
  ·unfold staI at h; rw [hk] at h; exact absurd h hfi
  ·exact h
 subst hft
 clear hb
 ·skip
  have hC := HC.size
  have hN := HN.size
  have CC := fun (v : World) (h : Below w.heap.size w v) => codeAt_any AN x ct v (HN.below h).weak hwf
  have CK := fun (v : World) (h : Below w.heap.size w v) => cfgok_any AC y v (HC.below h).weak
  have CP := fun (hs : x.na ≤ 16 ∧ x.np ≤ 8 ∧ x.nh ≤ 16) (v : World) (h : Below w.heap.size w v) => copiedX AN x v (HN.below h) hs
  clear hwf
  clear HC HN CP
  have A0 := Below.nw w (.cells AC 45)
  have A1 := Below.nw (w.alloc (.cells AC 45)) (.cells AN 98)
  have A2 := Below.nw (((w.alloc (.cells AC 45))).alloc (.cells AN 98)) (.cells #[.int .i64 0, .int .i64 0, .slice none 0 0, .bool false, .int .i64 0, .int .i64 0, .int .i64 0, .int .i64 0, .int .i64 0, .int .i64 0, .int .i64 0, .int .i64 0, .int .i64 0, .int .i64 0, .int .i64 0, .slice none 0 0, .int .i64 0, .int .i64 0, .int .i64 0, .int .i64 0, .int .i64 0, .bool false, .int .i64 0, .int .i64 0, .int .i64 0, .slice none 0 0, .slice none 0 0, .int .i64 0] 221)
  have C := ((Bo.new w AC 45).below A1).below A2
  have N := (Bo.new (w.alloc (.cells AC 45)) AN 98).below A2
  have R := Bo.new (((w.alloc (.cells AC 45))).alloc (.cells AN 98)) #[.int .i64 0, .int .i64 0, .slice none 0 0, .bool false, .int .i64 0, .int .i64 0, .int .i64 0, .int .i64 0, .int .i64 0, .int .i64 0, .int .i64 0, .int .i64 0, .int .i64 0, .int .i64 0, .int .i64 0, .slice none 0 0, .int .i64 0, .int .i64 0, .int .i64 0, .int .i64 0, .int .i64 0, .bool false, .int .i64 0, .int .i64 0, .int .i64 0, .slice none 0 0, .slice none 0 0, .int .i64 0] 221
  have B := A0
  replace B := B.trans (A1.mono B.size)
  replace B := B.trans (A2.mono B.size)
  simp only [World.size_alloc] at N R
  clear A0 A1 A2
  go_enter Tryz.func168, Tryz.ntmps168
  go_upto_region 1 with fail
  generalize ((((w.alloc (.cells AC 45))).alloc (.cells AN 98))).alloc (.cells #[.int .i64 0, .int .i64 0, .slice none 0 0, .bool false, .int .i64 0, .int .i64 0, .int .i64 0, .int .i64 0, .int .i64 0, .int .i64 0, .int .i64 0, .int .i64 0, .int .i64 0, .int .i64 0, .int .i64 0, .slice none 0 0, .int .i64 0, .int .i64 0, .int .i64 0, .int .i64 0, .int .i64 0, .bool false, .int .i64 0, .int .i64 0, .int .i64 0, .slice none 0 0, .slice none 0 0, .int .i64 0] 221) = v0 at *
  have hL0 := N.load (P := Tryz.prog) hN
  go_wp2_with (rw [hL0])
  refine (CC v0 B).mono ?_
  rintro e v1 ⟨rfl, hb⟩
  clear hL0
  replace B := B.trans (hb.mono B.size)
  replace C := C.below hb
  replace N := N.below hb
  replace R := R.below hb
  clear hb
  have hf1 : (fiI (okX x) (cmX x ct) x.mo == 1) = false := by rw [beq_eq_false_iff_ne]; exact hfi
  have hL0 := C.load (P := Tryz.prog) hC
  go_wp2_with (rw [hL0])
  refine (CK v1 B).mono ?_
  rintro e v2 ⟨rfl, hb⟩
  clear hL0
  rw [hk]
  replace B := B.trans (hb.mono B.size)
  replace C := C.below hb
  replace N := N.below hb
  replace R := R.below hb
  clear hb
  have hU := zWk_size
  have hUl : 0 + zWk.toList.length ≤ 28 := by simp [hU]
  have hst : (storeCells ⟨w.heap.size + 2, 0, none⟩ [.int .i64 0, .int .i64 0, .slice none 0 0, .bool false, .int .i64 0, .int .i64 0, .int .i64 0, .int .i64 0, .int .i64 0, .int .i64 0, .int .i64 0, .int .i64 0, .int .i64 0, .int .i64 0, .int .i64 0, .slice none 0 0, .int .i64 0, .int .i64 0, .int .i64 0, .int .i64 0, .int .i64 0, .bool false, .int .i64 0, .int .i64 0, .int .i64 0, .slice none 0 0, .slice none 0 0, .int .i64 0] 0).run Tryz.prog v2 = .ok () (putA v2 (w.heap.size + 2) 0 (zWk.toList)) := Bo.store (P := Tryz.prog) (b := 0) (zWk.toList) 0 0 R rfl hUl zWk_one
  have hb : Btw (w.heap.size + 2) (w.heap.size + 2 + 1) v2 _ := putA_btw (zWk.toList) v2 0 (w.heap.size + 2)
  have B1 := putA_below (k := w.heap.size + 2) (zWk.toList) w v2 0 B (by omega)
  have N1 := R.putW (U := zWk) hU
  go_wp2_with (rw [hst])
  clear hst  R B
  replace C := C.btw hb (by omega)
  replace N := N.btw hb (by omega)
  clear hb
  generalize putA v2 (w.heap.size + 2) 0 (zWk.toList) = v3 at *
  have B := B1
  have R := N1
  clear B1 N1
  have hL0 := R.load (P := Tryz.prog) hU
  exact bodyPost_ret (v := .tuple #[.agg zWk, .int .i64 1]) (by simp [results, Tryz.results168, go_sem]; rw [hL0]; rfl) rfl ⟨rfl, B⟩
attribute [-go_sem] loadCells storeCells in
set_option maxRecDepth 100000 in
set_option maxHeartbeats 8000000 in
theorem workOn_ok (AC AN : Array Value) (y : CfX) (x : NdX) (ct : Int) (p : Option Addr) (d : Nat) (w : World) (HC : CfS w AC y) (HN : NdS w AN x) (hwf : wfX x) (hpd : AC = cfV y p d) (hok : okX x = true) (hs1 : staI y x ct ≠ 1) :
 Calls Tryz.prog 168 #[.agg AC, .agg AN, .int .i64 ct, .bool true] w fun e w' => ∃ R, e = .returned (.tuple #[.agg R, .int .i64 (staI y x ct)]) ∧ WkO w' w.heap.size w'.heap.size R y x ct p d ∧ Below w.heap.size w w' := by
 have hsh := okX_short hok
 have hk : cokX y = true := by
  cases h : cokX y
  ·exact absurd (by unfold staI; rw [h]) hs1
  ·rfl
 have hst : staI y x ct = fiI (okX x) (cmX x ct) x.mo := by unfold staI; rw [hk]
 have hfi : fiI (okX x) (cmX x ct) x.mo ≠ 1 := by rw [← hst]; exact hs1
 clear hs1 hok
 have hN := HN.size
 have CC := fun (v : World) (h : Below w.heap.size w v) => codeAt_any AN x ct v (HN.below h).weak hwf
 have CK := fun (v : World) (h : Below w.heap.size w v) => cfgok_any AC y v (HC.below h).weak
 have CP := fun (hs : x.na ≤ 16 ∧ x.np ≤ 8 ∧ x.nh ≤ 16) (v : World) (h : Below w.heap.size w v) => copiedX AN x v (HN.below h) hs
 clear hwf
 subst hpd
 clear HC HN
 have A0 := Below.nw w (.cells (cfV y p d) 45)
 have A1 := Below.nw (w.alloc (.cells (cfV y p d) 45)) (.cells AN 98)
 have A2 := Below.nw (((w.alloc (.cells (cfV y p d) 45))).alloc (.cells AN 98)) (.cells #[.int .i64 0, .int .i64 0, .slice none 0 0, .bool false, .int .i64 0, .int .i64 0, .int .i64 0, .int .i64 0, .int .i64 0, .int .i64 0, .int .i64 0, .int .i64 0, .int .i64 0, .int .i64 0, .int .i64 0, .slice none 0 0, .int .i64 0, .int .i64 0, .int .i64 0, .int .i64 0, .int .i64 0, .bool false, .int .i64 0, .int .i64 0, .int .i64 0, .slice none 0 0, .slice none 0 0, .int .i64 0] 221)
 have C := ((Bo.new w (cfV y p d) 45).below A1).below A2
 have N := (Bo.new (w.alloc (.cells (cfV y p d) 45)) AN 98).below A2
 have R := Bo.new (((w.alloc (.cells (cfV y p d) 45))).alloc (.cells AN 98)) #[.int .i64 0, .int .i64 0, .slice none 0 0, .bool false, .int .i64 0, .int .i64 0, .int .i64 0, .int .i64 0, .int .i64 0, .int .i64 0, .int .i64 0, .int .i64 0, .int .i64 0, .int .i64 0, .int .i64 0, .slice none 0 0, .int .i64 0, .int .i64 0, .int .i64 0, .int .i64 0, .int .i64 0, .bool false, .int .i64 0, .int .i64 0, .int .i64 0, .slice none 0 0, .slice none 0 0, .int .i64 0] 221
 have B := A0
 replace B := B.trans (A1.mono B.size)
 replace B := B.trans (A2.mono B.size)
 simp only [World.size_alloc] at N R
 clear A0 A1 A2
 go_enter Tryz.func168, Tryz.ntmps168
 go_upto_region 1 with fail
 generalize ((((w.alloc (.cells (cfV y p d) 45))).alloc (.cells AN 98))).alloc (.cells #[.int .i64 0, .int .i64 0, .slice none 0 0, .bool false, .int .i64 0, .int .i64 0, .int .i64 0, .int .i64 0, .int .i64 0, .int .i64 0, .int .i64 0, .int .i64 0, .int .i64 0, .int .i64 0, .int .i64 0, .slice none 0 0, .int .i64 0, .int .i64 0, .int .i64 0, .int .i64 0, .int .i64 0, .bool false, .int .i64 0, .int .i64 0, .int .i64 0, .slice none 0 0, .slice none 0 0, .int .i64 0] 221) = v0 at *
 have hL0 := N.load (P := Tryz.prog) hN
 go_wp2_with (rw [hL0])
 refine (CC v0 B).mono ?_
 rintro e v1 ⟨rfl, hb⟩
 clear hL0
 have hf1 : (fiI (okX x) (cmX x ct) x.mo == 1) = false := by rw [beq_eq_false_iff_ne]; exact hfi
 replace B := B.trans (hb.mono B.size)
 replace C := C.below hb
 replace N := N.below hb
 replace R := R.below hb
 clear hb
 have hL0 := C.load (P := Tryz.prog) (show ((cfV y p d) : Array Value).size = 11 from rfl)
 go_wp2_with (rw [hL0])
 refine (CK v1 B).mono ?_
 rintro e v2 ⟨rfl, hb⟩
 clear hL0
 rw [hk]
 replace B := B.trans (hb.mono B.size)
 replace C := C.below hb
 replace N := N.below hb
 replace R := R.below hb
 clear hb
 have hL0 := N.load (P := Tryz.prog) hN
 go_wp2_with (rw [hL0])
 refine (CP hsh v2 B).mono ?_
 rintro e v3 ⟨U, rfl, OU, hb⟩
 clear hL0
 have q1C : w.heap.size < v2.heap.size := C.1
 have q1N : w.heap.size + 1 < v2.heap.size := N.1
 have q1R : w.heap.size + 2 < v2.heap.size := R.1
 have q1 : w.heap.size ≤ v2.heap.size := B.size
 have zv3 : v2.heap.size ≤ v3.heap.size := hb.size
 replace B := B.trans (hb.mono B.size)
 replace C := C.below hb
 replace N := N.below hb
 replace R := R.below hb
 clear hb
 have hU := OU.size
 have hst := storeNew (P := Tryz.prog) v3 (#[.int .i64 0, .int .i64 0, .int .i64 0, .int .i64 0, .bool false, .int .i64 0, .int .i64 0, .int .i64 0, .int .i64 0, .int .i64 0, .slice none 0 0, .slice none 0 0, .bool false, .int .i64 0, .slice none 0 0, .int .i64 0]) U 98 (by rw [hU]; rfl) OU.one
 have gOC : w.heap.size < v3.heap.size := C.1
 have gON : w.heap.size + 1 < v3.heap.size := N.1
 have gOR : w.heap.size + 2 < v3.heap.size := R.1
 have gOOU : v3.heap.size ≤ v3.heap.size := by omega
 have hb := Below.nw v3 (.cells U 98)
 have O := Bo.new v3 U 98
 go_upto_region 5 with (rw [hst])
 clear hst
 replace B := B.trans (hb.mono B.size)
 replace C := C.below hb
 replace N := N.below hb
 replace R := R.below hb
 replace OU := OU.below hb
 clear hb
 generalize v3.alloc (.cells U 98) = v4 at *
 generalize v3.heap.size = kO at *
 have zv4 : kO ≤ v4.heap.size := Nat.le_of_lt O.1
 obtain ⟨aa, ac, pa, pc, ha, hc, rfl, hbn, P1, P2, P3⟩ := OU
 clear hU
 have hL0 : (loadCells ⟨kO, 8, none⟩ 3).run Tryz.prog v4 = .ok #[.int .i64 x.te, .int .i64 x.us, .slice aa x.na ac] v4 := O.loadAt (P := Tryz.prog) 8 3 (show 8 + 3 ≤ 16 by decide)
 have hL1 : (loadCells ⟨kO, 12, none⟩ 2).run Tryz.prog v4 = .ok #[.bool x.hs, .int .i64 x.ls] v4 := O.loadAt (P := Tryz.prog) 12 2 (show 12 + 2 ≤ 16 by decide)
 have hL2 : (loadCells ⟨w.heap.size, 0, none⟩ 11).run Tryz.prog v4 = .ok #[.int .i64 y.dn, .int .i64 y.dd, .int .i64 y.li, .int .i64 y.le, .int .i64 y.pt, .int .i64 y.ag, .int .i64 y.ke, .int .i64 y.lg, .int .i64 y.s, .int .i64 y.g, .slice p y.m d] v4 := C.loadAt (P := Tryz.prog) 0 11 (show 0 + 11 ≤ 11 by decide)
 have hL3 : v4.cell? ⟨kO, 0, none⟩ = some (.int .i64 x.ni) := O.cell rfl
 have hL4 : (loadCells ⟨kO, 1, none⟩ 3).run Tryz.prog v4 = .ok #[.int .i64 x.mo, .int .i64 x.ep, .int .i64 x.si] v4 := O.loadAt (P := Tryz.prog) 1 3 (show 1 + 3 ≤ 16 by decide)
 have hL5 : (loadCells ⟨kO, 4, none⟩ 4).run Tryz.prog v4 = .ok #[.bool x.kn, .int .i64 x.lo, .int .i64 x.hi, .int .i64 x.la] v4 := O.loadAt (P := Tryz.prog) 4 4 (show 4 + 4 ≤ 16 by decide)
 have hL6 : v4.cell? ⟨kO, 11, none⟩ = some (.slice pa x.np pc) := O.cell rfl
 have hL7 : v4.cell? ⟨kO, 14, none⟩ = some (.slice ha x.nh hc) := O.cell rfl
 have hL8 : v4.cell? ⟨kO, 15, none⟩ = some (.int .i64 x.se) := O.cell rfl
 have hst : (storeCells ⟨v4.heap.size, 0, none⟩ [.int .i64 x.te, .int .i64 x.us, .slice aa x.na ac, .bool x.hs, .int .i64 x.ls, .int .i64 y.dn, .int .i64 y.dd, .int .i64 y.li, .int .i64 y.le, .int .i64 y.pt, .int .i64 y.ag, .int .i64 y.ke, .int .i64 y.lg, .int .i64 y.s, .int .i64 y.g, .slice p y.m d, .int .i64 ct, .int .i64 x.ni, .int .i64 x.mo, .int .i64 x.ep, .int .i64 x.si, .bool x.kn, .int .i64 x.lo, .int .i64 x.hi, .int .i64 x.la, .slice pa x.np pc, .slice ha x.nh hc, .int .i64 x.se] 0).run Tryz.prog (v4.alloc (.cells (#[.int .i64 0, .int .i64 0, .slice none 0 0, .bool false, .int .i64 0, .int .i64 0, .int .i64 0, .int .i64 0, .int .i64 0, .int .i64 0, .int .i64 0, .int .i64 0, .int .i64 0, .int .i64 0, .int .i64 0, .slice none 0 0, .int .i64 0, .int .i64 0, .int .i64 0, .int .i64 0, .int .i64 0, .bool false, .int .i64 0, .int .i64 0, .int .i64 0, .slice none 0 0, .slice none 0 0, .int .i64 0]) 221)) = .ok () (v4.alloc (.cells (wkV y x ct p d aa ac pa pc ha hc) 221)) := storeNew (P := Tryz.prog) v4 (#[.int .i64 0, .int .i64 0, .slice none 0 0, .bool false, .int .i64 0, .int .i64 0, .int .i64 0, .int .i64 0, .int .i64 0, .int .i64 0, .int .i64 0, .int .i64 0, .int .i64 0, .int .i64 0, .int .i64 0, .slice none 0 0, .int .i64 0, .int .i64 0, .int .i64 0, .int .i64 0, .int .i64 0, .bool false, .int .i64 0, .int .i64 0, .int .i64 0, .slice none 0 0, .slice none 0 0, .int .i64 0]) (wkV y x ct p d aa ac pa pc ha hc) 221 rfl (wkV_one _ _ _ _ _ _ _ _ _ _ _)
 have gKC : w.heap.size < v4.heap.size := C.1
 have gKN : w.heap.size + 1 < v4.heap.size := N.1
 have gKR : w.heap.size + 2 < v4.heap.size := R.1
 have gKO : kO < v4.heap.size := O.1
 have gKP1 : kO ≤ v4.heap.size := by omega
 have gKP2 : kO ≤ v4.heap.size := by omega
 have gKP3 : kO ≤ v4.heap.size := by omega
 have hb := Below.nw v4 (.cells (wkV y x ct p d aa ac pa pc ha hc) 221)
 have K := Bo.new v4 (wkV y x ct p d aa ac pa pc ha hc) 221
 go_upto_region 6 with (first | rw [hL0] | rw [hL1] | rw [hL2] | rw [hL4] | rw [hL5] | rw [hst])
 clear hL0 hL1 hL2 hL3 hL4 hL5 hL6 hL7 hL8 hst
 replace B := B.trans (hb.mono B.size)
 replace C := C.below hb
 replace N := N.below hb
 replace R := R.below hb
 replace O := O.below hb
 replace P1 := P1.below hb
 replace P2 := P2.below hb
 replace P3 := P3.below hb
 clear hb
 generalize v4.alloc (.cells (wkV y x ct p d aa ac pa pc ha hc) 221) = v5 at *
 generalize v4.heap.size = kK at *
 have zv5 : kK ≤ v5.heap.size := Nat.le_of_lt K.1
 have hU : (wkV y x ct p d aa ac pa pc ha hc).size = 28 := rfl
 have hUl : 0 + (wkV y x ct p d aa ac pa pc ha hc).toList.length ≤ 28 := by simp [hU]
 have hL0 := K.load (P := Tryz.prog) hU
 have hst := Bo.store (P := Tryz.prog) (b := 0) ((wkV y x ct p d aa ac pa pc ha hc).toList) 0 0 R rfl hUl (wkV_one _ _ _ _ _ _ _ _ _ _ _)
 have hb : Btw (w.heap.size + 2) (w.heap.size + 2 + 1) v5 _ := putA_btw ((wkV y x ct p d aa ac pa pc ha hc).toList) v5 0 (w.heap.size + 2)
 have B1 := putA_below (k := w.heap.size + 2) ((wkV y x ct p d aa ac pa pc ha hc).toList) w v5 0 B (by omega)
 have N1 := R.putW (U := (wkV y x ct p d aa ac pa pc ha hc)) hU
 go_wp2_with (first | rw [hL0] | rw [hst])
 clear hst hL0 R B
 replace C := C.btw hb (by omega)
 replace N := N.btw hb (by omega)
 replace O := O.btw hb (by omega)
 replace K := K.btw hb (by omega)
 replace P1 := P1.btw hb (by omega)
 replace P2 := P2.btw hb (by omega)
 replace P3 := P3.btw hb (by omega)
 have zv6 := hb.2.2.2.1
 clear hb
 generalize putA v5 (w.heap.size + 2) 0 ((wkV y x ct p d aa ac pa pc ha hc).toList) = v6 at *
 have B := B1
 have R := N1
 clear B1 N1
 have hL0 := R.load (P := Tryz.prog) hU
 exact bodyPost_ret (v := .tuple #[.agg (wkV y x ct p d aa ac pa pc ha hc), .int .i64 (fiI (okX x) (cmX x ct) x.mo)]) (by simp [results, Tryz.results168, go_sem]; rw [hL0]; rfl) rfl ⟨_, by rw [hst], ⟨aa, ac, pa, pc, ha, hc, rfl, hbn, P1.low (by omega), P2.low (by omega), P3.low (by omega)⟩, B⟩
end Go.Proofs.YtddijpjgkifngaaGreat
namespace Go.Proofs.YtddijpjgkifngaaGreat
open Go.RowKit
set_option linter.unusedVariables false
theorem own_baseW {w : World} {B B' : Nat} {T : TypeId} {sz n : Nat} {v : Value} {xs : List Value} (h : w.ownsRow B T sz v n xs) (hb : B' ≤ B) : w.ownsRow B' T sz v n xs := by
 refine ⟨h.1, ?_⟩
 rcases h.2 with q | ⟨g, cap, cur, e, h1, r⟩
 ·exact .inl q
 ·exact .inr ⟨g, cap, cur, e, Nat.le_trans hb h1, r⟩
theorem own_belowW {w w' : World} {B : Nat} {T : TypeId} {sz n : Nat} {v : Value} {xs : List Value} (h : w.ownsRow B T sz v n xs) (hb : Below w.heap.size w w') : w'.ownsRow B T sz v n xs := by
 refine ⟨h.1, ?_⟩
 rcases h.2 with q | ⟨g, cap, cur, e, h1, h2, h3⟩
 ·exact .inl q
 ·exact .inr ⟨g, cap, cur, e, h1, by rw [hb.block g (Array.getElem?_eq_some_iff.1 h2).1]; exact h2, h3⟩
theorem grown_belowW {w w' : World} {B : Nat} {T : TypeId} {sz n : Nat} {v : Value} {xs : List Value} (h : w.ownsRow B T sz v n xs) (hg : w.grownBy w' v.ownBlock) (hb : B ≤ w.heap.size) : Below B w w' :=
 Below.grown (Below.refl B w) hg hb (fun k hk => (World.ownsRow.lt h k hk).1)
end Go.Proofs.YtddijpjgkifngaaGreat
