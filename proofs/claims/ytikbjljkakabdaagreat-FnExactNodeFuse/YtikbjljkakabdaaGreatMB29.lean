/- A node while a call works on it (the program), over arrays of cells. -/
import Derived.Test.YtikbjljkakabdaaGreatMB0
import Derived.Test.YtikbjljkakabdaaGreatMB25
import Derived.Test.YtikbjljkakabdaaGreatMB28
namespace Go.Proofs.YtikbjljkakabdaaGreat
open Go.RowKit
set_option linter.unusedVariables false
set_option maxRecDepth 100000
set_option maxHeartbeats 16000000
def wkV (y : CfX) (x : NdX) (ct : Int) (p : Option Addr) (d : Nat) (aa : Option Addr) (ac : Nat) (pa : Option Addr) (pc : Nat) (ha : Option Addr) (hc : Nat) : Array Value :=
 #[.int .i64 x.te, .int .i64 x.us, .slice aa x.na ac, .bool x.hs, .int .i64 x.ls, .int .i64 y.dn, .int .i64 y.dd, .int .i64 y.li, .int .i64 y.le, .int .i64 y.pt, .int .i64 y.ag, .int .i64 y.ke, .int .i64 y.lg, .int .i64 y.s, .int .i64 y.g, .slice p y.m d, .int .i64 ct, .int .i64 x.ni, .int .i64 x.mo, .int .i64 x.ep, .int .i64 x.si, .bool x.kn, .int .i64 x.lo, .int .i64 x.hi, .int .i64 x.la, .slice pa x.np pc, .slice ha x.nh hc, .int .i64 x.se]
theorem fD (y : CfX) (x : NdX) (ct : Int) (p : Option Addr) (d : Nat) (aa : Option Addr) (ac : Nat) (pa : Option Addr) (pc : Nat) (ha : Option Addr) (hc : Nat) : ∀ u ∈ (wkV y x ct p d aa ac pa pc ha hc).toList, u.oneCell' = true := by
 show ∀ u ∈ ([.int .i64 x.te, .int .i64 x.us, .slice aa x.na ac, .bool x.hs, .int .i64 x.ls, .int .i64 y.dn, .int .i64 y.dd, .int .i64 y.li, .int .i64 y.le, .int .i64 y.pt, .int .i64 y.ag, .int .i64 y.ke, .int .i64 y.lg, .int .i64 y.s, .int .i64 y.g, .slice p y.m d, .int .i64 ct, .int .i64 x.ni, .int .i64 x.mo, .int .i64 x.ep, .int .i64 x.si, .bool x.kn, .int .i64 x.lo, .int .i64 x.hi, .int .i64 x.la, .slice pa x.np pc, .slice ha x.nh hc, .int .i64 x.se] : List Value), u.oneCell' = true
 simp only [List.forall_mem_cons]
 exact ⟨rfl, rfl, rfl, rfl, rfl, rfl, rfl, rfl, rfl, rfl, rfl, rfl, rfl, rfl, rfl, rfl, rfl, rfl, rfl, rfl, rfl, rfl, rfl, rfl, rfl, rfl, rfl, rfl, fun _ h => nomatch h⟩
def zY : CfX := ⟨0, 0, 0, 0, 0, 0, 0, 0, 0, 0, fun _ => (0, 0), 0⟩
def zWk : Array Value := wkV zY (zX 0 0 0 0 0 0) 0 none 0 none 0 none 0 none 0
theorem fE : ∀ u ∈ zWk.toList, u.oneCell' = true := fD _ _ _ _ _ _ _ _ _ _ _
theorem em : zWk.size = 28 := rfl
def WkO (w : World) (l u : Nat) (A : Array Value) (y : CfX) (x : NdX) (ct : Int) (p : Option Addr) (d : Nat) : Prop := ∃ aa ac pa pc ha hc, A = wkV y x ct p d aa ac pa pc ha hc ∧ (x.na ≤ 1048576 ∧ x.np ≤ 1048576 ∧ x.nh ≤ 1048576) ∧ Rwo w l u 88 4 aa x.na ac (aA x.AM) ∧ Rwo w l u 154 5 pa x.np pc (am x.QM) ∧ Rwo w l u 159 2 ha x.nh hc (au x.HM)
theorem WkO.below {w w' : World} {l u : Nat} {A : Array Value} {y : CfX} {x : NdX} {ct : Int} {p : Option Addr} {d : Nat} (h : WkO w l u A y x ct p d) (hb : Below w.heap.size w w') : WkO w' l u A y x ct p d := by
 obtain ⟨aa, ac, pa, pc, ha, hc, e, hl, h1, h2, h3⟩ := h
 exact ⟨aa, ac, pa, pc, ha, hc, e, hl, h1.below hb, h2.below hb, h3.below hb⟩
theorem WkO.btw {w w' : World} {l u l' u' : Nat} {A : Array Value} {y : CfX} {x : NdX} {ct : Int} {p : Option Addr} {d : Nat} (h : WkO w l u A y x ct p d) (hb : Btw l' u' w w') (ho : u ≤ l' ∨ u' ≤ l) : WkO w' l u A y x ct p d := by
 obtain ⟨aa, ac, pa, pc, ha, hc, e, hl, h1, h2, h3⟩ := h
 exact ⟨aa, ac, pa, pc, ha, hc, e, hl, h1.btw hb ho, h2.btw hb ho, h3.btw hb ho⟩
theorem WkO.low {w : World} {l u l' : Nat} {A : Array Value} {y : CfX} {x : NdX} {ct : Int} {p : Option Addr} {d : Nat} (h : WkO w l u A y x ct p d) (hl : l' ≤ l) : WkO w l' w.heap.size A y x ct p d := by
 obtain ⟨aa, ac, pa, pc, ha, hc, e, hb, h1, h2, h3⟩ := h
 exact ⟨aa, ac, pa, pc, ha, hc, e, hb, h1.low hl, h2.low hl, h3.low hl⟩
theorem WkO.size {w : World} {l u : Nat} {A : Array Value} {y : CfX} {x : NdX} {ct : Int} {p : Option Addr} {d : Nat} (h : WkO w l u A y x ct p d) : A.size = 28 := by
 obtain ⟨aa, ac, pa, pc, ha, hc, e, _⟩ := h
 rw [e]; rfl
theorem WkO.one {w : World} {l u : Nat} {A : Array Value} {y : CfX} {x : NdX} {ct : Int} {p : Option Addr} {d : Nat} (h : WkO w l u A y x ct p d) : ∀ v ∈ A.toList, v.oneCell' = true := by
 obtain ⟨aa, ac, pa, pc, ha, hc, e, _⟩ := h
 rw [e]; exact fD _ _ _ _ _ _ _ _ _ _ _
attribute [-go_sem] loadCells storeCells in
theorem nA (AC AN : Array Value) (y : CfX) (x : NdX) (ct : Int) (fit : Bool) (w : World) (HC : CfS w AC y) (HN : NdS w AN x) (hwf : wfX x) (hb : cw y x ct = 1 ∨ fit = false) :
 Calls Tryz.prog 40 #[.agg AC, .agg AN, .int .i64 ct, .bool fit] w fun e w' => e = .returned (.tuple #[.agg zWk, .int .i64 1]) ∧ Below w.heap.size w w' := by
 by_cases hfi : fiI (okX x) (cmX x ct) x.mo = 1
 ·clear hb
  have hC := HC.size
  have hN := HN.size
  have CC := fun (v : World) (h : Below w.heap.size w v) => cZ AN x ct v (HN.below h).weak hwf
  have CK := fun (v : World) (h : Below w.heap.size w v) => dz AC y v (HC.below h).weak
  have CP := fun (hs : x.na ≤ 16 ∧ x.np ≤ 8 ∧ x.nh ≤ 16) (v : World) (h : Below w.heap.size w v) => fl AN x v (HN.below h) hs
  clear hwf
  clear HC HN CP
  have A0 := Below.nw w (.cells AC 66)
  have A1 := Below.nw (w.alloc (.cells AC 66)) (.cells AN 57)
  have A2 := Below.nw (((w.alloc (.cells AC 66))).alloc (.cells AN 57)) (.cells #[.int .i64 0, .int .i64 0, .slice none 0 0, .bool false, .int .i64 0, .int .i64 0, .int .i64 0, .int .i64 0, .int .i64 0, .int .i64 0, .int .i64 0, .int .i64 0, .int .i64 0, .int .i64 0, .int .i64 0, .slice none 0 0, .int .i64 0, .int .i64 0, .int .i64 0, .int .i64 0, .int .i64 0, .bool false, .int .i64 0, .int .i64 0, .int .i64 0, .slice none 0 0, .slice none 0 0, .int .i64 0] 104)
  have C := ((Bo.new w AC 66).below A1).below A2
  have N := (Bo.new (w.alloc (.cells AC 66)) AN 57).below A2
  have R := Bo.new (((w.alloc (.cells AC 66))).alloc (.cells AN 57)) #[.int .i64 0, .int .i64 0, .slice none 0 0, .bool false, .int .i64 0, .int .i64 0, .int .i64 0, .int .i64 0, .int .i64 0, .int .i64 0, .int .i64 0, .int .i64 0, .int .i64 0, .int .i64 0, .int .i64 0, .slice none 0 0, .int .i64 0, .int .i64 0, .int .i64 0, .int .i64 0, .int .i64 0, .bool false, .int .i64 0, .int .i64 0, .int .i64 0, .slice none 0 0, .slice none 0 0, .int .i64 0] 104
  have B := A0
  replace B := B.trans (A1.mono B.size)
  replace B := B.trans (A2.mono B.size)
  simp only [World.size_alloc] at N R
  clear A0 A1 A2
  go_enter Tryz.func40, Tryz.ntmps40
  go_upto_region 1 with fail
  generalize ((((w.alloc (.cells AC 66))).alloc (.cells AN 57))).alloc (.cells #[.int .i64 0, .int .i64 0, .slice none 0 0, .bool false, .int .i64 0, .int .i64 0, .int .i64 0, .int .i64 0, .int .i64 0, .int .i64 0, .int .i64 0, .int .i64 0, .int .i64 0, .int .i64 0, .int .i64 0, .slice none 0 0, .int .i64 0, .int .i64 0, .int .i64 0, .int .i64 0, .int .i64 0, .bool false, .int .i64 0, .int .i64 0, .int .i64 0, .slice none 0 0, .slice none 0 0, .int .i64 0] 104) = v0 at *
  have hL0 := N.load (P := Tryz.prog) hN
  go_wp2_with (rw [hL0])
  refine (CC v0 B).mono ?_
  rintro e v1 ⟨rfl, hb⟩
  clear hL0
  rw [hfi]
  replace B := B.trans (hb.mono B.size)
  replace C := C.below hb
  replace N := N.below hb
  replace R := R.below hb
  clear hb
  have hU := em
  have hUl : 0 + zWk.toList.length ≤ 28 := by simp [hU]
  have hst : (storeCells ⟨w.heap.size + 2, 0, none⟩ [.int .i64 0, .int .i64 0, .slice none 0 0, .bool false, .int .i64 0, .int .i64 0, .int .i64 0, .int .i64 0, .int .i64 0, .int .i64 0, .int .i64 0, .int .i64 0, .int .i64 0, .int .i64 0, .int .i64 0, .slice none 0 0, .int .i64 0, .int .i64 0, .int .i64 0, .int .i64 0, .int .i64 0, .bool false, .int .i64 0, .int .i64 0, .int .i64 0, .slice none 0 0, .slice none 0 0, .int .i64 0] 0).run Tryz.prog v1 = .ok () (aF v1 (w.heap.size + 2) 0 (zWk.toList)) := Bo.store (P := Tryz.prog) (b := 0) (zWk.toList) 0 0 R rfl hUl fE
  have hb : Btw (w.heap.size + 2) (w.heap.size + 2 + 1) v1 _ := ay (zWk.toList) v1 0 (w.heap.size + 2)
  have B1 := an (k := w.heap.size + 2) (zWk.toList) w v1 0 B (by omega)
  have N1 := R.putW (U := zWk) hU
  go_wp2_with (rw [hst])
  clear hst  R B
  replace C := C.btw hb (by omega)
  replace N := N.btw hb (by omega)
  clear hb
  generalize aF v1 (w.heap.size + 2) 0 (zWk.toList) = v2 at *
  have B := B1
  have R := N1
  clear B1 N1
  have hL0 := R.load (P := Tryz.prog) hU
  exact bodyPost_ret (v := .tuple #[.agg zWk, .int .i64 1]) (by simp [results, Tryz.results40, go_sem]; rw [hL0]; rfl) rfl ⟨rfl, B⟩
 cases hk : dI y
 ·clear hb
  have hC := HC.size
  have hN := HN.size
  have CC := fun (v : World) (h : Below w.heap.size w v) => cZ AN x ct v (HN.below h).weak hwf
  have CK := fun (v : World) (h : Below w.heap.size w v) => dz AC y v (HC.below h).weak
  have CP := fun (hs : x.na ≤ 16 ∧ x.np ≤ 8 ∧ x.nh ≤ 16) (v : World) (h : Below w.heap.size w v) => fl AN x v (HN.below h) hs
  clear hwf
  clear HC HN CP
  have A0 := Below.nw w (.cells AC 66)
  have A1 := Below.nw (w.alloc (.cells AC 66)) (.cells AN 57)
  have A2 := Below.nw (((w.alloc (.cells AC 66))).alloc (.cells AN 57)) (.cells #[.int .i64 0, .int .i64 0, .slice none 0 0, .bool false, .int .i64 0, .int .i64 0, .int .i64 0, .int .i64 0, .int .i64 0, .int .i64 0, .int .i64 0, .int .i64 0, .int .i64 0, .int .i64 0, .int .i64 0, .slice none 0 0, .int .i64 0, .int .i64 0, .int .i64 0, .int .i64 0, .int .i64 0, .bool false, .int .i64 0, .int .i64 0, .int .i64 0, .slice none 0 0, .slice none 0 0, .int .i64 0] 104)
  have C := ((Bo.new w AC 66).below A1).below A2
  have N := (Bo.new (w.alloc (.cells AC 66)) AN 57).below A2
  have R := Bo.new (((w.alloc (.cells AC 66))).alloc (.cells AN 57)) #[.int .i64 0, .int .i64 0, .slice none 0 0, .bool false, .int .i64 0, .int .i64 0, .int .i64 0, .int .i64 0, .int .i64 0, .int .i64 0, .int .i64 0, .int .i64 0, .int .i64 0, .int .i64 0, .int .i64 0, .slice none 0 0, .int .i64 0, .int .i64 0, .int .i64 0, .int .i64 0, .int .i64 0, .bool false, .int .i64 0, .int .i64 0, .int .i64 0, .slice none 0 0, .slice none 0 0, .int .i64 0] 104
  have B := A0
  replace B := B.trans (A1.mono B.size)
  replace B := B.trans (A2.mono B.size)
  simp only [World.size_alloc] at N R
  clear A0 A1 A2
  go_enter Tryz.func40, Tryz.ntmps40
  go_upto_region 1 with fail
  generalize ((((w.alloc (.cells AC 66))).alloc (.cells AN 57))).alloc (.cells #[.int .i64 0, .int .i64 0, .slice none 0 0, .bool false, .int .i64 0, .int .i64 0, .int .i64 0, .int .i64 0, .int .i64 0, .int .i64 0, .int .i64 0, .int .i64 0, .int .i64 0, .int .i64 0, .int .i64 0, .slice none 0 0, .int .i64 0, .int .i64 0, .int .i64 0, .int .i64 0, .int .i64 0, .bool false, .int .i64 0, .int .i64 0, .int .i64 0, .slice none 0 0, .slice none 0 0, .int .i64 0] 104) = v0 at *
  have hL0 := N.load (P := Tryz.prog) hN
  go_wp2_with (rw [hL0])
  refine (CC v0 B).mono ?_
  rintro e v1 ⟨rfl, hb⟩
  clear hL0
  replace B := B.trans (hb.mono B.size)
  replace C := C.below hb
  replace N := N.below hb
  replace R := R.below hb
  clear hb
  have hf1 : (fiI (okX x) (cmX x ct) x.mo == 1) = false := by rw [beq_eq_false_iff_ne]; exact hfi
  have hL0 := C.load (P := Tryz.prog) hC
  go_wp2_with (rw [hL0])
  refine (CK v1 B).mono ?_
  rintro e v2 ⟨rfl, hb⟩
  clear hL0
  rw [hk]
  replace B := B.trans (hb.mono B.size)
  replace C := C.below hb
  replace N := N.below hb
  replace R := R.below hb
  clear hb
  have hU := em
  have hUl : 0 + zWk.toList.length ≤ 28 := by simp [hU]
  have hst : (storeCells ⟨w.heap.size + 2, 0, none⟩ [.int .i64 0, .int .i64 0, .slice none 0 0, .bool false, .int .i64 0, .int .i64 0, .int .i64 0, .int .i64 0, .int .i64 0, .int .i64 0, .int .i64 0, .int .i64 0, .int .i64 0, .int .i64 0, .int .i64 0, .slice none 0 0, .int .i64 0, .int .i64 0, .int .i64 0, .int .i64 0, .int .i64 0, .bool false, .int .i64 0, .int .i64 0, .int .i64 0, .slice none 0 0, .slice none 0 0, .int .i64 0] 0).run Tryz.prog v2 = .ok () (aF v2 (w.heap.size + 2) 0 (zWk.toList)) := Bo.store (P := Tryz.prog) (b := 0) (zWk.toList) 0 0 R rfl hUl fE
  have hb : Btw (w.heap.size + 2) (w.heap.size + 2 + 1) v2 _ := ay (zWk.toList) v2 0 (w.heap.size + 2)
  have B1 := an (k := w.heap.size + 2) (zWk.toList) w v2 0 B (by omega)
  have N1 := R.putW (U := zWk) hU
  go_wp2_with (rw [hst])
  clear hst  R B
  replace C := C.btw hb (by omega)
  replace N := N.btw hb (by omega)
  clear hb
  generalize aF v2 (w.heap.size + 2) 0 (zWk.toList) = v3 at *
  have B := B1
  have R := N1
  clear B1 N1
  have hL0 := R.load (P := Tryz.prog) hU
  exact bodyPost_ret (v := .tuple #[.agg zWk, .int .i64 1]) (by simp [results, Tryz.results40, go_sem]; rw [hL0]; rfl) rfl ⟨rfl, B⟩
 have hft : fit = false := by
  rcases hb with h | h
  ·unfold cw at h; rw [hk] at h; exact absurd h hfi
  ·exact h
 subst hft
 clear hb
 ·skip
  have hC := HC.size
  have hN := HN.size
  have CC := fun (v : World) (h : Below w.heap.size w v) => cZ AN x ct v (HN.below h).weak hwf
  have CK := fun (v : World) (h : Below w.heap.size w v) => dz AC y v (HC.below h).weak
  have CP := fun (hs : x.na ≤ 16 ∧ x.np ≤ 8 ∧ x.nh ≤ 16) (v : World) (h : Below w.heap.size w v) => fl AN x v (HN.below h) hs
  clear hwf
  clear HC HN CP
  have A0 := Below.nw w (.cells AC 66)
  have A1 := Below.nw (w.alloc (.cells AC 66)) (.cells AN 57)
  have A2 := Below.nw (((w.alloc (.cells AC 66))).alloc (.cells AN 57)) (.cells #[.int .i64 0, .int .i64 0, .slice none 0 0, .bool false, .int .i64 0, .int .i64 0, .int .i64 0, .int .i64 0, .int .i64 0, .int .i64 0, .int .i64 0, .int .i64 0, .int .i64 0, .int .i64 0, .int .i64 0, .slice none 0 0, .int .i64 0, .int .i64 0, .int .i64 0, .int .i64 0, .int .i64 0, .bool false, .int .i64 0, .int .i64 0, .int .i64 0, .slice none 0 0, .slice none 0 0, .int .i64 0] 104)
  have C := ((Bo.new w AC 66).below A1).below A2
  have N := (Bo.new (w.alloc (.cells AC 66)) AN 57).below A2
  have R := Bo.new (((w.alloc (.cells AC 66))).alloc (.cells AN 57)) #[.int .i64 0, .int .i64 0, .slice none 0 0, .bool false, .int .i64 0, .int .i64 0, .int .i64 0, .int .i64 0, .int .i64 0, .int .i64 0, .int .i64 0, .int .i64 0, .int .i64 0, .int .i64 0, .int .i64 0, .slice none 0 0, .int .i64 0, .int .i64 0, .int .i64 0, .int .i64 0, .int .i64 0, .bool false, .int .i64 0, .int .i64 0, .int .i64 0, .slice none 0 0, .slice none 0 0, .int .i64 0] 104
  have B := A0
  replace B := B.trans (A1.mono B.size)
  replace B := B.trans (A2.mono B.size)
  simp only [World.size_alloc] at N R
  clear A0 A1 A2
  go_enter Tryz.func40, Tryz.ntmps40
  go_upto_region 1 with fail
  generalize ((((w.alloc (.cells AC 66))).alloc (.cells AN 57))).alloc (.cells #[.int .i64 0, .int .i64 0, .slice none 0 0, .bool false, .int .i64 0, .int .i64 0, .int .i64 0, .int .i64 0, .int .i64 0, .int .i64 0, .int .i64 0, .int .i64 0, .int .i64 0, .int .i64 0, .int .i64 0, .slice none 0 0, .int .i64 0, .int .i64 0, .int .i64 0, .int .i64 0, .int .i64 0, .bool false, .int .i64 0, .int .i64 0, .int .i64 0, .slice none 0 0, .slice none 0 0, .int .i64 0] 104) = v0 at *
  have hL0 := N.load (P := Tryz.prog) hN
  go_wp2_with (rw [hL0])
  refine (CC v0 B).mono ?_
  rintro e v1 ⟨rfl, hb⟩
  clear hL0
  replace B := B.trans (hb.mono B.size)
  replace C := C.below hb
  replace N := N.below hb
  replace R := R.below hb
  clear hb
  have hf1 : (fiI (okX x) (cmX x ct) x.mo == 1) = false := by rw [beq_eq_false_iff_ne]; exact hfi
  have hL0 := C.load (P := Tryz.prog) hC
  go_wp2_with (rw [hL0])
  refine (CK v1 B).mono ?_
  rintro e v2 ⟨rfl, hb⟩
  clear hL0
  rw [hk]
  replace B := B.trans (hb.mono B.size)
  replace C := C.below hb
  replace N := N.below hb
  replace R := R.below hb
  clear hb
  have hU := em
  have hUl : 0 + zWk.toList.length ≤ 28 := by simp [hU]
  have hst : (storeCells ⟨w.heap.size + 2, 0, none⟩ [.int .i64 0, .int .i64 0, .slice none 0 0, .bool false, .int .i64 0, .int .i64 0, .int .i64 0, .int .i64 0, .int .i64 0, .int .i64 0, .int .i64 0, .int .i64 0, .int .i64 0, .int .i64 0, .int .i64 0, .slice none 0 0, .int .i64 0, .int .i64 0, .int .i64 0, .int .i64 0, .int .i64 0, .bool false, .int .i64 0, .int .i64 0, .int .i64 0, .slice none 0 0, .slice none 0 0, .int .i64 0] 0).run Tryz.prog v2 = .ok () (aF v2 (w.heap.size + 2) 0 (zWk.toList)) := Bo.store (P := Tryz.prog) (b := 0) (zWk.toList) 0 0 R rfl hUl fE
  have hb : Btw (w.heap.size + 2) (w.heap.size + 2 + 1) v2 _ := ay (zWk.toList) v2 0 (w.heap.size + 2)
  have B1 := an (k := w.heap.size + 2) (zWk.toList) w v2 0 B (by omega)
  have N1 := R.putW (U := zWk) hU
  go_wp2_with (rw [hst])
  clear hst  R B
  replace C := C.btw hb (by omega)
  replace N := N.btw hb (by omega)
  clear hb
  generalize aF v2 (w.heap.size + 2) 0 (zWk.toList) = v3 at *
  have B := B1
  have R := N1
  clear B1 N1
  have hL0 := R.load (P := Tryz.prog) hU
  exact bodyPost_ret (v := .tuple #[.agg zWk, .int .i64 1]) (by simp [results, Tryz.results40, go_sem]; rw [hL0]; rfl) rfl ⟨rfl, B⟩
attribute [-go_sem] loadCells storeCells in
theorem iH (AC AN : Array Value) (y : CfX) (x : NdX) (ct : Int) (p : Option Addr) (d : Nat) (w : World) (HC : CfS w AC y) (HN : NdS w AN x) (hwf : wfX x) (hpd : AC = cfV y p d) (hok : okX x = true) (hs1 : cw y x ct ≠ 1) :
 Calls Tryz.prog 40 #[.agg AC, .agg AN, .int .i64 ct, .bool true] w fun e w' => ∃ R, e = .returned (.tuple #[.agg R, .int .i64 (cw y x ct)]) ∧ WkO w' w.heap.size w'.heap.size R y x ct p d ∧ Below w.heap.size w w' := by
 have hsh := dC hok
 have hk : dI y = true := by
  cases h : dI y
  ·exact absurd (by unfold cw; rw [h]) hs1
  ·rfl
 have hst : cw y x ct = fiI (okX x) (cmX x ct) x.mo := by unfold cw; rw [hk]
 have hfi : fiI (okX x) (cmX x ct) x.mo ≠ 1 := by rw [← hst]; exact hs1
 clear hs1 hok
 have hN := HN.size
 have CC := fun (v : World) (h : Below w.heap.size w v) => cZ AN x ct v (HN.below h).weak hwf
 have CK := fun (v : World) (h : Below w.heap.size w v) => dz AC y v (HC.below h).weak
 have CP := fun (hs : x.na ≤ 16 ∧ x.np ≤ 8 ∧ x.nh ≤ 16) (v : World) (h : Below w.heap.size w v) => fl AN x v (HN.below h) hs
 clear hwf
 subst hpd
 clear HC HN
 have A0 := Below.nw w (.cells (cfV y p d) 66)
 have A1 := Below.nw (w.alloc (.cells (cfV y p d) 66)) (.cells AN 57)
 have A2 := Below.nw (((w.alloc (.cells (cfV y p d) 66))).alloc (.cells AN 57)) (.cells #[.int .i64 0, .int .i64 0, .slice none 0 0, .bool false, .int .i64 0, .int .i64 0, .int .i64 0, .int .i64 0, .int .i64 0, .int .i64 0, .int .i64 0, .int .i64 0, .int .i64 0, .int .i64 0, .int .i64 0, .slice none 0 0, .int .i64 0, .int .i64 0, .int .i64 0, .int .i64 0, .int .i64 0, .bool false, .int .i64 0, .int .i64 0, .int .i64 0, .slice none 0 0, .slice none 0 0, .int .i64 0] 104)
 have C := ((Bo.new w (cfV y p d) 66).below A1).below A2
 have N := (Bo.new (w.alloc (.cells (cfV y p d) 66)) AN 57).below A2
 have R := Bo.new (((w.alloc (.cells (cfV y p d) 66))).alloc (.cells AN 57)) #[.int .i64 0, .int .i64 0, .slice none 0 0, .bool false, .int .i64 0, .int .i64 0, .int .i64 0, .int .i64 0, .int .i64 0, .int .i64 0, .int .i64 0, .int .i64 0, .int .i64 0, .int .i64 0, .int .i64 0, .slice none 0 0, .int .i64 0, .int .i64 0, .int .i64 0, .int .i64 0, .int .i64 0, .bool false, .int .i64 0, .int .i64 0, .int .i64 0, .slice none 0 0, .slice none 0 0, .int .i64 0] 104
 have B := A0
 replace B := B.trans (A1.mono B.size)
 replace B := B.trans (A2.mono B.size)
 simp only [World.size_alloc] at N R
 clear A0 A1 A2
 go_enter Tryz.func40, Tryz.ntmps40
 go_upto_region 1 with fail
 generalize ((((w.alloc (.cells (cfV y p d) 66))).alloc (.cells AN 57))).alloc (.cells #[.int .i64 0, .int .i64 0, .slice none 0 0, .bool false, .int .i64 0, .int .i64 0, .int .i64 0, .int .i64 0, .int .i64 0, .int .i64 0, .int .i64 0, .int .i64 0, .int .i64 0, .int .i64 0, .int .i64 0, .slice none 0 0, .int .i64 0, .int .i64 0, .int .i64 0, .int .i64 0, .int .i64 0, .bool false, .int .i64 0, .int .i64 0, .int .i64 0, .slice none 0 0, .slice none 0 0, .int .i64 0] 104) = v0 at *
 have hL0 := N.load (P := Tryz.prog) hN
 go_wp2_with (rw [hL0])
 refine (CC v0 B).mono ?_
 rintro e v1 ⟨rfl, hb⟩
 clear hL0
 have hf1 : (fiI (okX x) (cmX x ct) x.mo == 1) = false := by rw [beq_eq_false_iff_ne]; exact hfi
 replace B := B.trans (hb.mono B.size)
 replace C := C.below hb
 replace N := N.below hb
 replace R := R.below hb
 clear hb
 have hL0 := C.load (P := Tryz.prog) (show ((cfV y p d) : Array Value).size = 11 from rfl)
 go_wp2_with (rw [hL0])
 refine (CK v1 B).mono ?_
 rintro e v2 ⟨rfl, hb⟩
 clear hL0
 rw [hk]
 replace B := B.trans (hb.mono B.size)
 replace C := C.below hb
 replace N := N.below hb
 replace R := R.below hb
 clear hb
 have hL0 := N.load (P := Tryz.prog) hN
 go_wp2_with (rw [hL0])
 refine (CP hsh v2 B).mono ?_
 rintro e v3 ⟨U, rfl, OU, hb⟩
 clear hL0
 have q1C : w.heap.size < v2.heap.size := C.1
 have q1N : w.heap.size + 1 < v2.heap.size := N.1
 have q1R : w.heap.size + 2 < v2.heap.size := R.1
 have q1 : w.heap.size ≤ v2.heap.size := B.size
 have zv3 : v2.heap.size ≤ v3.heap.size := hb.size
 replace B := B.trans (hb.mono B.size)
 replace C := C.below hb
 replace N := N.below hb
 replace R := R.below hb
 clear hb
 have hU := OU.size
 have hst := bg (P := Tryz.prog) v3 (#[.int .i64 0, .int .i64 0, .int .i64 0, .int .i64 0, .bool false, .int .i64 0, .int .i64 0, .int .i64 0, .int .i64 0, .int .i64 0, .slice none 0 0, .slice none 0 0, .bool false, .int .i64 0, .slice none 0 0, .int .i64 0]) U 57 (by rw [hU]; rfl) OU.one
 have gOC : w.heap.size < v3.heap.size := C.1
 have gON : w.heap.size + 1 < v3.heap.size := N.1
 have gOR : w.heap.size + 2 < v3.heap.size := R.1
 have gOOU : v3.heap.size ≤ v3.heap.size := by omega
 have hb := Below.nw v3 (.cells U 57)
 have O := Bo.new v3 U 57
 go_upto_region 5 with (rw [hst])
 clear hst
 replace B := B.trans (hb.mono B.size)
 replace C := C.below hb
 replace N := N.below hb
 replace R := R.below hb
 replace OU := OU.below hb
 clear hb
 generalize v3.alloc (.cells U 57) = v4 at *
 generalize v3.heap.size = kO at *
 have zv4 : kO ≤ v4.heap.size := Nat.le_of_lt O.1
 obtain ⟨aa, ac, pa, pc, ha, hc, rfl, hbn, P1, P2, P3⟩ := OU
 clear hU
 have hL0 : (loadCells ⟨kO, 8, none⟩ 3).run Tryz.prog v4 = .ok #[.int .i64 x.te, .int .i64 x.us, .slice aa x.na ac] v4 := O.loadAt (P := Tryz.prog) 8 3 (show 8 + 3 ≤ 16 by decide)
 have hL1 : (loadCells ⟨kO, 12, none⟩ 2).run Tryz.prog v4 = .ok #[.bool x.hs, .int .i64 x.ls] v4 := O.loadAt (P := Tryz.prog) 12 2 (show 12 + 2 ≤ 16 by decide)
 have hL2 : (loadCells ⟨w.heap.size, 0, none⟩ 11).run Tryz.prog v4 = .ok #[.int .i64 y.dn, .int .i64 y.dd, .int .i64 y.li, .int .i64 y.le, .int .i64 y.pt, .int .i64 y.ag, .int .i64 y.ke, .int .i64 y.lg, .int .i64 y.s, .int .i64 y.g, .slice p y.m d] v4 := C.loadAt (P := Tryz.prog) 0 11 (show 0 + 11 ≤ 11 by decide)
 have hL3 : v4.cell? ⟨kO, 0, none⟩ = some (.int .i64 x.ni) := O.cell rfl
 have hL4 : (loadCells ⟨kO, 1, none⟩ 3).run Tryz.prog v4 = .ok #[.int .i64 x.mo, .int .i64 x.ep, .int .i64 x.si] v4 := O.loadAt (P := Tryz.prog) 1 3 (show 1 + 3 ≤ 16 by decide)
 have hL5 : (loadCells ⟨kO, 4, none⟩ 4).run Tryz.prog v4 = .ok #[.bool x.kn, .int .i64 x.lo, .int .i64 x.hi, .int .i64 x.la] v4 := O.loadAt (P := Tryz.prog) 4 4 (show 4 + 4 ≤ 16 by decide)
 have hL6 : v4.cell? ⟨kO, 11, none⟩ = some (.slice pa x.np pc) := O.cell rfl
 have hL7 : v4.cell? ⟨kO, 14, none⟩ = some (.slice ha x.nh hc) := O.cell rfl
 have hL8 : v4.cell? ⟨kO, 15, none⟩ = some (.int .i64 x.se) := O.cell rfl
 have hst : (storeCells ⟨v4.heap.size, 0, none⟩ [.int .i64 x.te, .int .i64 x.us, .slice aa x.na ac, .bool x.hs, .int .i64 x.ls, .int .i64 y.dn, .int .i64 y.dd, .int .i64 y.li, .int .i64 y.le, .int .i64 y.pt, .int .i64 y.ag, .int .i64 y.ke, .int .i64 y.lg, .int .i64 y.s, .int .i64 y.g, .slice p y.m d, .int .i64 ct, .int .i64 x.ni, .int .i64 x.mo, .int .i64 x.ep, .int .i64 x.si, .bool x.kn, .int .i64 x.lo, .int .i64 x.hi, .int .i64 x.la, .slice pa x.np pc, .slice ha x.nh hc, .int .i64 x.se] 0).run Tryz.prog (v4.alloc (.cells (#[.int .i64 0, .int .i64 0, .slice none 0 0, .bool false, .int .i64 0, .int .i64 0, .int .i64 0, .int .i64 0, .int .i64 0, .int .i64 0, .int .i64 0, .int .i64 0, .int .i64 0, .int .i64 0, .int .i64 0, .slice none 0 0, .int .i64 0, .int .i64 0, .int .i64 0, .int .i64 0, .int .i64 0, .bool false, .int .i64 0, .int .i64 0, .int .i64 0, .slice none 0 0, .slice none 0 0, .int .i64 0]) 104)) = .ok () (v4.alloc (.cells (wkV y x ct p d aa ac pa pc ha hc) 104)) := bg (P := Tryz.prog) v4 (#[.int .i64 0, .int .i64 0, .slice none 0 0, .bool false, .int .i64 0, .int .i64 0, .int .i64 0, .int .i64 0, .int .i64 0, .int .i64 0, .int .i64 0, .int .i64 0, .int .i64 0, .int .i64 0, .int .i64 0, .slice none 0 0, .int .i64 0, .int .i64 0, .int .i64 0, .int .i64 0, .int .i64 0, .bool false, .int .i64 0, .int .i64 0, .int .i64 0, .slice none 0 0, .slice none 0 0, .int .i64 0]) (wkV y x ct p d aa ac pa pc ha hc) 104 rfl (fD _ _ _ _ _ _ _ _ _ _ _)
 have gKC : w.heap.size < v4.heap.size := C.1
 have gKN : w.heap.size + 1 < v4.heap.size := N.1
 have gKR : w.heap.size + 2 < v4.heap.size := R.1
 have gKO : kO < v4.heap.size := O.1
 have gKP1 : kO ≤ v4.heap.size := by omega
 have gKP2 : kO ≤ v4.heap.size := by omega
 have gKP3 : kO ≤ v4.heap.size := by omega
 have hb := Below.nw v4 (.cells (wkV y x ct p d aa ac pa pc ha hc) 104)
 have K := Bo.new v4 (wkV y x ct p d aa ac pa pc ha hc) 104
 go_upto_region 6 with (first | rw [hL0] | rw [hL1] | rw [hL2] | rw [hL4] | rw [hL5] | rw [hst])
 clear hL0 hL1 hL2 hL3 hL4 hL5 hL6 hL7 hL8 hst
 replace B := B.trans (hb.mono B.size)
 replace C := C.below hb
 replace N := N.below hb
 replace R := R.below hb
 replace O := O.below hb
 replace P1 := P1.below hb
 replace P2 := P2.below hb
 replace P3 := P3.below hb
 clear hb
 generalize v4.alloc (.cells (wkV y x ct p d aa ac pa pc ha hc) 104) = v5 at *
 generalize v4.heap.size = kK at *
 have zv5 : kK ≤ v5.heap.size := Nat.le_of_lt K.1
 have hU : (wkV y x ct p d aa ac pa pc ha hc).size = 28 := rfl
 have hUl : 0 + (wkV y x ct p d aa ac pa pc ha hc).toList.length ≤ 28 := by simp [hU]
 have hL0 := K.load (P := Tryz.prog) hU
 have hst := Bo.store (P := Tryz.prog) (b := 0) ((wkV y x ct p d aa ac pa pc ha hc).toList) 0 0 R rfl hUl (fD _ _ _ _ _ _ _ _ _ _ _)
 have hb : Btw (w.heap.size + 2) (w.heap.size + 2 + 1) v5 _ := ay ((wkV y x ct p d aa ac pa pc ha hc).toList) v5 0 (w.heap.size + 2)
 have B1 := an (k := w.heap.size + 2) ((wkV y x ct p d aa ac pa pc ha hc).toList) w v5 0 B (by omega)
 have N1 := R.putW (U := (wkV y x ct p d aa ac pa pc ha hc)) hU
 go_wp2_with (first | rw [hL0] | rw [hst])
 clear hst hL0 R B
 replace C := C.btw hb (by omega)
 replace N := N.btw hb (by omega)
 replace O := O.btw hb (by omega)
 replace K := K.btw hb (by omega)
 replace P1 := P1.btw hb (by omega)
 replace P2 := P2.btw hb (by omega)
 replace P3 := P3.btw hb (by omega)
 have zv6 := hb.2.2.2.1
 clear hb
 generalize aF v5 (w.heap.size + 2) 0 ((wkV y x ct p d aa ac pa pc ha hc).toList) = v6 at *
 have B := B1
 have R := N1
 clear B1 N1
 have hL0 := R.load (P := Tryz.prog) hU
 exact bodyPost_ret (v := .tuple #[.agg (wkV y x ct p d aa ac pa pc ha hc), .int .i64 (fiI (okX x) (cmX x ct) x.mo)]) (by simp [results, Tryz.results40, go_sem]; rw [hL0]; rfl) rfl ⟨_, by rw [hst], ⟨aa, ac, pa, pc, ha, hc, rfl, hbn, P1.low (by omega), P2.low (by omega), P3.low (by omega)⟩, B⟩
attribute [-go_sem] loadCells storeCells in
theorem nz (y : CfX) (x : NdX) (ct : Int) (p : Option Addr) (d : Nat) (aa : Option Addr) (ac : Nat) (pa : Option Addr) (pc : Nat) (ha : Option Addr) (hc k : Nat) (w : World) (HK : Bo w k (wkV y x ct p d aa ac pa pc ha hc)) :
 Calls Tryz.prog 41 #[.pointer (some ⟨k, 0, none⟩)] w fun e w' => e = .returned (.agg (ndV x aa ac pa pc ha hc)) ∧ Below w.heap.size w w' := by
 have A0 := Below.nw w (.cells #[.int .i64 0, .int .i64 0, .int .i64 0, .int .i64 0, .bool false, .int .i64 0, .int .i64 0, .int .i64 0, .int .i64 0, .int .i64 0, .slice none 0 0, .slice none 0 0, .bool false, .int .i64 0, .slice none 0 0, .int .i64 0] 57)
 have R := Bo.new w #[.int .i64 0, .int .i64 0, .int .i64 0, .int .i64 0, .bool false, .int .i64 0, .int .i64 0, .int .i64 0, .int .i64 0, .int .i64 0, .slice none 0 0, .slice none 0 0, .bool false, .int .i64 0, .slice none 0 0, .int .i64 0] 57
 have K := HK.below A0
 have HK0 : Hid (Bo w k (wkV y x ct p d aa ac pa pc ha hc)) := HK
 have hk := HK.1
 have B := A0
 clear A0 HK
 go_enter Tryz.func41, Tryz.ntmps41
 go_upto_region 1 with fail
 generalize w.alloc (.cells #[.int .i64 0, .int .i64 0, .int .i64 0, .int .i64 0, .bool false, .int .i64 0, .int .i64 0, .int .i64 0, .int .i64 0, .int .i64 0, .slice none 0 0, .slice none 0 0, .bool false, .int .i64 0, .slice none 0 0, .int .i64 0] 57) = v0 at *
 have SK : Hid (∀ w', Below w.heap.size w w' → (fun w' => w'.cell? ⟨k, 17, none⟩ = some (.int .i64 x.ni) ∧ (loadCells ⟨k, 18, none⟩ 3).run Tryz.prog w' = .ok #[.int .i64 x.mo, .int .i64 x.ep, .int .i64 x.si] w' ∧ (loadCells ⟨k, 21, none⟩ 4).run Tryz.prog w' = .ok #[.bool x.kn, .int .i64 x.lo, .int .i64 x.hi, .int .i64 x.la] w' ∧ (loadCells ⟨k, 0, none⟩ 3).run Tryz.prog w' = .ok #[.int .i64 x.te, .int .i64 x.us, .slice aa x.na ac] w' ∧ w'.cell? ⟨k, 25, none⟩ = some (.slice pa x.np pc) ∧ (loadCells ⟨k, 3, none⟩ 2).run Tryz.prog w' = .ok #[.bool x.hs, .int .i64 x.ls] w' ∧ w'.cell? ⟨k, 26, none⟩ = some (.slice ha x.nh hc) ∧ w'.cell? ⟨k, 27, none⟩ = some (.int .i64 x.se)) w') := fun w' hw => ⟨(HK0.out.below hw).cell rfl, (HK0.out.below hw).loadAt (P := Tryz.prog) 18 3 (show 18 + 3 ≤ 28 by decide), (HK0.out.below hw).loadAt (P := Tryz.prog) 21 4 (show 21 + 4 ≤ 28 by decide), (HK0.out.below hw).loadAt (P := Tryz.prog) 0 3 (show 0 + 3 ≤ 28 by decide), (HK0.out.below hw).cell rfl, (HK0.out.below hw).loadAt (P := Tryz.prog) 3 2 (show 3 + 2 ≤ 28 by decide), (HK0.out.below hw).cell rfl, (HK0.out.below hw).cell rfl⟩
 refine wp_region_held_drew (S := (fun w' => w'.cell? ⟨k, 17, none⟩ = some (.int .i64 x.ni) ∧ (loadCells ⟨k, 18, none⟩ 3).run Tryz.prog w' = .ok #[.int .i64 x.mo, .int .i64 x.ep, .int .i64 x.si] w' ∧ (loadCells ⟨k, 21, none⟩ 4).run Tryz.prog w' = .ok #[.bool x.kn, .int .i64 x.lo, .int .i64 x.hi, .int .i64 x.la] w' ∧ (loadCells ⟨k, 0, none⟩ 3).run Tryz.prog w' = .ok #[.int .i64 x.te, .int .i64 x.us, .slice aa x.na ac] w' ∧ w'.cell? ⟨k, 25, none⟩ = some (.slice pa x.np pc) ∧ (loadCells ⟨k, 3, none⟩ 2).run Tryz.prog w' = .ok #[.bool x.hs, .int .i64 x.ls] w' ∧ w'.cell? ⟨k, 26, none⟩ = some (.slice ha x.nh hc) ∧ w'.cell? ⟨k, 27, none⟩ = some (.int .i64 x.se))) (by kernel_rfl) ?_ (fun hHeld => ?_)
 ·first | exact SK.out _ B1 | exact SK.out _ XF | exact SK.out _ (B.trans ((Below.drew (Below.refl _ _)).mono B.size))
 have XB : Below v0.heap.size v0 v0.drew := Below.drew (Below.refl _ _)
 have R1 := R.below XB
 have B1 := B.trans (XB.mono B.size)
 generalize v0.drew = vx at *
 have hU : (ndV x aa ac pa pc ha hc).size = 16 := rfl
 have hst : (storeCells ⟨w.heap.size, 0, none⟩ [.int .i64 x.ni, .int .i64 x.mo, .int .i64 x.ep, .int .i64 x.si, .bool x.kn, .int .i64 x.lo, .int .i64 x.hi, .int .i64 x.la, .int .i64 x.te, .int .i64 x.us, .slice aa x.na ac, .slice pa x.np pc, .bool x.hs, .int .i64 x.ls, .slice ha x.nh hc, .int .i64 x.se] 0).run Tryz.prog vx = .ok () (aF vx w.heap.size 0 (ndV x aa ac pa pc ha hc).toList) := Bo.store (P := Tryz.prog) (b := 0) (ndV x aa ac pa pc ha hc).toList 0 0 R1 rfl (by simp [hU]) (de _ _ _ _ _ _ _)
 have XF : Below w.heap.size w (aF vx w.heap.size 0 (ndV x aa ac pa pc ha hc).toList) := an (k := w.heap.size) (ndV x aa ac pa pc ha hc).toList w vx 0 B1 (Nat.le_refl _)
 have RF := R1.putW (U := (ndV x aa ac pa pc ha hc)) hU
 generalize aF vx w.heap.size 0 (ndV x aa ac pa pc ha hc).toList = vf at *
 refine zT8 0 ?_
 refine zT8 8 ?_
 refine zT8 16 ?_
 refine zT8 24 ?_
 refine zTk 32 ?_
 refine zQ 33 fun K hK => ?_
 go_simp
 refine hK.out _ _ ?_ (fun hHeld => ?_)
 ·first | exact SK.out _ B1 | exact SK.out _ XF | exact SK.out _ (B.trans ((Below.drew (Below.refl _ _)).mono B.size))
 clear hK K
 (try simp only [zA])
 refine wpAnyH_done (by kernel_rfl) ?_ _
 go_wp2_with (rw [hst])
 have hL0 := RF.load (P := Tryz.prog) hU
 exact bodyPost_ret (v := .agg (ndV x aa ac pa pc ha hc)) (by simp [results, Tryz.results41, go_sem]; rw [hL0]; rfl) rfl ⟨rfl, XF⟩
end Go.Proofs.YtikbjljkakabdaaGreat
