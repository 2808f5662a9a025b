/- The chosen of two fractions. -/
import Derived.Test.YtblappilppfkiaaDoorF126
import Derived.Deep.RegionHeld3
import Derived.Deep.DeepCutAuto
import Derived.WalkKit
import Derived.WalkSpells
import Derived.WalkLawsBesides
import Derived.Deep.RegionHeld
namespace Go.Proofs.YtblappilppfkiaaDoor
open Go.RowKit
set_option linter.unusedVariables false
def Rx4 (w : World) (k : Nat) (a b c d : Int) : Prop := k < w.heap.size ∧ w.cell? ⟨k, 0, none⟩ = some (.int .i64 a) ∧ w.cell? ⟨k, 1, none⟩ = some (.int .i64 b) ∧ w.cell? ⟨k, 2, none⟩ = some (.int .i64 c) ∧ w.cell? ⟨k, 3, none⟩ = some (.int .i64 d) ∧ w.frozen? ⟨k, 0, none⟩ = false ∧ w.frozen? ⟨k, 1, none⟩ = false ∧ w.frozen? ⟨k, 2, none⟩ = false ∧ w.frozen? ⟨k, 3, none⟩ = false
theorem Rx4.belowB {k B : Nat} {w w' : World} {a b c d : Int} (h : Rx4 w k a b c d) (hw : Below B w w') (hk : k < B) : Rx4 w' k a b c d := by
  obtain ⟨h0, h1, h2, h3, h4, f1, f2, f3, f4⟩ := h
  exact ⟨Nat.lt_of_lt_of_le h0 hw.size, by rw [hw.cell (p := ⟨k, 0, none⟩) hk]; exact h1, by rw [hw.cell (p := ⟨k, 1, none⟩) hk]; exact h2, by rw [hw.cell (p := ⟨k, 2, none⟩) hk]; exact h3, by rw [hw.cell (p := ⟨k, 3, none⟩) hk]; exact h4, by rw [hw.frozen (p := ⟨k, 0, none⟩) hk]; exact f1, by rw [hw.frozen (p := ⟨k, 1, none⟩) hk]; exact f2, by rw [hw.frozen (p := ⟨k, 2, none⟩) hk]; exact f3, by rw [hw.frozen (p := ⟨k, 3, none⟩) hk]; exact f4⟩
theorem Rx4.below {k : Nat} {w w' : World} {a b c d : Int} (h : Rx4 w k a b c d) (hw : Below w.heap.size w w') : Rx4 w' k a b c d := h.belowB hw h.1
theorem Rx4.new (w : World) (a b c d : Int) (T : TypeId) : Rx4 (w.alloc (.cells #[.int .i64 a, .int .i64 b, .int .i64 c, .int .i64 d] T)) w.heap.size a b c d := ⟨by simp, by simp, by simp, by simp, by simp, by simp, by simp, by simp, by simp⟩
theorem Rx4.drew {k : Nat} {w : World} {a b c d : Int} (h : Rx4 w k a b c d) : Rx4 w.drew k a b c d := h
def put4 (w : World) (k : Nat) (a b c d : Int) : World := (((w.setCell ⟨k, 0, none⟩ (.int .i64 a)).setCell ⟨k, 1, none⟩ (.int .i64 b)).setCell ⟨k, 2, none⟩ (.int .i64 c)).setCell ⟨k, 3, none⟩ (.int .i64 d)
theorem Rx4.put {k : Nat} {w : World} {a b c d : Int} (h : Rx4 w k a b c d) (a' b' c' d' : Int) : Rx4 (put4 w k a' b' c' d') k a' b' c' d' := by
  obtain ⟨h0, h1, h2, h3, h4, f1, f2, f3, f4⟩ := h
  have n0 : ∀ (W : World) (i j : Nat) (u : Value), i ≠ j → (W.setCell ⟨k, i, none⟩ u).cell? ⟨k, j, none⟩ = W.cell? ⟨k, j, none⟩ := fun W i j u hij => World.cell?_setCell_other _ _ _ _ (by intro e; exact hij (congrArg Addr.off e))
  refine ⟨by simpa [put4] using h0, ?_, ?_, ?_, ?_, by simpa [put4] using f1, by simpa [put4] using f2, by simpa [put4] using f3, by simpa [put4] using f4⟩
  · unfold put4; rw [n0 _ _ _ _ (by decide), n0 _ _ _ _ (by decide), n0 _ _ _ _ (by decide)]; exact World.cell?_setCell_same _ _ _ h1
  · unfold put4; rw [n0 _ _ _ _ (by decide), n0 _ _ _ _ (by decide)]; exact World.cell?_setCell_same _ _ _ (by rw [n0 _ _ _ _ (by decide)]; exact h2)
  · unfold put4; rw [n0 _ _ _ _ (by decide)]; exact World.cell?_setCell_same _ _ _ (by rw [n0 _ _ _ _ (by decide), n0 _ _ _ _ (by decide)]; exact h3)
  · unfold put4; exact World.cell?_setCell_same _ _ _ (by rw [n0 _ _ _ _ (by decide), n0 _ _ _ _ (by decide), n0 _ _ _ _ (by decide)]; exact h4)
theorem Below.put4 {B k : Nat} {w wr : World} (h : Below B w wr) (hk : B ≤ k) (a b c d : Int) : Below B w (put4 wr k a b c d) := (((h.setCell (p := ⟨k, 0, none⟩) hk _).setCell (p := ⟨k, 1, none⟩) hk _).setCell (p := ⟨k, 2, none⟩) hk _).setCell (p := ⟨k, 3, none⟩) hk _
theorem Below.nw2 {B : Nat} {w wr : World} (h : Below B w wr) (hB : B ≤ wr.heap.size) (o : Obj) : Below B w (wr.alloc o) := h.alloc hB o
def loP (a b p q x y : Int) : Int := if cmpF a b p q < 0 then y else x
set_option maxHeartbeats 4000000 in
theorem chosenL_any (a b p q : Int) (w : World) (ha : -4000000000000 ≤ a ∧ a ≤ 4000000000000) (hb : 1 ≤ b ∧ b ≤ 4000000000000) (hp : -4000000000000 ≤ p ∧ p ≤ 4000000000000) (hq : 1 ≤ q ∧ q ≤ 4000000000000) : Calls Tryd.prog 63 #[.agg #[.int .i64 a, .int .i64 b], .agg #[.int .i64 p, .int .i64 q], .func (.func 64) #[] #[]] w fun e w' => e = .returned (.agg #[.int .i64 (loP a b p q a p), .int .i64 (loP a b p q b q)]) ∧ Below w.heap.size w w' := by
  have A0 := Below.nw w (.cells #[.int .i64 a, .int .i64 b] 27)
  have A1 := Below.nw (w.alloc (.cells #[.int .i64 a, .int .i64 b] 27)) (.cells #[.int .i64 p, .int .i64 q] 27)
  have A2 := Below.nw ((w.alloc (.cells #[.int .i64 a, .int .i64 b] 27)).alloc (.cells #[.int .i64 p, .int .i64 q] 27)) (.cells #[.int .i64 0, .int .i64 0] 27)
  have N := ((Bx2.new w (.int .i64 a) (.int .i64 b) 27).below A1).below A2
  have Q := (Bx2.new (w.alloc (.cells #[.int .i64 a, .int .i64 b] 27)) (.int .i64 p) (.int .i64 q) 27).below A2
  have R := Bx2.new ((w.alloc (.cells #[.int .i64 a, .int .i64 b] 27)).alloc (.cells #[.int .i64 p, .int .i64 q] 27)) (.int .i64 0) (.int .i64 0) 27
  have B := (A0.trans (A1.mono A0.size)).trans (A2.mono (A0.trans (A1.mono A0.size)).size)
  simp only [World.size_alloc] at Q R
  clear A0 A1 A2
  have hj : w.heap.size ≤ w.heap.size + 1 + 1 := by omega
  have C1 := fun w' => fbelow_any a b p q w' ha hb hp hq
  unfold loP
  by_cases hc : cmpF a b p q < 0
  · rw [if_pos hc, if_pos hc]
    simp only [decide_eq_true hc] at C1
    clear hc
    go_enter Tryd.func63, Tryd.ntmps63
    go_upto_region 1 with fail
    generalize (((w.alloc (.cells #[.int .i64 a, .int .i64 b] 27)).alloc (.cells #[.int .i64 p, .int .i64 q] 27)).alloc (.cells #[.int .i64 0, .int .i64 0] 27)) = v at *
    generalize w.heap.size + 1 + 1 = jr at *
    obtain ⟨n0, n1, n2, n3, n4⟩ := id N
    obtain ⟨m0, m1, m2, m3, m4⟩ := id Q
    go_wp2_with fail
    refine (C1 _).mono ?_
    rintro e v2 ⟨rfl, hbl⟩
    clear n0 n1 n2 n3 n4 m0 m1 m2 m3 m4
    replace N := N.below hbl
    replace Q := Q.below hbl
    replace R := R.below hbl
    replace B := B.trans (hbl.mono B.size)
    clear hbl
    have RR := (R.set0 (.int .i64 p)).set1 (.int .i64 q)
    have BB := (B.setCell (p := ⟨jr, 0, none⟩) hj (.int .i64 p)).setCell (p := ⟨jr, 1, none⟩) hj (.int .i64 q)
    obtain ⟨n0, n1, n2, n3, n4⟩ := id N
    obtain ⟨m0, m1, m2, m3, m4⟩ := id Q
    obtain ⟨r0, r1, r2, r3, r4⟩ := id R
    go_wp2_with fail
    clear n0 n1 n2 n3 n4 m0 m1 m2 m3 m4 r0 r1 r2 r3 r4 N Q R B
    generalize (v2.setCell ⟨jr, 0, none⟩ (.int .i64 p)).setCell ⟨jr, 1, none⟩ (.int .i64 q) = v3 at *
    obtain ⟨r0, r1, r2, r3, r4⟩ := id RR
    exact bodyPost_ret (v := (.agg #[.int .i64 p, .int .i64 q])) (by simp (maxDischargeDepth := 6) [results, Tryd.results63, go_sem, *]) rfl ⟨rfl, BB⟩
  · rw [if_neg hc, if_neg hc]
    simp only [decide_eq_false hc] at C1
    clear hc
    go_enter Tryd.func63, Tryd.ntmps63
    go_upto_region 1 with fail
    generalize (((w.alloc (.cells #[.int .i64 a, .int .i64 b] 27)).alloc (.cells #[.int .i64 p, .int .i64 q] 27)).alloc (.cells #[.int .i64 0, .int .i64 0] 27)) = v at *
    generalize w.heap.size + 1 + 1 = jr at *
    obtain ⟨n0, n1, n2, n3, n4⟩ := id N
    obtain ⟨m0, m1, m2, m3, m4⟩ := id Q
    go_wp2_with fail
    refine (C1 _).mono ?_
    rintro e v2 ⟨rfl, hbl⟩
    clear n0 n1 n2 n3 n4 m0 m1 m2 m3 m4
    replace N := N.below hbl
    replace Q := Q.below hbl
    replace R := R.below hbl
    replace B := B.trans (hbl.mono B.size)
    clear hbl
    have RR := (R.set0 (.int .i64 a)).set1 (.int .i64 b)
    have BB := (B.setCell (p := ⟨jr, 0, none⟩) hj (.int .i64 a)).setCell (p := ⟨jr, 1, none⟩) hj (.int .i64 b)
    obtain ⟨n0, n1, n2, n3, n4⟩ := id N
    obtain ⟨m0, m1, m2, m3, m4⟩ := id Q
    obtain ⟨r0, r1, r2, r3, r4⟩ := id R
    go_wp2_with fail
    clear n0 n1 n2 n3 n4 m0 m1 m2 m3 m4 r0 r1 r2 r3 r4 N Q R B
    generalize (v2.setCell ⟨jr, 0, none⟩ (.int .i64 a)).setCell ⟨jr, 1, none⟩ (.int .i64 b) = v3 at *
    obtain ⟨r0, r1, r2, r3, r4⟩ := id RR
    exact bodyPost_ret (v := (.agg #[.int .i64 a, .int .i64 b])) (by simp (maxDischargeDepth := 6) [results, Tryd.results63, go_sem, *]) rfl ⟨rfl, BB⟩

def hiP (a b p q x y : Int) : Int := if 0 < cmpF a b p q then y else x
set_option maxHeartbeats 4000000 in
theorem chosenH_any (a b p q : Int) (w : World) (ha : -4000000000000 ≤ a ∧ a ≤ 4000000000000) (hb : 1 ≤ b ∧ b ≤ 4000000000000) (hp : -4000000000000 ≤ p ∧ p ≤ 4000000000000) (hq : 1 ≤ q ∧ q ≤ 4000000000000) : Calls Tryd.prog 63 #[.agg #[.int .i64 a, .int .i64 b], .agg #[.int .i64 p, .int .i64 q], .func (.func 65) #[] #[]] w fun e w' => e = .returned (.agg #[.int .i64 (hiP a b p q a p), .int .i64 (hiP a b p q b q)]) ∧ Below w.heap.size w w' := by
  have A0 := Below.nw w (.cells #[.int .i64 a, .int .i64 b] 27)
  have A1 := Below.nw (w.alloc (.cells #[.int .i64 a, .int .i64 b] 27)) (.cells #[.int .i64 p, .int .i64 q] 27)
  have A2 := Below.nw ((w.alloc (.cells #[.int .i64 a, .int .i64 b] 27)).alloc (.cells #[.int .i64 p, .int .i64 q] 27)) (.cells #[.int .i64 0, .int .i64 0] 27)
  have N := ((Bx2.new w (.int .i64 a) (.int .i64 b) 27).below A1).below A2
  have Q := (Bx2.new (w.alloc (.cells #[.int .i64 a, .int .i64 b] 27)) (.int .i64 p) (.int .i64 q) 27).below A2
  have R := Bx2.new ((w.alloc (.cells #[.int .i64 a, .int .i64 b] 27)).alloc (.cells #[.int .i64 p, .int .i64 q] 27)) (.int .i64 0) (.int .i64 0) 27
  have B := (A0.trans (A1.mono A0.size)).trans (A2.mono (A0.trans (A1.mono A0.size)).size)
  simp only [World.size_alloc] at Q R
  clear A0 A1 A2
  have hj : w.heap.size ≤ w.heap.size + 1 + 1 := by omega
  have C1 := fun w' => fabove_any a b p q w' ha hb hp hq
  unfold hiP
  by_cases hc : 0 < cmpF a b p q
  · rw [if_pos hc, if_pos hc]
    simp only [decide_eq_true hc] at C1
    clear hc
    go_enter Tryd.func63, Tryd.ntmps63
    go_upto_region 1 with fail
    generalize (((w.alloc (.cells #[.int .i64 a, .int .i64 b] 27)).alloc (.cells #[.int .i64 p, .int .i64 q] 27)).alloc (.cells #[.int .i64 0, .int .i64 0] 27)) = v at *
    generalize w.heap.size + 1 + 1 = jr at *
    obtain ⟨n0, n1, n2, n3, n4⟩ := id N
    obtain ⟨m0, m1, m2, m3, m4⟩ := id Q
    go_wp2_with fail
    refine (C1 _).mono ?_
    rintro e v2 ⟨rfl, hbl⟩
    clear n0 n1 n2 n3 n4 m0 m1 m2 m3 m4
    replace N := N.below hbl
    replace Q := Q.below hbl
    replace R := R.below hbl
    replace B := B.trans (hbl.mono B.size)
    clear hbl
    have RR := (R.set0 (.int .i64 p)).set1 (.int .i64 q)
    have BB := (B.setCell (p := ⟨jr, 0, none⟩) hj (.int .i64 p)).setCell (p := ⟨jr, 1, none⟩) hj (.int .i64 q)
    obtain ⟨n0, n1, n2, n3, n4⟩ := id N
    obtain ⟨m0, m1, m2, m3, m4⟩ := id Q
    obtain ⟨r0, r1, r2, r3, r4⟩ := id R
    go_wp2_with fail
    clear n0 n1 n2 n3 n4 m0 m1 m2 m3 m4 r0 r1 r2 r3 r4 N Q R B
    generalize (v2.setCell ⟨jr, 0, none⟩ (.int .i64 p)).setCell ⟨jr, 1, none⟩ (.int .i64 q) = v3 at *
    obtain ⟨r0, r1, r2, r3, r4⟩ := id RR
    exact bodyPost_ret (v := (.agg #[.int .i64 p, .int .i64 q])) (by simp (maxDischargeDepth := 6) [results, Tryd.results63, go_sem, *]) rfl ⟨rfl, BB⟩
  · rw [if_neg hc, if_neg hc]
    simp only [decide_eq_false hc] at C1
    clear hc
    go_enter Tryd.func63, Tryd.ntmps63
    go_upto_region 1 with fail
    generalize (((w.alloc (.cells #[.int .i64 a, .int .i64 b] 27)).alloc (.cells #[.int .i64 p, .int .i64 q] 27)).alloc (.cells #[.int .i64 0, .int .i64 0] 27)) = v at *
    generalize w.heap.size + 1 + 1 = jr at *
    obtain ⟨n0, n1, n2, n3, n4⟩ := id N
    obtain ⟨m0, m1, m2, m3, m4⟩ := id Q
    go_wp2_with fail
    refine (C1 _).mono ?_
    rintro e v2 ⟨rfl, hbl⟩
    clear n0 n1 n2 n3 n4 m0 m1 m2 m3 m4
    replace N := N.below hbl
    replace Q := Q.below hbl
    replace R := R.below hbl
    replace B := B.trans (hbl.mono B.size)
    clear hbl
    have RR := (R.set0 (.int .i64 a)).set1 (.int .i64 b)
    have BB := (B.setCell (p := ⟨jr, 0, none⟩) hj (.int .i64 a)).setCell (p := ⟨jr, 1, none⟩) hj (.int .i64 b)
    obtain ⟨n0, n1, n2, n3, n4⟩ := id N
    obtain ⟨m0, m1, m2, m3, m4⟩ := id Q
    obtain ⟨r0, r1, r2, r3, r4⟩ := id R
    go_wp2_with fail
    clear n0 n1 n2 n3 n4 m0 m1 m2 m3 m4 r0 r1 r2 r3 r4 N Q R B
    generalize (v2.setCell ⟨jr, 0, none⟩ (.int .i64 a)).setCell ⟨jr, 1, none⟩ (.int .i64 b) = v3 at *
    obtain ⟨r0, r1, r2, r3, r4⟩ := id RR
    exact bodyPost_ret (v := (.agg #[.int .i64 a, .int .i64 b])) (by simp (maxDischargeDepth := 6) [results, Tryd.results63, go_sem, *]) rfl ⟨rfl, BB⟩
end Go.Proofs.YtblappilppfkiaaDoor
