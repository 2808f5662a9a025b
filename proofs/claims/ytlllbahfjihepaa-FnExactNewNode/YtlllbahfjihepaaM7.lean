/- Contracts of OscOk, and the walk of its exact law. A local interval in memory; contracts of LocalOk, and the walk of its exact law. A configuration, a node: boxes, and which are right. CfgOk in the specification. Plans: what the laws make of them. -/
import Derived.WalkKit
import Derived.WalkSpells
import Derived.WalkLawsBesides
import Derived.Deep.RegionHeld
import Derived.Deep.RegionHeld3
import Derived.Test.YtlllbahfjihepaaM1
import Derived.Test.YtlllbahfjihepaaM4
import Derived.Test.YtlllbahfjihepaaM5
import Derived.Test.YtlllbahfjihepaaM6
namespace Go.Proofs.Ytlllbahfjihepaa
open Go.RowKit
set_option linter.unusedVariables false
def Bx (w : World) (k : Nat) (x y : Int) : Prop := k < w.heap.size ∧ w.cell? ⟨k, 0, none⟩ = some (.int .i64 x) ∧ w.cell? ⟨k, 1, none⟩ = some (.int .i64 y) ∧ w.frozen? ⟨k, 0, none⟩ = false ∧ w.frozen? ⟨k, 1, none⟩ = false
theorem Bx.belowB {k B : Nat} {w w' : World} {x y : Int} (h : Bx w k x y) (hw : Below B w w') (hk : k < B) : Bx w' k x y :=
  ⟨Nat.lt_of_lt_of_le h.1 hw.size, by rw [hw.cell (p := ⟨k, 0, none⟩) hk]; exact h.2.1, by rw [hw.cell (p := ⟨k, 1, none⟩) hk]; exact h.2.2.1, by rw [hw.frozen (p := ⟨k, 0, none⟩) hk]; exact h.2.2.2.1, by rw [hw.frozen (p := ⟨k, 1, none⟩) hk]; exact h.2.2.2.2⟩
theorem Bx.below {k : Nat} {w w' : World} {x y : Int} (h : Bx w k x y) (hw : Below w.heap.size w w') : Bx w' k x y := h.belowB hw h.1
theorem Bx.alloc {k : Nat} {w : World} {x y : Int} (h : Bx w k x y) (o : Obj) : Bx (w.alloc o) k x y := h.below ((Below.refl _ _).alloc (Nat.le_refl _) _)
theorem Bx.new (w : World) (x y : Int) (T : TypeId) : Bx (w.alloc (.cells #[.int .i64 x, .int .i64 y] T)) w.heap.size x y := ⟨by simp, by simp, by simp, by simp, by simp⟩
theorem Bx.setO {k j : Nat} {w : World} {x y : Int} (h : Bx w k x y) (hk : j ≠ k) (o : Nat) (u : Value) : Bx (w.setCell ⟨j, o, none⟩ u) k x y := by
  have hne : ∀ q, (⟨j, o, none⟩ : Addr) ≠ ⟨k, q, none⟩ := fun q e => hk (congrArg Addr.block e)
  exact ⟨by simpa using h.1, by rw [World.cell?_setCell_other _ _ _ _ (hne _)]; exact h.2.1, by rw [World.cell?_setCell_other _ _ _ _ (hne _)]; exact h.2.2.1, by simpa using h.2.2.2.1, by simpa using h.2.2.2.2⟩
theorem Bx.drew {k : Nat} {w : World} {x y : Int} (h : Bx w k x y) : Bx w.drew k x y := h
theorem Below.alc (w : World) (o : Obj) : Below w.heap.size w (w.alloc o) := (Below.refl _ _).alloc (Nat.le_refl _) _
def Box4 (w : World) (k : Nat) (a b c d : Int) : Prop := k < w.heap.size ∧ w.cell? ⟨k, 0, none⟩ = some (.int .i64 a) ∧ w.cell? ⟨k, 1, none⟩ = some (.int .i64 b) ∧ w.cell? ⟨k, 2, none⟩ = some (.int .i64 c) ∧ w.cell? ⟨k, 3, none⟩ = some (.int .i64 d) ∧ w.frozen? ⟨k, 0, none⟩ = false ∧ w.frozen? ⟨k, 1, none⟩ = false ∧ w.frozen? ⟨k, 2, none⟩ = false ∧ w.frozen? ⟨k, 3, none⟩ = false
theorem Box4.belowB {k B : Nat} {w w' : World} {a b c d : Int} (h : Box4 w k a b c d) (hw : Below B w w') (hk : k < B) : Box4 w' k a b c d := by
  obtain ⟨h0, h1, h2, h3, h4, f1, f2, f3, f4⟩ := h
  exact ⟨Nat.lt_of_lt_of_le h0 hw.size, by rw [hw.cell (p := ⟨k, 0, none⟩) hk]; exact h1, by rw [hw.cell (p := ⟨k, 1, none⟩) hk]; exact h2, by rw [hw.cell (p := ⟨k, 2, none⟩) hk]; exact h3, by rw [hw.cell (p := ⟨k, 3, none⟩) hk]; exact h4, by rw [hw.frozen (p := ⟨k, 0, none⟩) hk]; exact f1, by rw [hw.frozen (p := ⟨k, 1, none⟩) hk]; exact f2, by rw [hw.frozen (p := ⟨k, 2, none⟩) hk]; exact f3, by rw [hw.frozen (p := ⟨k, 3, none⟩) hk]; exact f4⟩
theorem Box4.below {k : Nat} {w w' : World} {a b c d : Int} (h : Box4 w k a b c d) (hw : Below w.heap.size w w') : Box4 w' k a b c d := h.belowB hw h.1
theorem Box4.alloc {k : Nat} {w : World} {a b c d : Int} (h : Box4 w k a b c d) (o : Obj) : Box4 (w.alloc o) k a b c d := h.below ((Below.refl _ _).alloc (Nat.le_refl _) _)
theorem Box4.new (w : World) (a b c d : Int) (T : TypeId) : Box4 (w.alloc (.cells #[.int .i64 a, .int .i64 b, .int .i64 c, .int .i64 d] T)) w.heap.size a b c d := ⟨by simp, by simp, by simp, by simp, by simp, by simp, by simp, by simp, by simp⟩
theorem Box4.drew {k : Nat} {w : World} {a b c d : Int} (h : Box4 w k a b c d) : Box4 w.drew k a b c d := h
theorem Box4.setO {k j : Nat} {w : World} {a b c d : Int} (h : Box4 w k a b c d) (hk : j ≠ k) (o : Nat) (u : Value) : Box4 (w.setCell ⟨j, o, none⟩ u) k a b c d := by
  have hne : ∀ q, (⟨j, o, none⟩ : Addr) ≠ ⟨k, q, none⟩ := fun q e => hk (congrArg Addr.block e)
  obtain ⟨h0, h1, h2, h3, h4, f1, f2, f3, f4⟩ := h
  exact ⟨by simpa using h0, by rw [World.cell?_setCell_other _ _ _ _ (hne _)]; exact h1, by rw [World.cell?_setCell_other _ _ _ _ (hne _)]; exact h2, by rw [World.cell?_setCell_other _ _ _ _ (hne _)]; exact h3, by rw [World.cell?_setCell_other _ _ _ _ (hne _)]; exact h4, by simpa using f1, by simpa using f2, by simpa using f3, by simpa using f4⟩
def set4 (w : World) (k : Nat) (a b c d : Int) : World := (((w.setCell ⟨k, 0, none⟩ (.int .i64 a)).setCell ⟨k, 1, none⟩ (.int .i64 b)).setCell ⟨k, 2, none⟩ (.int .i64 c)).setCell ⟨k, 3, none⟩ (.int .i64 d)
theorem Box4.set {k : Nat} {w : World} {a b c d : Int} (h : Box4 w k a b c d) (a' b' c' d' : Int) : Box4 (set4 w k a' b' c' d') k a' b' c' d' := by
  obtain ⟨h0, h1, h2, h3, h4, f1, f2, f3, f4⟩ := h
  have n0 : ∀ (W : World) (i j : Nat) (u : Value), i ≠ j → (W.setCell ⟨k, i, none⟩ u).cell? ⟨k, j, none⟩ = W.cell? ⟨k, j, none⟩ := fun W i j u hij => World.cell?_setCell_other _ _ _ _ (by intro e; exact hij (congrArg Addr.off e))
  refine ⟨by simpa [set4] using h0, ?_, ?_, ?_, ?_, by simpa [set4] using f1, by simpa [set4] using f2, by simpa [set4] using f3, by simpa [set4] using f4⟩
  · unfold set4; rw [n0 _ _ _ _ (by decide), n0 _ _ _ _ (by decide), n0 _ _ _ _ (by decide)]; exact World.cell?_setCell_same _ _ _ h1
  · unfold set4; rw [n0 _ _ _ _ (by decide), n0 _ _ _ _ (by decide)]; exact World.cell?_setCell_same _ _ _ (by rw [n0 _ _ _ _ (by decide)]; exact h2)
  · unfold set4; rw [n0 _ _ _ _ (by decide)]; exact World.cell?_setCell_same _ _ _ (by rw [n0 _ _ _ _ (by decide), n0 _ _ _ _ (by decide)]; exact h3)
  · unfold set4; exact World.cell?_setCell_same _ _ _ (by rw [n0 _ _ _ _ (by decide), n0 _ _ _ _ (by decide), n0 _ _ _ _ (by decide)]; exact h4)
theorem Below.set4 {B j : Nat} {w w' : World} (h : Below B w w') (hj : B ≤ j) (a b c d : Int) : Below B w (set4 w' j a b c d) := (((h.setCell hj _).setCell hj _).setCell hj _).setCell hj _
end Go.Proofs.Ytlllbahfjihepaa
namespace Go.Proofs.Ytlllbahfjihepaa
open Go.RowKit
set_option linter.unusedVariables false
def BoxL (w : World) (k : Nat) (a : Bool) (b c d : Int) : Prop := k < w.heap.size ∧ w.cell? ⟨k, 0, none⟩ = some (.bool a) ∧ w.cell? ⟨k, 1, none⟩ = some (.int .i64 b) ∧ w.cell? ⟨k, 2, none⟩ = some (.int .i64 c) ∧ w.cell? ⟨k, 3, none⟩ = some (.int .i64 d) ∧ w.frozen? ⟨k, 0, none⟩ = false ∧ w.frozen? ⟨k, 1, none⟩ = false ∧ w.frozen? ⟨k, 2, none⟩ = false ∧ w.frozen? ⟨k, 3, none⟩ = false
theorem BoxL.belowB {k B : Nat} {w w' : World} {a : Bool} {b c d : Int} (h : BoxL w k a b c d) (hw : Below B w w') (hk : k < B) : BoxL w' k a b c d := by
  obtain ⟨h0, h1, h2, h3, h4, f1, f2, f3, f4⟩ := h
  exact ⟨Nat.lt_of_lt_of_le h0 hw.size, by rw [hw.cell (p := ⟨k, 0, none⟩) hk]; exact h1, by rw [hw.cell (p := ⟨k, 1, none⟩) hk]; exact h2, by rw [hw.cell (p := ⟨k, 2, none⟩) hk]; exact h3, by rw [hw.cell (p := ⟨k, 3, none⟩) hk]; exact h4, by rw [hw.frozen (p := ⟨k, 0, none⟩) hk]; exact f1, by rw [hw.frozen (p := ⟨k, 1, none⟩) hk]; exact f2, by rw [hw.frozen (p := ⟨k, 2, none⟩) hk]; exact f3, by rw [hw.frozen (p := ⟨k, 3, none⟩) hk]; exact f4⟩
theorem BoxL.below {k : Nat} {w w' : World} {a : Bool} {b c d : Int} (h : BoxL w k a b c d) (hw : Below w.heap.size w w') : BoxL w' k a b c d := h.belowB hw h.1
theorem BoxL.alloc {k : Nat} {w : World} {a : Bool} {b c d : Int} (h : BoxL w k a b c d) (o : Obj) : BoxL (w.alloc o) k a b c d := h.below ((Below.refl _ _).alloc (Nat.le_refl _) _)
theorem BoxL.new (w : World) (a : Bool) (b c d : Int) (T : TypeId) : BoxL (w.alloc (.cells #[.bool a, .int .i64 b, .int .i64 c, .int .i64 d] T)) w.heap.size a b c d := ⟨by simp, by simp, by simp, by simp, by simp, by simp, by simp, by simp, by simp⟩
theorem BoxL.drew {k : Nat} {w : World} {a : Bool} {b c d : Int} (h : BoxL w k a b c d) : BoxL w.drew k a b c d := h
theorem BoxL.setO {k j : Nat} {w : World} {a : Bool} {b c d : Int} (h : BoxL w k a b c d) (hk : j ≠ k) (o : Nat) (u : Value) : BoxL (w.setCell ⟨j, o, none⟩ u) k a b c d := by
  have hne : ∀ q, (⟨j, o, none⟩ : Addr) ≠ ⟨k, q, none⟩ := fun q e => hk (congrArg Addr.block e)
  obtain ⟨h0, h1, h2, h3, h4, f1, f2, f3, f4⟩ := h
  exact ⟨by simpa using h0, by rw [World.cell?_setCell_other _ _ _ _ (hne _)]; exact h1, by rw [World.cell?_setCell_other _ _ _ _ (hne _)]; exact h2, by rw [World.cell?_setCell_other _ _ _ _ (hne _)]; exact h3, by rw [World.cell?_setCell_other _ _ _ _ (hne _)]; exact h4, by simpa using f1, by simpa using f2, by simpa using f3, by simpa using f4⟩
def setL (w : World) (k : Nat) (a : Bool) (b c d : Int) : World := (((w.setCell ⟨k, 0, none⟩ (.bool a)).setCell ⟨k, 1, none⟩ (.int .i64 b)).setCell ⟨k, 2, none⟩ (.int .i64 c)).setCell ⟨k, 3, none⟩ (.int .i64 d)
theorem BoxL.set {k : Nat} {w : World} {a : Bool} {b c d : Int} (h : BoxL w k a b c d) (a' : Bool) (b' c' d' : Int) : BoxL (setL w k a' b' c' d') k a' b' c' d' := by
  obtain ⟨h0, h1, h2, h3, h4, f1, f2, f3, f4⟩ := h
  have n0 : ∀ (W : World) (i j : Nat) (u : Value), i ≠ j → (W.setCell ⟨k, i, none⟩ u).cell? ⟨k, j, none⟩ = W.cell? ⟨k, j, none⟩ := fun W i j u hij => World.cell?_setCell_other _ _ _ _ (by intro e; exact hij (congrArg Addr.off e))
  refine ⟨by simpa [setL] using h0, ?_, ?_, ?_, ?_, by simpa [setL] using f1, by simpa [setL] using f2, by simpa [setL] using f3, by simpa [setL] using f4⟩
  · unfold setL; rw [n0 _ _ _ _ (by decide), n0 _ _ _ _ (by decide), n0 _ _ _ _ (by decide)]; exact World.cell?_setCell_same _ _ _ h1
  · unfold setL; rw [n0 _ _ _ _ (by decide), n0 _ _ _ _ (by decide)]; exact World.cell?_setCell_same _ _ _ (by rw [n0 _ _ _ _ (by decide)]; exact h2)
  · unfold setL; rw [n0 _ _ _ _ (by decide)]; exact World.cell?_setCell_same _ _ _ (by rw [n0 _ _ _ _ (by decide), n0 _ _ _ _ (by decide)]; exact h3)
  · unfold setL; exact World.cell?_setCell_same _ _ _ (by rw [n0 _ _ _ _ (by decide), n0 _ _ _ _ (by decide), n0 _ _ _ _ (by decide)]; exact h4)
def okL (kn : Bool) (lo hi a : Int) : Bool := match kn with | true => okI lo hi && okT a | false => decide (lo = 0 ∧ hi = 0 ∧ a = 0)
set_option maxHeartbeats 1000000 in
theorem specLocalOk_any (kn : Bool) (lo hi a : Int) (w : World) :
    Calls Try.prog 35 #[.agg #[.bool kn, .int .i64 lo, .int .i64 hi, .int .i64 a]] w fun e w' => e = .returned (.bool (okL kn lo hi a)) ∧ Below w.heap.size w w' := by
  cases kn
  · go_enter Try.func35, Try.ntmps35
    go_wp2
    all_goals go_ret
    all_goals exact ⟨ret_bool (by rw [Bool.eq_iff_iff]; simp [okL]; try omega), by repeat (first | exact Below.refl _ _ | refine Below.drew ?_ | refine Below.alloc ?_ (by first | (simp; done) | (simp; omega) | omega) _ | refine Below.setCell ?_ (by first | (simp; done) | (simp; omega) | omega) _ | refine Below.trans ?_ (Below.mono (by assumption) (by first | (simp; done) | (simp; omega) | omega)))⟩
  cases h1 : okI lo hi <;> cases h2 : okT a
  all_goals
    go_enter Try.func35, Try.ntmps35
    go_wp2_with (first | (go_at_call 69; refine (specIvalOk_any _ _ _).mono ?_; rintro e w' ⟨rfl, hb⟩; obtain ⟨hc, hf⟩ := bcell hb; (first | have hB := Below.trans (Below.trans hB (by repeat (first | exact Below.refl _ _ | refine Below.drew ?_ | refine Below.alloc ?_ (by first | (simp; done) | (simp; omega) | omega) _ | refine Below.setCell ?_ (by first | (simp; done) | (simp; omega) | omega) _ | refine Below.trans ?_ (Below.mono (by assumption) (by first | (simp; done) | (simp; omega) | omega))))) (Below.mono hb (by first | (simp; done) | (simp; omega) | omega)) | have hB := hb); obtain ⟨hC, hF⟩ := bcell hB; have hz := hb.size; (try simp at hz); (try (have hz0 : w.heap.size < w'.heap.size := by omega)); (try (have hz1 : w.heap.size + 1 < w'.heap.size := by omega)); (try (have hz2 : w.heap.size + 1 + 1 < w'.heap.size := by omega)); (try (have hz3 : w.heap.size + 1 + 1 + 1 < w'.heap.size := by omega))) | (go_at_call 24; refine (l2Time_any _ _).mono ?_; rintro e w' ⟨rfl, rfl⟩))
    go_ret
    exact ⟨ret_bool (by simp [okL, *]), by repeat (first | exact Below.refl _ _ | refine Below.drew ?_ | refine Below.alloc ?_ (by first | (simp; done) | (simp; omega) | omega) _ | refine Below.setCell ?_ (by first | (simp; done) | (simp; omega) | omega) _ | refine Below.trans ?_ (Below.mono (by assumption) (by first | (simp; done) | (simp; omega) | omega)))⟩
set_option maxHeartbeats 1000000 in
theorem toLocal_any (kn : Bool) (lo hi a : Int) (w : World) :
    Calls Try.prog 43 #[.agg #[.bool kn, .int .i64 lo, .int .i64 hi, .int .i64 a]] w fun e w' => e = .returned (.agg #[.bool kn, .int .i64 lo, .int .i64 hi, .int .i64 a]) ∧ Below w.heap.size w w' := by
  have P0 := ((BoxL.new w kn lo hi a 45).alloc (.cells #[.bool false, .int .i64 0, .int .i64 0, .int .i64 0] 60)).alloc (.cells #[.bool kn, .int .i64 0, .int .i64 0, .int .i64 0] 60)
  have P1 := (BoxL.new (w.alloc (.cells #[.bool kn, .int .i64 lo, .int .i64 hi, .int .i64 a] 45)) false 0 0 0 60).alloc (.cells #[.bool kn, .int .i64 0, .int .i64 0, .int .i64 0] 60)
  have P2 := BoxL.new ((w.alloc (.cells #[.bool kn, .int .i64 lo, .int .i64 hi, .int .i64 a] 45)).alloc (.cells #[.bool false, .int .i64 0, .int .i64 0, .int .i64 0] 60)) kn 0 0 0 60
  simp only [World.size_alloc] at P1 P2
  go_enter Try.func43, Try.ntmps43
  go_wp2_with fail
  refine (toIval_any _ _ _).mono ?_
  rintro e w1 ⟨rfl, hb⟩
  have hw1 : Below w.heap.size w w1 := by repeat (first | exact Below.refl _ _ | refine Below.drew ?_ | refine Below.alloc ?_ (by first | (simp; done) | (simp; omega) | omega) _ | refine Below.setCell ?_ (by first | (simp; done) | (simp; omega) | omega) _ | refine Below.trans ?_ (Below.mono (by assumption) (by first | (simp; done) | (simp; omega) | omega)))
  have hs : w.heap.size + 2 < w1.heap.size := by have := hb.size; simp at this; omega
  have Q0 := P0.below hb
  have Q1 := P1.below hb
  have Q2 := P2.below hb
  clear P0 P1 P2 hb
  obtain ⟨a0, a1, a2, a3, a4, a5, a6, a7, a8⟩ := Q0
  obtain ⟨b0, b1, b2, b3, b4, b5, b6, b7, b8⟩ := Q1
  obtain ⟨c0, c1, c2, c3, c4, c5, c6, c7, c8⟩ := Q2
  go_wp2_with fail
  exact bodyPost_ret (v := .agg #[.bool kn, .int .i64 lo, .int .i64 hi, .int .i64 a]) (by simp (maxDischargeDepth := 6) [results, Try.results43, go_sem, *]) rfl ⟨rfl, by repeat (first | refine Below.setCell ?_ (by first | (simp; done) | (simp; omega) | omega) _ | exact hw1)⟩
set_option maxHeartbeats 1000000 in
theorem eqLocal_same (kn : Bool) (lo hi a : Int) (w : World) :
    Calls Try.prog 50 #[.agg #[.bool kn, .int .i64 lo, .int .i64 hi, .int .i64 a], .agg #[.bool kn, .int .i64 lo, .int .i64 hi, .int .i64 a]] w fun e w' => e = .returned (.bool true) ∧ Below w.heap.size w w' := by
  have P0 := (BoxL.new w kn lo hi a 60).alloc (.cells #[.bool kn, .int .i64 lo, .int .i64 hi, .int .i64 a] 60)
  have P1 := BoxL.new (w.alloc (.cells #[.bool kn, .int .i64 lo, .int .i64 hi, .int .i64 a] 60)) kn lo hi a 60
  have B0 : Below w.heap.size w ((w.alloc (.cells #[.bool kn, .int .i64 lo, .int .i64 hi, .int .i64 a] 60)).alloc (.cells #[.bool kn, .int .i64 lo, .int .i64 hi, .int .i64 a] 60)) := (Below.alc _ _).alloc (by simp) _
  simp only [World.size_alloc] at P1
  go_enter Try.func50, Try.ntmps50
  go_wp2_with fail
  refine (eqIval_same _ _ _).mono ?_
  rintro e w1 ⟨rfl, hb⟩
  have B := B0.trans (hb.mono B0.size)
  obtain ⟨a0, a1, a2, a3, a4, a5, a6, a7, a8⟩ := P0.below hb
  obtain ⟨b0, b1, b2, b3, b4, b5, b6, b7, b8⟩ := P1.below hb
  clear P0 P1 hb
  go_wp2
  go_ret
  exact ⟨rfl, B⟩
end Go.Proofs.Ytlllbahfjihepaa
namespace Go.Proofs.Ytlllbahfjihepaa
open Go.RowKit
set_option linter.unusedVariables false
def Nx16 (w : World) (k : Nat) (u0 u1 u2 u3 u4 u5 u6 u7 u8 u9 u10 u11 u12 u13 u14 u15 : Value) : Prop := k < w.heap.size ∧ w.cell? ⟨k, 0, none⟩ = some u0 ∧ w.cell? ⟨k, 1, none⟩ = some u1 ∧ w.cell? ⟨k, 2, none⟩ = some u2 ∧ w.cell? ⟨k, 3, none⟩ = some u3 ∧ w.cell? ⟨k, 4, none⟩ = some u4 ∧ w.cell? ⟨k, 5, none⟩ = some u5 ∧ w.cell? ⟨k, 6, none⟩ = some u6 ∧ w.cell? ⟨k, 7, none⟩ = some u7 ∧ w.cell? ⟨k, 8, none⟩ = some u8 ∧ w.cell? ⟨k, 9, none⟩ = some u9 ∧ w.cell? ⟨k, 10, none⟩ = some u10 ∧ w.cell? ⟨k, 11, none⟩ = some u11 ∧ w.cell? ⟨k, 12, none⟩ = some u12 ∧ w.cell? ⟨k, 13, none⟩ = some u13 ∧ w.cell? ⟨k, 14, none⟩ = some u14 ∧ w.cell? ⟨k, 15, none⟩ = some u15 ∧ w.frozen? ⟨k, 0, none⟩ = false ∧ w.frozen? ⟨k, 1, none⟩ = false ∧ w.frozen? ⟨k, 2, none⟩ = false ∧ w.frozen? ⟨k, 3, none⟩ = false ∧ w.frozen? ⟨k, 4, none⟩ = false ∧ w.frozen? ⟨k, 5, none⟩ = false ∧ w.frozen? ⟨k, 6, none⟩ = false ∧ w.frozen? ⟨k, 7, none⟩ = false ∧ w.frozen? ⟨k, 8, none⟩ = false ∧ w.frozen? ⟨k, 9, none⟩ = false ∧ w.frozen? ⟨k, 10, none⟩ = false ∧ w.frozen? ⟨k, 11, none⟩ = false ∧ w.frozen? ⟨k, 12, none⟩ = false ∧ w.frozen? ⟨k, 13, none⟩ = false ∧ w.frozen? ⟨k, 14, none⟩ = false ∧ w.frozen? ⟨k, 15, none⟩ = false
theorem Nx16.belowB {k B : Nat} {w w' : World} {u0 u1 u2 u3 u4 u5 u6 u7 u8 u9 u10 u11 u12 u13 u14 u15 : Value} (h : Nx16 w k u0 u1 u2 u3 u4 u5 u6 u7 u8 u9 u10 u11 u12 u13 u14 u15) (hw : Below B w w') (hk : k < B) : Nx16 w' k u0 u1 u2 u3 u4 u5 u6 u7 u8 u9 u10 u11 u12 u13 u14 u15 := by
  obtain ⟨h0, h1, h2, h3, h4, h5, h6, h7, h8, h9, h10, h11, h12, h13, h14, h15, h16, f1, f2, f3, f4, f5, f6, f7, f8, f9, f10, f11, f12, f13, f14, f15, f16⟩ := h
  exact ⟨Nat.lt_of_lt_of_le h0 hw.size, by rw [hw.cell (p := ⟨k, 0, none⟩) hk]; exact h1, by rw [hw.cell (p := ⟨k, 1, none⟩) hk]; exact h2, by rw [hw.cell (p := ⟨k, 2, none⟩) hk]; exact h3, by rw [hw.cell (p := ⟨k, 3, none⟩) hk]; exact h4, by rw [hw.cell (p := ⟨k, 4, none⟩) hk]; exact h5, by rw [hw.cell (p := ⟨k, 5, none⟩) hk]; exact h6, by rw [hw.cell (p := ⟨k, 6, none⟩) hk]; exact h7, by rw [hw.cell (p := ⟨k, 7, none⟩) hk]; exact h8, by rw [hw.cell (p := ⟨k, 8, none⟩) hk]; exact h9, by rw [hw.cell (p := ⟨k, 9, none⟩) hk]; exact h10, by rw [hw.cell (p := ⟨k, 10, none⟩) hk]; exact h11, by rw [hw.cell (p := ⟨k, 11, none⟩) hk]; exact h12, by rw [hw.cell (p := ⟨k, 12, none⟩) hk]; exact h13, by rw [hw.cell (p := ⟨k, 13, none⟩) hk]; exact h14, by rw [hw.cell (p := ⟨k, 14, none⟩) hk]; exact h15, by rw [hw.cell (p := ⟨k, 15, none⟩) hk]; exact h16, by rw [hw.frozen (p := ⟨k, 0, none⟩) hk]; exact f1, by rw [hw.frozen (p := ⟨k, 1, none⟩) hk]; exact f2, by rw [hw.frozen (p := ⟨k, 2, none⟩) hk]; exact f3, by rw [hw.frozen (p := ⟨k, 3, none⟩) hk]; exact f4, by rw [hw.frozen (p := ⟨k, 4, none⟩) hk]; exact f5, by rw [hw.frozen (p := ⟨k, 5, none⟩) hk]; exact f6, by rw [hw.frozen (p := ⟨k, 6, none⟩) hk]; exact f7, by rw [hw.frozen (p := ⟨k, 7, none⟩) hk]; exact f8, by rw [hw.frozen (p := ⟨k, 8, none⟩) hk]; exact f9, by rw [hw.frozen (p := ⟨k, 9, none⟩) hk]; exact f10, by rw [hw.frozen (p := ⟨k, 10, none⟩) hk]; exact f11, by rw [hw.frozen (p := ⟨k, 11, none⟩) hk]; exact f12, by rw [hw.frozen (p := ⟨k, 12, none⟩) hk]; exact f13, by rw [hw.frozen (p := ⟨k, 13, none⟩) hk]; exact f14, by rw [hw.frozen (p := ⟨k, 14, none⟩) hk]; exact f15, by rw [hw.frozen (p := ⟨k, 15, none⟩) hk]; exact f16⟩
theorem Nx16.below {k : Nat} {w w' : World} {u0 u1 u2 u3 u4 u5 u6 u7 u8 u9 u10 u11 u12 u13 u14 u15 : Value} (h : Nx16 w k u0 u1 u2 u3 u4 u5 u6 u7 u8 u9 u10 u11 u12 u13 u14 u15) (hw : Below w.heap.size w w') : Nx16 w' k u0 u1 u2 u3 u4 u5 u6 u7 u8 u9 u10 u11 u12 u13 u14 u15 := h.belowB hw h.1
theorem Nx16.alloc {k : Nat} {w : World} {u0 u1 u2 u3 u4 u5 u6 u7 u8 u9 u10 u11 u12 u13 u14 u15 : Value} (h : Nx16 w k u0 u1 u2 u3 u4 u5 u6 u7 u8 u9 u10 u11 u12 u13 u14 u15) (o : Obj) : Nx16 (w.alloc o) k u0 u1 u2 u3 u4 u5 u6 u7 u8 u9 u10 u11 u12 u13 u14 u15 := h.below ((Below.refl _ _).alloc (Nat.le_refl _) _)
theorem Nx16.new (w : World) (u0 u1 u2 u3 u4 u5 u6 u7 u8 u9 u10 u11 u12 u13 u14 u15 : Value) (T : TypeId) : Nx16 (w.alloc (.cells #[u0, u1, u2, u3, u4, u5, u6, u7, u8, u9, u10, u11, u12, u13, u14, u15] T)) w.heap.size u0 u1 u2 u3 u4 u5 u6 u7 u8 u9 u10 u11 u12 u13 u14 u15 := ⟨by simp, by simp, by simp, by simp, by simp, by simp, by simp, by simp, by simp, by simp, by simp, by simp, by simp, by simp, by simp, by simp, by simp, by simp, by simp, by simp, by simp, by simp, by simp, by simp, by simp, by simp, by simp, by simp, by simp, by simp, by simp, by simp, by simp⟩
theorem Nx16.drew {k : Nat} {w : World} {u0 u1 u2 u3 u4 u5 u6 u7 u8 u9 u10 u11 u12 u13 u14 u15 : Value} (h : Nx16 w k u0 u1 u2 u3 u4 u5 u6 u7 u8 u9 u10 u11 u12 u13 u14 u15) : Nx16 w.drew k u0 u1 u2 u3 u4 u5 u6 u7 u8 u9 u10 u11 u12 u13 u14 u15 := h
theorem Nx16.setO {k j : Nat} {w : World} {u0 u1 u2 u3 u4 u5 u6 u7 u8 u9 u10 u11 u12 u13 u14 u15 : Value} (h : Nx16 w k u0 u1 u2 u3 u4 u5 u6 u7 u8 u9 u10 u11 u12 u13 u14 u15) (hk : j ≠ k) (o : Nat) (u : Value) : Nx16 (w.setCell ⟨j, o, none⟩ u) k u0 u1 u2 u3 u4 u5 u6 u7 u8 u9 u10 u11 u12 u13 u14 u15 := by
  have hne : ∀ q, (⟨j, o, none⟩ : Addr) ≠ ⟨k, q, none⟩ := fun q e => hk (congrArg Addr.block e)
  obtain ⟨h0, h1, h2, h3, h4, h5, h6, h7, h8, h9, h10, h11, h12, h13, h14, h15, h16, f1, f2, f3, f4, f5, f6, f7, f8, f9, f10, f11, f12, f13, f14, f15, f16⟩ := h
  exact ⟨by simpa using h0, by rw [World.cell?_setCell_other _ _ _ _ (hne _)]; exact h1, by rw [World.cell?_setCell_other _ _ _ _ (hne _)]; exact h2, by rw [World.cell?_setCell_other _ _ _ _ (hne _)]; exact h3, by rw [World.cell?_setCell_other _ _ _ _ (hne _)]; exact h4, by rw [World.cell?_setCell_other _ _ _ _ (hne _)]; exact h5, by rw [World.cell?_setCell_other _ _ _ _ (hne _)]; exact h6, by rw [World.cell?_setCell_other _ _ _ _ (hne _)]; exact h7, by rw [World.cell?_setCell_other _ _ _ _ (hne _)]; exact h8, by rw [World.cell?_setCell_other _ _ _ _ (hne _)]; exact h9, by rw [World.cell?_setCell_other _ _ _ _ (hne _)]; exact h10, by rw [World.cell?_setCell_other _ _ _ _ (hne _)]; exact h11, by rw [World.cell?_setCell_other _ _ _ _ (hne _)]; exact h12, by rw [World.cell?_setCell_other _ _ _ _ (hne _)]; exact h13, by rw [World.cell?_setCell_other _ _ _ _ (hne _)]; exact h14, by rw [World.cell?_setCell_other _ _ _ _ (hne _)]; exact h15, by rw [World.cell?_setCell_other _ _ _ _ (hne _)]; exact h16, by simpa using f1, by simpa using f2, by simpa using f3, by simpa using f4, by simpa using f5, by simpa using f6, by simpa using f7, by simpa using f8, by simpa using f9, by simpa using f10, by simpa using f11, by simpa using f12, by simpa using f13, by simpa using f14, by simpa using f15, by simpa using f16⟩
theorem Nx16.set0 {k : Nat} {w : World} {u0 u1 u2 u3 u4 u5 u6 u7 u8 u9 u10 u11 u12 u13 u14 u15 : Value} (h : Nx16 w k u0 u1 u2 u3 u4 u5 u6 u7 u8 u9 u10 u11 u12 u13 u14 u15) (x : Value) : Nx16 (w.setCell ⟨k, 0, none⟩ x) k x u1 u2 u3 u4 u5 u6 u7 u8 u9 u10 u11 u12 u13 u14 u15 := by
  obtain ⟨h0, h1, h2, h3, h4, h5, h6, h7, h8, h9, h10, h11, h12, h13, h14, h15, h16, f1, f2, f3, f4, f5, f6, f7, f8, f9, f10, f11, f12, f13, f14, f15, f16⟩ := h
  exact ⟨by simpa using h0, World.cell?_setCell_same _ _ _ h1, (World.cell?_setCell_other _ _ _ _ (by simp)).trans h2, (World.cell?_setCell_other _ _ _ _ (by simp)).trans h3, (World.cell?_setCell_other _ _ _ _ (by simp)).trans h4, (World.cell?_setCell_other _ _ _ _ (by simp)).trans h5, (World.cell?_setCell_other _ _ _ _ (by simp)).trans h6, (World.cell?_setCell_other _ _ _ _ (by simp)).trans h7, (World.cell?_setCell_other _ _ _ _ (by simp)).trans h8, (World.cell?_setCell_other _ _ _ _ (by simp)).trans h9, (World.cell?_setCell_other _ _ _ _ (by simp)).trans h10, (World.cell?_setCell_other _ _ _ _ (by simp)).trans h11, (World.cell?_setCell_other _ _ _ _ (by simp)).trans h12, (World.cell?_setCell_other _ _ _ _ (by simp)).trans h13, (World.cell?_setCell_other _ _ _ _ (by simp)).trans h14, (World.cell?_setCell_other _ _ _ _ (by simp)).trans h15, (World.cell?_setCell_other _ _ _ _ (by simp)).trans h16, by simpa using f1, by simpa using f2, by simpa using f3, by simpa using f4, by simpa using f5, by simpa using f6, by simpa using f7, by simpa using f8, by simpa using f9, by simpa using f10, by simpa using f11, by simpa using f12, by simpa using f13, by simpa using f14, by simpa using f15, by simpa using f16⟩
theorem Nx16.set1 {k : Nat} {w : World} {u0 u1 u2 u3 u4 u5 u6 u7 u8 u9 u10 u11 u12 u13 u14 u15 : Value} (h : Nx16 w k u0 u1 u2 u3 u4 u5 u6 u7 u8 u9 u10 u11 u12 u13 u14 u15) (x : Value) : Nx16 (w.setCell ⟨k, 1, none⟩ x) k u0 x u2 u3 u4 u5 u6 u7 u8 u9 u10 u11 u12 u13 u14 u15 := by
  obtain ⟨h0, h1, h2, h3, h4, h5, h6, h7, h8, h9, h10, h11, h12, h13, h14, h15, h16, f1, f2, f3, f4, f5, f6, f7, f8, f9, f10, f11, f12, f13, f14, f15, f16⟩ := h
  exact ⟨by simpa using h0, (World.cell?_setCell_other _ _ _ _ (by simp)).trans h1, World.cell?_setCell_same _ _ _ h2, (World.cell?_setCell_other _ _ _ _ (by simp)).trans h3, (World.cell?_setCell_other _ _ _ _ (by simp)).trans h4, (World.cell?_setCell_other _ _ _ _ (by simp)).trans h5, (World.cell?_setCell_other _ _ _ _ (by simp)).trans h6, (World.cell?_setCell_other _ _ _ _ (by simp)).trans h7, (World.cell?_setCell_other _ _ _ _ (by simp)).trans h8, (World.cell?_setCell_other _ _ _ _ (by simp)).trans h9, (World.cell?_setCell_other _ _ _ _ (by simp)).trans h10, (World.cell?_setCell_other _ _ _ _ (by simp)).trans h11, (World.cell?_setCell_other _ _ _ _ (by simp)).trans h12, (World.cell?_setCell_other _ _ _ _ (by simp)).trans h13, (World.cell?_setCell_other _ _ _ _ (by simp)).trans h14, (World.cell?_setCell_other _ _ _ _ (by simp)).trans h15, (World.cell?_setCell_other _ _ _ _ (by simp)).trans h16, by simpa using f1, by simpa using f2, by simpa using f3, by simpa using f4, by simpa using f5, by simpa using f6, by simpa using f7, by simpa using f8, by simpa using f9, by simpa using f10, by simpa using f11, by simpa using f12, by simpa using f13, by simpa using f14, by simpa using f15, by simpa using f16⟩
theorem Nx16.set2 {k : Nat} {w : World} {u0 u1 u2 u3 u4 u5 u6 u7 u8 u9 u10 u11 u12 u13 u14 u15 : Value} (h : Nx16 w k u0 u1 u2 u3 u4 u5 u6 u7 u8 u9 u10 u11 u12 u13 u14 u15) (x : Value) : Nx16 (w.setCell ⟨k, 2, none⟩ x) k u0 u1 x u3 u4 u5 u6 u7 u8 u9 u10 u11 u12 u13 u14 u15 := by
  obtain ⟨h0, h1, h2, h3, h4, h5, h6, h7, h8, h9, h10, h11, h12, h13, h14, h15, h16, f1, f2, f3, f4, f5, f6, f7, f8, f9, f10, f11, f12, f13, f14, f15, f16⟩ := h
  exact ⟨by simpa using h0, (World.cell?_setCell_other _ _ _ _ (by simp)).trans h1, (World.cell?_setCell_other _ _ _ _ (by simp)).trans h2, World.cell?_setCell_same _ _ _ h3, (World.cell?_setCell_other _ _ _ _ (by simp)).trans h4, (World.cell?_setCell_other _ _ _ _ (by simp)).trans h5, (World.cell?_setCell_other _ _ _ _ (by simp)).trans h6, (World.cell?_setCell_other _ _ _ _ (by simp)).trans h7, (World.cell?_setCell_other _ _ _ _ (by simp)).trans h8, (World.cell?_setCell_other _ _ _ _ (by simp)).trans h9, (World.cell?_setCell_other _ _ _ _ (by simp)).trans h10, (World.cell?_setCell_other _ _ _ _ (by simp)).trans h11, (World.cell?_setCell_other _ _ _ _ (by simp)).trans h12, (World.cell?_setCell_other _ _ _ _ (by simp)).trans h13, (World.cell?_setCell_other _ _ _ _ (by simp)).trans h14, (World.cell?_setCell_other _ _ _ _ (by simp)).trans h15, (World.cell?_setCell_other _ _ _ _ (by simp)).trans h16, by simpa using f1, by simpa using f2, by simpa using f3, by simpa using f4, by simpa using f5, by simpa using f6, by simpa using f7, by simpa using f8, by simpa using f9, by simpa using f10, by simpa using f11, by simpa using f12, by simpa using f13, by simpa using f14, by simpa using f15, by simpa using f16⟩
theorem Nx16.set3 {k : Nat} {w : World} {u0 u1 u2 u3 u4 u5 u6 u7 u8 u9 u10 u11 u12 u13 u14 u15 : Value} (h : Nx16 w k u0 u1 u2 u3 u4 u5 u6 u7 u8 u9 u10 u11 u12 u13 u14 u15) (x : Value) : Nx16 (w.setCell ⟨k, 3, none⟩ x) k u0 u1 u2 x u4 u5 u6 u7 u8 u9 u10 u11 u12 u13 u14 u15 := by
  obtain ⟨h0, h1, h2, h3, h4, h5, h6, h7, h8, h9, h10, h11, h12, h13, h14, h15, h16, f1, f2, f3, f4, f5, f6, f7, f8, f9, f10, f11, f12, f13, f14, f15, f16⟩ := h
  exact ⟨by simpa using h0, (World.cell?_setCell_other _ _ _ _ (by simp)).trans h1, (World.cell?_setCell_other _ _ _ _ (by simp)).trans h2, (World.cell?_setCell_other _ _ _ _ (by simp)).trans h3, World.cell?_setCell_same _ _ _ h4, (World.cell?_setCell_other _ _ _ _ (by simp)).trans h5, (World.cell?_setCell_other _ _ _ _ (by simp)).trans h6, (World.cell?_setCell_other _ _ _ _ (by simp)).trans h7, (World.cell?_setCell_other _ _ _ _ (by simp)).trans h8, (World.cell?_setCell_other _ _ _ _ (by simp)).trans h9, (World.cell?_setCell_other _ _ _ _ (by simp)).trans h10, (World.cell?_setCell_other _ _ _ _ (by simp)).trans h11, (World.cell?_setCell_other _ _ _ _ (by simp)).trans h12, (World.cell?_setCell_other _ _ _ _ (by simp)).trans h13, (World.cell?_setCell_other _ _ _ _ (by simp)).trans h14, (World.cell?_setCell_other _ _ _ _ (by simp)).trans h15, (World.cell?_setCell_other _ _ _ _ (by simp)).trans h16, by simpa using f1, by simpa using f2, by simpa using f3, by simpa using f4, by simpa using f5, by simpa using f6, by simpa using f7, by simpa using f8, by simpa using f9, by simpa using f10, by simpa using f11, by simpa using f12, by simpa using f13, by simpa using f14, by simpa using f15, by simpa using f16⟩
theorem Nx16.set4 {k : Nat} {w : World} {u0 u1 u2 u3 u4 u5 u6 u7 u8 u9 u10 u11 u12 u13 u14 u15 : Value} (h : Nx16 w k u0 u1 u2 u3 u4 u5 u6 u7 u8 u9 u10 u11 u12 u13 u14 u15) (x : Value) : Nx16 (w.setCell ⟨k, 4, none⟩ x) k u0 u1 u2 u3 x u5 u6 u7 u8 u9 u10 u11 u12 u13 u14 u15 := by
  obtain ⟨h0, h1, h2, h3, h4, h5, h6, h7, h8, h9, h10, h11, h12, h13, h14, h15, h16, f1, f2, f3, f4, f5, f6, f7, f8, f9, f10, f11, f12, f13, f14, f15, f16⟩ := h
  exact ⟨by simpa using h0, (World.cell?_setCell_other _ _ _ _ (by simp)).trans h1, (World.cell?_setCell_other _ _ _ _ (by simp)).trans h2, (World.cell?_setCell_other _ _ _ _ (by simp)).trans h3, (World.cell?_setCell_other _ _ _ _ (by simp)).trans h4, World.cell?_setCell_same _ _ _ h5, (World.cell?_setCell_other _ _ _ _ (by simp)).trans h6, (World.cell?_setCell_other _ _ _ _ (by simp)).trans h7, (World.cell?_setCell_other _ _ _ _ (by simp)).trans h8, (World.cell?_setCell_other _ _ _ _ (by simp)).trans h9, (World.cell?_setCell_other _ _ _ _ (by simp)).trans h10, (World.cell?_setCell_other _ _ _ _ (by simp)).trans h11, (World.cell?_setCell_other _ _ _ _ (by simp)).trans h12, (World.cell?_setCell_other _ _ _ _ (by simp)).trans h13, (World.cell?_setCell_other _ _ _ _ (by simp)).trans h14, (World.cell?_setCell_other _ _ _ _ (by simp)).trans h15, (World.cell?_setCell_other _ _ _ _ (by simp)).trans h16, by simpa using f1, by simpa using f2, by simpa using f3, by simpa using f4, by simpa using f5, by simpa using f6, by simpa using f7, by simpa using f8, by simpa using f9, by simpa using f10, by simpa using f11, by simpa using f12, by simpa using f13, by simpa using f14, by simpa using f15, by simpa using f16⟩
theorem Nx16.set5 {k : Nat} {w : World} {u0 u1 u2 u3 u4 u5 u6 u7 u8 u9 u10 u11 u12 u13 u14 u15 : Value} (h : Nx16 w k u0 u1 u2 u3 u4 u5 u6 u7 u8 u9 u10 u11 u12 u13 u14 u15) (x : Value) : Nx16 (w.setCell ⟨k, 5, none⟩ x) k u0 u1 u2 u3 u4 x u6 u7 u8 u9 u10 u11 u12 u13 u14 u15 := by
  obtain ⟨h0, h1, h2, h3, h4, h5, h6, h7, h8, h9, h10, h11, h12, h13, h14, h15, h16, f1, f2, f3, f4, f5, f6, f7, f8, f9, f10, f11, f12, f13, f14, f15, f16⟩ := h
  exact ⟨by simpa using h0, (World.cell?_setCell_other _ _ _ _ (by simp)).trans h1, (World.cell?_setCell_other _ _ _ _ (by simp)).trans h2, (World.cell?_setCell_other _ _ _ _ (by simp)).trans h3, (World.cell?_setCell_other _ _ _ _ (by simp)).trans h4, (World.cell?_setCell_other _ _ _ _ (by simp)).trans h5, World.cell?_setCell_same _ _ _ h6, (World.cell?_setCell_other _ _ _ _ (by simp)).trans h7, (World.cell?_setCell_other _ _ _ _ (by simp)).trans h8, (World.cell?_setCell_other _ _ _ _ (by simp)).trans h9, (World.cell?_setCell_other _ _ _ _ (by simp)).trans h10, (World.cell?_setCell_other _ _ _ _ (by simp)).trans h11, (World.cell?_setCell_other _ _ _ _ (by simp)).trans h12, (World.cell?_setCell_other _ _ _ _ (by simp)).trans h13, (World.cell?_setCell_other _ _ _ _ (by simp)).trans h14, (World.cell?_setCell_other _ _ _ _ (by simp)).trans h15, (World.cell?_setCell_other _ _ _ _ (by simp)).trans h16, by simpa using f1, by simpa using f2, by simpa using f3, by simpa using f4, by simpa using f5, by simpa using f6, by simpa using f7, by simpa using f8, by simpa using f9, by simpa using f10, by simpa using f11, by simpa using f12, by simpa using f13, by simpa using f14, by simpa using f15, by simpa using f16⟩
theorem Nx16.set6 {k : Nat} {w : World} {u0 u1 u2 u3 u4 u5 u6 u7 u8 u9 u10 u11 u12 u13 u14 u15 : Value} (h : Nx16 w k u0 u1 u2 u3 u4 u5 u6 u7 u8 u9 u10 u11 u12 u13 u14 u15) (x : Value) : Nx16 (w.setCell ⟨k, 6, none⟩ x) k u0 u1 u2 u3 u4 u5 x u7 u8 u9 u10 u11 u12 u13 u14 u15 := by
  obtain ⟨h0, h1, h2, h3, h4, h5, h6, h7, h8, h9, h10, h11, h12, h13, h14, h15, h16, f1, f2, f3, f4, f5, f6, f7, f8, f9, f10, f11, f12, f13, f14, f15, f16⟩ := h
  exact ⟨by simpa using h0, (World.cell?_setCell_other _ _ _ _ (by simp)).trans h1, (World.cell?_setCell_other _ _ _ _ (by simp)).trans h2, (World.cell?_setCell_other _ _ _ _ (by simp)).trans h3, (World.cell?_setCell_other _ _ _ _ (by simp)).trans h4, (World.cell?_setCell_other _ _ _ _ (by simp)).trans h5, (World.cell?_setCell_other _ _ _ _ (by simp)).trans h6, World.cell?_setCell_same _ _ _ h7, (World.cell?_setCell_other _ _ _ _ (by simp)).trans h8, (World.cell?_setCell_other _ _ _ _ (by simp)).trans h9, (World.cell?_setCell_other _ _ _ _ (by simp)).trans h10, (World.cell?_setCell_other _ _ _ _ (by simp)).trans h11, (World.cell?_setCell_other _ _ _ _ (by simp)).trans h12, (World.cell?_setCell_other _ _ _ _ (by simp)).trans h13, (World.cell?_setCell_other _ _ _ _ (by simp)).trans h14, (World.cell?_setCell_other _ _ _ _ (by simp)).trans h15, (World.cell?_setCell_other _ _ _ _ (by simp)).trans h16, by simpa using f1, by simpa using f2, by simpa using f3, by simpa using f4, by simpa using f5, by simpa using f6, by simpa using f7, by simpa using f8, by simpa using f9, by simpa using f10, by simpa using f11, by simpa using f12, by simpa using f13, by simpa using f14, by simpa using f15, by simpa using f16⟩
theorem Nx16.set7 {k : Nat} {w : World} {u0 u1 u2 u3 u4 u5 u6 u7 u8 u9 u10 u11 u12 u13 u14 u15 : Value} (h : Nx16 w k u0 u1 u2 u3 u4 u5 u6 u7 u8 u9 u10 u11 u12 u13 u14 u15) (x : Value) : Nx16 (w.setCell ⟨k, 7, none⟩ x) k u0 u1 u2 u3 u4 u5 u6 x u8 u9 u10 u11 u12 u13 u14 u15 := by
  obtain ⟨h0, h1, h2, h3, h4, h5, h6, h7, h8, h9, h10, h11, h12, h13, h14, h15, h16, f1, f2, f3, f4, f5, f6, f7, f8, f9, f10, f11, f12, f13, f14, f15, f16⟩ := h
  exact ⟨by simpa using h0, (World.cell?_setCell_other _ _ _ _ (by simp)).trans h1, (World.cell?_setCell_other _ _ _ _ (by simp)).trans h2, (World.cell?_setCell_other _ _ _ _ (by simp)).trans h3, (World.cell?_setCell_other _ _ _ _ (by simp)).trans h4, (World.cell?_setCell_other _ _ _ _ (by simp)).trans h5, (World.cell?_setCell_other _ _ _ _ (by simp)).trans h6, (World.cell?_setCell_other _ _ _ _ (by simp)).trans h7, World.cell?_setCell_same _ _ _ h8, (World.cell?_setCell_other _ _ _ _ (by simp)).trans h9, (World.cell?_setCell_other _ _ _ _ (by simp)).trans h10, (World.cell?_setCell_other _ _ _ _ (by simp)).trans h11, (World.cell?_setCell_other _ _ _ _ (by simp)).trans h12, (World.cell?_setCell_other _ _ _ _ (by simp)).trans h13, (World.cell?_setCell_other _ _ _ _ (by simp)).trans h14, (World.cell?_setCell_other _ _ _ _ (by simp)).trans h15, (World.cell?_setCell_other _ _ _ _ (by simp)).trans h16, by simpa using f1, by simpa using f2, by simpa using f3, by simpa using f4, by simpa using f5, by simpa using f6, by simpa using f7, by simpa using f8, by simpa using f9, by simpa using f10, by simpa using f11, by simpa using f12, by simpa using f13, by simpa using f14, by simpa using f15, by simpa using f16⟩
theorem Nx16.set8 {k : Nat} {w : World} {u0 u1 u2 u3 u4 u5 u6 u7 u8 u9 u10 u11 u12 u13 u14 u15 : Value} (h : Nx16 w k u0 u1 u2 u3 u4 u5 u6 u7 u8 u9 u10 u11 u12 u13 u14 u15) (x : Value) : Nx16 (w.setCell ⟨k, 8, none⟩ x) k u0 u1 u2 u3 u4 u5 u6 u7 x u9 u10 u11 u12 u13 u14 u15 := by
  obtain ⟨h0, h1, h2, h3, h4, h5, h6, h7, h8, h9, h10, h11, h12, h13, h14, h15, h16, f1, f2, f3, f4, f5, f6, f7, f8, f9, f10, f11, f12, f13, f14, f15, f16⟩ := h
  exact ⟨by simpa using h0, (World.cell?_setCell_other _ _ _ _ (by simp)).trans h1, (World.cell?_setCell_other _ _ _ _ (by simp)).trans h2, (World.cell?_setCell_other _ _ _ _ (by simp)).trans h3, (World.cell?_setCell_other _ _ _ _ (by simp)).trans h4, (World.cell?_setCell_other _ _ _ _ (by simp)).trans h5, (World.cell?_setCell_other _ _ _ _ (by simp)).trans h6, (World.cell?_setCell_other _ _ _ _ (by simp)).trans h7, (World.cell?_setCell_other _ _ _ _ (by simp)).trans h8, World.cell?_setCell_same _ _ _ h9, (World.cell?_setCell_other _ _ _ _ (by simp)).trans h10, (World.cell?_setCell_other _ _ _ _ (by simp)).trans h11, (World.cell?_setCell_other _ _ _ _ (by simp)).trans h12, (World.cell?_setCell_other _ _ _ _ (by simp)).trans h13, (World.cell?_setCell_other _ _ _ _ (by simp)).trans h14, (World.cell?_setCell_other _ _ _ _ (by simp)).trans h15, (World.cell?_setCell_other _ _ _ _ (by simp)).trans h16, by simpa using f1, by simpa using f2, by simpa using f3, by simpa using f4, by simpa using f5, by simpa using f6, by simpa using f7, by simpa using f8, by simpa using f9, by simpa using f10, by simpa using f11, by simpa using f12, by simpa using f13, by simpa using f14, by simpa using f15, by simpa using f16⟩
theorem Nx16.set9 {k : Nat} {w : World} {u0 u1 u2 u3 u4 u5 u6 u7 u8 u9 u10 u11 u12 u13 u14 u15 : Value} (h : Nx16 w k u0 u1 u2 u3 u4 u5 u6 u7 u8 u9 u10 u11 u12 u13 u14 u15) (x : Value) : Nx16 (w.setCell ⟨k, 9, none⟩ x) k u0 u1 u2 u3 u4 u5 u6 u7 u8 x u10 u11 u12 u13 u14 u15 := by
  obtain ⟨h0, h1, h2, h3, h4, h5, h6, h7, h8, h9, h10, h11, h12, h13, h14, h15, h16, f1, f2, f3, f4, f5, f6, f7, f8, f9, f10, f11, f12, f13, f14, f15, f16⟩ := h
  exact ⟨by simpa using h0, (World.cell?_setCell_other _ _ _ _ (by simp)).trans h1, (World.cell?_setCell_other _ _ _ _ (by simp)).trans h2, (World.cell?_setCell_other _ _ _ _ (by simp)).trans h3, (World.cell?_setCell_other _ _ _ _ (by simp)).trans h4, (World.cell?_setCell_other _ _ _ _ (by simp)).trans h5, (World.cell?_setCell_other _ _ _ _ (by simp)).trans h6, (World.cell?_setCell_other _ _ _ _ (by simp)).trans h7, (World.cell?_setCell_other _ _ _ _ (by simp)).trans h8, (World.cell?_setCell_other _ _ _ _ (by simp)).trans h9, World.cell?_setCell_same _ _ _ h10, (World.cell?_setCell_other _ _ _ _ (by simp)).trans h11, (World.cell?_setCell_other _ _ _ _ (by simp)).trans h12, (World.cell?_setCell_other _ _ _ _ (by simp)).trans h13, (World.cell?_setCell_other _ _ _ _ (by simp)).trans h14, (World.cell?_setCell_other _ _ _ _ (by simp)).trans h15, (World.cell?_setCell_other _ _ _ _ (by simp)).trans h16, by simpa using f1, by simpa using f2, by simpa using f3, by simpa using f4, by simpa using f5, by simpa using f6, by simpa using f7, by simpa using f8, by simpa using f9, by simpa using f10, by simpa using f11, by simpa using f12, by simpa using f13, by simpa using f14, by simpa using f15, by simpa using f16⟩
theorem Nx16.set10 {k : Nat} {w : World} {u0 u1 u2 u3 u4 u5 u6 u7 u8 u9 u10 u11 u12 u13 u14 u15 : Value} (h : Nx16 w k u0 u1 u2 u3 u4 u5 u6 u7 u8 u9 u10 u11 u12 u13 u14 u15) (x : Value) : Nx16 (w.setCell ⟨k, 10, none⟩ x) k u0 u1 u2 u3 u4 u5 u6 u7 u8 u9 x u11 u12 u13 u14 u15 := by
  obtain ⟨h0, h1, h2, h3, h4, h5, h6, h7, h8, h9, h10, h11, h12, h13, h14, h15, h16, f1, f2, f3, f4, f5, f6, f7, f8, f9, f10, f11, f12, f13, f14, f15, f16⟩ := h
  exact ⟨by simpa using h0, (World.cell?_setCell_other _ _ _ _ (by simp)).trans h1, (World.cell?_setCell_other _ _ _ _ (by simp)).trans h2, (World.cell?_setCell_other _ _ _ _ (by simp)).trans h3, (World.cell?_setCell_other _ _ _ _ (by simp)).trans h4, (World.cell?_setCell_other _ _ _ _ (by simp)).trans h5, (World.cell?_setCell_other _ _ _ _ (by simp)).trans h6, (World.cell?_setCell_other _ _ _ _ (by simp)).trans h7, (World.cell?_setCell_other _ _ _ _ (by simp)).trans h8, (World.cell?_setCell_other _ _ _ _ (by simp)).trans h9, (World.cell?_setCell_other _ _ _ _ (by simp)).trans h10, World.cell?_setCell_same _ _ _ h11, (World.cell?_setCell_other _ _ _ _ (by simp)).trans h12, (World.cell?_setCell_other _ _ _ _ (by simp)).trans h13, (World.cell?_setCell_other _ _ _ _ (by simp)).trans h14, (World.cell?_setCell_other _ _ _ _ (by simp)).trans h15, (World.cell?_setCell_other _ _ _ _ (by simp)).trans h16, by simpa using f1, by simpa using f2, by simpa using f3, by simpa using f4, by simpa using f5, by simpa using f6, by simpa using f7, by simpa using f8, by simpa using f9, by simpa using f10, by simpa using f11, by simpa using f12, by simpa using f13, by simpa using f14, by simpa using f15, by simpa using f16⟩
theorem Nx16.set11 {k : Nat} {w : World} {u0 u1 u2 u3 u4 u5 u6 u7 u8 u9 u10 u11 u12 u13 u14 u15 : Value} (h : Nx16 w k u0 u1 u2 u3 u4 u5 u6 u7 u8 u9 u10 u11 u12 u13 u14 u15) (x : Value) : Nx16 (w.setCell ⟨k, 11, none⟩ x) k u0 u1 u2 u3 u4 u5 u6 u7 u8 u9 u10 x u12 u13 u14 u15 := by
  obtain ⟨h0, h1, h2, h3, h4, h5, h6, h7, h8, h9, h10, h11, h12, h13, h14, h15, h16, f1, f2, f3, f4, f5, f6, f7, f8, f9, f10, f11, f12, f13, f14, f15, f16⟩ := h
  exact ⟨by simpa using h0, (World.cell?_setCell_other _ _ _ _ (by simp)).trans h1, (World.cell?_setCell_other _ _ _ _ (by simp)).trans h2, (World.cell?_setCell_other _ _ _ _ (by simp)).trans h3, (World.cell?_setCell_other _ _ _ _ (by simp)).trans h4, (World.cell?_setCell_other _ _ _ _ (by simp)).trans h5, (World.cell?_setCell_other _ _ _ _ (by simp)).trans h6, (World.cell?_setCell_other _ _ _ _ (by simp)).trans h7, (World.cell?_setCell_other _ _ _ _ (by simp)).trans h8, (World.cell?_setCell_other _ _ _ _ (by simp)).trans h9, (World.cell?_setCell_other _ _ _ _ (by simp)).trans h10, (World.cell?_setCell_other _ _ _ _ (by simp)).trans h11, World.cell?_setCell_same _ _ _ h12, (World.cell?_setCell_other _ _ _ _ (by simp)).trans h13, (World.cell?_setCell_other _ _ _ _ (by simp)).trans h14, (World.cell?_setCell_other _ _ _ _ (by simp)).trans h15, (World.cell?_setCell_other _ _ _ _ (by simp)).trans h16, by simpa using f1, by simpa using f2, by simpa using f3, by simpa using f4, by simpa using f5, by simpa using f6, by simpa using f7, by simpa using f8, by simpa using f9, by simpa using f10, by simpa using f11, by simpa using f12, by simpa using f13, by simpa using f14, by simpa using f15, by simpa using f16⟩
theorem Nx16.set12 {k : Nat} {w : World} {u0 u1 u2 u3 u4 u5 u6 u7 u8 u9 u10 u11 u12 u13 u14 u15 : Value} (h : Nx16 w k u0 u1 u2 u3 u4 u5 u6 u7 u8 u9 u10 u11 u12 u13 u14 u15) (x : Value) : Nx16 (w.setCell ⟨k, 12, none⟩ x) k u0 u1 u2 u3 u4 u5 u6 u7 u8 u9 u10 u11 x u13 u14 u15 := by
  obtain ⟨h0, h1, h2, h3, h4, h5, h6, h7, h8, h9, h10, h11, h12, h13, h14, h15, h16, f1, f2, f3, f4, f5, f6, f7, f8, f9, f10, f11, f12, f13, f14, f15, f16⟩ := h
  exact ⟨by simpa using h0, (World.cell?_setCell_other _ _ _ _ (by simp)).trans h1, (World.cell?_setCell_other _ _ _ _ (by simp)).trans h2, (World.cell?_setCell_other _ _ _ _ (by simp)).trans h3, (World.cell?_setCell_other _ _ _ _ (by simp)).trans h4, (World.cell?_setCell_other _ _ _ _ (by simp)).trans h5, (World.cell?_setCell_other _ _ _ _ (by simp)).trans h6, (World.cell?_setCell_other _ _ _ _ (by simp)).trans h7, (World.cell?_setCell_other _ _ _ _ (by simp)).trans h8, (World.cell?_setCell_other _ _ _ _ (by simp)).trans h9, (World.cell?_setCell_other _ _ _ _ (by simp)).trans h10, (World.cell?_setCell_other _ _ _ _ (by simp)).trans h11, (World.cell?_setCell_other _ _ _ _ (by simp)).trans h12, World.cell?_setCell_same _ _ _ h13, (World.cell?_setCell_other _ _ _ _ (by simp)).trans h14, (World.cell?_setCell_other _ _ _ _ (by simp)).trans h15, (World.cell?_setCell_other _ _ _ _ (by simp)).trans h16, by simpa using f1, by simpa using f2, by simpa using f3, by simpa using f4, by simpa using f5, by simpa using f6, by simpa using f7, by simpa using f8, by simpa using f9, by simpa using f10, by simpa using f11, by simpa using f12, by simpa using f13, by simpa using f14, by simpa using f15, by simpa using f16⟩
theorem Nx16.set13 {k : Nat} {w : World} {u0 u1 u2 u3 u4 u5 u6 u7 u8 u9 u10 u11 u12 u13 u14 u15 : Value} (h : Nx16 w k u0 u1 u2 u3 u4 u5 u6 u7 u8 u9 u10 u11 u12 u13 u14 u15) (x : Value) : Nx16 (w.setCell ⟨k, 13, none⟩ x) k u0 u1 u2 u3 u4 u5 u6 u7 u8 u9 u10 u11 u12 x u14 u15 := by
  obtain ⟨h0, h1, h2, h3, h4, h5, h6, h7, h8, h9, h10, h11, h12, h13, h14, h15, h16, f1, f2, f3, f4, f5, f6, f7, f8, f9, f10, f11, f12, f13, f14, f15, f16⟩ := h
  exact ⟨by simpa using h0, (World.cell?_setCell_other _ _ _ _ (by simp)).trans h1, (World.cell?_setCell_other _ _ _ _ (by simp)).trans h2, (World.cell?_setCell_other _ _ _ _ (by simp)).trans h3, (World.cell?_setCell_other _ _ _ _ (by simp)).trans h4, (World.cell?_setCell_other _ _ _ _ (by simp)).trans h5, (World.cell?_setCell_other _ _ _ _ (by simp)).trans h6, (World.cell?_setCell_other _ _ _ _ (by simp)).trans h7, (World.cell?_setCell_other _ _ _ _ (by simp)).trans h8, (World.cell?_setCell_other _ _ _ _ (by simp)).trans h9, (World.cell?_setCell_other _ _ _ _ (by simp)).trans h10, (World.cell?_setCell_other _ _ _ _ (by simp)).trans h11, (World.cell?_setCell_other _ _ _ _ (by simp)).trans h12, (World.cell?_setCell_other _ _ _ _ (by simp)).trans h13, World.cell?_setCell_same _ _ _ h14, (World.cell?_setCell_other _ _ _ _ (by simp)).trans h15, (World.cell?_setCell_other _ _ _ _ (by simp)).trans h16, by simpa using f1, by simpa using f2, by simpa using f3, by simpa using f4, by simpa using f5, by simpa using f6, by simpa using f7, by simpa using f8, by simpa using f9, by simpa using f10, by simpa using f11, by simpa using f12, by simpa using f13, by simpa using f14, by simpa using f15, by simpa using f16⟩
theorem Nx16.set14 {k : Nat} {w : World} {u0 u1 u2 u3 u4 u5 u6 u7 u8 u9 u10 u11 u12 u13 u14 u15 : Value} (h : Nx16 w k u0 u1 u2 u3 u4 u5 u6 u7 u8 u9 u10 u11 u12 u13 u14 u15) (x : Value) : Nx16 (w.setCell ⟨k, 14, none⟩ x) k u0 u1 u2 u3 u4 u5 u6 u7 u8 u9 u10 u11 u12 u13 x u15 := by
  obtain ⟨h0, h1, h2, h3, h4, h5, h6, h7, h8, h9, h10, h11, h12, h13, h14, h15, h16, f1, f2, f3, f4, f5, f6, f7, f8, f9, f10, f11, f12, f13, f14, f15, f16⟩ := h
  exact ⟨by simpa using h0, (World.cell?_setCell_other _ _ _ _ (by simp)).trans h1, (World.cell?_setCell_other _ _ _ _ (by simp)).trans h2, (World.cell?_setCell_other _ _ _ _ (by simp)).trans h3, (World.cell?_setCell_other _ _ _ _ (by simp)).trans h4, (World.cell?_setCell_other _ _ _ _ (by simp)).trans h5, (World.cell?_setCell_other _ _ _ _ (by simp)).trans h6, (World.cell?_setCell_other _ _ _ _ (by simp)).trans h7, (World.cell?_setCell_other _ _ _ _ (by simp)).trans h8, (World.cell?_setCell_other _ _ _ _ (by simp)).trans h9, (World.cell?_setCell_other _ _ _ _ (by simp)).trans h10, (World.cell?_setCell_other _ _ _ _ (by simp)).trans h11, (World.cell?_setCell_other _ _ _ _ (by simp)).trans h12, (World.cell?_setCell_other _ _ _ _ (by simp)).trans h13, (World.cell?_setCell_other _ _ _ _ (by simp)).trans h14, World.cell?_setCell_same _ _ _ h15, (World.cell?_setCell_other _ _ _ _ (by simp)).trans h16, by simpa using f1, by simpa using f2, by simpa using f3, by simpa using f4, by simpa using f5, by simpa using f6, by simpa using f7, by simpa using f8, by simpa using f9, by simpa using f10, by simpa using f11, by simpa using f12, by simpa using f13, by simpa using f14, by simpa using f15, by simpa using f16⟩
theorem Nx16.set15 {k : Nat} {w : World} {u0 u1 u2 u3 u4 u5 u6 u7 u8 u9 u10 u11 u12 u13 u14 u15 : Value} (h : Nx16 w k u0 u1 u2 u3 u4 u5 u6 u7 u8 u9 u10 u11 u12 u13 u14 u15) (x : Value) : Nx16 (w.setCell ⟨k, 15, none⟩ x) k u0 u1 u2 u3 u4 u5 u6 u7 u8 u9 u10 u11 u12 u13 u14 x := by
  obtain ⟨h0, h1, h2, h3, h4, h5, h6, h7, h8, h9, h10, h11, h12, h13, h14, h15, h16, f1, f2, f3, f4, f5, f6, f7, f8, f9, f10, f11, f12, f13, f14, f15, f16⟩ := h
  exact ⟨by simpa using h0, (World.cell?_setCell_other _ _ _ _ (by simp)).trans h1, (World.cell?_setCell_other _ _ _ _ (by simp)).trans h2, (World.cell?_setCell_other _ _ _ _ (by simp)).trans h3, (World.cell?_setCell_other _ _ _ _ (by simp)).trans h4, (World.cell?_setCell_other _ _ _ _ (by simp)).trans h5, (World.cell?_setCell_other _ _ _ _ (by simp)).trans h6, (World.cell?_setCell_other _ _ _ _ (by simp)).trans h7, (World.cell?_setCell_other _ _ _ _ (by simp)).trans h8, (World.cell?_setCell_other _ _ _ _ (by simp)).trans h9, (World.cell?_setCell_other _ _ _ _ (by simp)).trans h10, (World.cell?_setCell_other _ _ _ _ (by simp)).trans h11, (World.cell?_setCell_other _ _ _ _ (by simp)).trans h12, (World.cell?_setCell_other _ _ _ _ (by simp)).trans h13, (World.cell?_setCell_other _ _ _ _ (by simp)).trans h14, (World.cell?_setCell_other _ _ _ _ (by simp)).trans h15, World.cell?_setCell_same _ _ _ h16, by simpa using f1, by simpa using f2, by simpa using f3, by simpa using f4, by simpa using f5, by simpa using f6, by simpa using f7, by simpa using f8, by simpa using f9, by simpa using f10, by simpa using f11, by simpa using f12, by simpa using f13, by simpa using f14, by simpa using f15, by simpa using f16⟩
def Cx11 (w : World) (k : Nat) (u0 u1 u2 u3 u4 u5 u6 u7 u8 u9 u10 : Value) : Prop := k < w.heap.size ∧ w.cell? ⟨k, 0, none⟩ = some u0 ∧ w.cell? ⟨k, 1, none⟩ = some u1 ∧ w.cell? ⟨k, 2, none⟩ = some u2 ∧ w.cell? ⟨k, 3, none⟩ = some u3 ∧ w.cell? ⟨k, 4, none⟩ = some u4 ∧ w.cell? ⟨k, 5, none⟩ = some u5 ∧ w.cell? ⟨k, 6, none⟩ = some u6 ∧ w.cell? ⟨k, 7, none⟩ = some u7 ∧ w.cell? ⟨k, 8, none⟩ = some u8 ∧ w.cell? ⟨k, 9, none⟩ = some u9 ∧ w.cell? ⟨k, 10, none⟩ = some u10 ∧ w.frozen? ⟨k, 0, none⟩ = false ∧ w.frozen? ⟨k, 1, none⟩ = false ∧ w.frozen? ⟨k, 2, none⟩ = false ∧ w.frozen? ⟨k, 3, none⟩ = false ∧ w.frozen? ⟨k, 4, none⟩ = false ∧ w.frozen? ⟨k, 5, none⟩ = false ∧ w.frozen? ⟨k, 6, none⟩ = false ∧ w.frozen? ⟨k, 7, none⟩ = false ∧ w.frozen? ⟨k, 8, none⟩ = false ∧ w.frozen? ⟨k, 9, none⟩ = false ∧ w.frozen? ⟨k, 10, none⟩ = false
theorem Cx11.belowB {k B : Nat} {w w' : World} {u0 u1 u2 u3 u4 u5 u6 u7 u8 u9 u10 : Value} (h : Cx11 w k u0 u1 u2 u3 u4 u5 u6 u7 u8 u9 u10) (hw : Below B w w') (hk : k < B) : Cx11 w' k u0 u1 u2 u3 u4 u5 u6 u7 u8 u9 u10 := by
  obtain ⟨h0, h1, h2, h3, h4, h5, h6, h7, h8, h9, h10, h11, f1, f2, f3, f4, f5, f6, f7, f8, f9, f10, f11⟩ := h
  exact ⟨Nat.lt_of_lt_of_le h0 hw.size, by rw [hw.cell (p := ⟨k, 0, none⟩) hk]; exact h1, by rw [hw.cell (p := ⟨k, 1, none⟩) hk]; exact h2, by rw [hw.cell (p := ⟨k, 2, none⟩) hk]; exact h3, by rw [hw.cell (p := ⟨k, 3, none⟩) hk]; exact h4, by rw [hw.cell (p := ⟨k, 4, none⟩) hk]; exact h5, by rw [hw.cell (p := ⟨k, 5, none⟩) hk]; exact h6, by rw [hw.cell (p := ⟨k, 6, none⟩) hk]; exact h7, by rw [hw.cell (p := ⟨k, 7, none⟩) hk]; exact h8, by rw [hw.cell (p := ⟨k, 8, none⟩) hk]; exact h9, by rw [hw.cell (p := ⟨k, 9, none⟩) hk]; exact h10, by rw [hw.cell (p := ⟨k, 10, none⟩) hk]; exact h11, by rw [hw.frozen (p := ⟨k, 0, none⟩) hk]; exact f1, by rw [hw.frozen (p := ⟨k, 1, none⟩) hk]; exact f2, by rw [hw.frozen (p := ⟨k, 2, none⟩) hk]; exact f3, by rw [hw.frozen (p := ⟨k, 3, none⟩) hk]; exact f4, by rw [hw.frozen (p := ⟨k, 4, none⟩) hk]; exact f5, by rw [hw.frozen (p := ⟨k, 5, none⟩) hk]; exact f6, by rw [hw.frozen (p := ⟨k, 6, none⟩) hk]; exact f7, by rw [hw.frozen (p := ⟨k, 7, none⟩) hk]; exact f8, by rw [hw.frozen (p := ⟨k, 8, none⟩) hk]; exact f9, by rw [hw.frozen (p := ⟨k, 9, none⟩) hk]; exact f10, by rw [hw.frozen (p := ⟨k, 10, none⟩) hk]; exact f11⟩
theorem Cx11.below {k : Nat} {w w' : World} {u0 u1 u2 u3 u4 u5 u6 u7 u8 u9 u10 : Value} (h : Cx11 w k u0 u1 u2 u3 u4 u5 u6 u7 u8 u9 u10) (hw : Below w.heap.size w w') : Cx11 w' k u0 u1 u2 u3 u4 u5 u6 u7 u8 u9 u10 := h.belowB hw h.1
theorem Cx11.alloc {k : Nat} {w : World} {u0 u1 u2 u3 u4 u5 u6 u7 u8 u9 u10 : Value} (h : Cx11 w k u0 u1 u2 u3 u4 u5 u6 u7 u8 u9 u10) (o : Obj) : Cx11 (w.alloc o) k u0 u1 u2 u3 u4 u5 u6 u7 u8 u9 u10 := h.below ((Below.refl _ _).alloc (Nat.le_refl _) _)
theorem Cx11.new (w : World) (u0 u1 u2 u3 u4 u5 u6 u7 u8 u9 u10 : Value) (T : TypeId) : Cx11 (w.alloc (.cells #[u0, u1, u2, u3, u4, u5, u6, u7, u8, u9, u10] T)) w.heap.size u0 u1 u2 u3 u4 u5 u6 u7 u8 u9 u10 := ⟨by simp, by simp, by simp, by simp, by simp, by simp, by simp, by simp, by simp, by simp, by simp, by simp, by simp, by simp, by simp, by simp, by simp, by simp, by simp, by simp, by simp, by simp, by simp⟩
theorem Cx11.drew {k : Nat} {w : World} {u0 u1 u2 u3 u4 u5 u6 u7 u8 u9 u10 : Value} (h : Cx11 w k u0 u1 u2 u3 u4 u5 u6 u7 u8 u9 u10) : Cx11 w.drew k u0 u1 u2 u3 u4 u5 u6 u7 u8 u9 u10 := h
theorem Cx11.setO {k j : Nat} {w : World} {u0 u1 u2 u3 u4 u5 u6 u7 u8 u9 u10 : Value} (h : Cx11 w k u0 u1 u2 u3 u4 u5 u6 u7 u8 u9 u10) (hk : j ≠ k) (o : Nat) (u : Value) : Cx11 (w.setCell ⟨j, o, none⟩ u) k u0 u1 u2 u3 u4 u5 u6 u7 u8 u9 u10 := by
  have hne : ∀ q, (⟨j, o, none⟩ : Addr) ≠ ⟨k, q, none⟩ := fun q e => hk (congrArg Addr.block e)
  obtain ⟨h0, h1, h2, h3, h4, h5, h6, h7, h8, h9, h10, h11, f1, f2, f3, f4, f5, f6, f7, f8, f9, f10, f11⟩ := h
  exact ⟨by simpa using h0, by rw [World.cell?_setCell_other _ _ _ _ (hne _)]; exact h1, by rw [World.cell?_setCell_other _ _ _ _ (hne _)]; exact h2, by rw [World.cell?_setCell_other _ _ _ _ (hne _)]; exact h3, by rw [World.cell?_setCell_other _ _ _ _ (hne _)]; exact h4, by rw [World.cell?_setCell_other _ _ _ _ (hne _)]; exact h5, by rw [World.cell?_setCell_other _ _ _ _ (hne _)]; exact h6, by rw [World.cell?_setCell_other _ _ _ _ (hne _)]; exact h7, by rw [World.cell?_setCell_other _ _ _ _ (hne _)]; exact h8, by rw [World.cell?_setCell_other _ _ _ _ (hne _)]; exact h9, by rw [World.cell?_setCell_other _ _ _ _ (hne _)]; exact h10, by rw [World.cell?_setCell_other _ _ _ _ (hne _)]; exact h11, by simpa using f1, by simpa using f2, by simpa using f3, by simpa using f4, by simpa using f5, by simpa using f6, by simpa using f7, by simpa using f8, by simpa using f9, by simpa using f10, by simpa using f11⟩
theorem Cx11.set0 {k : Nat} {w : World} {u0 u1 u2 u3 u4 u5 u6 u7 u8 u9 u10 : Value} (h : Cx11 w k u0 u1 u2 u3 u4 u5 u6 u7 u8 u9 u10) (x : Value) : Cx11 (w.setCell ⟨k, 0, none⟩ x) k x u1 u2 u3 u4 u5 u6 u7 u8 u9 u10 := by
  obtain ⟨h0, h1, h2, h3, h4, h5, h6, h7, h8, h9, h10, h11, f1, f2, f3, f4, f5, f6, f7, f8, f9, f10, f11⟩ := h
  exact ⟨by simpa using h0, World.cell?_setCell_same _ _ _ h1, (World.cell?_setCell_other _ _ _ _ (by simp)).trans h2, (World.cell?_setCell_other _ _ _ _ (by simp)).trans h3, (World.cell?_setCell_other _ _ _ _ (by simp)).trans h4, (World.cell?_setCell_other _ _ _ _ (by simp)).trans h5, (World.cell?_setCell_other _ _ _ _ (by simp)).trans h6, (World.cell?_setCell_other _ _ _ _ (by simp)).trans h7, (World.cell?_setCell_other _ _ _ _ (by simp)).trans h8, (World.cell?_setCell_other _ _ _ _ (by simp)).trans h9, (World.cell?_setCell_other _ _ _ _ (by simp)).trans h10, (World.cell?_setCell_other _ _ _ _ (by simp)).trans h11, by simpa using f1, by simpa using f2, by simpa using f3, by simpa using f4, by simpa using f5, by simpa using f6, by simpa using f7, by simpa using f8, by simpa using f9, by simpa using f10, by simpa using f11⟩
theorem Cx11.set1 {k : Nat} {w : World} {u0 u1 u2 u3 u4 u5 u6 u7 u8 u9 u10 : Value} (h : Cx11 w k u0 u1 u2 u3 u4 u5 u6 u7 u8 u9 u10) (x : Value) : Cx11 (w.setCell ⟨k, 1, none⟩ x) k u0 x u2 u3 u4 u5 u6 u7 u8 u9 u10 := by
  obtain ⟨h0, h1, h2, h3, h4, h5, h6, h7, h8, h9, h10, h11, f1, f2, f3, f4, f5, f6, f7, f8, f9, f10, f11⟩ := h
  exact ⟨by simpa using h0, (World.cell?_setCell_other _ _ _ _ (by simp)).trans h1, World.cell?_setCell_same _ _ _ h2, (World.cell?_setCell_other _ _ _ _ (by simp)).trans h3, (World.cell?_setCell_other _ _ _ _ (by simp)).trans h4, (World.cell?_setCell_other _ _ _ _ (by simp)).trans h5, (World.cell?_setCell_other _ _ _ _ (by simp)).trans h6, (World.cell?_setCell_other _ _ _ _ (by simp)).trans h7, (World.cell?_setCell_other _ _ _ _ (by simp)).trans h8, (World.cell?_setCell_other _ _ _ _ (by simp)).trans h9, (World.cell?_setCell_other _ _ _ _ (by simp)).trans h10, (World.cell?_setCell_other _ _ _ _ (by simp)).trans h11, by simpa using f1, by simpa using f2, by simpa using f3, by simpa using f4, by simpa using f5, by simpa using f6, by simpa using f7, by simpa using f8, by simpa using f9, by simpa using f10, by simpa using f11⟩
theorem Cx11.set2 {k : Nat} {w : World} {u0 u1 u2 u3 u4 u5 u6 u7 u8 u9 u10 : Value} (h : Cx11 w k u0 u1 u2 u3 u4 u5 u6 u7 u8 u9 u10) (x : Value) : Cx11 (w.setCell ⟨k, 2, none⟩ x) k u0 u1 x u3 u4 u5 u6 u7 u8 u9 u10 := by
  obtain ⟨h0, h1, h2, h3, h4, h5, h6, h7, h8, h9, h10, h11, f1, f2, f3, f4, f5, f6, f7, f8, f9, f10, f11⟩ := h
  exact ⟨by simpa using h0, (World.cell?_setCell_other _ _ _ _ (by simp)).trans h1, (World.cell?_setCell_other _ _ _ _ (by simp)).trans h2, World.cell?_setCell_same _ _ _ h3, (World.cell?_setCell_other _ _ _ _ (by simp)).trans h4, (World.cell?_setCell_other _ _ _ _ (by simp)).trans h5, (World.cell?_setCell_other _ _ _ _ (by simp)).trans h6, (World.cell?_setCell_other _ _ _ _ (by simp)).trans h7, (World.cell?_setCell_other _ _ _ _ (by simp)).trans h8, (World.cell?_setCell_other _ _ _ _ (by simp)).trans h9, (World.cell?_setCell_other _ _ _ _ (by simp)).trans h10, (World.cell?_setCell_other _ _ _ _ (by simp)).trans h11, by simpa using f1, by simpa using f2, by simpa using f3, by simpa using f4, by simpa using f5, by simpa using f6, by simpa using f7, by simpa using f8, by simpa using f9, by simpa using f10, by simpa using f11⟩
theorem Cx11.set3 {k : Nat} {w : World} {u0 u1 u2 u3 u4 u5 u6 u7 u8 u9 u10 : Value} (h : Cx11 w k u0 u1 u2 u3 u4 u5 u6 u7 u8 u9 u10) (x : Value) : Cx11 (w.setCell ⟨k, 3, none⟩ x) k u0 u1 u2 x u4 u5 u6 u7 u8 u9 u10 := by
  obtain ⟨h0, h1, h2, h3, h4, h5, h6, h7, h8, h9, h10, h11, f1, f2, f3, f4, f5, f6, f7, f8, f9, f10, f11⟩ := h
  exact ⟨by simpa using h0, (World.cell?_setCell_other _ _ _ _ (by simp)).trans h1, (World.cell?_setCell_other _ _ _ _ (by simp)).trans h2, (World.cell?_setCell_other _ _ _ _ (by simp)).trans h3, World.cell?_setCell_same _ _ _ h4, (World.cell?_setCell_other _ _ _ _ (by simp)).trans h5, (World.cell?_setCell_other _ _ _ _ (by simp)).trans h6, (World.cell?_setCell_other _ _ _ _ (by simp)).trans h7, (World.cell?_setCell_other _ _ _ _ (by simp)).trans h8, (World.cell?_setCell_other _ _ _ _ (by simp)).trans h9, (World.cell?_setCell_other _ _ _ _ (by simp)).trans h10, (World.cell?_setCell_other _ _ _ _ (by simp)).trans h11, by simpa using f1, by simpa using f2, by simpa using f3, by simpa using f4, by simpa using f5, by simpa using f6, by simpa using f7, by simpa using f8, by simpa using f9, by simpa using f10, by simpa using f11⟩
theorem Cx11.set4 {k : Nat} {w : World} {u0 u1 u2 u3 u4 u5 u6 u7 u8 u9 u10 : Value} (h : Cx11 w k u0 u1 u2 u3 u4 u5 u6 u7 u8 u9 u10) (x : Value) : Cx11 (w.setCell ⟨k, 4, none⟩ x) k u0 u1 u2 u3 x u5 u6 u7 u8 u9 u10 := by
  obtain ⟨h0, h1, h2, h3, h4, h5, h6, h7, h8, h9, h10, h11, f1, f2, f3, f4, f5, f6, f7, f8, f9, f10, f11⟩ := h
  exact ⟨by simpa using h0, (World.cell?_setCell_other _ _ _ _ (by simp)).trans h1, (World.cell?_setCell_other _ _ _ _ (by simp)).trans h2, (World.cell?_setCell_other _ _ _ _ (by simp)).trans h3, (World.cell?_setCell_other _ _ _ _ (by simp)).trans h4, World.cell?_setCell_same _ _ _ h5, (World.cell?_setCell_other _ _ _ _ (by simp)).trans h6, (World.cell?_setCell_other _ _ _ _ (by simp)).trans h7, (World.cell?_setCell_other _ _ _ _ (by simp)).trans h8, (World.cell?_setCell_other _ _ _ _ (by simp)).trans h9, (World.cell?_setCell_other _ _ _ _ (by simp)).trans h10, (World.cell?_setCell_other _ _ _ _ (by simp)).trans h11, by simpa using f1, by simpa using f2, by simpa using f3, by simpa using f4, by simpa using f5, by simpa using f6, by simpa using f7, by simpa using f8, by simpa using f9, by simpa using f10, by simpa using f11⟩
theorem Cx11.set5 {k : Nat} {w : World} {u0 u1 u2 u3 u4 u5 u6 u7 u8 u9 u10 : Value} (h : Cx11 w k u0 u1 u2 u3 u4 u5 u6 u7 u8 u9 u10) (x : Value) : Cx11 (w.setCell ⟨k, 5, none⟩ x) k u0 u1 u2 u3 u4 x u6 u7 u8 u9 u10 := by
  obtain ⟨h0, h1, h2, h3, h4, h5, h6, h7, h8, h9, h10, h11, f1, f2, f3, f4, f5, f6, f7, f8, f9, f10, f11⟩ := h
  exact ⟨by simpa using h0, (World.cell?_setCell_other _ _ _ _ (by simp)).trans h1, (World.cell?_setCell_other _ _ _ _ (by simp)).trans h2, (World.cell?_setCell_other _ _ _ _ (by simp)).trans h3, (World.cell?_setCell_other _ _ _ _ (by simp)).trans h4, (World.cell?_setCell_other _ _ _ _ (by simp)).trans h5, World.cell?_setCell_same _ _ _ h6, (World.cell?_setCell_other _ _ _ _ (by simp)).trans h7, (World.cell?_setCell_other _ _ _ _ (by simp)).trans h8, (World.cell?_setCell_other _ _ _ _ (by simp)).trans h9, (World.cell?_setCell_other _ _ _ _ (by simp)).trans h10, (World.cell?_setCell_other _ _ _ _ (by simp)).trans h11, by simpa using f1, by simpa using f2, by simpa using f3, by simpa using f4, by simpa using f5, by simpa using f6, by simpa using f7, by simpa using f8, by simpa using f9, by simpa using f10, by simpa using f11⟩
theorem Cx11.set6 {k : Nat} {w : World} {u0 u1 u2 u3 u4 u5 u6 u7 u8 u9 u10 : Value} (h : Cx11 w k u0 u1 u2 u3 u4 u5 u6 u7 u8 u9 u10) (x : Value) : Cx11 (w.setCell ⟨k, 6, none⟩ x) k u0 u1 u2 u3 u4 u5 x u7 u8 u9 u10 := by
  obtain ⟨h0, h1, h2, h3, h4, h5, h6, h7, h8, h9, h10, h11, f1, f2, f3, f4, f5, f6, f7, f8, f9, f10, f11⟩ := h
  exact ⟨by simpa using h0, (World.cell?_setCell_other _ _ _ _ (by simp)).trans h1, (World.cell?_setCell_other _ _ _ _ (by simp)).trans h2, (World.cell?_setCell_other _ _ _ _ (by simp)).trans h3, (World.cell?_setCell_other _ _ _ _ (by simp)).trans h4, (World.cell?_setCell_other _ _ _ _ (by simp)).trans h5, (World.cell?_setCell_other _ _ _ _ (by simp)).trans h6, World.cell?_setCell_same _ _ _ h7, (World.cell?_setCell_other _ _ _ _ (by simp)).trans h8, (World.cell?_setCell_other _ _ _ _ (by simp)).trans h9, (World.cell?_setCell_other _ _ _ _ (by simp)).trans h10, (World.cell?_setCell_other _ _ _ _ (by simp)).trans h11, by simpa using f1, by simpa using f2, by simpa using f3, by simpa using f4, by simpa using f5, by simpa using f6, by simpa using f7, by simpa using f8, by simpa using f9, by simpa using f10, by simpa using f11⟩
theorem Cx11.set7 {k : Nat} {w : World} {u0 u1 u2 u3 u4 u5 u6 u7 u8 u9 u10 : Value} (h : Cx11 w k u0 u1 u2 u3 u4 u5 u6 u7 u8 u9 u10) (x : Value) : Cx11 (w.setCell ⟨k, 7, none⟩ x) k u0 u1 u2 u3 u4 u5 u6 x u8 u9 u10 := by
  obtain ⟨h0, h1, h2, h3, h4, h5, h6, h7, h8, h9, h10, h11, f1, f2, f3, f4, f5, f6, f7, f8, f9, f10, f11⟩ := h
  exact ⟨by simpa using h0, (World.cell?_setCell_other _ _ _ _ (by simp)).trans h1, (World.cell?_setCell_other _ _ _ _ (by simp)).trans h2, (World.cell?_setCell_other _ _ _ _ (by simp)).trans h3, (World.cell?_setCell_other _ _ _ _ (by simp)).trans h4, (World.cell?_setCell_other _ _ _ _ (by simp)).trans h5, (World.cell?_setCell_other _ _ _ _ (by simp)).trans h6, (World.cell?_setCell_other _ _ _ _ (by simp)).trans h7, World.cell?_setCell_same _ _ _ h8, (World.cell?_setCell_other _ _ _ _ (by simp)).trans h9, (World.cell?_setCell_other _ _ _ _ (by simp)).trans h10, (World.cell?_setCell_other _ _ _ _ (by simp)).trans h11, by simpa using f1, by simpa using f2, by simpa using f3, by simpa using f4, by simpa using f5, by simpa using f6, by simpa using f7, by simpa using f8, by simpa using f9, by simpa using f10, by simpa using f11⟩
theorem Cx11.set8 {k : Nat} {w : World} {u0 u1 u2 u3 u4 u5 u6 u7 u8 u9 u10 : Value} (h : Cx11 w k u0 u1 u2 u3 u4 u5 u6 u7 u8 u9 u10) (x : Value) : Cx11 (w.setCell ⟨k, 8, none⟩ x) k u0 u1 u2 u3 u4 u5 u6 u7 x u9 u10 := by
  obtain ⟨h0, h1, h2, h3, h4, h5, h6, h7, h8, h9, h10, h11, f1, f2, f3, f4, f5, f6, f7, f8, f9, f10, f11⟩ := h
  exact ⟨by simpa using h0, (World.cell?_setCell_other _ _ _ _ (by simp)).trans h1, (World.cell?_setCell_other _ _ _ _ (by simp)).trans h2, (World.cell?_setCell_other _ _ _ _ (by simp)).trans h3, (World.cell?_setCell_other _ _ _ _ (by simp)).trans h4, (World.cell?_setCell_other _ _ _ _ (by simp)).trans h5, (World.cell?_setCell_other _ _ _ _ (by simp)).trans h6, (World.cell?_setCell_other _ _ _ _ (by simp)).trans h7, (World.cell?_setCell_other _ _ _ _ (by simp)).trans h8, World.cell?_setCell_same _ _ _ h9, (World.cell?_setCell_other _ _ _ _ (by simp)).trans h10, (World.cell?_setCell_other _ _ _ _ (by simp)).trans h11, by simpa using f1, by simpa using f2, by simpa using f3, by simpa using f4, by simpa using f5, by simpa using f6, by simpa using f7, by simpa using f8, by simpa using f9, by simpa using f10, by simpa using f11⟩
theorem Cx11.set9 {k : Nat} {w : World} {u0 u1 u2 u3 u4 u5 u6 u7 u8 u9 u10 : Value} (h : Cx11 w k u0 u1 u2 u3 u4 u5 u6 u7 u8 u9 u10) (x : Value) : Cx11 (w.setCell ⟨k, 9, none⟩ x) k u0 u1 u2 u3 u4 u5 u6 u7 u8 x u10 := by
  obtain ⟨h0, h1, h2, h3, h4, h5, h6, h7, h8, h9, h10, h11, f1, f2, f3, f4, f5, f6, f7, f8, f9, f10, f11⟩ := h
  exact ⟨by simpa using h0, (World.cell?_setCell_other _ _ _ _ (by simp)).trans h1, (World.cell?_setCell_other _ _ _ _ (by simp)).trans h2, (World.cell?_setCell_other _ _ _ _ (by simp)).trans h3, (World.cell?_setCell_other _ _ _ _ (by simp)).trans h4, (World.cell?_setCell_other _ _ _ _ (by simp)).trans h5, (World.cell?_setCell_other _ _ _ _ (by simp)).trans h6, (World.cell?_setCell_other _ _ _ _ (by simp)).trans h7, (World.cell?_setCell_other _ _ _ _ (by simp)).trans h8, (World.cell?_setCell_other _ _ _ _ (by simp)).trans h9, World.cell?_setCell_same _ _ _ h10, (World.cell?_setCell_other _ _ _ _ (by simp)).trans h11, by simpa using f1, by simpa using f2, by simpa using f3, by simpa using f4, by simpa using f5, by simpa using f6, by simpa using f7, by simpa using f8, by simpa using f9, by simpa using f10, by simpa using f11⟩
theorem Cx11.set10 {k : Nat} {w : World} {u0 u1 u2 u3 u4 u5 u6 u7 u8 u9 u10 : Value} (h : Cx11 w k u0 u1 u2 u3 u4 u5 u6 u7 u8 u9 u10) (x : Value) : Cx11 (w.setCell ⟨k, 10, none⟩ x) k u0 u1 u2 u3 u4 u5 u6 u7 u8 u9 x := by
  obtain ⟨h0, h1, h2, h3, h4, h5, h6, h7, h8, h9, h10, h11, f1, f2, f3, f4, f5, f6, f7, f8, f9, f10, f11⟩ := h
  exact ⟨by simpa using h0, (World.cell?_setCell_other _ _ _ _ (by simp)).trans h1, (World.cell?_setCell_other _ _ _ _ (by simp)).trans h2, (World.cell?_setCell_other _ _ _ _ (by simp)).trans h3, (World.cell?_setCell_other _ _ _ _ (by simp)).trans h4, (World.cell?_setCell_other _ _ _ _ (by simp)).trans h5, (World.cell?_setCell_other _ _ _ _ (by simp)).trans h6, (World.cell?_setCell_other _ _ _ _ (by simp)).trans h7, (World.cell?_setCell_other _ _ _ _ (by simp)).trans h8, (World.cell?_setCell_other _ _ _ _ (by simp)).trans h9, (World.cell?_setCell_other _ _ _ _ (by simp)).trans h10, World.cell?_setCell_same _ _ _ h11, by simpa using f1, by simpa using f2, by simpa using f3, by simpa using f4, by simpa using f5, by simpa using f6, by simpa using f7, by simpa using f8, by simpa using f9, by simpa using f10, by simpa using f11⟩
def inI (x l h : Int) : Bool := decide (l ≤ x ∧ x ≤ h)
def cfB (dn dd li le pt ag ke lg s g : Int) (PM : Nat → SlT) (m : Nat) : Bool := okD dn dd && (plB s g PM m && (inI li 0 8 && (inI le 1 8 && (okT pt && (okT ag && (okT ke && inI lg 1 1000000))))))
def zNoP (QM : Nat → PT) (id : Int) : Nat → Bool
  | 0 => true
  | k + 1 => zNoP QM id k && !((QM k).1 == id)
theorem zNoP_no {QM : Nat → PT} {id : Int} {k n : Nat} (h : zNoP QM id (k + 1) = false) (hk : k < n) : zNoP QM id n = false := by
  induction n with
  | zero => omega
  | succ n ih =>
    by_cases e : k = n
    · subst e; exact h
    · rw [zNoP, ih (by omega)]; rfl
def ndA (id mo ep si : Int) (kn : Bool) (lo hi la te us : Int) (AM : Nat → KT) (na : Nat) (QM : Nat → PT) (np : Nat) (hs : Bool) (ls : Int) (HM : Nat → VT) (nh : Nat) (se : Int) : Bool :=
  nodB id && (lfB mo ep si && (okL kn lo hi la && (tabB te us AM na && (oks QM np && (apB hs ls && (hrB HM nh && inI se (-1) 1000000000000))))))
def ndD (us : Int) (na np : Nat) (hs : Bool) (ls : Int) (nh : Nat) (se : Int) : Bool := (na == 0) && ((us == 0) && ((np == 0) && ((!hs && (ls == 0)) && ((nh == 0) && (se == -1)))))
def ndB (id mo ep si : Int) (kn : Bool) (lo hi la te us : Int) (AM : Nat → KT) (na : Nat) (QM : Nat → PT) (np : Nat) (hs : Bool) (ls : Int) (HM : Nat → VT) (nh : Nat) (se : Int) : Bool :=
  ndA id mo ep si kn lo hi la te us AM na QM np hs ls HM nh se && ((kn == knB mo ep si) && ((te == ep) && (zNoP QM id np && (decide (wtI te us AM na id ≤ 0) && (!(mo == 0) || ndD us na np hs ls nh se)))))
end Go.Proofs.Ytlllbahfjihepaa
namespace Go.Proofs.Ytlllbahfjihepaa
open Go.RowKit
set_option linter.unusedVariables false
set_option maxRecDepth 100000 in
set_option maxHeartbeats 8000000 in
theorem specCfgOk_any (dn dd li le pt ag ke lg s g : Int) (p : Option Addr) (m d : Nat) (PM : Nat → SlT) (w : World) (hpm : m ≤ maxLen) (hp : SrcC w p (m * 2) (MFSlot PM)) :
    Calls Try.prog 7 #[.agg #[.int .i64 dn, .int .i64 dd, .int .i64 li, .int .i64 le, .int .i64 pt, .int .i64 ag, .int .i64 ke, .int .i64 lg, .int .i64 s, .int .i64 g, .slice p m d]] w fun e w' => e = .returned (.bool (cfB dn dd li le pt ag ke lg s g PM m)) ∧ Below w.heap.size w w' := by
  have B := Below.nw w (.cells #[.int .i64 dn, .int .i64 dd, .int .i64 li, .int .i64 le, .int .i64 pt, .int .i64 ag, .int .i64 ke, .int .i64 lg, .int .i64 s, .int .i64 g, .slice p m d] 36)
  have C := Cx11.new w (.int .i64 dn) (.int .i64 dd) (.int .i64 li) (.int .i64 le) (.int .i64 pt) (.int .i64 ag) (.int .i64 ke) (.int .i64 lg) (.int .i64 s) (.int .i64 g) (.slice p m d) 36
  have HP : Hid (SrcC w p (m * 2) (MFSlot PM)) := hp
  have C1 := fun w' => specDriftOk_any dn dd w'
  have C2 := fun w' h => specPlanOk_any s g p m d PM w' hpm h
  have C3 : ∀ w', Calls Try.prog 23 #[.int .i64 li, .int .i64 0, .int .i64 8] w' fun e w'' => e = .returned (.bool (inI li 0 8)) ∧ w' = w'' := fun w' => l1In_any li 0 8 w'
  have C4 : ∀ w', Calls Try.prog 23 #[.int .i64 le, .int .i64 1, .int .i64 8] w' fun e w'' => e = .returned (.bool (inI le 1 8)) ∧ w' = w'' := fun w' => l1In_any le 1 8 w'
  have C5 := fun w' => l2Time_any pt w'
  have C6 := fun w' => l2Time_any ag w'
  have C7 := fun w' => l2Time_any ke w'
  have C8 : ∀ w', Calls Try.prog 23 #[.int .i64 lg, .int .i64 1, .int .i64 1000000] w' fun e w'' => e = .returned (.bool (inI lg 1 1000000)) ∧ w' = w'' := fun w' => l1In_any lg 1 1000000 w'
  clear hp
  cases h1 : okD dn dd
  · have e0 : cfB dn dd li le pt ag ke lg s g PM m = false := by unfold cfB; rw [h1]; simp
    rw [e0]
    clear e0
    go_enter Try.func7, Try.ntmps7
    go_upto_region 1 with fail
    generalize w.alloc (.cells #[.int .i64 dn, .int .i64 dd, .int .i64 li, .int .i64 le, .int .i64 pt, .int .i64 ag, .int .i64 ke, .int .i64 lg, .int .i64 s, .int .i64 g, .slice p m d] 36) = v at *
    obtain ⟨x0, x1, x2, x3, x4, x5, x6, x7, x8, x9, x10, x11, y0, y1, y2, y3, y4, y5, y6, y7, y8, y9, y10⟩ := id C
    go_wp2_with fail
    refine (C1 _).mono ?_
    rintro e v1 ⟨rfl, hb⟩
    clear x0 x1 x2 x3 x4 x5 x6 x7 x8 x9 x10 x11 y0 y1 y2 y3 y4 y5 y6 y7 y8 y9 y10
    rw [h1]
    replace B := B.trans (hb.mono B.size)
    replace C := C.below hb
    clear hb
    go_wp2_with fail
    go_ret
    exact ⟨rfl, B⟩
  cases h2 : plB s g PM m
  · have e0 : cfB dn dd li le pt ag ke lg s g PM m = false := by unfold cfB; rw [h1, h2]; simp
    rw [e0]
    clear e0
    go_enter Try.func7, Try.ntmps7
    go_upto_region 1 with fail
    generalize w.alloc (.cells #[.int .i64 dn, .int .i64 dd, .int .i64 li, .int .i64 le, .int .i64 pt, .int .i64 ag, .int .i64 ke, .int .i64 lg, .int .i64 s, .int .i64 g, .slice p m d] 36) = v at *
    obtain ⟨x0, x1, x2, x3, x4, x5, x6, x7, x8, x9, x10, x11, y0, y1, y2, y3, y4, y5, y6, y7, y8, y9, y10⟩ := id C
    go_wp2_with fail
    refine (C1 _).mono ?_
    rintro e v1 ⟨rfl, hb⟩
    clear x0 x1 x2 x3 x4 x5 x6 x7 x8 x9 x10 x11 y0 y1 y2 y3 y4 y5 y6 y7 y8 y9 y10
    rw [h1]
    replace B := B.trans (hb.mono B.size)
    replace C := C.below hb
    clear hb
    obtain ⟨x0, x1, x2, x3, x4, x5, x6, x7, x8, x9, x10, x11, y0, y1, y2, y3, y4, y5, y6, y7, y8, y9, y10⟩ := id C
    go_wp2_with fail
    refine (C2 _ (HP.out.below B)).mono ?_
    rintro e v2 ⟨rfl, hb⟩
    clear x0 x1 x2 x3 x4 x5 x6 x7 x8 x9 x10 x11 y0 y1 y2 y3 y4 y5 y6 y7 y8 y9 y10
    rw [h2]
    replace B := B.trans (hb.mono B.size)
    replace C := C.below hb
    clear hb
    go_wp2_with fail
    go_ret
    exact ⟨rfl, B⟩
  cases h3 : inI li 0 8
  · have e0 : cfB dn dd li le pt ag ke lg s g PM m = false := by unfold cfB; rw [h1, h2, h3]; simp
    rw [e0]
    clear e0
    go_enter Try.func7, Try.ntmps7
    go_upto_region 1 with fail
    generalize w.alloc (.cells #[.int .i64 dn, .int .i64 dd, .int .i64 li, .int .i64 le, .int .i64 pt, .int .i64 ag, .int .i64 ke, .int .i64 lg, .int .i64 s, .int .i64 g, .slice p m d] 36) = v at *
    obtain ⟨x0, x1, x2, x3, x4, x5, x6, x7, x8, x9, x10, x11, y0, y1, y2, y3, y4, y5, y6, y7, y8, y9, y10⟩ := id C
    go_wp2_with fail
    refine (C1 _).mono ?_
    rintro e v1 ⟨rfl, hb⟩
    clear x0 x1 x2 x3 x4 x5 x6 x7 x8 x9 x10 x11 y0 y1 y2 y3 y4 y5 y6 y7 y8 y9 y10
    rw [h1]
    replace B := B.trans (hb.mono B.size)
    replace C := C.below hb
    clear hb
    obtain ⟨x0, x1, x2, x3, x4, x5, x6, x7, x8, x9, x10, x11, y0, y1, y2, y3, y4, y5, y6, y7, y8, y9, y10⟩ := id C
    go_wp2_with fail
    refine (C2 _ (HP.out.below B)).mono ?_
    rintro e v2 ⟨rfl, hb⟩
    clear x0 x1 x2 x3 x4 x5 x6 x7 x8 x9 x10 x11 y0 y1 y2 y3 y4 y5 y6 y7 y8 y9 y10
    rw [h2]
    replace B := B.trans (hb.mono B.size)
    replace C := C.below hb
    clear hb
    obtain ⟨x0, x1, x2, x3, x4, x5, x6, x7, x8, x9, x10, x11, y0, y1, y2, y3, y4, y5, y6, y7, y8, y9, y10⟩ := id C
    go_wp2_with fail
    refine (C3 _).mono ?_
    rintro e v3 ⟨rfl, rfl⟩
    clear x0 x1 x2 x3 x4 x5 x6 x7 x8 x9 x10 x11 y0 y1 y2 y3 y4 y5 y6 y7 y8 y9 y10
    rw [h3]
    go_wp2_with fail
    go_ret
    exact ⟨rfl, B⟩
  cases h4 : inI le 1 8
  · have e0 : cfB dn dd li le pt ag ke lg s g PM m = false := by unfold cfB; rw [h1, h2, h3, h4]; simp
    rw [e0]
    clear e0
    go_enter Try.func7, Try.ntmps7
    go_upto_region 1 with fail
    generalize w.alloc (.cells #[.int .i64 dn, .int .i64 dd, .int .i64 li, .int .i64 le, .int .i64 pt, .int .i64 ag, .int .i64 ke, .int .i64 lg, .int .i64 s, .int .i64 g, .slice p m d] 36) = v at *
    obtain ⟨x0, x1, x2, x3, x4, x5, x6, x7, x8, x9, x10, x11, y0, y1, y2, y3, y4, y5, y6, y7, y8, y9, y10⟩ := id C
    go_wp2_with fail
    refine (C1 _).mono ?_
    rintro e v1 ⟨rfl, hb⟩
    clear x0 x1 x2 x3 x4 x5 x6 x7 x8 x9 x10 x11 y0 y1 y2 y3 y4 y5 y6 y7 y8 y9 y10
    rw [h1]
    replace B := B.trans (hb.mono B.size)
    replace C := C.below hb
    clear hb
    obtain ⟨x0, x1, x2, x3, x4, x5, x6, x7, x8, x9, x10, x11, y0, y1, y2, y3, y4, y5, y6, y7, y8, y9, y10⟩ := id C
    go_wp2_with fail
    refine (C2 _ (HP.out.below B)).mono ?_
    rintro e v2 ⟨rfl, hb⟩
    clear x0 x1 x2 x3 x4 x5 x6 x7 x8 x9 x10 x11 y0 y1 y2 y3 y4 y5 y6 y7 y8 y9 y10
    rw [h2]
    replace B := B.trans (hb.mono B.size)
    replace C := C.below hb
    clear hb
    obtain ⟨x0, x1, x2, x3, x4, x5, x6, x7, x8, x9, x10, x11, y0, y1, y2, y3, y4, y5, y6, y7, y8, y9, y10⟩ := id C
    go_wp2_with fail
    refine (C3 _).mono ?_
    rintro e v3 ⟨rfl, rfl⟩
    clear x0 x1 x2 x3 x4 x5 x6 x7 x8 x9 x10 x11 y0 y1 y2 y3 y4 y5 y6 y7 y8 y9 y10
    rw [h3]
    obtain ⟨x0, x1, x2, x3, x4, x5, x6, x7, x8, x9, x10, x11, y0, y1, y2, y3, y4, y5, y6, y7, y8, y9, y10⟩ := id C
    go_wp2_with fail
    refine (C4 _).mono ?_
    rintro e v4 ⟨rfl, rfl⟩
    clear x0 x1 x2 x3 x4 x5 x6 x7 x8 x9 x10 x11 y0 y1 y2 y3 y4 y5 y6 y7 y8 y9 y10
    rw [h4]
    go_wp2_with fail
    go_ret
    exact ⟨rfl, B⟩
  cases h5 : okT pt
  · have e0 : cfB dn dd li le pt ag ke lg s g PM m = false := by unfold cfB; rw [h1, h2, h3, h4, h5]; simp
    rw [e0]
    clear e0
    go_enter Try.func7, Try.ntmps7
    go_upto_region 1 with fail
    generalize w.alloc (.cells #[.int .i64 dn, .int .i64 dd, .int .i64 li, .int .i64 le, .int .i64 pt, .int .i64 ag, .int .i64 ke, .int .i64 lg, .int .i64 s, .int .i64 g, .slice p m d] 36) = v at *
    obtain ⟨x0, x1, x2, x3, x4, x5, x6, x7, x8, x9, x10, x11, y0, y1, y2, y3, y4, y5, y6, y7, y8, y9, y10⟩ := id C
    go_wp2_with fail
    refine (C1 _).mono ?_
    rintro e v1 ⟨rfl, hb⟩
    clear x0 x1 x2 x3 x4 x5 x6 x7 x8 x9 x10 x11 y0 y1 y2 y3 y4 y5 y6 y7 y8 y9 y10
    rw [h1]
    replace B := B.trans (hb.mono B.size)
    replace C := C.below hb
    clear hb
    obtain ⟨x0, x1, x2, x3, x4, x5, x6, x7, x8, x9, x10, x11, y0, y1, y2, y3, y4, y5, y6, y7, y8, y9, y10⟩ := id C
    go_wp2_with fail
    refine (C2 _ (HP.out.below B)).mono ?_
    rintro e v2 ⟨rfl, hb⟩
    clear x0 x1 x2 x3 x4 x5 x6 x7 x8 x9 x10 x11 y0 y1 y2 y3 y4 y5 y6 y7 y8 y9 y10
    rw [h2]
    replace B := B.trans (hb.mono B.size)
    replace C := C.below hb
    clear hb
    obtain ⟨x0, x1, x2, x3, x4, x5, x6, x7, x8, x9, x10, x11, y0, y1, y2, y3, y4, y5, y6, y7, y8, y9, y10⟩ := id C
    go_wp2_with fail
    refine (C3 _).mono ?_
    rintro e v3 ⟨rfl, rfl⟩
    clear x0 x1 x2 x3 x4 x5 x6 x7 x8 x9 x10 x11 y0 y1 y2 y3 y4 y5 y6 y7 y8 y9 y10
    rw [h3]
    obtain ⟨x0, x1, x2, x3, x4, x5, x6, x7, x8, x9, x10, x11, y0, y1, y2, y3, y4, y5, y6, y7, y8, y9, y10⟩ := id C
    go_wp2_with fail
    refine (C4 _).mono ?_
    rintro e v4 ⟨rfl, rfl⟩
    clear x0 x1 x2 x3 x4 x5 x6 x7 x8 x9 x10 x11 y0 y1 y2 y3 y4 y5 y6 y7 y8 y9 y10
    rw [h4]
    obtain ⟨x0, x1, x2, x3, x4, x5, x6, x7, x8, x9, x10, x11, y0, y1, y2, y3, y4, y5, y6, y7, y8, y9, y10⟩ := id C
    go_wp2_with fail
    refine (C5 _).mono ?_
    rintro e v5 ⟨rfl, rfl⟩
    clear x0 x1 x2 x3 x4 x5 x6 x7 x8 x9 x10 x11 y0 y1 y2 y3 y4 y5 y6 y7 y8 y9 y10
    rw [h5]
    go_wp2_with fail
    go_ret
    exact ⟨rfl, B⟩
  cases h6 : okT ag
  · have e0 : cfB dn dd li le pt ag ke lg s g PM m = false := by unfold cfB; rw [h1, h2, h3, h4, h5, h6]; simp
    rw [e0]
    clear e0
    go_enter Try.func7, Try.ntmps7
    go_upto_region 1 with fail
    generalize w.alloc (.cells #[.int .i64 dn, .int .i64 dd, .int .i64 li, .int .i64 le, .int .i64 pt, .int .i64 ag, .int .i64 ke, .int .i64 lg, .int .i64 s, .int .i64 g, .slice p m d] 36) = v at *
    obtain ⟨x0, x1, x2, x3, x4, x5, x6, x7, x8, x9, x10, x11, y0, y1, y2, y3, y4, y5, y6, y7, y8, y9, y10⟩ := id C
    go_wp2_with fail
    refine (C1 _).mono ?_
    rintro e v1 ⟨rfl, hb⟩
    clear x0 x1 x2 x3 x4 x5 x6 x7 x8 x9 x10 x11 y0 y1 y2 y3 y4 y5 y6 y7 y8 y9 y10
    rw [h1]
    replace B := B.trans (hb.mono B.size)
    replace C := C.below hb
    clear hb
    obtain ⟨x0, x1, x2, x3, x4, x5, x6, x7, x8, x9, x10, x11, y0, y1, y2, y3, y4, y5, y6, y7, y8, y9, y10⟩ := id C
    go_wp2_with fail
    refine (C2 _ (HP.out.below B)).mono ?_
    rintro e v2 ⟨rfl, hb⟩
    clear x0 x1 x2 x3 x4 x5 x6 x7 x8 x9 x10 x11 y0 y1 y2 y3 y4 y5 y6 y7 y8 y9 y10
    rw [h2]
    replace B := B.trans (hb.mono B.size)
    replace C := C.below hb
    clear hb
    obtain ⟨x0, x1, x2, x3, x4, x5, x6, x7, x8, x9, x10, x11, y0, y1, y2, y3, y4, y5, y6, y7, y8, y9, y10⟩ := id C
    go_wp2_with fail
    refine (C3 _).mono ?_
    rintro e v3 ⟨rfl, rfl⟩
    clear x0 x1 x2 x3 x4 x5 x6 x7 x8 x9 x10 x11 y0 y1 y2 y3 y4 y5 y6 y7 y8 y9 y10
    rw [h3]
    obtain ⟨x0, x1, x2, x3, x4, x5, x6, x7, x8, x9, x10, x11, y0, y1, y2, y3, y4, y5, y6, y7, y8, y9, y10⟩ := id C
    go_wp2_with fail
    refine (C4 _).mono ?_
    rintro e v4 ⟨rfl, rfl⟩
    clear x0 x1 x2 x3 x4 x5 x6 x7 x8 x9 x10 x11 y0 y1 y2 y3 y4 y5 y6 y7 y8 y9 y10
    rw [h4]
    obtain ⟨x0, x1, x2, x3, x4, x5, x6, x7, x8, x9, x10, x11, y0, y1, y2, y3, y4, y5, y6, y7, y8, y9, y10⟩ := id C
    go_wp2_with fail
    refine (C5 _).mono ?_
    rintro e v5 ⟨rfl, rfl⟩
    clear x0 x1 x2 x3 x4 x5 x6 x7 x8 x9 x10 x11 y0 y1 y2 y3 y4 y5 y6 y7 y8 y9 y10
    rw [h5]
    obtain ⟨x0, x1, x2, x3, x4, x5, x6, x7, x8, x9, x10, x11, y0, y1, y2, y3, y4, y5, y6, y7, y8, y9, y10⟩ := id C
    go_wp2_with fail
    refine (C6 _).mono ?_
    rintro e v6 ⟨rfl, rfl⟩
    clear x0 x1 x2 x3 x4 x5 x6 x7 x8 x9 x10 x11 y0 y1 y2 y3 y4 y5 y6 y7 y8 y9 y10
    rw [h6]
    go_wp2_with fail
    go_ret
    exact ⟨rfl, B⟩
  cases h7 : okT ke
  · have e0 : cfB dn dd li le pt ag ke lg s g PM m = false := by unfold cfB; rw [h1, h2, h3, h4, h5, h6, h7]; simp
    rw [e0]
    clear e0
    go_enter Try.func7, Try.ntmps7
    go_upto_region 1 with fail
    generalize w.alloc (.cells #[.int .i64 dn, .int .i64 dd, .int .i64 li, .int .i64 le, .int .i64 pt, .int .i64 ag, .int .i64 ke, .int .i64 lg, .int .i64 s, .int .i64 g, .slice p m d] 36) = v at *
    obtain ⟨x0, x1, x2, x3, x4, x5, x6, x7, x8, x9, x10, x11, y0, y1, y2, y3, y4, y5, y6, y7, y8, y9, y10⟩ := id C
    go_wp2_with fail
    refine (C1 _).mono ?_
    rintro e v1 ⟨rfl, hb⟩
    clear x0 x1 x2 x3 x4 x5 x6 x7 x8 x9 x10 x11 y0 y1 y2 y3 y4 y5 y6 y7 y8 y9 y10
    rw [h1]
    replace B := B.trans (hb.mono B.size)
    replace C := C.below hb
    clear hb
    obtain ⟨x0, x1, x2, x3, x4, x5, x6, x7, x8, x9, x10, x11, y0, y1, y2, y3, y4, y5, y6, y7, y8, y9, y10⟩ := id C
    go_wp2_with fail
    refine (C2 _ (HP.out.below B)).mono ?_
    rintro e v2 ⟨rfl, hb⟩
    clear x0 x1 x2 x3 x4 x5 x6 x7 x8 x9 x10 x11 y0 y1 y2 y3 y4 y5 y6 y7 y8 y9 y10
    rw [h2]
    replace B := B.trans (hb.mono B.size)
    replace C := C.below hb
    clear hb
    obtain ⟨x0, x1, x2, x3, x4, x5, x6, x7, x8, x9, x10, x11, y0, y1, y2, y3, y4, y5, y6, y7, y8, y9, y10⟩ := id C
    go_wp2_with fail
    refine (C3 _).mono ?_
    rintro e v3 ⟨rfl, rfl⟩
    clear x0 x1 x2 x3 x4 x5 x6 x7 x8 x9 x10 x11 y0 y1 y2 y3 y4 y5 y6 y7 y8 y9 y10
    rw [h3]
    obtain ⟨x0, x1, x2, x3, x4, x5, x6, x7, x8, x9, x10, x11, y0, y1, y2, y3, y4, y5, y6, y7, y8, y9, y10⟩ := id C
    go_wp2_with fail
    refine (C4 _).mono ?_
    rintro e v4 ⟨rfl, rfl⟩
    clear x0 x1 x2 x3 x4 x5 x6 x7 x8 x9 x10 x11 y0 y1 y2 y3 y4 y5 y6 y7 y8 y9 y10
    rw [h4]
    obtain ⟨x0, x1, x2, x3, x4, x5, x6, x7, x8, x9, x10, x11, y0, y1, y2, y3, y4, y5, y6, y7, y8, y9, y10⟩ := id C
    go_wp2_with fail
    refine (C5 _).mono ?_
    rintro e v5 ⟨rfl, rfl⟩
    clear x0 x1 x2 x3 x4 x5 x6 x7 x8 x9 x10 x11 y0 y1 y2 y3 y4 y5 y6 y7 y8 y9 y10
    rw [h5]
    obtain ⟨x0, x1, x2, x3, x4, x5, x6, x7, x8, x9, x10, x11, y0, y1, y2, y3, y4, y5, y6, y7, y8, y9, y10⟩ := id C
    go_wp2_with fail
    refine (C6 _).mono ?_
    rintro e v6 ⟨rfl, rfl⟩
    clear x0 x1 x2 x3 x4 x5 x6 x7 x8 x9 x10 x11 y0 y1 y2 y3 y4 y5 y6 y7 y8 y9 y10
    rw [h6]
    obtain ⟨x0, x1, x2, x3, x4, x5, x6, x7, x8, x9, x10, x11, y0, y1, y2, y3, y4, y5, y6, y7, y8, y9, y10⟩ := id C
    go_wp2_with fail
    refine (C7 _).mono ?_
    rintro e v7 ⟨rfl, rfl⟩
    clear x0 x1 x2 x3 x4 x5 x6 x7 x8 x9 x10 x11 y0 y1 y2 y3 y4 y5 y6 y7 y8 y9 y10
    rw [h7]
    go_wp2_with fail
    go_ret
    exact ⟨rfl, B⟩
  cases h8 : inI lg 1 1000000
  · have e0 : cfB dn dd li le pt ag ke lg s g PM m = false := by unfold cfB; rw [h1, h2, h3, h4, h5, h6, h7, h8]; simp
    rw [e0]
    clear e0
    go_enter Try.func7, Try.ntmps7
    go_upto_region 1 with fail
    generalize w.alloc (.cells #[.int .i64 dn, .int .i64 dd, .int .i64 li, .int .i64 le, .int .i64 pt, .int .i64 ag, .int .i64 ke, .int .i64 lg, .int .i64 s, .int .i64 g, .slice p m d] 36) = v at *
    obtain ⟨x0, x1, x2, x3, x4, x5, x6, x7, x8, x9, x10, x11, y0, y1, y2, y3, y4, y5, y6, y7, y8, y9, y10⟩ := id C
    go_wp2_with fail
    refine (C1 _).mono ?_
    rintro e v1 ⟨rfl, hb⟩
    clear x0 x1 x2 x3 x4 x5 x6 x7 x8 x9 x10 x11 y0 y1 y2 y3 y4 y5 y6 y7 y8 y9 y10
    rw [h1]
    replace B := B.trans (hb.mono B.size)
    replace C := C.below hb
    clear hb
    obtain ⟨x0, x1, x2, x3, x4, x5, x6, x7, x8, x9, x10, x11, y0, y1, y2, y3, y4, y5, y6, y7, y8, y9, y10⟩ := id C
    go_wp2_with fail
    refine (C2 _ (HP.out.below B)).mono ?_
    rintro e v2 ⟨rfl, hb⟩
    clear x0 x1 x2 x3 x4 x5 x6 x7 x8 x9 x10 x11 y0 y1 y2 y3 y4 y5 y6 y7 y8 y9 y10
    rw [h2]
    replace B := B.trans (hb.mono B.size)
    replace C := C.below hb
    clear hb
    obtain ⟨x0, x1, x2, x3, x4, x5, x6, x7, x8, x9, x10, x11, y0, y1, y2, y3, y4, y5, y6, y7, y8, y9, y10⟩ := id C
    go_wp2_with fail
    refine (C3 _).mono ?_
    rintro e v3 ⟨rfl, rfl⟩
    clear x0 x1 x2 x3 x4 x5 x6 x7 x8 x9 x10 x11 y0 y1 y2 y3 y4 y5 y6 y7 y8 y9 y10
    rw [h3]
    obtain ⟨x0, x1, x2, x3, x4, x5, x6, x7, x8, x9, x10, x11, y0, y1, y2, y3, y4, y5, y6, y7, y8, y9, y10⟩ := id C
    go_wp2_with fail
    refine (C4 _).mono ?_
    rintro e v4 ⟨rfl, rfl⟩
    clear x0 x1 x2 x3 x4 x5 x6 x7 x8 x9 x10 x11 y0 y1 y2 y3 y4 y5 y6 y7 y8 y9 y10
    rw [h4]
    obtain ⟨x0, x1, x2, x3, x4, x5, x6, x7, x8, x9, x10, x11, y0, y1, y2, y3, y4, y5, y6, y7, y8, y9, y10⟩ := id C
    go_wp2_with fail
    refine (C5 _).mono ?_
    rintro e v5 ⟨rfl, rfl⟩
    clear x0 x1 x2 x3 x4 x5 x6 x7 x8 x9 x10 x11 y0 y1 y2 y3 y4 y5 y6 y7 y8 y9 y10
    rw [h5]
    obtain ⟨x0, x1, x2, x3, x4, x5, x6, x7, x8, x9, x10, x11, y0, y1, y2, y3, y4, y5, y6, y7, y8, y9, y10⟩ := id C
    go_wp2_with fail
    refine (C6 _).mono ?_
    rintro e v6 ⟨rfl, rfl⟩
    clear x0 x1 x2 x3 x4 x5 x6 x7 x8 x9 x10 x11 y0 y1 y2 y3 y4 y5 y6 y7 y8 y9 y10
    rw [h6]
    obtain ⟨x0, x1, x2, x3, x4, x5, x6, x7, x8, x9, x10, x11, y0, y1, y2, y3, y4, y5, y6, y7, y8, y9, y10⟩ := id C
    go_wp2_with fail
    refine (C7 _).mono ?_
    rintro e v7 ⟨rfl, rfl⟩
    clear x0 x1 x2 x3 x4 x5 x6 x7 x8 x9 x10 x11 y0 y1 y2 y3 y4 y5 y6 y7 y8 y9 y10
    rw [h7]
    obtain ⟨x0, x1, x2, x3, x4, x5, x6, x7, x8, x9, x10, x11, y0, y1, y2, y3, y4, y5, y6, y7, y8, y9, y10⟩ := id C
    go_wp2_with fail
    refine (C8 _).mono ?_
    rintro e v8 ⟨rfl, rfl⟩
    clear x0 x1 x2 x3 x4 x5 x6 x7 x8 x9 x10 x11 y0 y1 y2 y3 y4 y5 y6 y7 y8 y9 y10
    rw [h8]
    go_wp2_with fail
    go_ret
    exact ⟨rfl, B⟩
  have e0 : cfB dn dd li le pt ag ke lg s g PM m = true := by unfold cfB; rw [h1, h2, h3, h4, h5, h6, h7, h8]; rfl
  rw [e0]
  clear e0
  go_enter Try.func7, Try.ntmps7
  go_upto_region 1 with fail
  generalize w.alloc (.cells #[.int .i64 dn, .int .i64 dd, .int .i64 li, .int .i64 le, .int .i64 pt, .int .i64 ag, .int .i64 ke, .int .i64 lg, .int .i64 s, .int .i64 g, .slice p m d] 36) = v at *
  obtain ⟨x0, x1, x2, x3, x4, x5, x6, x7, x8, x9, x10, x11, y0, y1, y2, y3, y4, y5, y6, y7, y8, y9, y10⟩ := id C
  go_wp2_with fail
  refine (C1 _).mono ?_
  rintro e v1 ⟨rfl, hb⟩
  clear x0 x1 x2 x3 x4 x5 x6 x7 x8 x9 x10 x11 y0 y1 y2 y3 y4 y5 y6 y7 y8 y9 y10
  rw [h1]
  replace B := B.trans (hb.mono B.size)
  replace C := C.below hb
  clear hb
  obtain ⟨x0, x1, x2, x3, x4, x5, x6, x7, x8, x9, x10, x11, y0, y1, y2, y3, y4, y5, y6, y7, y8, y9, y10⟩ := id C
  go_wp2_with fail
  refine (C2 _ (HP.out.below B)).mono ?_
  rintro e v2 ⟨rfl, hb⟩
  clear x0 x1 x2 x3 x4 x5 x6 x7 x8 x9 x10 x11 y0 y1 y2 y3 y4 y5 y6 y7 y8 y9 y10
  rw [h2]
  replace B := B.trans (hb.mono B.size)
  replace C := C.below hb
  clear hb
  obtain ⟨x0, x1, x2, x3, x4, x5, x6, x7, x8, x9, x10, x11, y0, y1, y2, y3, y4, y5, y6, y7, y8, y9, y10⟩ := id C
  go_wp2_with fail
  refine (C3 _).mono ?_
  rintro e v3 ⟨rfl, rfl⟩
  clear x0 x1 x2 x3 x4 x5 x6 x7 x8 x9 x10 x11 y0 y1 y2 y3 y4 y5 y6 y7 y8 y9 y10
  rw [h3]
  obtain ⟨x0, x1, x2, x3, x4, x5, x6, x7, x8, x9, x10, x11, y0, y1, y2, y3, y4, y5, y6, y7, y8, y9, y10⟩ := id C
  go_wp2_with fail
  refine (C4 _).mono ?_
  rintro e v4 ⟨rfl, rfl⟩
  clear x0 x1 x2 x3 x4 x5 x6 x7 x8 x9 x10 x11 y0 y1 y2 y3 y4 y5 y6 y7 y8 y9 y10
  rw [h4]
  obtain ⟨x0, x1, x2, x3, x4, x5, x6, x7, x8, x9, x10, x11, y0, y1, y2, y3, y4, y5, y6, y7, y8, y9, y10⟩ := id C
  go_wp2_with fail
  refine (C5 _).mono ?_
  rintro e v5 ⟨rfl, rfl⟩
  clear x0 x1 x2 x3 x4 x5 x6 x7 x8 x9 x10 x11 y0 y1 y2 y3 y4 y5 y6 y7 y8 y9 y10
  rw [h5]
  obtain ⟨x0, x1, x2, x3, x4, x5, x6, x7, x8, x9, x10, x11, y0, y1, y2, y3, y4, y5, y6, y7, y8, y9, y10⟩ := id C
  go_wp2_with fail
  refine (C6 _).mono ?_
  rintro e v6 ⟨rfl, rfl⟩
  clear x0 x1 x2 x3 x4 x5 x6 x7 x8 x9 x10 x11 y0 y1 y2 y3 y4 y5 y6 y7 y8 y9 y10
  rw [h6]
  obtain ⟨x0, x1, x2, x3, x4, x5, x6, x7, x8, x9, x10, x11, y0, y1, y2, y3, y4, y5, y6, y7, y8, y9, y10⟩ := id C
  go_wp2_with fail
  refine (C7 _).mono ?_
  rintro e v7 ⟨rfl, rfl⟩
  clear x0 x1 x2 x3 x4 x5 x6 x7 x8 x9 x10 x11 y0 y1 y2 y3 y4 y5 y6 y7 y8 y9 y10
  rw [h7]
  obtain ⟨x0, x1, x2, x3, x4, x5, x6, x7, x8, x9, x10, x11, y0, y1, y2, y3, y4, y5, y6, y7, y8, y9, y10⟩ := id C
  go_wp2_with fail
  refine (C8 _).mono ?_
  rintro e v8 ⟨rfl, rfl⟩
  clear x0 x1 x2 x3 x4 x5 x6 x7 x8 x9 x10 x11 y0 y1 y2 y3 y4 y5 y6 y7 y8 y9 y10
  rw [h8]
  go_wp2_with fail
  go_ret
  exact ⟨rfl, B⟩
end Go.Proofs.Ytlllbahfjihepaa
namespace Go.Proofs.Ytlllbahfjihepaa
open Go.RowKit
set_option linter.unusedVariables false
set_option maxHeartbeats 4000000 in
theorem toPlan_any (ep us : Int) (a : Option Addr) (n c : Nat) (M : Nat → SlT) (w : World) (hn : n ≤ 1048576) (h : SrcC w a (n * 2) (MFSlot M)) :
    Calls Try.prog 26 #[.agg #[.int .i64 ep, .int .i64 us, .slice a n c]] w fun e w' => e = .returned (.agg #[.int .i64 ep, .int .i64 us, .slice (some ⟨w.heap.size + 3, 0, none⟩) n n]) ∧ RowF w' (w.heap.size + 3) 112 (n * 2) (n * 2) (MFSlot M) ∧ Below w.heap.size w w' := by
  have A0 := ((Below.nw w (.cells #[.int .i64 ep, .int .i64 us, .slice a n c] 26)).alloc (by simp) (.cells #[.int .i64 0, .int .i64 0, .slice none 0 0] 34)).alloc (by simp; omega) (.cells #[.int .i64 ep, .int .i64 us, .slice none 0 0] 34)
  have z3 : (((w.alloc (.cells #[.int .i64 ep, .int .i64 us, .slice a n c] 26)).alloc (.cells #[.int .i64 0, .int .i64 0, .slice none 0 0] 34)).alloc (.cells #[.int .i64 ep, .int .i64 us, .slice none 0 0] 34)).heap.size = w.heap.size + 3 := by simp
  have C := toSlotS_any a n c M _ hn (h.below A0)
  rw [z3] at C
  have r0 : (((w.alloc (.cells #[.int .i64 ep, .int .i64 us, .slice a n c] 26)).alloc (.cells #[.int .i64 0, .int .i64 0, .slice none 0 0] 34)).alloc (.cells #[.int .i64 ep, .int .i64 us, .slice none 0 0] 34)).cell? ⟨w.heap.size + 1, 0, none⟩ = some (.int .i64 0) := by simp [go_sem]
  have f0 : (((w.alloc (.cells #[.int .i64 ep, .int .i64 us, .slice a n c] 26)).alloc (.cells #[.int .i64 0, .int .i64 0, .slice none 0 0] 34)).alloc (.cells #[.int .i64 ep, .int .i64 us, .slice none 0 0] 34)).frozen? ⟨w.heap.size + 1, 0, none⟩ = false := by simp [go_sem]
  have r1 : (((w.alloc (.cells #[.int .i64 ep, .int .i64 us, .slice a n c] 26)).alloc (.cells #[.int .i64 0, .int .i64 0, .slice none 0 0] 34)).alloc (.cells #[.int .i64 ep, .int .i64 us, .slice none 0 0] 34)).cell? ⟨w.heap.size + 1, 1, none⟩ = some (.int .i64 0) := by simp [go_sem]
  have f1 : (((w.alloc (.cells #[.int .i64 ep, .int .i64 us, .slice a n c] 26)).alloc (.cells #[.int .i64 0, .int .i64 0, .slice none 0 0] 34)).alloc (.cells #[.int .i64 ep, .int .i64 us, .slice none 0 0] 34)).frozen? ⟨w.heap.size + 1, 1, none⟩ = false := by simp [go_sem]
  have r2 : (((w.alloc (.cells #[.int .i64 ep, .int .i64 us, .slice a n c] 26)).alloc (.cells #[.int .i64 0, .int .i64 0, .slice none 0 0] 34)).alloc (.cells #[.int .i64 ep, .int .i64 us, .slice none 0 0] 34)).cell? ⟨w.heap.size + 1, 2, none⟩ = some (.slice none 0 0) := by simp [go_sem]
  have f2 : (((w.alloc (.cells #[.int .i64 ep, .int .i64 us, .slice a n c] 26)).alloc (.cells #[.int .i64 0, .int .i64 0, .slice none 0 0] 34)).alloc (.cells #[.int .i64 ep, .int .i64 us, .slice none 0 0] 34)).frozen? ⟨w.heap.size + 1, 2, none⟩ = false := by simp [go_sem]
  have o0 : (((w.alloc (.cells #[.int .i64 ep, .int .i64 us, .slice a n c] 26)).alloc (.cells #[.int .i64 0, .int .i64 0, .slice none 0 0] 34)).alloc (.cells #[.int .i64 ep, .int .i64 us, .slice none 0 0] 34)).cell? ⟨w.heap.size + 1 + 1, 0, none⟩ = some (.int .i64 ep) := by simp [go_sem]
  have o1 : (((w.alloc (.cells #[.int .i64 ep, .int .i64 us, .slice a n c] 26)).alloc (.cells #[.int .i64 0, .int .i64 0, .slice none 0 0] 34)).alloc (.cells #[.int .i64 ep, .int .i64 us, .slice none 0 0] 34)).cell? ⟨w.heap.size + 1 + 1, 1, none⟩ = some (.int .i64 us) := by simp [go_sem]
  have o2 : (((w.alloc (.cells #[.int .i64 ep, .int .i64 us, .slice a n c] 26)).alloc (.cells #[.int .i64 0, .int .i64 0, .slice none 0 0] 34)).alloc (.cells #[.int .i64 ep, .int .i64 us, .slice none 0 0] 34)).cell? ⟨w.heap.size + 1 + 1, 2, none⟩ = some (.slice none 0 0) := by simp [go_sem]
  have g2 : (((w.alloc (.cells #[.int .i64 ep, .int .i64 us, .slice a n c] 26)).alloc (.cells #[.int .i64 0, .int .i64 0, .slice none 0 0] 34)).alloc (.cells #[.int .i64 ep, .int .i64 us, .slice none 0 0] 34)).frozen? ⟨w.heap.size + 1 + 1, 2, none⟩ = false := by simp [go_sem]
  clear h
  go_enter Try.func26, Try.ntmps26
  go_wp2_with fail
  refine C.mono ?_
  rintro e w1 ⟨rfl, R1, hb⟩
  have l3 := R1.lt
  have q0 := (hb.cell (p := ⟨w.heap.size + 1, 0, none⟩) (by simp)).trans r0
  have k0 := (hb.frozen (p := ⟨w.heap.size + 1, 0, none⟩) (by simp)).trans f0
  have q1 := (hb.cell (p := ⟨w.heap.size + 1, 1, none⟩) (by simp)).trans r1
  have k1 := (hb.frozen (p := ⟨w.heap.size + 1, 1, none⟩) (by simp)).trans f1
  have q2 := (hb.cell (p := ⟨w.heap.size + 1, 2, none⟩) (by simp)).trans r2
  have k2 := (hb.frozen (p := ⟨w.heap.size + 1, 2, none⟩) (by simp)).trans f2
  have p0 := (hb.cell (p := ⟨w.heap.size + 1 + 1, 0, none⟩) (by simp)).trans o0
  have p1 := (hb.cell (p := ⟨w.heap.size + 1 + 1, 1, none⟩) (by simp)).trans o1
  have p2 := (hb.cell (p := ⟨w.heap.size + 1 + 1, 2, none⟩) (by simp)).trans o2
  have j2 := (hb.frozen (p := ⟨w.heap.size + 1 + 1, 2, none⟩) (by simp)).trans g2
  have B1 := A0.trans (hb.mono (by omega))
  have RF : RowF ((((w1.setCell ⟨w.heap.size + 1 + 1, 2, none⟩ (.slice (some ⟨w.heap.size + 3, 0, none⟩) n n)).setCell ⟨w.heap.size + 1, 0, none⟩ (.int .i64 ep)).setCell ⟨w.heap.size + 1, 1, none⟩ (.int .i64 us)).setCell ⟨w.heap.size + 1, 2, none⟩ (.slice (some ⟨w.heap.size + 3, 0, none⟩) n n)) (w.heap.size + 3) 112 (n * 2) (n * 2) (MFSlot M) := (((R1.setO (by omega) _ _).setO (by omega) _ _).setO (by omega) _ _).setO (by omega) _ _
  have BF : Below w.heap.size w ((((w1.setCell ⟨w.heap.size + 1 + 1, 2, none⟩ (.slice (some ⟨w.heap.size + 3, 0, none⟩) n n)).setCell ⟨w.heap.size + 1, 0, none⟩ (.int .i64 ep)).setCell ⟨w.heap.size + 1, 1, none⟩ (.int .i64 us)).setCell ⟨w.heap.size + 1, 2, none⟩ (.slice (some ⟨w.heap.size + 3, 0, none⟩) n n)) := (((B1.setCell (by simp; omega) _).setCell (by simp) _).setCell (by simp) _).setCell (by simp) _
  have s1 : w.heap.size + 1 < w1.heap.size := by omega
  have s2 : w.heap.size + 1 + 1 < w1.heap.size := by omega
  clear hb C r0 r1 r2 o0 o1 o2 f0 f1 f2 g2 A0 z3 R1 B1
  go_wp2_with fail
  exact bodyPost_ret (v := .agg #[.int .i64 ep, .int .i64 us, .slice (some ⟨w.heap.size + 3, 0, none⟩) n n]) (by simp (maxDischargeDepth := 6) [results, Try.results26, go_sem, *]) rfl ⟨rfl, RF, BF⟩
set_option maxHeartbeats 2000000 in
theorem eqPlan_same (ep us : Int) (a a' : Option Addr) (n c c' : Nat) (M : Nat → SlT) (w : World) (hn : n ≤ maxLen) (h : SrcC w a (n * 2) (MFSlot M)) (h' : SrcC w a' (n * 2) (MFSlot M)) :
    Calls Try.prog 29 #[.agg #[.int .i64 ep, .int .i64 us, .slice a n c], .agg #[.int .i64 ep, .int .i64 us, .slice a' n c']] w fun e w' => e = .returned (.bool true) ∧ Below w.heap.size w w' := by
  have A0 := (Below.nw w (.cells #[.int .i64 ep, .int .i64 us, .slice a n c] 34)).alloc (by simp) (.cells #[.int .i64 ep, .int .i64 us, .slice a' n c'] 34)
  have C := eqSlotS_src a a' n c c' M _ hn (h.below A0) (h'.below A0)
  clear h h'
  go_enter Try.func29, Try.ntmps29
  go_wp2_with fail
  refine C.mono ?_
  rintro e w1 ⟨rfl, hb⟩
  go_wp2_with fail
  go_ret
  exact ⟨rfl, A0.trans (hb.mono A0.size)⟩
end Go.Proofs.Ytlllbahfjihepaa
