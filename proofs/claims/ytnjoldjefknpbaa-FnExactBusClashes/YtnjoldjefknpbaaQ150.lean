/- Frames: numbers; what the laws make of one. -/
import Derived.Test.YtnjoldjefknpbaaJ1
import Derived.Test.YtnjoldjefknpbaaG8
import Derived.Test.YtnjoldjefknpbaaE1
import Derived.WalkKit
import Derived.WalkSpells
import Derived.WalkLawsBesides
import Derived.Deep.RegionHeld
namespace Go.Proofs.Ytnjoldjefknpbaa
open Go.RowKit
set_option linter.unusedVariables false
abbrev FrT : Type := Int × Int × Int × Int × Int × ByteArray
def zFr : FrT := (0, 0, 0, 0, 0, ⟨#[]⟩)
/- A frame: when it is right; whether two are on the bus at once. -/
def frB (x0 x1 x2 x3 x4 : Int) (x5 : ByteArray) : Bool := nodB x0 && (decide (0 ≤ x1 ∧ x1 ≤ 15) && (decide (0 ≤ x2 ∧ x2 ≤ 1000000000000) && (decide (0 ≤ x3) && (decide (x3 < x4) && (decide (x4 ≤ 1000000000000) && decide (x5.size ≤ 24))))))
def fSt (M : FrT) : Int := M.2.2.2.1
def fEn (M : FrT) : Int := M.2.2.2.2.1
def frM (M : FrT) : Bool := frB M.1 M.2.1 M.2.2.1 M.2.2.2.1 M.2.2.2.2.1 M.2.2.2.2.2
def buA (M : Nat → FrT) : Nat → Bool
  | 0 => true
  | j + 1 => buA M j && (frM (M j) && (decide (j = 0) || !decide (fSt (M j) < fSt (M (j - 1)))))
def buB (M : Nat → FrT) (n : Nat) : Bool := decide (n ≤ 60) && buA M n
theorem buA_no {M : Nat → FrT} {k n : Nat} (h : buA M (k + 1) = false) (hk : k < n) : buA M n = false := by
  induction n with
  | zero => omega
  | succ n ih =>
    by_cases e : k = n
    · subst e; exact h
    · rw [buA, ih (by omega)]; rfl
theorem buA_at {M : Nat → FrT} {k n : Nat} (h : buA M n = true) (hk : k < n) : frM (M k) = true ∧ (k = 0 ∨ fSt (M (k - 1)) ≤ fSt (M k)) := by
  cases e : buA M (k + 1)
  · rw [buA_no e hk] at h; exact absurd h (by decide)
  · rw [buA] at e
    simp only [Bool.and_eq_true, Bool.or_eq_true, decide_eq_true_eq, Bool.not_eq_true', decide_eq_false_iff_not] at e
    exact ⟨e.2.1, by rcases e.2.2 with q | q; · exact .inl q
                     · exact .inr (by omega)⟩
theorem frM_t {M : FrT} (h : frM M = true) : (0 ≤ M.1 ∧ M.1 ≤ 7) ∧ (0 ≤ M.2.1 ∧ M.2.1 ≤ 15) ∧ (0 ≤ M.2.2.1 ∧ M.2.2.1 ≤ 1000000000000) ∧ 0 ≤ fSt M ∧ fSt M < fEn M ∧ fEn M ≤ 1000000000000 ∧ M.2.2.2.2.2.size ≤ 24 := by
  unfold frM frB nodB at h
  simp at h
  unfold fSt fEn
  omega
theorem bu_asc {M : Nat → FrT} {n : Nat} (h : buA M n = true) : ∀ {i j : Nat}, i ≤ j → j < n → fSt (M i) ≤ fSt (M j) := by
  intro i j hij hj
  induction j with
  | zero => have : i = 0 := by omega
            subst this; exact Int.le_refl _
  | succ j ih =>
    by_cases e : i = j + 1
    · subst e; exact Int.le_refl _
    · have h1 := ih (by omega) (by omega)
      rcases (buA_at h hj).2 with q | q
      · omega
      · rw [Nat.add_sub_cancel] at q
        omega
def clB (a b : FrT) : Bool := decide (fSt a < fEn b) && decide (fSt b < fEn a)
def Box6 (w : World) (j : Nat) (x0 x1 x2 x3 x4 : Int) (x5 : ByteArray) : Prop := j < w.heap.size ∧ w.cell? ⟨j, 0, none⟩ = some (.int .i64 x0) ∧ w.cell? ⟨j, 1, none⟩ = some (.int .i64 x1) ∧ w.cell? ⟨j, 2, none⟩ = some (.int .i64 x2) ∧ w.cell? ⟨j, 3, none⟩ = some (.int .i64 x3) ∧ w.cell? ⟨j, 4, none⟩ = some (.int .i64 x4) ∧ w.cell? ⟨j, 5, none⟩ = some (.string x5)
theorem Box6.belowB {j B : Nat} {w w' : World} {x0 x1 x2 x3 x4 : Int} {x5 : ByteArray} (h : Box6 w j x0 x1 x2 x3 x4 x5) (hw : Below B w w') (hk : j < B) : Box6 w' j x0 x1 x2 x3 x4 x5 := by
  obtain ⟨h0, h1, h2, h3, h4, h5, h6⟩ := h
  exact ⟨Nat.lt_of_lt_of_le h0 hw.size, by rw [hw.cell (p := ⟨j, 0, none⟩) hk]; exact h1, by rw [hw.cell (p := ⟨j, 1, none⟩) hk]; exact h2, by rw [hw.cell (p := ⟨j, 2, none⟩) hk]; exact h3, by rw [hw.cell (p := ⟨j, 3, none⟩) hk]; exact h4, by rw [hw.cell (p := ⟨j, 4, none⟩) hk]; exact h5, by rw [hw.cell (p := ⟨j, 5, none⟩) hk]; exact h6⟩
theorem Box6.below {j : Nat} {w w' : World} {x0 x1 x2 x3 x4 : Int} {x5 : ByteArray} (h : Box6 w j x0 x1 x2 x3 x4 x5) (hw : Below w.heap.size w w') : Box6 w' j x0 x1 x2 x3 x4 x5 := h.belowB hw h.1
theorem Box6.new (w : World) (x0 x1 x2 x3 x4 : Int) (x5 : ByteArray) (T : TypeId) : Box6 (w.alloc (.cells #[.int .i64 x0, .int .i64 x1, .int .i64 x2, .int .i64 x3, .int .i64 x4, .string x5] T)) w.heap.size x0 x1 x2 x3 x4 x5 := ⟨by simp, by simp, by simp, by simp, by simp, by simp, by simp⟩
set_option maxHeartbeats 1000000 in
theorem szFrame_left (x0 x1 x2 x3 x4 : Int) (x5 : ByteArray) (L : Int) (w : World) (hs : x5.size ≤ maxLen) (L0 : 0 ≤ L) (L1 : L ≤ 1048576) :
    Calls Try.prog 33 #[.agg #[.int .i64 x0, .int .i64 x1, .int .i64 x2, .int .i64 x3, .int .i64 x4, .string x5], .int .i64 L] w fun e w' => e = .returned (.int .i64 (if (x5.size : Int) ≤ L then L - (x5.size : Int) else -1)) ∧ Below w.heap.size w w' := by
  unfold maxLen at hs
  have B0 := Below.nw w (.cells #[.int .i64 x0, .int .i64 x1, .int .i64 x2, .int .i64 x3, .int .i64 x4, .string x5] 51)
  by_cases h : (x5.size : Int) ≤ L
  · rw [if_pos h]
    have hd : decide (L - (x5.size : Int) < 0) = false := by simp; omega
    go_enter Try.func33, Try.ntmps33
    go_wp2
    go_ret
    exact ⟨rfl, B0⟩
  · rw [if_neg h]
    have hd : decide (L - (x5.size : Int) < 0) = true := by simp; omega
    go_enter Try.func33, Try.ntmps33
    go_wp2
    go_ret
    exact ⟨rfl, B0⟩
set_option maxHeartbeats 2000000 in
theorem toFrame_any (x0 x1 x2 x3 x4 : Int) (x5 : ByteArray) (w : World) :
    Calls Try.prog 35 #[.agg #[.int .i64 x0, .int .i64 x1, .int .i64 x2, .int .i64 x3, .int .i64 x4, .string x5]] w fun e w' => e = .returned (.agg #[.int .i64 x0, .int .i64 x1, .int .i64 x2, .int .i64 x3, .int .i64 x4, .string x5]) ∧ Below w.heap.size w w' := by
  go_enter Try.func35, Try.ntmps35
  go_wp2_with fail
  exact bodyPost_ret (v := .agg #[.int .i64 x0, .int .i64 x1, .int .i64 x2, .int .i64 x3, .int .i64 x4, .string x5]) (by simp (maxDischargeDepth := 6) [results, Try.results35, go_sem, *]) rfl ⟨rfl, by repeat (first | exact Below.refl _ _ | refine Below.drew ?_ | refine Below.alloc ?_ (by first | (simp; done) | (simp; omega) | omega) _ | refine Below.setCell ?_ (by first | (simp; done) | (simp; omega) | omega) _ | refine Below.trans ?_ (Below.mono (by assumption) (by first | (simp; done) | (simp; omega) | omega)))⟩
set_option maxHeartbeats 2000000 in
theorem eqFrame_same (x0 x1 x2 x3 x4 : Int) (x5 : ByteArray) (w : World) :
    Calls Try.prog 86 #[.agg #[.int .i64 x0, .int .i64 x1, .int .i64 x2, .int .i64 x3, .int .i64 x4, .string x5], .agg #[.int .i64 x0, .int .i64 x1, .int .i64 x2, .int .i64 x3, .int .i64 x4, .string x5]] w fun e w' => e = .returned (.bool true) ∧ Below w.heap.size w w' := by
  go_enter Try.func86, Try.ntmps86
  go_wp2_with fail
  go_ret
  exact ⟨rfl, by repeat (first | exact Below.refl _ _ | refine Below.drew ?_ | refine Below.alloc ?_ (by first | (simp; done) | (simp; omega) | omega) _ | refine Below.setCell ?_ (by first | (simp; done) | (simp; omega) | omega) _ | refine Below.trans ?_ (Below.mono (by assumption) (by first | (simp; done) | (simp; omega) | omega)))⟩
end Go.Proofs.Ytnjoldjefknpbaa
