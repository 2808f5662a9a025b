/- What intervals two by two come to, and spec.MeetAll where it refuses. -/
import Derived.Test.YtaggohibfghnmaaS1
import Derived.Deep.OwnRows
import Derived.Test.YtaggohibfghnmaaW4
import Derived.WalkKit
import Derived.WalkSpells
import Derived.WalkLawsBesides
import Derived.Deep.RegionHeld
namespace Go.Proofs.Ytaggohibfghnmaa
open Go.RowKit
set_option linter.unusedVariables false
def acc (B : Int → Int → Int → Int → Bool) (X Y : Int → Int → Int) (f : Nat → Int × Int) : Nat → Bool × Int × Int
  | 0 => (okI (f 0).1 (f 0).2, sel (okI (f 0).1 (f 0).2) (f 0).1, sel (okI (f 0).1 (f 0).2) (f 0).2)
  | k + 1 =>
    ((acc B X Y f k).1 && B (acc B X Y f k).2.1 (acc B X Y f k).2.2 (f (k + 1)).1 (f (k + 1)).2,
     sel ((acc B X Y f k).1 && B (acc B X Y f k).2.1 (acc B X Y f k).2.2 (f (k + 1)).1 (f (k + 1)).2) (X (acc B X Y f k).2.1 (f (k + 1)).1),
     sel ((acc B X Y f k).1 && B (acc B X Y f k).2.1 (acc B X Y f k).2.2 (f (k + 1)).1 (f (k + 1)).2) (Y (acc B X Y f k).2.2 (f (k + 1)).2))
section
variable {B : Int → Int → Int → Int → Bool} {X Y : Int → Int → Int} {f : Nat → Int × Int}
theorem acc_zero : ∀ {m : Nat}, (acc B X Y f m).1 = false → acc B X Y f m = (false, 0, 0)
  | 0, h => by simp only [acc] at h ⊢; rw [h]; rfl
  | m + 1, h => by simp only [acc] at h ⊢; rw [h]; rfl
theorem acc_no {k : Nat} (h : (acc B X Y f k).1 = false) : ∀ m, k ≤ m → (acc B X Y f m).1 = false
  | 0, hm => by have : k = 0 := by omega
                subst this; exact h
  | m + 1, hm => by
    by_cases e : k = m + 1
    · subst e; exact h
    · simp [acc, acc_no h m (by omega)]
theorem acc_step {k : Nat} {x y : Int} (h : acc B X Y f k = (true, x, y)) : acc B X Y f (k + 1) = (B x y (f (k + 1)).1 (f (k + 1)).2, sel (B x y (f (k + 1)).1 (f (k + 1)).2) (X x (f (k + 1)).1), sel (B x y (f (k + 1)).1 (f (k + 1)).2) (Y y (f (k + 1)).2)) := by
  simp [acc, h]
theorem acc_ok (hB : ∀ a b c d, B a b c d = true → okI c d = true) : ∀ {m : Nat}, (acc B X Y f m).1 = true → allOk f (m + 1) = true
  | 0, h => by simp only [acc] at h; simp [allOk, h]
  | m + 1, h => by
    simp only [acc, Bool.and_eq_true] at h
    have h1 := acc_ok hB (m := m) h.1
    have h2 := hB _ _ _ _ h.2
    rw [allOk, h1, h2]; rfl
theorem acc_bad (hB : ∀ a b c d, B a b c d = true → okI c d = true) {n : Nat} (hn : 1 ≤ n) (h : allOk f n = false) : acc B X Y f (n - 1) = (false, 0, 0) := by
  apply acc_zero
  cases e : (acc B X Y f (n - 1)).1
  · rfl
  · have := acc_ok hB e
    rw [show n - 1 + 1 = n by omega, h] at this
    exact absurd this (by simp)
theorem acc_first {n : Nat} (hn : 1 ≤ n) (h : allOk f n = true) : acc B X Y f 0 = (true, (f 0).1, (f 0).2) := by
  have h0 : okI (f 0).1 (f 0).2 = true := by
    cases e : okI (f 0).1 (f 0).2
    · rw [allOk_no e n (by omega)] at h; exact absurd h (by simp)
    · rfl
  simp only [acc, h0]; rfl
end
theorem meetB_ok (a b c d : Int) (h : meetB a b c d = true) : okI c d = true := by
  simp only [meetB, okII, Bool.and_eq_true] at h; exact h.1.2
theorem joinB_ok (a b c d : Int) (h : joinB a b c d = true) : okI c d = true := by
  simp only [joinB, okII, Bool.and_eq_true] at h; exact h.2
end Go.Proofs.Ytaggohibfghnmaa
