/- OpLine in the program. -/
import Derived.Test.YtddjiamollfplaaDoorMS29
namespace Go.Proofs.YtddjiamollfplaaDoor
open Go.RowKit
set_option linter.unusedVariables false
theorem psL_get (ob : Nat) (ad : Addr) : ∀ n j x, (psL ob ad n)[j]? = some x → (j = 0 ∧ x = ⟨ob, 3, none⟩) ∨ (1 ≤ j ∧ j ≤ n ∧ x = ad.add (j - 1))
 | 0, j, x, h => by
  rw [psL] at h
  match j, h with
  | 0, h => simp at h; exact .inl ⟨rfl, h.symm⟩
  | j + 1, h => simp at h
 | n + 1, j, x, h => by
  rw [psL] at h
  by_cases hj : j < 1 + n
  ·rw [List.getElem?_append_left (by rw [psL_len]; exact hj)] at h
   rcases psL_get ob ad n j x h with q | ⟨q1, q2, q3⟩
   ·exact .inl q
   ·exact .inr ⟨q1, by omega, q3⟩
  ·rw [List.getElem?_append_right (by rw [psL_len]; omega), psL_len] at h
   match hd : j - (1 + n), h with
   | 0, h => simp at h; exact .inr ⟨by omega, by omega, by rw [← h]; congr 1; omega⟩
   | d + 1, h => simp at h
theorem opX_is (ob : Nat) (k : Int) : opX ob k = tpV (opT k) ⟨ob, 5, none⟩ := by
 unfold opX opT tpV
 by_cases h : k = 9 ∨ k = 14
 ·rw [if_pos h, decide_eq_true h]
 ·rw [if_neg h, decide_eq_false h]
end Go.Proofs.YtddjiamollfplaaDoor
