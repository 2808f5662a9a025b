/- The contract of impl.NetSend. -/
import Derived.Test.YtfdcjfebfbpliaaN76
import Derived.Test.YtfdcjfebfbpliaaN72
import Derived.WalkKit
import Derived.WalkSpells
import Derived.WalkLawsBesides
import Derived.Deep.RegionHeld
namespace Go.Proofs.Ytfdcjfebfbpliaa
open Go.RowKit
set_option linter.unusedVariables false
theorem nOk_in {nx : Int} {M : Nat → FT} : ∀ {n : Nat}, nOk nx M n = true → ∀ j, j < n → (M j).1 < nx := by
  intro n
  induction n with
  | zero => intro _ j hj; exact absurd hj (Nat.not_lt_zero _)
  | succ k ih =>
    intro h j hj
    rw [nOk, Bool.and_eq_true, Bool.and_eq_true, Bool.and_eq_true] at h
    by_cases e : j = k
    · subst e
      have := h.2.1.2
      rw [inB, decide_eq_true_eq] at this
      omega
    · exact ih h.1 j (by omega)
theorem netB_rng {nx : Int} {M : Nat → FT} {n : Nat} (h : netB nx M n = true) : 0 ≤ nx ∧ nx ≤ 1000000 := by
  rw [netB, Bool.and_eq_true, Bool.and_eq_true, decide_eq_true_eq] at h
  exact h.1.1
theorem send_mine {nx : Int} {M : Nat → FT} {n : Nat} {f : FT} (h : netB nx M n = true) (hf : f.1 = nx) : ∀ j, j < n + 1 → (fun y => if y = nx then some f else lk M n y) (insG M n f j).1 = some (insG M n f j) := by
  intro j hj
  by_cases h1 : j < n
  · have e : insG M n f j = M j := by simp [insG, h1]
    rw [e]
    have hin := nOk_in (netB_nOk h) j h1
    show (if (M j).1 = nx then some f else lk M n (M j).1) = _
    rw [if_neg (by omega)]
    exact lk_mine (netB_nOk h) j h1
  · have e1 : j = n := by omega
    subst e1
    rw [insG_at]
    show (if f.1 = nx then some f else lk M j f.1) = _
    rw [if_pos hf]
end Go.Proofs.Ytfdcjfebfbpliaa
