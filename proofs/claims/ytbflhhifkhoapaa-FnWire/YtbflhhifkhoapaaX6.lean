/- What is read of bytes is the form of its number. -/
import Derived.Test.YtbflhhifkhoapaaX2
import Derived.WalkKit
import Derived.WalkSpells
import Derived.WalkLawsBesides
import Derived.Deep.QuietTactic
import Derived.BigQuiet
namespace Go.Proofs.Ytbflhhifkhoapaa
open Go.RowKit
set_option linter.unusedVariables false
theorem getS_form {f : Nat → Int} {n a : Nat} (hf : ∀ i, i < n → 0 ≤ f i ∧ f i ≤ 255) : ∀ (m k : Nat) (X v z : Int), getS f n a m k X = (v, z, true) →
    ∃ y, 0 ≤ y ∧ y < 128 ^ m ∧ (k = 0 ∨ 0 < y) ∧ v = X + y * 128 ^ k ∧ z = (a : Int) + k + (putN (m + 1) y).length ∧ (∀ i, i < (putN (m + 1) y).length → f (a + k + i) = (putN (m + 1) y).getD i 0) ∧ a + k + (putN (m + 1) y).length ≤ n
  | 0, k, X, v, z, h => by simp [getS] at h
  | m + 1, k, X, v, z, h => by
    by_cases h1 : a + k < n
    · have hb := hf (a + k) h1
      by_cases h2 : f (a + k) < 128
      · by_cases h3 : f (a + k) = 0 ∧ 0 < k
        · rw [getS_long h1 h3.1 h3.2] at h; simp at h
        · rw [getS_told h1 h2 h3] at h
          have e : putN (m + 1 + 1) (f (a + k)) = [f (a + k)] := putN_end (by omega)
          have hp := pow128_le (show 1 ≤ m + 1 by omega)
          have e1 : (128 : Int) ^ 1 = 128 := by decide
          have hm : f (a + k) % 128 = f (a + k) := by omega
          rw [hm] at h
          simp only [Prod.mk.injEq, and_true] at h
          refine ⟨f (a + k), hb.1, by omega, by omega, h.1.symm, by rw [e, ← h.2]; simp, fun i hi => ?_, by rw [e]; simp; omega⟩
          rw [e] at hi ⊢
          simp at hi
          subst hi
          simp
      · rw [getS_on h1 h2] at h
        obtain ⟨y, y0, y1, yk, hv, hz, hy, hl⟩ := getS_form hf m (k + 1) _ v z h
        have yp : 0 < y := by omega
        have hq : (y * 128 + f (a + k) % 128) / 128 = y := by omega
        have hr : (y * 128 + f (a + k) % 128) % 128 = f (a + k) % 128 := by omega
        have e : putN (m + 1 + 1) (y * 128 + f (a + k) % 128) = f (a + k) :: putN (m + 1) y := by
          rw [putN_go (by omega), hq, hr]
          congr 1
          omega
        have e1 : (128 : Int) ^ (k + 1) = 128 ^ k * 128 := Int.pow_succ ..
        have e2 : (128 : Int) ^ (m + 1) = 128 ^ m * 128 := Int.pow_succ ..
        refine ⟨y * 128 + f (a + k) % 128, by omega, by omega, .inr (by omega), ?_, ?_, fun i hi => ?_, ?_⟩
        · rw [hv, e1, Int.add_mul]
          have : y * (128 ^ k * 128) = y * 128 * 128 ^ k := by rw [Int.mul_comm (128 ^ k) 128, ← Int.mul_assoc]
          rw [this]
          omega
        · rw [e, hz]; simp; omega
        · rw [e] at hi ⊢
          cases i with
          | zero => simp
          | succ i =>
            simp at hi
            have := hy i hi
            rw [show a + (k + 1) + i = a + k + (i + 1) by omega] at this
            simpa using this
        · rw [e]; simp; omega
    · rw [getS_end h1] at h; simp at h
theorem get_form {f : Nat → Int} {n : Nat} {x v z : Int} (hf : ∀ i, i < n → 0 ≤ f i ∧ f i ≤ 255) (h : getI f n x = (v, z, true)) :
    0 ≤ x ∧ 0 ≤ v ∧ v ≤ 9223372036854775807 ∧ z = x + (putL v).length ∧ (∀ i, i < (putL v).length → f (x.toNat + i) = (putL v).getD i 0) ∧ x.toNat + (putL v).length ≤ n := by
  unfold getI at h
  split at h
  · next hx =>
    obtain ⟨y, y0, y1, _, hv, hz, hy, hl⟩ := getS_form hf 9 0 0 v z h
    have e : v = y := by rw [hv]; simp
    subst e
    have hp : putL v = putN 10 v := by rw [putL, if_neg (by omega)]
    rw [pow128_9] at y1
    rw [hp]
    exact ⟨hx.1, y0, by omega, by rw [hz]; have := Int.toNat_of_nonneg hx.1; simp; omega, fun i hi => hy i hi, hl⟩
  · simp at h
end Go.Proofs.Ytbflhhifkhoapaa
