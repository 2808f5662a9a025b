/- A number is read from its form; no lesser number has a longer form; Unfold undoes Fold. -/
import Derived.Test.YtbflhhifkhoapaaG1
import Derived.Test.YtbflhhifkhoapaaG6b
import Derived.Test.YtbflhhifkhoapaaG3
import Derived.WalkKit
import Derived.WalkSpells
import Derived.WalkLawsBesides
import Derived.Deep.QuietTactic
import Derived.BigQuiet
namespace Go.Proofs.Ytbflhhifkhoapaa
open Go.RowKit
set_option linter.unusedVariables false
theorem putN_pos (k : Nat) (x : Int) : 1 ≤ (putN (k + 1) x).length := by unfold putN; split <;> simp
theorem putN_mono : ∀ (k : Nat) (x y : Int), x ≤ y → (putN k x).length ≤ (putN k y).length
  | 0, _, _, _ => by simp [putN]
  | k + 1, x, y, h => by
    by_cases hx : 127 < x
    · rw [putN_go hx, putN_go (by omega)]
      have := putN_mono k (x / 128) (y / 128) (by omega)
      simpa using this
    · rw [putN_end hx]
      exact putN_pos k y
theorem putL_mono {x y : Int} (h0 : 0 ≤ x) (h : x ≤ y) : (putL x).length ≤ (putL y).length := by
  rw [putL, if_neg (by omega), putL, if_neg (by omega)]
  exact putN_mono 10 x y h
theorem getS_put (f : Nat → Int) (n a : Nat) : ∀ (m k : Nat) (y X : Int), 0 ≤ y → y < 128 ^ m → (k = 0 ∨ 0 < y) → (m = 0 → k ≠ 0) → (∀ i, i < (putN (m + 1) y).length → f (a + k + i) = (putN (m + 1) y).getD i 0) → a + k + (putN (m + 1) y).length ≤ n →
    getS f n a m k X = (X + y * 128 ^ k, (a : Int) + k + (putN (m + 1) y).length, true)
  | 0, k, y, X, h0, h1, h2, h3, _, _ => by simp at h1; rcases h2 with h2 | h2; exact absurd h2 (h3 rfl); omega
  | m + 1, k, y, X, h0, h1, h2, _, hf, hn => by
    by_cases hy : 127 < y
    · have hl := putN_go (k := m + 1) hy
      rw [hl] at hf hn ⊢
      have e0 : f (a + k) = y % 128 + 128 := by have := hf 0 (by simp); simpa using this
      have hlen : a + k < n := by simp at hn; omega
      rw [getS_on hlen (by omega), e0, show (y % 128 + 128) % 128 = y % 128 by omega]
      have ih := getS_put f n a m (k + 1) (y / 128) (X + y % 128 * 128 ^ k) (by omega) (div_pow h1) (.inr (by omega)) (fun _ => by omega) (fun i hi => by
        have := hf (i + 1) (by simp; omega)
        rw [show a + k + (i + 1) = a + (k + 1) + i by omega] at this
        simpa using this) (by simp at hn; omega)
      rw [ih]
      have e1 : (128 : Int) ^ (k + 1) = 128 * 128 ^ k := by rw [Int.pow_succ, Int.mul_comm]
      have e2 : y / 128 * (128 * 128 ^ k) = 128 * (y / 128) * 128 ^ k := by rw [← Int.mul_assoc, Int.mul_comm (y / 128) 128]
      have e3 : y % 128 * 128 ^ k + 128 * (y / 128) * 128 ^ k = y * 128 ^ k := by rw [← Int.add_mul, Int.emod_add_mul_ediv]
      refine Prod.ext ?_ (Prod.ext ?_ rfl)
      · show X + y % 128 * 128 ^ k + y / 128 * 128 ^ (k + 1) = X + y * 128 ^ k
        rw [e1, e2, Int.add_assoc, e3]
      · show (a : Int) + ((k + 1 : Nat) : Int) + _ = _
        simp; omega
    · have hl := putN_end (k := m + 1) hy
      rw [hl] at hf hn ⊢
      have e0 : f (a + k) = y := by have := hf 0 (by simp); simpa using this
      have hlen : a + k < n := by simp at hn; omega
      rw [getS_told hlen (by omega) (by omega), e0, show y % 128 = y by omega]
      simp
theorem get_put (x z : Int) (h0 : 0 ≤ x) (h1 : x ≤ 9223372036854775807) : getI (fun i => (putL x ++ [z]).getD i 0) (putL x ++ [z]).length 0 = (x, ((putL x).length : Int), true) := by
  have hp : putL x = putN 10 x := by rw [putL, if_neg (by omega)]
  have hl := putN_pos 9 x
  rw [hp, getI, if_pos ⟨by omega, by simp⟩]
  have h9 : x < 128 ^ 9 := by rw [pow128_9]; omega
  have := getS_put (fun i => (putN 10 x ++ [z]).getD i 0) (putN 10 x ++ [z]).length 0 9 0 x 0 h0 h9 (.inl rfl) (fun h => by omega) (fun i hi => by simp [List.getElem?_append_left hi]) (by simp)
  simpa using this
theorem unfold_fold {t : Int} (h : -1000000000000 ≤ t ∧ t ≤ 1000000000000) : unfI (foldI t) = t ∧ 0 ≤ foldI t := by
  unfold unfI unfJ foldI
  rw [if_pos h]
  split
  · rw [if_pos (by omega)]; split <;> omega
  · rw [if_pos (by omega)]; split <;> omega
end Go.Proofs.Ytbflhhifkhoapaa
