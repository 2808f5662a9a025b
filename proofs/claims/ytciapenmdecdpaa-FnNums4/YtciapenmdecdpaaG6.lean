/- Contracts of GetNum. -/
import Derived.Test.YtciapenmdecdpaaG2
import Derived.WalkKit
import Derived.WalkSpells
import Derived.WalkLawsBesides
import Derived.Deep.RegionHeld
namespace Go.Proofs.Ytciapenmdecdpaa
open Go.RowKit
set_option linter.unusedVariables false
def getS (f : Nat → Int) (n a : Nat) : Nat → Nat → Int → Int × Int × Bool
  | 0, _, _ => (0, 0, false)
  | m + 1, k, X => if a + k < n then (if f (a + k) < 128 then (if f (a + k) = 0 ∧ 0 < k then (0, 0, false) else (X + f (a + k) % 128 * 128 ^ k, (a : Int) + k + 1, true)) else getS f n a m (k + 1) (X + f (a + k) % 128 * 128 ^ k)) else (0, 0, false)
def getI (f : Nat → Int) (n : Nat) (at' : Int) : Int × Int × Bool := if 0 ≤ at' ∧ at' < n then getS f n at'.toNat 9 0 0 else (0, 0, false)
section
variable {f : Nat → Int} {n a m k : Nat} {X : Int}
theorem getS_end (h : ¬ a + k < n) : getS f n a m k X = (0, 0, false) := by
  cases m with
  | zero => rfl
  | succ m => rw [getS, if_neg h]
theorem getS_long (h : a + k < n) (hz : f (a + k) = 0) (hk : 0 < k) : getS f n a m k X = (0, 0, false) := by
  cases m with
  | zero => rfl
  | succ m => rw [getS, if_pos h, if_pos (by omega), if_pos ⟨hz, hk⟩]
theorem getS_told (h : a + k < n) (h1 : f (a + k) < 128) (hz : ¬ (f (a + k) = 0 ∧ 0 < k)) : getS f n a (m + 1) k X = (X + f (a + k) % 128 * 128 ^ k, (a : Int) + k + 1, true) := by
  rw [getS, if_pos h, if_pos h1, if_neg hz]
theorem getS_on (h : a + k < n) (h1 : ¬ f (a + k) < 128) : getS f n a (m + 1) k X = getS f n a m (k + 1) (X + f (a + k) % 128 * 128 ^ k) := by
  rw [getS, if_pos h, if_neg h1]
end
theorem pow128_le {k m : Nat} (h : k ≤ m) : (128 : Int) ^ k ≤ 128 ^ m := by
  obtain ⟨d, rfl⟩ := Nat.exists_eq_add_of_le h
  rw [Int.pow_add]
  have h1 : (0 : Int) < 128 ^ k := Int.pow_pos (by omega)
  have h2 : (0 : Int) < 128 ^ d := Int.pow_pos (by omega)
  have := Int.mul_le_mul_of_nonneg_left (show (1 : Int) ≤ 128 ^ d by omega) (Int.le_of_lt h1)
  simpa using this
theorem pow128_9 : (128 : Int) ^ 9 = 9223372036854775808 := by decide
theorem gstep {X z : Int} {k : Nat} (hk : k < 9) (h0 : 0 ≤ X) (h1 : X < 128 ^ k) (z0 : 0 ≤ z) (z1 : z ≤ 127) :
    0 ≤ z * 128 ^ k ∧ X + z * 128 ^ k < 128 ^ (k + 1) ∧ X + z * 128 ^ k ≤ 9223372036854775807 ∧ (128 : Int) ^ k ≤ 72057594037927936 ∧ 1 ≤ (128 : Int) ^ k := by
  have hp : (0 : Int) < 128 ^ k := Int.pow_pos (by omega)
  have a1 : 0 ≤ z * 128 ^ k := Int.mul_nonneg z0 (Int.le_of_lt hp)
  have a2 : z * 128 ^ k ≤ 127 * 128 ^ k := Int.mul_le_mul_of_nonneg_right z1 (Int.le_of_lt hp)
  have a3 := pow128_le (show k + 1 ≤ 9 by omega)
  have a4 := pow128_le (show k ≤ 8 by omega)
  have a5 : (128 : Int) ^ 8 = 72057594037927936 := by decide
  rw [pow128_9, Int.pow_succ] at a3
  rw [Int.pow_succ]
  refine ⟨a1, by omega, by omega, by omega, by omega⟩
theorem pow27 (k : Nat) : (2 : Int) ^ (7 * k) = 128 ^ k := by rw [Int.pow_mul]; rfl
theorem or_step {X z : Int} {k : Nat} (hk : k < 9) (h0 : 0 ≤ X) (h1 : X < 128 ^ k) (z0 : 0 ≤ z) (z1 : z ≤ 127) : bits .or .i64 X (z * 2 ^ (7 * k)) = X + z * 128 ^ k := by
  have hg := gstep hk h0 h1 z0 z1
  obtain ⟨Xn, rfl⟩ := Int.eq_ofNat_of_zero_le h0
  obtain ⟨zn, rfl⟩ := Int.eq_ofNat_of_zero_le z0
  have e : ((128 : Int) ^ k) = ((2 ^ (7 * k) : Nat) : Int) := by rw [← pow27, Int.natCast_pow]; rfl
  rw [e] at h1 hg ⊢
  have h3 := hg.2.2.1
  rw [← Int.natCast_mul] at h3
  have := or_join Xn zn (7 * k) (Int.ofNat_lt.1 h1) (by omega)
  rw [pow27, e, ← Int.natCast_mul, ← Int.natCast_add]
  exact this
end Go.Proofs.Ytciapenmdecdpaa
