/- What the check of bytes is, and the contract of spec.Check8. -/
import Derived.Test.YtddjiamollfplaaDoorG2
import Derived.WalkKit
import Derived.WalkSpells
import Derived.WalkLawsBesides
import Derived.Deep.RegionHeld
namespace Go.Proofs.YtddjiamollfplaaDoor
open Go.RowKit
set_option linter.unusedVariables false
theorem xor_i64 (a b : Nat) (ha : a < 256) (hb : b < 256) : bits .xor .i64 (a : Int) (b : Int) = ((a ^^^ b : Nat) : Int) := by
  have e : bits .xor .i64 (a : Int) (b : Int) = IntKind.i64.wrap ((BitVec.ofInt 64 (a : Int) ^^^ BitVec.ofInt 64 (b : Int)).toNat : Int) := rfl
  have h1 : (BitVec.ofInt 64 (a : Int) ^^^ BitVec.ofInt 64 (b : Int)).toNat = a ^^^ b := by
    rw [BitVec.toNat_xor, BitVec.ofInt_natCast, BitVec.ofInt_natCast, BitVec.toNat_ofNat, BitVec.toNat_ofNat, Nat.mod_eq_of_lt (show a < 2 ^ 64 by omega), Nat.mod_eq_of_lt (show b < 2 ^ 64 by omega)]
  have h2 : a ^^^ b < 2 ^ 8 := Nat.xor_lt_two_pow (by omega) (by omega)
  rw [e, h1, Go.IntWalk.i64_in _ ⟨by omega, by omega⟩]
theorem xor_bd {a b : Int} (a0 : 0 ≤ a) (a1 : a ≤ 255) (b0 : 0 ≤ b) (b1 : b ≤ 255) : 0 ≤ bits .xor .i64 a b ∧ bits .xor .i64 a b ≤ 255 := by
  obtain ⟨m, rfl⟩ := Int.eq_ofNat_of_zero_le a0
  obtain ⟨n, rfl⟩ := Int.eq_ofNat_of_zero_le b0
  rw [xor_i64 m n (by omega) (by omega)]
  have h2 : m ^^^ n < 2 ^ 8 := Nat.xor_lt_two_pow (by omega) (by omega)
  omega
theorem and255I (a : Int) (h0 : 0 ≤ a) (h1 : a ≤ 9223372036854775807) : bits .and .i64 a 255 = a % 256 := by
  obtain ⟨n, rfl⟩ := Int.eq_ofNat_of_zero_le h0
  have e : bits .and .i64 (n : Int) 255 = IntKind.i64.wrap ((BitVec.ofInt 64 (n : Int) &&& BitVec.ofInt 64 255).toNat : Int) := rfl
  have h1 : (BitVec.ofInt 64 (n : Int) &&& BitVec.ofInt 64 255).toNat = n % 256 := by
    rw [BitVec.toNat_and, BitVec.ofInt_natCast, BitVec.toNat_ofNat, Nat.mod_eq_of_lt (show n < 2 ^ 64 by omega)]
    exact Nat.and_two_pow_sub_one_eq_mod n 8
  rw [e, h1, Go.IntWalk.i64_in _ ⟨by omega, by omega⟩]
  omega
def dblI (n : Int) : Int := if 255 < 2 * n then bits .xor .i64 (2 * n % 256) 7 else 2 * n
def turnI : Nat → Int → Int
  | 0, n => n
  | k + 1, n => dblI (turnI k n)
def chk (f : Nat → Int) : Nat → Int
  | 0 => 90
  | i + 1 => turnI 8 (bits .xor .i64 (chk f i) (f i))
theorem dblI_bd {n : Int} (h0 : 0 ≤ n) (h1 : n ≤ 255) : 0 ≤ dblI n ∧ dblI n ≤ 255 := by
  unfold dblI
  split
  · exact xor_bd (by omega) (by omega) (by omega) (by omega)
  · omega
theorem turnI_bd {n : Int} (h0 : 0 ≤ n) (h1 : n ≤ 255) : ∀ k, 0 ≤ turnI k n ∧ turnI k n ≤ 255
  | 0 => ⟨h0, h1⟩
  | k + 1 => dblI_bd (turnI_bd h0 h1 k).1 (turnI_bd h0 h1 k).2
theorem chk_bd {f : Nat → Int} : ∀ {n : Nat}, (∀ i, i < n → 0 ≤ f i ∧ f i ≤ 255) → 0 ≤ chk f n ∧ chk f n ≤ 255
  | 0, _ => by simp [chk]
  | n + 1, h => by
    have a := chk_bd (f := f) (n := n) (fun i hi => h i (by omega))
    have b := xor_bd a.1 a.2 (h n (by omega)).1 (h n (by omega)).2
    exact turnI_bd b.1 b.2 8
theorem dblI_hi {n : Int} (h : 255 < 2 * n) : dblI n = bits .xor .i64 (2 * n % 256) 7 := if_pos h
theorem dblI_lo {n : Int} (h : ¬ 255 < 2 * n) : dblI n = 2 * n := if_neg h
theorem chk_congr {f g : Nat → Int} : ∀ {n : Nat}, (∀ i, i < n → f i = g i) → chk f n = chk g n
  | 0, _ => rfl
  | n + 1, h => by simp only [chk]; rw [chk_congr (n := n) (fun i hi => h i (by omega)), h n (by omega)]
end Go.Proofs.YtddjiamollfplaaDoor
