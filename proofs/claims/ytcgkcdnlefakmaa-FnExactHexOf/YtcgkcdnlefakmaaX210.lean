/- The text of a number: TextOf in the specification. -/
import Derived.Test.YtcgkcdnlefakmaaJ1
import Derived.Deep.RegionHeld3
import Derived.WalkKit
import Derived.WalkSpells
import Derived.WalkLawsBesides
import Derived.Deep.RegionHeld
namespace Go.Proofs.Ytcgkcdnlefakmaa
open Go.RowKit
set_option linter.unusedVariables false
def tdS : Nat → Nat → ByteArray → ByteArray
  | 0, _, s => s
  | f + 1, K, s => if K = 0 then s else tdS f (K / 10) (strOfNums [48 + (K : Int) % 10] ++ s)
theorem tdS_go {f K : Nat} {s : ByteArray} (h : K ≠ 0) : tdS (f + 1) K s = tdS f (K / 10) (strOfNums [48 + (K : Int) % 10] ++ s) := by rw [tdS, if_neg h]
theorem tdS_end {s : ByteArray} : ∀ f, tdS f 0 s = s
  | 0 => rfl
  | f + 1 => by rw [tdS, if_pos rfl]
/- The digits of a number that is not below 0; the text of a number. -/
def dgs (K : Nat) : ByteArray := tdS 20 K ⟨#[]⟩
def txI (n : Int) : ByteArray := if n = 0 then ⟨#[48]⟩ else if n < 0 then ⟨#[45]⟩ ++ dgs n.natAbs else dgs n.natAbs
theorem txI_z : txI 0 = ⟨#[48]⟩ := rfl
theorem txI_p {K : Nat} (h : K ≠ 0) : txI (K : Int) = dgs K := by
  rw [txI, if_neg (by omega), if_neg (by omega)]; rfl
theorem txI_n {K : Nat} (h : K ≠ 0) : txI (-(K : Int)) = ⟨#[45]⟩ ++ dgs K := by
  rw [txI, if_neg (by omega), if_pos (by omega), Int.natAbs_neg]; rfl
theorem ten_step {f K : Nat} (h : K < 10 ^ (f + 1)) : K / 10 < 10 ^ f := by rw [Nat.pow_succ] at h; omega
theorem ten_pos {f K : Nat} (h : K < 10 ^ f) (hz : K ≠ 0) : ∃ g, f = g + 1 := by
  cases f with
  | zero => exact absurd h (by simp; omega)
  | succ g => exact ⟨g, rfl⟩
theorem tmod_neg (K : Nat) : Int.tmod (-(K : Int)) 10 = -((K % 10 : Nat) : Int) := by rw [Int.neg_tmod]; rfl
theorem tdiv_neg (K : Nat) : Int.tdiv (-(K : Int)) 10 = -((K / 10 : Nat) : Int) := by rw [Int.neg_tdiv]; rfl
theorem tmod_pos (K : Nat) : Int.tmod (K : Int) 10 = ((K % 10 : Nat) : Int) := rfl
theorem tdiv_pos (K : Nat) : Int.tdiv (K : Int) 10 = ((K / 10 : Nat) : Int) := rfl
end Go.Proofs.Ytcgkcdnlefakmaa
