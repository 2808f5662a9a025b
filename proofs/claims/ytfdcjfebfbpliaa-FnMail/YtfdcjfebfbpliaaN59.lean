/- Contracts of NetOldest, and the walk of its exact law. -/
import Derived.Test.YtfdcjfebfbpliaaN58
import Derived.Deep.RegionHeld3
import Derived.Deep.DeepCutAuto
import Derived.WalkKit
import Derived.WalkSpells
import Derived.WalkLawsBesides
import Derived.Deep.RegionHeld
namespace Go.Proofs.Ytfdcjfebfbpliaa
open Go.RowKit
set_option linter.unusedVariables false
def tmF (M : FT) : Int := M.2.2.2.2
def oldF (M : Nat → FT) : Nat → Int
  | 0 => -1
  | k + 1 => if oldF M k < 0 ∨ tmF (M k) < tmF (M (oldF M k).toNat) then (k : Int) else oldF M k
theorem oldF_bd (M : Nat → FT) : ∀ k, -1 ≤ oldF M k ∧ oldF M k < k
  | 0 => by simp [oldF]
  | k + 1 => by
    have := oldF_bd M k
    rw [oldF]
    split <;> omega
theorem oldF_go {M : Nat → FT} {k : Nat} (h : oldF M k < 0 ∨ tmF (M k) < tmF (M (oldF M k).toNat)) : oldF M (k + 1) = (k : Int) := by rw [oldF, if_pos h]
theorem oldF_stay {M : Nat → FT} {k : Nat} (h : ¬ (oldF M k < 0 ∨ tmF (M k) < tmF (M (oldF M k).toNat))) : oldF M (k + 1) = oldF M k := by rw [oldF, if_neg h]
def oldR (nx : Int) (M : Nat → FT) (n : Nat) : Int := if netB nx M n = true then oldF M n else -1
theorem oldR_no {nx : Int} {M : Nat → FT} {n : Nat} (h : netB nx M n = false) : oldR nx M n = -1 := by rw [oldR, h]; rfl
theorem oldR_ok {nx : Int} {M : Nat → FT} {n : Nat} (h : netB nx M n = true) : oldR nx M n = oldF M n := by rw [oldR, if_pos h]
theorem netB_40 {nx : Int} {M : Nat → FT} {n : Nat} (h : netB nx M n = true) : n ≤ 40 := by
  simp only [netB, Bool.and_eq_true, decide_eq_true_eq] at h
  exact h.1.2
end Go.Proofs.Ytfdcjfebfbpliaa
