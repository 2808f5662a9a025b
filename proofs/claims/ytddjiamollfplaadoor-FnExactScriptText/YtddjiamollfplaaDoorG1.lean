/- Contracts of Fold and Unfold, and the walks of their exact laws. -/
import Derived.Test.YtddjiamollfplaaDoorW1
import Derived.WalkKit
import Derived.WalkSpells
import Derived.WalkLawsBesides
import Derived.Deep.RegionHeld
namespace Go.Proofs.YtddjiamollfplaaDoor
open Go.RowKit
set_option linter.unusedVariables false
set_option maxHeartbeats 400000 in
theorem l1In_any (x l h : Int) (w : World) :
    Calls Tryd.prog 64 #[.int .i64 x, .int .i64 l, .int .i64 h] w fun e w' => e = .returned (.bool (decide (l ≤ x ∧ x ≤ h))) ∧ w = w' := by
  go_enter Tryd.func64, Tryd.ntmps64
  go_wp2
  all_goals go_ret
  all_goals exact ⟨ret_bool (by rw [Bool.eq_iff_iff]; simp; try omega), rfl⟩
def foldI (x : Int) : Int := if -1000000000000 ≤ x ∧ x ≤ 1000000000000 then (if x < 0 then -2 * x - 1 else 2 * x) else 0
def unfJ (x : Int) : Int := if x % 2 = 1 then -(x / 2) - 1 else x / 2
def unfI (x : Int) : Int := if 0 ≤ x ∧ x ≤ 2000000000000 then unfJ x else 0
end Go.Proofs.YtddjiamollfplaaDoor
