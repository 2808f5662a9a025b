/- Contracts of Fold and Unfold, and the walks of their exact laws. -/
import Derived.Test.YtciapenmdecdpaaW1
import Derived.WalkKit
import Derived.WalkSpells
import Derived.WalkLawsBesides
import Derived.Deep.RegionHeld
namespace Go.Proofs.Ytciapenmdecdpaa
open Go.RowKit
set_option linter.unusedVariables false
def foldI (x : Int) : Int := if -1000000000000 ≤ x ∧ x ≤ 1000000000000 then (if x < 0 then -2 * x - 1 else 2 * x) else 0
def unfJ (x : Int) : Int := if x % 2 = 1 then -(x / 2) - 1 else x / 2
def unfI (x : Int) : Int := if 0 ≤ x ∧ x ≤ 2000000000000 then unfJ x else 0
set_option maxHeartbeats 400000 in
theorem implFold_any (x : Int) (w : World) :
    Calls Try.prog 10 #[.int .i64 x] w fun e w' => e = .returned (.int .i64 (foldI x)) ∧ w = w' := by
  go_enter Try.func10, Try.ntmps10
  go_wp2
  all_goals go_ret
  all_goals exact ⟨ret_int (by unfold foldI; split <;> (try split) <;> omega), rfl⟩
set_option maxHeartbeats 400000 in
theorem unfolded_any (x : Int) (w : World) (h : 0 ≤ x) (hx : x ≤ 9223372036854775807) :
    Calls Try.prog 16 #[.int .i64 x] w fun e w' => e = .returned (.int .i64 (unfJ x)) ∧ w = w' := by
  by_cases ho : x % 2 = 1
  all_goals
    go_enter Try.func16, Try.ntmps16
    go_wp2
    go_ret
    exact ⟨ret_int (by unfold unfJ; split <;> omega), rfl⟩
set_option maxHeartbeats 400000 in
theorem implUnfold_any (x : Int) (w : World) :
    Calls Try.prog 11 #[.int .i64 x] w fun e w' => e = .returned (.int .i64 (unfI x)) ∧ w = w' := by
  by_cases h : 0 ≤ x ∧ x ≤ 2000000000000
  · have hl := h.1
    have hh := h.2
    have HU : Hid (unfI x = unfJ x) := by rw [Hid, unfI, if_pos h]
    clear h
    go_enter Try.func11, Try.ntmps11
    go_wp2_with (first | (go_at_call 16; refine (unfolded_any _ _ (by omega) (by omega)).mono ?_; rintro e w' ⟨rfl, rfl⟩))
    all_goals go_ret
    all_goals exact ⟨ret_int HU.out.symm, rfl⟩
  · have HU : Hid (unfI x = 0) := by rw [Hid, unfI, if_neg h]
    by_cases hn : x < 0
    · clear h
      go_enter Try.func11, Try.ntmps11
      go_wp2
      all_goals go_ret
      all_goals exact ⟨ret_int HU.out.symm, rfl⟩
    · have hb : 2000000000000 < x := by omega
      clear h
      go_enter Try.func11, Try.ntmps11
      go_wp2
      all_goals go_ret
      all_goals exact ⟨ret_int HU.out.symm, rfl⟩
end Go.Proofs.Ytciapenmdecdpaa
