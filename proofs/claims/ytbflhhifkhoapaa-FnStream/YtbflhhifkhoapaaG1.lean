/- Contracts of Fold and Unfold, and the walks of their exact laws. -/
import Derived.Test.YtbflhhifkhoapaaW1
import Derived.WalkKit
import Derived.WalkSpells
import Derived.WalkLawsBesides
import Derived.Deep.RegionHeld
namespace Go.Proofs.Ytbflhhifkhoapaa
open Go.RowKit
set_option linter.unusedVariables false
set_option maxHeartbeats 400000 in
theorem l1In_any (x l h : Int) (w : World) :
    Calls Try.prog 41 #[.int .i64 x, .int .i64 l, .int .i64 h] w fun e w' => e = .returned (.bool (decide (l ≤ x ∧ x ≤ h))) ∧ w = w' := by
  go_enter Try.func41, Try.ntmps41
  go_wp2
  all_goals go_ret
  all_goals exact ⟨ret_bool (by rw [Bool.eq_iff_iff]; simp; try omega), rfl⟩
def foldI (x : Int) : Int := if -1000000000000 ≤ x ∧ x ≤ 1000000000000 then (if x < 0 then -2 * x - 1 else 2 * x) else 0
def unfJ (x : Int) : Int := if x % 2 = 1 then -(x / 2) - 1 else x / 2
def unfI (x : Int) : Int := if 0 ≤ x ∧ x ≤ 2000000000000 then unfJ x else 0
set_option maxHeartbeats 400000 in
theorem specFold_any (x : Int) (w : World) :
    Calls Try.prog 85 #[.int .i64 x] w fun e w' => e = .returned (.int .i64 (foldI x)) ∧ w = w' := by
  by_cases h : -1000000000000 ≤ x ∧ x ≤ 1000000000000
  · have hd : decide (-1000000000000 ≤ x ∧ x ≤ 1000000000000) = true := decide_eq_true h
    have hl := h.1
    have hh := h.2
    go_enter Try.func85, Try.ntmps85
    go_wp2_with (first | (go_at_call 41; refine (l1In_any _ _ _ _).mono ?_; rintro e w' ⟨rfl, rfl⟩; rw [hd]))
    all_goals go_ret
    all_goals exact ⟨ret_int (by rw [foldI, if_pos h]; split <;> omega), rfl⟩
  · have hd : decide (-1000000000000 ≤ x ∧ x ≤ 1000000000000) = false := decide_eq_false h
    have HH : Hid (¬ (-1000000000000 ≤ x ∧ x ≤ 1000000000000)) := h
    clear h
    go_enter Try.func85, Try.ntmps85
    go_wp2_with (first | (go_at_call 41; refine (l1In_any _ _ _ _).mono ?_; rintro e w' ⟨rfl, rfl⟩; rw [hd]))
    all_goals go_ret
    all_goals exact ⟨ret_int (by rw [foldI, if_neg HH.out]), rfl⟩
set_option maxHeartbeats 400000 in
theorem implFold_any (x : Int) (w : World) :
    Calls Try.prog 38 #[.int .i64 x] w fun e w' => e = .returned (.int .i64 (foldI x)) ∧ w = w' := by
  go_enter Try.func38, Try.ntmps38
  go_wp2
  all_goals go_ret
  all_goals exact ⟨ret_int (by unfold foldI; split <;> (try split) <;> omega), rfl⟩
set_option maxHeartbeats 400000 in
theorem unfolded_any (x : Int) (w : World) (h : 0 ≤ x) (hx : x ≤ 9223372036854775807) :
    Calls Try.prog 82 #[.int .i64 x] w fun e w' => e = .returned (.int .i64 (unfJ x)) ∧ w = w' := by
  by_cases ho : x % 2 = 1
  all_goals
    go_enter Try.func82, Try.ntmps82
    go_wp2
    go_ret
    exact ⟨ret_int (by unfold unfJ; split <;> omega), rfl⟩
set_option maxHeartbeats 400000 in
theorem specUnfold_any (x : Int) (w : World) :
    Calls Try.prog 84 #[.int .i64 x] w fun e w' => e = .returned (.int .i64 (unfI x)) ∧ w = w' := by
  by_cases h : 0 ≤ x ∧ x ≤ 2000000000000
  · have hd : decide (0 ≤ x ∧ x ≤ 2000000000000) = true := decide_eq_true h
    have hl := h.1
    have hh := h.2
    have ht : (-(x + 1)).tdiv 2 = -((x + 1) / 2) := by rw [Int.neg_tdiv, Int.tdiv_eq_ediv_of_nonneg (by omega)]
    have HE : Hid (unfI x = unfJ x) := by rw [Hid, unfI, if_pos h]
    clear h
    by_cases ho : x % 2 = 1
    all_goals
      go_enter Try.func84, Try.ntmps84
      go_wp2_with (first | (go_at_call 41; refine (l1In_any _ _ _ _).mono ?_; rintro e w' ⟨rfl, rfl⟩; rw [hd]))
      go_ret
      exact ⟨ret_int (by rw [HE.out, unfJ]; split <;> omega), rfl⟩
  · have hd : decide (0 ≤ x ∧ x ≤ 2000000000000) = false := decide_eq_false h
    have HH : Hid (¬ (0 ≤ x ∧ x ≤ 2000000000000)) := h
    clear h
    go_enter Try.func84, Try.ntmps84
    go_wp2_with (first | (go_at_call 41; refine (l1In_any _ _ _ _).mono ?_; rintro e w' ⟨rfl, rfl⟩; rw [hd]))
    all_goals go_ret
    all_goals exact ⟨ret_int (by rw [unfI, if_neg HH.out]), rfl⟩
end Go.Proofs.Ytbflhhifkhoapaa
