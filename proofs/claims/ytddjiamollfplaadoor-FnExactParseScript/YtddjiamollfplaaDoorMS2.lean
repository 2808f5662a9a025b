/- Contracts of the functions of chapter 1 (intervals) in the specification and in the program, and the walks of its first exact laws. Contracts of Fold and Unfold, and the walks of their exact laws. Contracts of MsgOk. -/
import Derived.Test.YtddjiamollfplaaDoorRows
import Derived.WalkKit
import Derived.WalkSpells
import Derived.WalkLawsBesides
import Derived.Deep.RegionHeld
namespace Go.Proofs.YtddjiamollfplaaDoor
open Go.RowKit
set_option linter.unusedVariables false
theorem ret_bool {a b : Bool} (h : a = b) : Ending.returned (.bool a) = .returned (.bool b) := by rw [h]
end Go.Proofs.YtddjiamollfplaaDoor
namespace Go.Proofs.YtddjiamollfplaaDoor
open Go.RowKit
set_option linter.unusedVariables false
set_option maxHeartbeats 400000 in
theorem l1In_any (x l h : Int) (w : World) :
 Calls Tryd.prog 64 #[.int .i64 x, .int .i64 l, .int .i64 h] w fun e w' => e = .returned (.bool (decide (l ≤ x ∧ x ≤ h))) ∧ w = w' := by
 go_enter Tryd.func64, Tryd.ntmps64
 go_wp2
 all_goals go_ret
 all_goals exact ⟨ret_bool (by rw [Bool.eq_iff_iff]; simp; try omega), rfl⟩
end Go.Proofs.YtddjiamollfplaaDoor
namespace Go.Proofs.YtddjiamollfplaaDoor
open Go.RowKit
set_option linter.unusedVariables false
def nodB (n : Int) : Bool := decide (0 ≤ n ∧ n ≤ 7)
set_option maxHeartbeats 400000 in
theorem l4Node_any (n : Int) (w : World) :
 Calls Tryd.prog 91 #[.int .i64 n] w fun e w' => e = .returned (.bool (nodB n)) ∧ w = w' := by
 go_enter Tryd.func91, Tryd.ntmps91
 go_wp2_with (first | (go_at_call 64; refine (l1In_any _ _ _ _).mono ?_; rintro e w' ⟨rfl, rfl⟩))
 go_ret
 exact ⟨ret_bool (by simp [nodB]), rfl⟩
def Box8 (w : World) (j : Nat) (k fr tuu no lo hi sl : Int) (s : ByteArray) : Prop := j < w.heap.size ∧ w.cell? ⟨j, 0, none⟩ = some (.int .i64 k) ∧ w.cell? ⟨j, 1, none⟩ = some (.int .i64 fr) ∧ w.cell? ⟨j, 2, none⟩ = some (.int .i64 tuu) ∧ w.cell? ⟨j, 3, none⟩ = some (.int .i64 no) ∧ w.cell? ⟨j, 4, none⟩ = some (.int .i64 lo) ∧ w.cell? ⟨j, 5, none⟩ = some (.int .i64 hi) ∧ w.cell? ⟨j, 6, none⟩ = some (.int .i64 sl) ∧ w.cell? ⟨j, 7, none⟩ = some (.string s)
theorem Box8.belowB {j B : Nat} {w w' : World} {k fr tuu no lo hi sl : Int} {s : ByteArray} (h : Box8 w j k fr tuu no lo hi sl s) (hw : Below B w w') (hk : j < B) : Box8 w' j k fr tuu no lo hi sl s := by
 obtain ⟨h0, h1, h2, h3, h4, h5, h6, h7, h8⟩ := h
 exact ⟨Nat.lt_of_lt_of_le h0 hw.size, by rw [hw.cell (p := ⟨j, 0, none⟩) hk]; exact h1, by rw [hw.cell (p := ⟨j, 1, none⟩) hk]; exact h2, by rw [hw.cell (p := ⟨j, 2, none⟩) hk]; exact h3, by rw [hw.cell (p := ⟨j, 3, none⟩) hk]; exact h4, by rw [hw.cell (p := ⟨j, 4, none⟩) hk]; exact h5, by rw [hw.cell (p := ⟨j, 5, none⟩) hk]; exact h6, by rw [hw.cell (p := ⟨j, 6, none⟩) hk]; exact h7, by rw [hw.cell (p := ⟨j, 7, none⟩) hk]; exact h8⟩
theorem Box8.below {j : Nat} {w w' : World} {k fr tuu no lo hi sl : Int} {s : ByteArray} (h : Box8 w j k fr tuu no lo hi sl s) (hw : Below w.heap.size w w') : Box8 w' j k fr tuu no lo hi sl s := h.belowB hw h.1
theorem Box8.new (w : World) (k fr tuu no lo hi sl : Int) (s : ByteArray) (T : TypeId) : Box8 (w.alloc (.cells #[.int .i64 k, .int .i64 fr, .int .i64 tuu, .int .i64 no, .int .i64 lo, .int .i64 hi, .int .i64 sl, .string s] T)) w.heap.size k fr tuu no lo hi sl s := ⟨by simp, by simp, by simp, by simp, by simp, by simp, by simp, by simp, by simp⟩
end Go.Proofs.YtddjiamollfplaaDoor
