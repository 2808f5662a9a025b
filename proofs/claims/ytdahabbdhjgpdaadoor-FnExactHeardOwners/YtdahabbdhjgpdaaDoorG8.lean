/- Contracts of MsgOk. -/
import Derived.Test.YtdahabbdhjgpdaaDoorG1
import Derived.WalkKit
import Derived.WalkSpells
import Derived.WalkLawsBesides
import Derived.Deep.RegionHeld
namespace Go.Proofs.YtdahabbdhjgpdaaDoor
open Go.RowKit
set_option linter.unusedVariables false
def nodB (n : Int) : Bool := decide (0 ≤ n ∧ n ≤ 7)
def adB (fr to no : Int) : Bool := nodB fr && nodB to && (fr != to) && decide (0 ≤ no ∧ no ≤ 100000999)
set_option maxHeartbeats 400000 in
theorem isNode_any (n : Int) (w : World) :
    Calls Tryd.prog 96 #[.int .i64 n] w fun e w' => e = .returned (.bool (nodB n)) ∧ w = w' := by
  go_enter Tryd.func96, Tryd.ntmps96
  go_wp2
  all_goals go_ret
  all_goals exact ⟨ret_bool (by rw [Bool.eq_iff_iff]; simp [nodB]; try omega), rfl⟩
set_option maxHeartbeats 400000 in
theorem l4Node_any (n : Int) (w : World) :
    Calls Tryd.prog 80 #[.int .i64 n] w fun e w' => e = .returned (.bool (nodB n)) ∧ w = w' := by
  go_enter Tryd.func80, Tryd.ntmps80
  go_wp2_with (first | (go_at_call 79; refine (l1In_any _ _ _ _).mono ?_; rintro e w' ⟨rfl, rfl⟩))
  go_ret
  exact ⟨ret_bool (by simp [nodB]), rfl⟩
set_option maxHeartbeats 2000000 in
theorem addressed_any (k fr to no lo hi sl : Int) (s : ByteArray) (w : World) :
    Calls Tryd.prog 97 #[.agg #[.int .i64 k, .int .i64 fr, .int .i64 to, .int .i64 no, .int .i64 lo, .int .i64 hi, .int .i64 sl, .string s]] w fun e w' => e = .returned (.bool (adB fr to no)) ∧ Below w.heap.size w w' := by
  have B0 := (Below.refl w.heap.size w).alloc (Nat.le_refl _) (.cells #[.int .i64 k, .int .i64 fr, .int .i64 to, .int .i64 no, .int .i64 lo, .int .i64 hi, .int .i64 sl, .string s] 31)
  cases h1 : nodB fr
  · go_enter Tryd.func97, Tryd.ntmps97
    go_wp2_with fail
    refine (isNode_any _ _).mono ?_
    rintro e w' ⟨rfl, rfl⟩
    rw [h1]
    go_wp2_with fail
    go_ret
    exact ⟨ret_bool (by simp [adB, h1]), B0⟩
  · cases h2 : nodB to
    · go_enter Tryd.func97, Tryd.ntmps97
      go_wp2_with fail
      refine (isNode_any _ _).mono ?_
      rintro e w' ⟨rfl, rfl⟩
      rw [h1]
      go_wp2_with fail
      refine (isNode_any _ _).mono ?_
      rintro e w' ⟨rfl, rfl⟩
      rw [h2]
      go_wp2_with fail
      go_ret
      exact ⟨ret_bool (by simp [adB, h2]), B0⟩
    · cases h3 : (fr != to)
      all_goals
        go_enter Tryd.func97, Tryd.ntmps97
        go_wp2_with fail
        refine (isNode_any _ _).mono ?_
        rintro e w' ⟨rfl, rfl⟩
        rw [h1]
        go_wp2_with fail
        refine (isNode_any _ _).mono ?_
        rintro e w' ⟨rfl, rfl⟩
        rw [h2]
        go_wp2_with fail
        all_goals go_ret
        all_goals exact ⟨ret_bool (by rw [Bool.eq_iff_iff]; simp [adB, h1, h2, h3]; try omega), B0⟩
def Box8 (w : World) (j : Nat) (k fr to no lo hi sl : Int) (s : ByteArray) : Prop := j < w.heap.size ∧ w.cell? ⟨j, 0, none⟩ = some (.int .i64 k) ∧ w.cell? ⟨j, 1, none⟩ = some (.int .i64 fr) ∧ w.cell? ⟨j, 2, none⟩ = some (.int .i64 to) ∧ w.cell? ⟨j, 3, none⟩ = some (.int .i64 no) ∧ w.cell? ⟨j, 4, none⟩ = some (.int .i64 lo) ∧ w.cell? ⟨j, 5, none⟩ = some (.int .i64 hi) ∧ w.cell? ⟨j, 6, none⟩ = some (.int .i64 sl) ∧ w.cell? ⟨j, 7, none⟩ = some (.string s)
theorem Box8.belowB {j B : Nat} {w w' : World} {k fr to no lo hi sl : Int} {s : ByteArray} (h : Box8 w j k fr to no lo hi sl s) (hw : Below B w w') (hk : j < B) : Box8 w' j k fr to no lo hi sl s := by
  obtain ⟨h0, h1, h2, h3, h4, h5, h6, h7, h8⟩ := h
  exact ⟨Nat.lt_of_lt_of_le h0 hw.size, by rw [hw.cell (p := ⟨j, 0, none⟩) hk]; exact h1, by rw [hw.cell (p := ⟨j, 1, none⟩) hk]; exact h2, by rw [hw.cell (p := ⟨j, 2, none⟩) hk]; exact h3, by rw [hw.cell (p := ⟨j, 3, none⟩) hk]; exact h4, by rw [hw.cell (p := ⟨j, 4, none⟩) hk]; exact h5, by rw [hw.cell (p := ⟨j, 5, none⟩) hk]; exact h6, by rw [hw.cell (p := ⟨j, 6, none⟩) hk]; exact h7, by rw [hw.cell (p := ⟨j, 7, none⟩) hk]; exact h8⟩
theorem Box8.below {j : Nat} {w w' : World} {k fr to no lo hi sl : Int} {s : ByteArray} (h : Box8 w j k fr to no lo hi sl s) (hw : Below w.heap.size w w') : Box8 w' j k fr to no lo hi sl s := h.belowB hw h.1
theorem Box8.new (w : World) (k fr to no lo hi sl : Int) (s : ByteArray) (T : TypeId) : Box8 (w.alloc (.cells #[.int .i64 k, .int .i64 fr, .int .i64 to, .int .i64 no, .int .i64 lo, .int .i64 hi, .int .i64 sl, .string s] T)) w.heap.size k fr to no lo hi sl s := ⟨by simp, by simp, by simp, by simp, by simp, by simp, by simp, by simp, by simp⟩
def emp (s : ByteArray) : Bool := decide (s.toList = [])
def msgB (k fr to no lo hi sl : Int) (s : ByteArray) : Bool :=
  if k = 1 then adB fr to no && (lo == 0) && (hi == 0) && (sl == 0) && emp s
  else if k = 2 then adB fr to no && okI lo hi && (sl == 0) && emp s
  else if k = 3 then nodB fr && decide (0 ≤ sl ∧ sl ≤ 15) && decide (s.size ≤ 24) && (to == 0) && (no == 0) && (lo == 0) && (hi == 0)
  else false
set_option maxHeartbeats 2000000 in
theorem implMsgOk_1 (fr to no lo hi sl : Int) (s : ByteArray) (w : World) :
    Calls Tryd.prog 76 #[.agg #[.int .i64 1, .int .i64 fr, .int .i64 to, .int .i64 no, .int .i64 lo, .int .i64 hi, .int .i64 sl, .string s]] w fun e w' => e = .returned (.bool (msgB 1 fr to no lo hi sl s)) ∧ Below w.heap.size w w' := by
  have B0 := (Below.refl w.heap.size w).alloc (Nat.le_refl _) (.cells #[.int .i64 1, .int .i64 fr, .int .i64 to, .int .i64 no, .int .i64 lo, .int .i64 hi, .int .i64 sl, .string s] 31)
  have P0 := Box8.new w 1 fr to no lo hi sl s 31
  cases h1 : adB fr to no
  · go_enter Tryd.func76, Tryd.ntmps76
    go_wp2_with fail
    refine (addressed_any _ _ _ _ _ _ _ _ _).mono ?_
    rintro e w1 ⟨rfl, hb⟩
    rw [h1]
    go_wp2_with fail
    go_ret
    exact ⟨ret_bool (by simp [msgB, h1]), B0.trans (hb.mono B0.size)⟩
  · go_enter Tryd.func76, Tryd.ntmps76
    go_wp2_with fail
    refine (addressed_any _ _ _ _ _ _ _ _ _).mono ?_
    rintro e w1 ⟨rfl, hb⟩
    rw [h1]
    have B1 := B0.trans (hb.mono B0.size)
    have P1 := P0.below hb
    obtain ⟨a0, a1, a2, a3, a4, a5, a6, a7, a8⟩ := P1
    go_wp2_with fail
    all_goals go_ret
    all_goals exact ⟨ret_bool (by simp [msgB, emp, *]), B1⟩
set_option maxHeartbeats 2000000 in
theorem implMsgOk_2 (fr to no lo hi sl : Int) (s : ByteArray) (w : World) :
    Calls Tryd.prog 76 #[.agg #[.int .i64 2, .int .i64 fr, .int .i64 to, .int .i64 no, .int .i64 lo, .int .i64 hi, .int .i64 sl, .string s]] w fun e w' => e = .returned (.bool (msgB 2 fr to no lo hi sl s)) ∧ Below w.heap.size w w' := by
  have B0 := (Below.refl w.heap.size w).alloc (Nat.le_refl _) (.cells #[.int .i64 2, .int .i64 fr, .int .i64 to, .int .i64 no, .int .i64 lo, .int .i64 hi, .int .i64 sl, .string s] 31)
  have P0 := Box8.new w 2 fr to no lo hi sl s 31
  cases h1 : adB fr to no
  · go_enter Tryd.func76, Tryd.ntmps76
    go_wp2_with fail
    refine (addressed_any _ _ _ _ _ _ _ _ _).mono ?_
    rintro e w1 ⟨rfl, hb⟩
    rw [h1]
    go_wp2_with fail
    go_ret
    exact ⟨ret_bool (by simp [msgB, h1]), B0.trans (hb.mono B0.size)⟩
  · cases h2 : okI lo hi
    all_goals
      go_enter Tryd.func76, Tryd.ntmps76
      go_wp2_with fail
      refine (addressed_any _ _ _ _ _ _ _ _ _).mono ?_
      rintro e w1 ⟨rfl, hb⟩
      rw [h1]
      have B1 := B0.trans (hb.mono B0.size)
      have P1 := P0.below hb
      clear B0 P0 hb
      obtain ⟨a0, a1, a2, a3, a4, a5, a6, a7, a8⟩ := id P1
      go_wp2_with fail
      refine (ok_any _ _ _).mono ?_
      rintro e w2 ⟨rfl, hb⟩
      rw [h2]
      have B2 := B1.trans (hb.mono B1.size)
      have P2 := P1.below hb
      clear B1 P1 hb a0 a1 a2 a3 a4 a5 a6 a7 a8
      obtain ⟨a0, a1, a2, a3, a4, a5, a6, a7, a8⟩ := P2
      go_wp2_with fail
      all_goals go_ret
      all_goals exact ⟨ret_bool (by simp [msgB, emp, *]), B2⟩
set_option maxHeartbeats 4000000 in
theorem implMsgOk_3 (fr to no lo hi sl : Int) (s : ByteArray) (w : World) (hs : s.size ≤ 1048576) :
    Calls Tryd.prog 76 #[.agg #[.int .i64 3, .int .i64 fr, .int .i64 to, .int .i64 no, .int .i64 lo, .int .i64 hi, .int .i64 sl, .string s]] w fun e w' => e = .returned (.bool (msgB 3 fr to no lo hi sl s)) ∧ Below w.heap.size w w' := by
  have B0 := (Below.refl w.heap.size w).alloc (Nat.le_refl _) (.cells #[.int .i64 3, .int .i64 fr, .int .i64 to, .int .i64 no, .int .i64 lo, .int .i64 hi, .int .i64 sl, .string s] 31)
  cases h1 : nodB fr
  · go_enter Tryd.func76, Tryd.ntmps76
    go_wp2_with fail
    refine (isNode_any _ _).mono ?_
    rintro e w' ⟨rfl, rfl⟩
    rw [h1]
    go_wp2_with fail
    go_ret
    exact ⟨ret_bool (by simp [msgB, h1]), B0⟩
  · cases h2 : decide (0 ≤ sl ∧ sl ≤ 15)
    · have h2' : ¬ (0 ≤ sl ∧ sl ≤ 15) := of_decide_eq_false h2
      by_cases h3 : 0 ≤ sl
      · have h4 : 15 < sl := by omega
        go_enter Tryd.func76, Tryd.ntmps76
        go_wp2_with fail
        refine (isNode_any _ _).mono ?_
        rintro e w' ⟨rfl, rfl⟩
        rw [h1]
        clear h2 h2'
        go_wp2_with fail
        go_ret
        exact ⟨ret_bool (by simp [msgB, h1]; omega), B0⟩
      · go_enter Tryd.func76, Tryd.ntmps76
        go_wp2_with fail
        refine (isNode_any _ _).mono ?_
        rintro e w' ⟨rfl, rfl⟩
        rw [h1]
        clear h2 h2'
        go_wp2_with fail
        go_ret
        exact ⟨ret_bool (by simp [msgB, h1]; omega), B0⟩
    · have h2' : 0 ≤ sl ∧ sl ≤ 15 := of_decide_eq_true h2
      have h3 := h2'.1
      have h4 := h2'.2
      clear h2'
      by_cases h5 : (s.size : Int) ≤ 24
      all_goals
        go_enter Tryd.func76, Tryd.ntmps76
        go_wp2_with fail
        refine (isNode_any _ _).mono ?_
        rintro e w' ⟨rfl, rfl⟩
        rw [h1]
        go_wp2_with fail
        all_goals go_ret
        all_goals exact ⟨ret_bool (by simp [msgB, *]; try omega), (Below.refl w.heap.size w).alloc (Nat.le_refl _) _⟩
set_option maxHeartbeats 4000000 in
theorem implMsgOk_no (k fr to no lo hi sl : Int) (s : ByteArray) (w : World) (k1 : k ≠ 1) (k2 : k ≠ 2) (k3 : k ≠ 3) :
    Calls Tryd.prog 76 #[.agg #[.int .i64 k, .int .i64 fr, .int .i64 to, .int .i64 no, .int .i64 lo, .int .i64 hi, .int .i64 sl, .string s]] w fun e w' => e = .returned (.bool (msgB k fr to no lo hi sl s)) ∧ Below w.heap.size w w' := by
  have B0 := (Below.refl w.heap.size w).alloc (Nat.le_refl _) (.cells #[.int .i64 k, .int .i64 fr, .int .i64 to, .int .i64 no, .int .i64 lo, .int .i64 hi, .int .i64 sl, .string s] 31)
  have q1 : (k == 1) = false := by rw [beq_eq_false_iff_ne]; exact k1
  have q2 : (k == 2) = false := by rw [beq_eq_false_iff_ne]; exact k2
  have q3 : (k == 3) = false := by rw [beq_eq_false_iff_ne]; exact k3
  go_enter Tryd.func76, Tryd.ntmps76
  go_wp2_with fail
  go_ret
  exact ⟨ret_bool (by simp [msgB, k1, k2, k3]), B0⟩
theorem implMsgOk_any (k fr to no lo hi sl : Int) (s : ByteArray) (w : World) (hs : s.size ≤ 1048576) :
    Calls Tryd.prog 76 #[.agg #[.int .i64 k, .int .i64 fr, .int .i64 to, .int .i64 no, .int .i64 lo, .int .i64 hi, .int .i64 sl, .string s]] w fun e w' => e = .returned (.bool (msgB k fr to no lo hi sl s)) ∧ Below w.heap.size w w' := by
  by_cases k1 : k = 1
  · subst k1; exact implMsgOk_1 fr to no lo hi sl s w
  · by_cases k2 : k = 2
    · subst k2; exact implMsgOk_2 fr to no lo hi sl s w
    · by_cases k3 : k = 3
      · subst k3; exact implMsgOk_3 fr to no lo hi sl s w hs
      · exact implMsgOk_no k fr to no lo hi sl s w k1 k2 k3
end Go.Proofs.YtdahabbdhjgpdaaDoor
