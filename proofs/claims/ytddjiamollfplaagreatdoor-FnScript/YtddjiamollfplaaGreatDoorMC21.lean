/- OpOk in the specification. -/
import Derived.Test.YtddjiamollfplaaGreatDoorMC20
namespace Go.Proofs.YtddjiamollfplaaGreatDoor
open Go.RowKit
set_option linter.unusedVariables false

def onB (k nd tt a b : Int) (tx : ByteArray) (n : Nat) (k' nd' tt' a' b' : Int) (tx' : ByteArray) (n' : Nat) : Bool :=
 decide (n = n') && (k == k') && (nd == nd') && (tt == tt') && (a == a') && (b == b') && (tx.toList == tx'.toList)

set_option maxHeartbeats 8000000 in
set_option maxRecDepth 100000 in
theorem aE (k nd tt a b : Int) (tx : ByteArray) (p : Option Addr) (n c : Nat) (k' nd' tt' a' b' : Int) (tx' : ByteArray) (p' : Option Addr) (n' c' : Nat) (w : World) (hn : n ≤ maxLen) (hn' : n' ≤ maxLen) :
 Calls Tryz.prog 26 #[.agg #[.int .i64 k, .int .i64 nd, .int .i64 tt, .int .i64 a, .int .i64 b, .string tx, .slice p n c], .agg #[.int .i64 k', .int .i64 nd', .int .i64 tt', .int .i64 a', .int .i64 b', .string tx', .slice p' n' c']] w fun e w' => e = .returned (.bool (onB k nd tt a b tx n k' nd' tt' a' b' tx' n')) ∧ Below w.heap.size w w' := by
 unfold maxLen at hn hn'
 have B := (Below.nw w (.cells #[.int .i64 k, .int .i64 nd, .int .i64 tt, .int .i64 a, .int .i64 b, .string tx, .slice p n c] 26)).trans ((Below.nw (w.alloc (.cells #[.int .i64 k, .int .i64 nd, .int .i64 tt, .int .i64 a, .int .i64 b, .string tx, .slice p n c] 26)) (.cells #[.int .i64 k', .int .i64 nd', .int .i64 tt', .int .i64 a', .int .i64 b', .string tx', .slice p' n' c'] 26)).mono (by simp))
 by_cases h0 : ¬ n = n'
 ·have h0' : ((n : Int) != (n' : Int)) = true := by simp; omega
  go_enter Tryz.func26, Tryz.ntmps26
  go_wp2_with fail
  go_ret
  exact ⟨aa (by simp [onB, h0]), B⟩
 replace h0 := Classical.not_not.1 h0
 subst h0
 cases h1 : (k == k')
 ·go_enter Tryz.func26, Tryz.ntmps26
  go_wp2_with fail
  go_ret
  exact ⟨aa (by simp only [onB, h1]; simp), B⟩
 ·skip
  cases h2 : (nd == nd')
  ·go_enter Tryz.func26, Tryz.ntmps26
   go_wp2_with fail
   go_ret
   exact ⟨aa (by simp only [onB, h1, h2]; simp), B⟩
  ·skip
   cases h3 : (tt == tt')
   ·go_enter Tryz.func26, Tryz.ntmps26
    go_wp2_with fail
    go_ret
    exact ⟨aa (by simp only [onB, h1, h2, h3]; simp), B⟩
   ·skip
    cases h4 : (a == a')
    ·go_enter Tryz.func26, Tryz.ntmps26
     go_wp2_with fail
     go_ret
     exact ⟨aa (by simp only [onB, h1, h2, h3, h4]; simp), B⟩
    ·skip
     cases h5 : (b == b')
     ·go_enter Tryz.func26, Tryz.ntmps26
      go_wp2_with fail
      go_ret
      exact ⟨aa (by simp only [onB, h1, h2, h3, h4, h5]; simp), B⟩
     ·skip
      cases h6 : (tx.toList == tx'.toList)
      all_goals
       go_enter Tryz.func26, Tryz.ntmps26
       go_wp2_with fail
       go_ret
       exact ⟨aa (by simp only [onB, h1, h2, h3, h4, h5, h6]; simp), B⟩
theorem bM (tx : ByteArray) : (tx.toList == (⟨#[]⟩ : ByteArray).toList) = decide ((tx.size : Int) ≤ 0) := by
 rw [Bool.eq_iff_iff, beq_iff_eq, decide_eq_true_iff]
 have h4 : tx.toList.length = tx.size := by rw [ByteArray.toList_eq]; rfl
 have h5 : (⟨#[]⟩ : ByteArray).toList = [] := by rw [ByteArray.toList_eq]
 rw [h5, ← List.length_eq_zero_iff]
 omega
theorem bO (f : Nat → Int) {n : Nat} (h : n = 0) : alB f n = true := by subst h; exact dF (fun i hi => absurd hi (Nat.not_lt_zero _))

theorem ag (x h : Int) (w : World) :
 Calls Tryz.prog 25 #[.int .i64 x, .int .i64 0, .int .i64 h] w fun e w' => e = .returned (.bool (upB x h)) ∧ w = w' := by
 refine (az x 0 h w).mono ?_
 rintro e w' ⟨rfl, rfl⟩
 exact ⟨aa (by rw [Bool.eq_iff_iff]; simp [upB]), rfl⟩
theorem op_2 (nd tt a b : Int) (tx : ByteArray) (n : Nat) (f : Nat → Int) : opB 2 nd tt a b tx n f = (aJ nd && onB 2 nd tt a b tx n 2 nd 0 0 0 ⟨#[]⟩ 0) := by
 have hP := bO f (n := n)
 rw [Bool.eq_iff_iff, opB, show bdN 2 = 7 from by decide, show bdT 2 = 0 from by decide, show bdA 2 = 0 from by decide, show bdB 2 = 0 from by decide, show bdX 2 = 0 from by decide, show bdL 2 = 0 from by decide, show bdO 2 = true from by decide]
 unfold hdB onB
 (try rw [bM])
 (try unfold aJ)
 unfold upB
 generalize decide ((tx.size : Int) ≤ 0) = q
 cases hq : alB f n
 ·have hn : n ≠ 0 := fun e => by rw [hP e] at hq; cases hq
  cases q <;> simp [hn] <;> omega
 ·cases q <;> simp <;> omega
theorem op_3 (nd tt a b : Int) (tx : ByteArray) (n : Nat) (f : Nat → Int) : opB 3 nd tt a b tx n f = (aJ nd && onB 3 nd tt a b tx n 3 nd 0 0 0 ⟨#[]⟩ 0) := by
 have hP := bO f (n := n)
 rw [Bool.eq_iff_iff, opB, show bdN 3 = 7 from by decide, show bdT 3 = 0 from by decide, show bdA 3 = 0 from by decide, show bdB 3 = 0 from by decide, show bdX 3 = 0 from by decide, show bdL 3 = 0 from by decide, show bdO 3 = true from by decide]
 unfold hdB onB
 (try rw [bM])
 (try unfold aJ)
 unfold upB
 generalize decide ((tx.size : Int) ≤ 0) = q
 cases hq : alB f n
 ·have hn : n ≠ 0 := fun e => by rw [hP e] at hq; cases hq
  cases q <;> simp [hn] <;> omega
 ·cases q <;> simp <;> omega
theorem op_6 (nd tt a b : Int) (tx : ByteArray) (n : Nat) (f : Nat → Int) : opB 6 nd tt a b tx n f = (aJ nd && onB 6 nd tt a b tx n 6 nd 0 0 0 ⟨#[]⟩ 0) := by
 have hP := bO f (n := n)
 rw [Bool.eq_iff_iff, opB, show bdN 6 = 7 from by decide, show bdT 6 = 0 from by decide, show bdA 6 = 0 from by decide, show bdB 6 = 0 from by decide, show bdX 6 = 0 from by decide, show bdL 6 = 0 from by decide, show bdO 6 = true from by decide]
 unfold hdB onB
 (try rw [bM])
 (try unfold aJ)
 unfold upB
 generalize decide ((tx.size : Int) ≤ 0) = q
 cases hq : alB f n
 ·have hn : n ≠ 0 := fun e => by rw [hP e] at hq; cases hq
  cases q <;> simp [hn] <;> omega
 ·cases q <;> simp <;> omega
theorem op_7 (nd tt a b : Int) (tx : ByteArray) (n : Nat) (f : Nat → Int) : opB 7 nd tt a b tx n f = (aJ nd && onB 7 nd tt a b tx n 7 nd 0 0 0 ⟨#[]⟩ 0) := by
 have hP := bO f (n := n)
 rw [Bool.eq_iff_iff, opB, show bdN 7 = 7 from by decide, show bdT 7 = 0 from by decide, show bdA 7 = 0 from by decide, show bdB 7 = 0 from by decide, show bdX 7 = 0 from by decide, show bdL 7 = 0 from by decide, show bdO 7 = true from by decide]
 unfold hdB onB
 (try rw [bM])
 (try unfold aJ)
 unfold upB
 generalize decide ((tx.size : Int) ≤ 0) = q
 cases hq : alB f n
 ·have hn : n ≠ 0 := fun e => by rw [hP e] at hq; cases hq
  cases q <;> simp [hn] <;> omega
 ·cases q <;> simp <;> omega
theorem op_8 (nd tt a b : Int) (tx : ByteArray) (n : Nat) (f : Nat → Int) : opB 8 nd tt a b tx n f = (aJ nd && onB 8 nd tt a b tx n 8 nd 0 0 0 ⟨#[]⟩ 0) := by
 have hP := bO f (n := n)
 rw [Bool.eq_iff_iff, opB, show bdN 8 = 7 from by decide, show bdT 8 = 0 from by decide, show bdA 8 = 0 from by decide, show bdB 8 = 0 from by decide, show bdX 8 = 0 from by decide, show bdL 8 = 0 from by decide, show bdO 8 = true from by decide]
 unfold hdB onB
 (try rw [bM])
 (try unfold aJ)
 unfold upB
 generalize decide ((tx.size : Int) ≤ 0) = q
 cases hq : alB f n
 ·have hn : n ≠ 0 := fun e => by rw [hP e] at hq; cases hq
  cases q <;> simp [hn] <;> omega
 ·cases q <;> simp <;> omega
theorem op_4 (nd tt a b : Int) (tx : ByteArray) (n : Nat) (f : Nat → Int) : opB 4 nd tt a b tx n f = (aJ nd && upB a 1000000 && upB b 1000000 && onB 4 nd tt a b tx n 4 nd 0 a b ⟨#[]⟩ 0) := by
 have hP := bO f (n := n)
 rw [Bool.eq_iff_iff, opB, show bdN 4 = 7 from by decide, show bdT 4 = 0 from by decide, show bdA 4 = 1000000 from by decide, show bdB 4 = 1000000 from by decide, show bdX 4 = 0 from by decide, show bdL 4 = 0 from by decide, show bdO 4 = true from by decide]
 unfold hdB onB
 (try rw [bM])
 (try unfold aJ)
 unfold upB
 generalize decide ((tx.size : Int) ≤ 0) = q
 cases hq : alB f n
 ·have hn : n ≠ 0 := fun e => by rw [hP e] at hq; cases hq
  cases q <;> simp [hn] <;> omega
 ·cases q <;> simp <;> omega
theorem op_5 (nd tt a b : Int) (tx : ByteArray) (n : Nat) (f : Nat → Int) : opB 5 nd tt a b tx n f = (aJ nd && aJ tt && (nd != tt) && onB 5 nd tt a b tx n 5 nd tt 0 0 ⟨#[]⟩ 0) := by
 have hP := bO f (n := n)
 rw [Bool.eq_iff_iff, opB, show bdN 5 = 7 from by decide, show bdT 5 = 7 from by decide, show bdA 5 = 0 from by decide, show bdB 5 = 0 from by decide, show bdX 5 = 0 from by decide, show bdL 5 = 0 from by decide, show bdO 5 = true from by decide]
 unfold hdB onB
 (try rw [bM])
 (try unfold aJ)
 unfold upB
 generalize decide ((tx.size : Int) ≤ 0) = q
 cases hq : alB f n
 ·have hn : n ≠ 0 := fun e => by rw [hP e] at hq; cases hq
  cases q <;> simp [hn] <;> omega
 ·cases q <;> simp <;> omega
theorem op_9 (nd tt a b : Int) (tx : ByteArray) (n : Nat) (f : Nat → Int) : opB 9 nd tt a b tx n f = (aJ nd && upB a 1000000 && decide ((tx.size : Int) ≤ 24) && onB 9 nd tt a b tx n 9 nd 0 a 0 tx 0) := by
 have hP := bO f (n := n)
 rw [Bool.eq_iff_iff, opB, show bdN 9 = 7 from by decide, show bdT 9 = 0 from by decide, show bdA 9 = 1000000 from by decide, show bdB 9 = 0 from by decide, show bdX 9 = 24 from by decide, show bdL 9 = 0 from by decide, show bdO 9 = true from by decide]
 unfold hdB onB
 (try rw [bM])
 (try unfold aJ)
 unfold upB
 generalize decide ((tx.size : Int) ≤ 24) = q
 cases hq : alB f n
 ·have hn : n ≠ 0 := fun e => by rw [hP e] at hq; cases hq
  cases q <;> simp [hn] <;> omega
 ·cases q <;> simp <;> omega
theorem op_10 (nd tt a b : Int) (tx : ByteArray) (n : Nat) (f : Nat → Int) : opB 10 nd tt a b tx n f = (upB a 39 && onB 10 nd tt a b tx n 10 0 0 a 0 ⟨#[]⟩ 0) := by
 have hP := bO f (n := n)
 rw [Bool.eq_iff_iff, opB, show bdN 10 = 0 from by decide, show bdT 10 = 0 from by decide, show bdA 10 = 39 from by decide, show bdB 10 = 0 from by decide, show bdX 10 = 0 from by decide, show bdL 10 = 0 from by decide, show bdO 10 = true from by decide]
 unfold hdB onB
 (try rw [bM])
 (try unfold aJ)
 unfold upB
 generalize decide ((tx.size : Int) ≤ 0) = q
 cases hq : alB f n
 ·have hn : n ≠ 0 := fun e => by rw [hP e] at hq; cases hq
  cases q <;> simp [hn] <;> omega
 ·cases q <;> simp <;> omega
theorem op_11 (nd tt a b : Int) (tx : ByteArray) (n : Nat) (f : Nat → Int) : opB 11 nd tt a b tx n f = (upB a 39 && onB 11 nd tt a b tx n 11 0 0 a 0 ⟨#[]⟩ 0) := by
 have hP := bO f (n := n)
 rw [Bool.eq_iff_iff, opB, show bdN 11 = 0 from by decide, show bdT 11 = 0 from by decide, show bdA 11 = 39 from by decide, show bdB 11 = 0 from by decide, show bdX 11 = 0 from by decide, show bdL 11 = 0 from by decide, show bdO 11 = true from by decide]
 unfold hdB onB
 (try rw [bM])
 (try unfold aJ)
 unfold upB
 generalize decide ((tx.size : Int) ≤ 0) = q
 cases hq : alB f n
 ·have hn : n ≠ 0 := fun e => by rw [hP e] at hq; cases hq
  cases q <;> simp [hn] <;> omega
 ·cases q <;> simp <;> omega
theorem op_12 (nd tt a b : Int) (tx : ByteArray) (n : Nat) (f : Nat → Int) : opB 12 nd tt a b tx n f = (upB a 39 && onB 12 nd tt a b tx n 12 0 0 a 0 ⟨#[]⟩ 0) := by
 have hP := bO f (n := n)
 rw [Bool.eq_iff_iff, opB, show bdN 12 = 0 from by decide, show bdT 12 = 0 from by decide, show bdA 12 = 39 from by decide, show bdB 12 = 0 from by decide, show bdX 12 = 0 from by decide, show bdL 12 = 0 from by decide, show bdO 12 = true from by decide]
 unfold hdB onB
 (try rw [bM])
 (try unfold aJ)
 unfold upB
 generalize decide ((tx.size : Int) ≤ 0) = q
 cases hq : alB f n
 ·have hn : n ≠ 0 := fun e => by rw [hP e] at hq; cases hq
  cases q <;> simp [hn] <;> omega
 ·cases q <;> simp <;> omega
theorem op_13 (nd tt a b : Int) (tx : ByteArray) (n : Nat) (f : Nat → Int) : opB 13 nd tt a b tx n f = (upB a 39 && upB b 39 && onB 13 nd tt a b tx n 13 0 0 a b ⟨#[]⟩ 0) := by
 have hP := bO f (n := n)
 rw [Bool.eq_iff_iff, opB, show bdN 13 = 0 from by decide, show bdT 13 = 0 from by decide, show bdA 13 = 39 from by decide, show bdB 13 = 39 from by decide, show bdX 13 = 0 from by decide, show bdL 13 = 0 from by decide, show bdO 13 = true from by decide]
 unfold hdB onB
 (try rw [bM])
 (try unfold aJ)
 unfold upB
 generalize decide ((tx.size : Int) ≤ 0) = q
 cases hq : alB f n
 ·have hn : n ≠ 0 := fun e => by rw [hP e] at hq; cases hq
  cases q <;> simp [hn] <;> omega
 ·cases q <;> simp <;> omega
theorem op_14 (nd tt a b : Int) (tx : ByteArray) (n : Nat) (f : Nat → Int) : opB 14 nd tt a b tx n f = (aJ nd && aJ tt && (nd != tt) && decide ((tx.size : Int) ≤ 64) && onB 14 nd tt a b tx n 14 nd tt 0 0 tx 0) := by
 have hP := bO f (n := n)
 rw [Bool.eq_iff_iff, opB, show bdN 14 = 7 from by decide, show bdT 14 = 7 from by decide, show bdA 14 = 0 from by decide, show bdB 14 = 0 from by decide, show bdX 14 = 64 from by decide, show bdL 14 = 0 from by decide, show bdO 14 = true from by decide]
 unfold hdB onB
 (try rw [bM])
 (try unfold aJ)
 unfold upB
 generalize decide ((tx.size : Int) ≤ 64) = q
 cases hq : alB f n
 ·have hn : n ≠ 0 := fun e => by rw [hP e] at hq; cases hq
  cases q <;> simp [hn] <;> omega
 ·cases q <;> simp <;> omega
theorem op_1 (nd tt a b : Int) (tx : ByteArray) (n : Nat) (f : Nat → Int) : opB 1 nd tt a b tx n f = (!decide (8 < (n : Int)) && alB f n && upB a 1000000 && onB 1 nd tt a b tx n 1 0 0 a 0 ⟨#[]⟩ n) := by
 rw [Bool.eq_iff_iff]
 rw [opB, show bdN 1 = 0 from by decide, show bdT 1 = 0 from by decide, show bdA 1 = 1000000 from by decide, show bdB 1 = 0 from by decide, show bdX 1 = 0 from by decide, show bdL 1 = 8 from by decide, show bdO 1 = true from by decide]
 unfold hdB onB
 rw [bM]
 unfold upB
 generalize decide ((tx.size : Int) ≤ 0) = q
 cases alB f n
 ·simp
 ·cases q <;> simp <;> omega
theorem op_no (k nd tt a b : Int) (tx : ByteArray) (n : Nat) (f : Nat → Int) (h : ¬ (1 ≤ k ∧ k ≤ 14)) : opB k nd tt a b tx n f = false := by
 unfold opB bdO; rw [decide_eq_false h]; rfl
set_option maxHeartbeats 8000000 in
set_option maxRecDepth 100000 in
theorem sOp_2 (nd tt a b : Int) (tx : ByteArray) (p : Option Addr) (n c : Nat) (f : Nat → Int) (w : World) (hx : tx.size ≤ maxLen) (hn : n ≤ maxLen) :
 Calls Tryz.prog 8 #[.agg #[.int .i64 2, .int .i64 nd, .int .i64 tt, .int .i64 a, .int .i64 b, .string tx, .slice p n c]] w fun e w' => e = .returned (.bool (opB 2 nd tt a b tx n f)) ∧ Below w.heap.size w w' := by
 rw [op_2]
 unfold maxLen at hx
 have B := Below.nw w (.cells #[.int .i64 2, .int .i64 nd, .int .i64 tt, .int .i64 a, .int .i64 b, .string tx, .slice p n c] 26)
 have N := Bo.new w #[.int .i64 2, .int .i64 nd, .int .i64 tt, .int .i64 a, .int .i64 b, .string tx, .slice p n c] 26
 cases g1 : (aJ nd)
 ·go_enter Tryz.func8, Tryz.ntmps8; go_upto_region 1 with fail; generalize w.alloc (.cells #[.int .i64 2, .int .i64 nd, .int .i64 tt, .int .i64 a, .int .i64 b, .string tx, .slice p n c] 26) = v at *; have n0 := N.cell (i := 0) rfl; have n1 := N.cell (i := 1) rfl; have n2 := N.cell (i := 2) rfl; have n3 := N.cell (i := 3) rfl; have n4 := N.cell (i := 4) rfl; have n5 := N.cell (i := 5) rfl; have n6 := N.cell (i := 6) rfl; go_wp2_with fail; refine (ag _ _ _).mono ?_; rintro e w' ⟨rfl, rfl⟩; go_wp2_with fail; refine (ag _ _ _).mono ?_; rintro e w' ⟨rfl, rfl⟩
  go_wp2_with fail
  refine (ab _ _).mono ?_
  rintro e w' ⟨rfl, rfl⟩
  rw [g1]
  go_wp2_with fail
  go_ret
  exact ⟨aa (by simp), B⟩
 ·go_enter Tryz.func8, Tryz.ntmps8; go_upto_region 1 with fail; generalize w.alloc (.cells #[.int .i64 2, .int .i64 nd, .int .i64 tt, .int .i64 a, .int .i64 b, .string tx, .slice p n c] 26) = v at *; have n0 := N.cell (i := 0) rfl; have n1 := N.cell (i := 1) rfl; have n2 := N.cell (i := 2) rfl; have n3 := N.cell (i := 3) rfl; have n4 := N.cell (i := 4) rfl; have n5 := N.cell (i := 5) rfl; have n6 := N.cell (i := 6) rfl; go_wp2_with fail; refine (ag _ _ _).mono ?_; rintro e w' ⟨rfl, rfl⟩; go_wp2_with fail; refine (ag _ _ _).mono ?_; rintro e w' ⟨rfl, rfl⟩
  go_wp2_with fail
  refine (ab _ _).mono ?_
  rintro e w' ⟨rfl, rfl⟩
  rw [g1]
  go_wp2_with fail
  refine (aE _ _ _ _ _ _ _ _ _ _ _ _ _ _ _ _ _ _ _ hn (by first | exact hn | simp [maxLen])).mono ?_
  rintro e v2 ⟨rfl, hb⟩
  go_wp2_with fail
  go_ret
  exact ⟨aa (by simp), B.trans (hb.mono B.size)⟩
set_option maxHeartbeats 8000000 in
set_option maxRecDepth 100000 in
theorem sOp_3 (nd tt a b : Int) (tx : ByteArray) (p : Option Addr) (n c : Nat) (f : Nat → Int) (w : World) (hx : tx.size ≤ maxLen) (hn : n ≤ maxLen) :
 Calls Tryz.prog 8 #[.agg #[.int .i64 3, .int .i64 nd, .int .i64 tt, .int .i64 a, .int .i64 b, .string tx, .slice p n c]] w fun e w' => e = .returned (.bool (opB 3 nd tt a b tx n f)) ∧ Below w.heap.size w w' := by
 rw [op_3]
 unfold maxLen at hx
 have B := Below.nw w (.cells #[.int .i64 3, .int .i64 nd, .int .i64 tt, .int .i64 a, .int .i64 b, .string tx, .slice p n c] 26)
 have N := Bo.new w #[.int .i64 3, .int .i64 nd, .int .i64 tt, .int .i64 a, .int .i64 b, .string tx, .slice p n c] 26
 cases g1 : (aJ nd)
 ·go_enter Tryz.func8, Tryz.ntmps8; go_upto_region 1 with fail; generalize w.alloc (.cells #[.int .i64 3, .int .i64 nd, .int .i64 tt, .int .i64 a, .int .i64 b, .string tx, .slice p n c] 26) = v at *; have n0 := N.cell (i := 0) rfl; have n1 := N.cell (i := 1) rfl; have n2 := N.cell (i := 2) rfl; have n3 := N.cell (i := 3) rfl; have n4 := N.cell (i := 4) rfl; have n5 := N.cell (i := 5) rfl; have n6 := N.cell (i := 6) rfl; go_wp2_with fail; refine (ag _ _ _).mono ?_; rintro e w' ⟨rfl, rfl⟩; go_wp2_with fail; refine (ag _ _ _).mono ?_; rintro e w' ⟨rfl, rfl⟩
  go_wp2_with fail
  refine (ab _ _).mono ?_
  rintro e w' ⟨rfl, rfl⟩
  rw [g1]
  go_wp2_with fail
  go_ret
  exact ⟨aa (by simp), B⟩
 ·go_enter Tryz.func8, Tryz.ntmps8; go_upto_region 1 with fail; generalize w.alloc (.cells #[.int .i64 3, .int .i64 nd, .int .i64 tt, .int .i64 a, .int .i64 b, .string tx, .slice p n c] 26) = v at *; have n0 := N.cell (i := 0) rfl; have n1 := N.cell (i := 1) rfl; have n2 := N.cell (i := 2) rfl; have n3 := N.cell (i := 3) rfl; have n4 := N.cell (i := 4) rfl; have n5 := N.cell (i := 5) rfl; have n6 := N.cell (i := 6) rfl; go_wp2_with fail; refine (ag _ _ _).mono ?_; rintro e w' ⟨rfl, rfl⟩; go_wp2_with fail; refine (ag _ _ _).mono ?_; rintro e w' ⟨rfl, rfl⟩
  go_wp2_with fail
  refine (ab _ _).mono ?_
  rintro e w' ⟨rfl, rfl⟩
  rw [g1]
  go_wp2_with fail
  refine (aE _ _ _ _ _ _ _ _ _ _ _ _ _ _ _ _ _ _ _ hn (by first | exact hn | simp [maxLen])).mono ?_
  rintro e v2 ⟨rfl, hb⟩
  go_wp2_with fail
  go_ret
  exact ⟨aa (by simp), B.trans (hb.mono B.size)⟩
set_option maxHeartbeats 8000000 in
set_option maxRecDepth 100000 in
theorem sOp_6 (nd tt a b : Int) (tx : ByteArray) (p : Option Addr) (n c : Nat) (f : Nat → Int) (w : World) (hx : tx.size ≤ maxLen) (hn : n ≤ maxLen) :
 Calls Tryz.prog 8 #[.agg #[.int .i64 6, .int .i64 nd, .int .i64 tt, .int .i64 a, .int .i64 b, .string tx, .slice p n c]] w fun e w' => e = .returned (.bool (opB 6 nd tt a b tx n f)) ∧ Below w.heap.size w w' := by
 rw [op_6]
 unfold maxLen at hx
 have B := Below.nw w (.cells #[.int .i64 6, .int .i64 nd, .int .i64 tt, .int .i64 a, .int .i64 b, .string tx, .slice p n c] 26)
 have N := Bo.new w #[.int .i64 6, .int .i64 nd, .int .i64 tt, .int .i64 a, .int .i64 b, .string tx, .slice p n c] 26
 cases g1 : (aJ nd)
 ·go_enter Tryz.func8, Tryz.ntmps8; go_upto_region 1 with fail; generalize w.alloc (.cells #[.int .i64 6, .int .i64 nd, .int .i64 tt, .int .i64 a, .int .i64 b, .string tx, .slice p n c] 26) = v at *; have n0 := N.cell (i := 0) rfl; have n1 := N.cell (i := 1) rfl; have n2 := N.cell (i := 2) rfl; have n3 := N.cell (i := 3) rfl; have n4 := N.cell (i := 4) rfl; have n5 := N.cell (i := 5) rfl; have n6 := N.cell (i := 6) rfl; go_wp2_with fail; refine (ag _ _ _).mono ?_; rintro e w' ⟨rfl, rfl⟩; go_wp2_with fail; refine (ag _ _ _).mono ?_; rintro e w' ⟨rfl, rfl⟩
  go_wp2_with fail
  refine (ab _ _).mono ?_
  rintro e w' ⟨rfl, rfl⟩
  rw [g1]
  go_wp2_with fail
  go_ret
  exact ⟨aa (by simp), B⟩
 ·go_enter Tryz.func8, Tryz.ntmps8; go_upto_region 1 with fail; generalize w.alloc (.cells #[.int .i64 6, .int .i64 nd, .int .i64 tt, .int .i64 a, .int .i64 b, .string tx, .slice p n c] 26) = v at *; have n0 := N.cell (i := 0) rfl; have n1 := N.cell (i := 1) rfl; have n2 := N.cell (i := 2) rfl; have n3 := N.cell (i := 3) rfl; have n4 := N.cell (i := 4) rfl; have n5 := N.cell (i := 5) rfl; have n6 := N.cell (i := 6) rfl; go_wp2_with fail; refine (ag _ _ _).mono ?_; rintro e w' ⟨rfl, rfl⟩; go_wp2_with fail; refine (ag _ _ _).mono ?_; rintro e w' ⟨rfl, rfl⟩
  go_wp2_with fail
  refine (ab _ _).mono ?_
  rintro e w' ⟨rfl, rfl⟩
  rw [g1]
  go_wp2_with fail
  refine (aE _ _ _ _ _ _ _ _ _ _ _ _ _ _ _ _ _ _ _ hn (by first | exact hn | simp [maxLen])).mono ?_
  rintro e v2 ⟨rfl, hb⟩
  go_wp2_with fail
  go_ret
  exact ⟨aa (by simp), B.trans (hb.mono B.size)⟩
set_option maxHeartbeats 8000000 in
set_option maxRecDepth 100000 in
theorem sOp_7 (nd tt a b : Int) (tx : ByteArray) (p : Option Addr) (n c : Nat) (f : Nat → Int) (w : World) (hx : tx.size ≤ maxLen) (hn : n ≤ maxLen) :
 Calls Tryz.prog 8 #[.agg #[.int .i64 7, .int .i64 nd, .int .i64 tt, .int .i64 a, .int .i64 b, .string tx, .slice p n c]] w fun e w' => e = .returned (.bool (opB 7 nd tt a b tx n f)) ∧ Below w.heap.size w w' := by
 rw [op_7]
 unfold maxLen at hx
 have B := Below.nw w (.cells #[.int .i64 7, .int .i64 nd, .int .i64 tt, .int .i64 a, .int .i64 b, .string tx, .slice p n c] 26)
 have N := Bo.new w #[.int .i64 7, .int .i64 nd, .int .i64 tt, .int .i64 a, .int .i64 b, .string tx, .slice p n c] 26
 cases g1 : (aJ nd)
 ·go_enter Tryz.func8, Tryz.ntmps8; go_upto_region 1 with fail; generalize w.alloc (.cells #[.int .i64 7, .int .i64 nd, .int .i64 tt, .int .i64 a, .int .i64 b, .string tx, .slice p n c] 26) = v at *; have n0 := N.cell (i := 0) rfl; have n1 := N.cell (i := 1) rfl; have n2 := N.cell (i := 2) rfl; have n3 := N.cell (i := 3) rfl; have n4 := N.cell (i := 4) rfl; have n5 := N.cell (i := 5) rfl; have n6 := N.cell (i := 6) rfl; go_wp2_with fail; refine (ag _ _ _).mono ?_; rintro e w' ⟨rfl, rfl⟩; go_wp2_with fail; refine (ag _ _ _).mono ?_; rintro e w' ⟨rfl, rfl⟩
  go_wp2_with fail
  refine (ab _ _).mono ?_
  rintro e w' ⟨rfl, rfl⟩
  rw [g1]
  go_wp2_with fail
  go_ret
  exact ⟨aa (by simp), B⟩
 ·go_enter Tryz.func8, Tryz.ntmps8; go_upto_region 1 with fail; generalize w.alloc (.cells #[.int .i64 7, .int .i64 nd, .int .i64 tt, .int .i64 a, .int .i64 b, .string tx, .slice p n c] 26) = v at *; have n0 := N.cell (i := 0) rfl; have n1 := N.cell (i := 1) rfl; have n2 := N.cell (i := 2) rfl; have n3 := N.cell (i := 3) rfl; have n4 := N.cell (i := 4) rfl; have n5 := N.cell (i := 5) rfl; have n6 := N.cell (i := 6) rfl; go_wp2_with fail; refine (ag _ _ _).mono ?_; rintro e w' ⟨rfl, rfl⟩; go_wp2_with fail; refine (ag _ _ _).mono ?_; rintro e w' ⟨rfl, rfl⟩
  go_wp2_with fail
  refine (ab _ _).mono ?_
  rintro e w' ⟨rfl, rfl⟩
  rw [g1]
  go_wp2_with fail
  refine (aE _ _ _ _ _ _ _ _ _ _ _ _ _ _ _ _ _ _ _ hn (by first | exact hn | simp [maxLen])).mono ?_
  rintro e v2 ⟨rfl, hb⟩
  go_wp2_with fail
  go_ret
  exact ⟨aa (by simp), B.trans (hb.mono B.size)⟩
set_option maxHeartbeats 8000000 in
set_option maxRecDepth 100000 in
theorem sOp_8 (nd tt a b : Int) (tx : ByteArray) (p : Option Addr) (n c : Nat) (f : Nat → Int) (w : World) (hx : tx.size ≤ maxLen) (hn : n ≤ maxLen) :
 Calls Tryz.prog 8 #[.agg #[.int .i64 8, .int .i64 nd, .int .i64 tt, .int .i64 a, .int .i64 b, .string tx, .slice p n c]] w fun e w' => e = .returned (.bool (opB 8 nd tt a b tx n f)) ∧ Below w.heap.size w w' := by
 rw [op_8]
 unfold maxLen at hx
 have B := Below.nw w (.cells #[.int .i64 8, .int .i64 nd, .int .i64 tt, .int .i64 a, .int .i64 b, .string tx, .slice p n c] 26)
 have N := Bo.new w #[.int .i64 8, .int .i64 nd, .int .i64 tt, .int .i64 a, .int .i64 b, .string tx, .slice p n c] 26
 cases g1 : (aJ nd)
 ·go_enter Tryz.func8, Tryz.ntmps8; go_upto_region 1 with fail; generalize w.alloc (.cells #[.int .i64 8, .int .i64 nd, .int .i64 tt, .int .i64 a, .int .i64 b, .string tx, .slice p n c] 26) = v at *; have n0 := N.cell (i := 0) rfl; have n1 := N.cell (i := 1) rfl; have n2 := N.cell (i := 2) rfl; have n3 := N.cell (i := 3) rfl; have n4 := N.cell (i := 4) rfl; have n5 := N.cell (i := 5) rfl; have n6 := N.cell (i := 6) rfl; go_wp2_with fail; refine (ag _ _ _).mono ?_; rintro e w' ⟨rfl, rfl⟩; go_wp2_with fail; refine (ag _ _ _).mono ?_; rintro e w' ⟨rfl, rfl⟩
  go_wp2_with fail
  refine (ab _ _).mono ?_
  rintro e w' ⟨rfl, rfl⟩
  rw [g1]
  go_wp2_with fail
  go_ret
  exact ⟨aa (by simp), B⟩
 ·go_enter Tryz.func8, Tryz.ntmps8; go_upto_region 1 with fail; generalize w.alloc (.cells #[.int .i64 8, .int .i64 nd, .int .i64 tt, .int .i64 a, .int .i64 b, .string tx, .slice p n c] 26) = v at *; have n0 := N.cell (i := 0) rfl; have n1 := N.cell (i := 1) rfl; have n2 := N.cell (i := 2) rfl; have n3 := N.cell (i := 3) rfl; have n4 := N.cell (i := 4) rfl; have n5 := N.cell (i := 5) rfl; have n6 := N.cell (i := 6) rfl; go_wp2_with fail; refine (ag _ _ _).mono ?_; rintro e w' ⟨rfl, rfl⟩; go_wp2_with fail; refine (ag _ _ _).mono ?_; rintro e w' ⟨rfl, rfl⟩
  go_wp2_with fail
  refine (ab _ _).mono ?_
  rintro e w' ⟨rfl, rfl⟩
  rw [g1]
  go_wp2_with fail
  refine (aE _ _ _ _ _ _ _ _ _ _ _ _ _ _ _ _ _ _ _ hn (by first | exact hn | simp [maxLen])).mono ?_
  rintro e v2 ⟨rfl, hb⟩
  go_wp2_with fail
  go_ret
  exact ⟨aa (by simp), B.trans (hb.mono B.size)⟩
set_option maxHeartbeats 8000000 in
set_option maxRecDepth 100000 in
theorem sOp_4 (nd tt a b : Int) (tx : ByteArray) (p : Option Addr) (n c : Nat) (f : Nat → Int) (w : World) (hx : tx.size ≤ maxLen) (hn : n ≤ maxLen) :
 Calls Tryz.prog 8 #[.agg #[.int .i64 4, .int .i64 nd, .int .i64 tt, .int .i64 a, .int .i64 b, .string tx, .slice p n c]] w fun e w' => e = .returned (.bool (opB 4 nd tt a b tx n f)) ∧ Below w.heap.size w w' := by
 rw [op_4]
 unfold maxLen at hx
 have B := Below.nw w (.cells #[.int .i64 4, .int .i64 nd, .int .i64 tt, .int .i64 a, .int .i64 b, .string tx, .slice p n c] 26)
 have N := Bo.new w #[.int .i64 4, .int .i64 nd, .int .i64 tt, .int .i64 a, .int .i64 b, .string tx, .slice p n c] 26
 cases g1 : (aJ nd)
 ·go_enter Tryz.func8, Tryz.ntmps8; go_upto_region 1 with fail; generalize w.alloc (.cells #[.int .i64 4, .int .i64 nd, .int .i64 tt, .int .i64 a, .int .i64 b, .string tx, .slice p n c] 26) = v at *; have n0 := N.cell (i := 0) rfl; have n1 := N.cell (i := 1) rfl; have n2 := N.cell (i := 2) rfl; have n3 := N.cell (i := 3) rfl; have n4 := N.cell (i := 4) rfl; have n5 := N.cell (i := 5) rfl; have n6 := N.cell (i := 6) rfl; go_wp2_with fail; refine (ag _ _ _).mono ?_; rintro e w' ⟨rfl, rfl⟩; go_wp2_with fail; refine (ag _ _ _).mono ?_; rintro e w' ⟨rfl, rfl⟩
  go_wp2_with fail
  refine (ab _ _).mono ?_
  rintro e w' ⟨rfl, rfl⟩
  rw [g1]
  go_wp2_with fail
  go_ret
  exact ⟨aa (by simp), B⟩
 ·skip
  cases g2 : (upB a 1000000)
  ·go_enter Tryz.func8, Tryz.ntmps8; go_upto_region 1 with fail; generalize w.alloc (.cells #[.int .i64 4, .int .i64 nd, .int .i64 tt, .int .i64 a, .int .i64 b, .string tx, .slice p n c] 26) = v at *; have n0 := N.cell (i := 0) rfl; have n1 := N.cell (i := 1) rfl; have n2 := N.cell (i := 2) rfl; have n3 := N.cell (i := 3) rfl; have n4 := N.cell (i := 4) rfl; have n5 := N.cell (i := 5) rfl; have n6 := N.cell (i := 6) rfl; go_wp2_with fail; refine (ag _ _ _).mono ?_; rintro e w' ⟨rfl, rfl⟩; go_wp2_with fail; refine (ag _ _ _).mono ?_; rintro e w' ⟨rfl, rfl⟩
   (try rw [g2])
   go_wp2_with fail
   refine (ab _ _).mono ?_
   rintro e w' ⟨rfl, rfl⟩
   rw [g1]
   go_wp2_with fail
   go_ret
   exact ⟨aa (by simp), B⟩
  ·skip
   cases g3 : (upB b 1000000)
   ·go_enter Tryz.func8, Tryz.ntmps8; go_upto_region 1 with fail; generalize w.alloc (.cells #[.int .i64 4, .int .i64 nd, .int .i64 tt, .int .i64 a, .int .i64 b, .string tx, .slice p n c] 26) = v at *; have n0 := N.cell (i := 0) rfl; have n1 := N.cell (i := 1) rfl; have n2 := N.cell (i := 2) rfl; have n3 := N.cell (i := 3) rfl; have n4 := N.cell (i := 4) rfl; have n5 := N.cell (i := 5) rfl; have n6 := N.cell (i := 6) rfl; go_wp2_with fail; refine (ag _ _ _).mono ?_; rintro e w' ⟨rfl, rfl⟩; go_wp2_with fail; refine (ag _ _ _).mono ?_; rintro e w' ⟨rfl, rfl⟩
    (try rw [g2])
    go_wp2_with fail
    refine (ab _ _).mono ?_
    rintro e w' ⟨rfl, rfl⟩
    rw [g1]
    go_wp2_with fail
    refine (ag _ _ _).mono ?_
    rintro e w' ⟨rfl, rfl⟩
    rw [g3]
    go_wp2_with fail
    go_ret
    exact ⟨aa (by simp), B⟩
   ·go_enter Tryz.func8, Tryz.ntmps8; go_upto_region 1 with fail; generalize w.alloc (.cells #[.int .i64 4, .int .i64 nd, .int .i64 tt, .int .i64 a, .int .i64 b, .string tx, .slice p n c] 26) = v at *; have n0 := N.cell (i := 0) rfl; have n1 := N.cell (i := 1) rfl; have n2 := N.cell (i := 2) rfl; have n3 := N.cell (i := 3) rfl; have n4 := N.cell (i := 4) rfl; have n5 := N.cell (i := 5) rfl; have n6 := N.cell (i := 6) rfl; go_wp2_with fail; refine (ag _ _ _).mono ?_; rintro e w' ⟨rfl, rfl⟩; go_wp2_with fail; refine (ag _ _ _).mono ?_; rintro e w' ⟨rfl, rfl⟩
    (try rw [g2])
    go_wp2_with fail
    refine (ab _ _).mono ?_
    rintro e w' ⟨rfl, rfl⟩
    rw [g1]
    go_wp2_with fail
    refine (ag _ _ _).mono ?_
    rintro e w' ⟨rfl, rfl⟩
    rw [g3]
    go_wp2_with fail
    refine (aE _ _ _ _ _ _ _ _ _ _ _ _ _ _ _ _ _ _ _ hn (by first | exact hn | simp [maxLen])).mono ?_
    rintro e v2 ⟨rfl, hb⟩
    go_wp2_with fail
    go_ret
    exact ⟨aa (by simp), B.trans (hb.mono B.size)⟩
set_option maxHeartbeats 8000000 in
set_option maxRecDepth 100000 in
theorem sOp_5 (nd tt a b : Int) (tx : ByteArray) (p : Option Addr) (n c : Nat) (f : Nat → Int) (w : World) (hx : tx.size ≤ maxLen) (hn : n ≤ maxLen) :
 Calls Tryz.prog 8 #[.agg #[.int .i64 5, .int .i64 nd, .int .i64 tt, .int .i64 a, .int .i64 b, .string tx, .slice p n c]] w fun e w' => e = .returned (.bool (opB 5 nd tt a b tx n f)) ∧ Below w.heap.size w w' := by
 rw [op_5]
 unfold maxLen at hx
 have B := Below.nw w (.cells #[.int .i64 5, .int .i64 nd, .int .i64 tt, .int .i64 a, .int .i64 b, .string tx, .slice p n c] 26)
 have N := Bo.new w #[.int .i64 5, .int .i64 nd, .int .i64 tt, .int .i64 a, .int .i64 b, .string tx, .slice p n c] 26
 cases g1 : (aJ nd)
 ·go_enter Tryz.func8, Tryz.ntmps8; go_upto_region 1 with fail; generalize w.alloc (.cells #[.int .i64 5, .int .i64 nd, .int .i64 tt, .int .i64 a, .int .i64 b, .string tx, .slice p n c] 26) = v at *; have n0 := N.cell (i := 0) rfl; have n1 := N.cell (i := 1) rfl; have n2 := N.cell (i := 2) rfl; have n3 := N.cell (i := 3) rfl; have n4 := N.cell (i := 4) rfl; have n5 := N.cell (i := 5) rfl; have n6 := N.cell (i := 6) rfl; go_wp2_with fail; refine (ag _ _ _).mono ?_; rintro e w' ⟨rfl, rfl⟩; go_wp2_with fail; refine (ag _ _ _).mono ?_; rintro e w' ⟨rfl, rfl⟩
  go_wp2_with fail
  refine (ab _ _).mono ?_
  rintro e w' ⟨rfl, rfl⟩
  rw [g1]
  go_wp2_with fail
  go_ret
  exact ⟨aa (by simp), B⟩
 ·skip
  cases g2 : (aJ tt)
  ·go_enter Tryz.func8, Tryz.ntmps8; go_upto_region 1 with fail; generalize w.alloc (.cells #[.int .i64 5, .int .i64 nd, .int .i64 tt, .int .i64 a, .int .i64 b, .string tx, .slice p n c] 26) = v at *; have n0 := N.cell (i := 0) rfl; have n1 := N.cell (i := 1) rfl; have n2 := N.cell (i := 2) rfl; have n3 := N.cell (i := 3) rfl; have n4 := N.cell (i := 4) rfl; have n5 := N.cell (i := 5) rfl; have n6 := N.cell (i := 6) rfl; go_wp2_with fail; refine (ag _ _ _).mono ?_; rintro e w' ⟨rfl, rfl⟩; go_wp2_with fail; refine (ag _ _ _).mono ?_; rintro e w' ⟨rfl, rfl⟩
   go_wp2_with fail
   refine (ab _ _).mono ?_
   rintro e w' ⟨rfl, rfl⟩
   rw [g1]
   go_wp2_with fail
   refine (ab _ _).mono ?_
   rintro e w' ⟨rfl, rfl⟩
   rw [g2]
   go_wp2_with fail
   go_ret
   exact ⟨aa (by simp), B⟩
  ·skip
   cases g3 : (nd != tt)
   ·go_enter Tryz.func8, Tryz.ntmps8; go_upto_region 1 with fail; generalize w.alloc (.cells #[.int .i64 5, .int .i64 nd, .int .i64 tt, .int .i64 a, .int .i64 b, .string tx, .slice p n c] 26) = v at *; have n0 := N.cell (i := 0) rfl; have n1 := N.cell (i := 1) rfl; have n2 := N.cell (i := 2) rfl; have n3 := N.cell (i := 3) rfl; have n4 := N.cell (i := 4) rfl; have n5 := N.cell (i := 5) rfl; have n6 := N.cell (i := 6) rfl; go_wp2_with fail; refine (ag _ _ _).mono ?_; rintro e w' ⟨rfl, rfl⟩; go_wp2_with fail; refine (ag _ _ _).mono ?_; rintro e w' ⟨rfl, rfl⟩
    go_wp2_with fail
    refine (ab _ _).mono ?_
    rintro e w' ⟨rfl, rfl⟩
    rw [g1]
    go_wp2_with fail
    refine (ab _ _).mono ?_
    rintro e w' ⟨rfl, rfl⟩
    rw [g2]
    go_wp2_with fail
    go_ret
    exact ⟨aa (by simp), B⟩
   ·go_enter Tryz.func8, Tryz.ntmps8; go_upto_region 1 with fail; generalize w.alloc (.cells #[.int .i64 5, .int .i64 nd, .int .i64 tt, .int .i64 a, .int .i64 b, .string tx, .slice p n c] 26) = v at *; have n0 := N.cell (i := 0) rfl; have n1 := N.cell (i := 1) rfl; have n2 := N.cell (i := 2) rfl; have n3 := N.cell (i := 3) rfl; have n4 := N.cell (i := 4) rfl; have n5 := N.cell (i := 5) rfl; have n6 := N.cell (i := 6) rfl; go_wp2_with fail; refine (ag _ _ _).mono ?_; rintro e w' ⟨rfl, rfl⟩; go_wp2_with fail; refine (ag _ _ _).mono ?_; rintro e w' ⟨rfl, rfl⟩
    go_wp2_with fail
    refine (ab _ _).mono ?_
    rintro e w' ⟨rfl, rfl⟩
    rw [g1]
    go_wp2_with fail
    refine (ab _ _).mono ?_
    rintro e w' ⟨rfl, rfl⟩
    rw [g2]
    go_wp2_with fail
    refine (aE _ _ _ _ _ _ _ _ _ _ _ _ _ _ _ _ _ _ _ hn (by first | exact hn | simp [maxLen])).mono ?_
    rintro e v2 ⟨rfl, hb⟩
    go_wp2_with fail
    go_ret
    exact ⟨aa (by simp), B.trans (hb.mono B.size)⟩
set_option maxHeartbeats 8000000 in
set_option maxRecDepth 100000 in
theorem sOp_9 (nd tt a b : Int) (tx : ByteArray) (p : Option Addr) (n c : Nat) (f : Nat → Int) (w : World) (hx : tx.size ≤ maxLen) (hn : n ≤ maxLen) :
 Calls Tryz.prog 8 #[.agg #[.int .i64 9, .int .i64 nd, .int .i64 tt, .int .i64 a, .int .i64 b, .string tx, .slice p n c]] w fun e w' => e = .returned (.bool (opB 9 nd tt a b tx n f)) ∧ Below w.heap.size w w' := by
 rw [op_9]
 unfold maxLen at hx
 have B := Below.nw w (.cells #[.int .i64 9, .int .i64 nd, .int .i64 tt, .int .i64 a, .int .i64 b, .string tx, .slice p n c] 26)
 have N := Bo.new w #[.int .i64 9, .int .i64 nd, .int .i64 tt, .int .i64 a, .int .i64 b, .string tx, .slice p n c] 26
 cases g1 : (aJ nd)
 ·go_enter Tryz.func8, Tryz.ntmps8; go_upto_region 1 with fail; generalize w.alloc (.cells #[.int .i64 9, .int .i64 nd, .int .i64 tt, .int .i64 a, .int .i64 b, .string tx, .slice p n c] 26) = v at *; have n0 := N.cell (i := 0) rfl; have n1 := N.cell (i := 1) rfl; have n2 := N.cell (i := 2) rfl; have n3 := N.cell (i := 3) rfl; have n4 := N.cell (i := 4) rfl; have n5 := N.cell (i := 5) rfl; have n6 := N.cell (i := 6) rfl; go_wp2_with fail; refine (ag _ _ _).mono ?_; rintro e w' ⟨rfl, rfl⟩; go_wp2_with fail; refine (ag _ _ _).mono ?_; rintro e w' ⟨rfl, rfl⟩
  go_wp2_with fail
  refine (ab _ _).mono ?_
  rintro e w' ⟨rfl, rfl⟩
  rw [g1]
  go_wp2_with fail
  go_ret
  exact ⟨aa (by simp), B⟩
 ·skip
  cases g2 : (upB a 1000000)
  ·go_enter Tryz.func8, Tryz.ntmps8; go_upto_region 1 with fail; generalize w.alloc (.cells #[.int .i64 9, .int .i64 nd, .int .i64 tt, .int .i64 a, .int .i64 b, .string tx, .slice p n c] 26) = v at *; have n0 := N.cell (i := 0) rfl; have n1 := N.cell (i := 1) rfl; have n2 := N.cell (i := 2) rfl; have n3 := N.cell (i := 3) rfl; have n4 := N.cell (i := 4) rfl; have n5 := N.cell (i := 5) rfl; have n6 := N.cell (i := 6) rfl; go_wp2_with fail; refine (ag _ _ _).mono ?_; rintro e w' ⟨rfl, rfl⟩; go_wp2_with fail; refine (ag _ _ _).mono ?_; rintro e w' ⟨rfl, rfl⟩
   (try rw [g2])
   go_wp2_with fail
   refine (ab _ _).mono ?_
   rintro e w' ⟨rfl, rfl⟩
   rw [g1]
   go_wp2_with fail
   go_ret
   exact ⟨aa (by simp), B⟩
  ·skip
   cases g3 : (decide ((tx.size : Int) ≤ 24))
   ·go_enter Tryz.func8, Tryz.ntmps8; go_upto_region 1 with fail; generalize w.alloc (.cells #[.int .i64 9, .int .i64 nd, .int .i64 tt, .int .i64 a, .int .i64 b, .string tx, .slice p n c] 26) = v at *; have n0 := N.cell (i := 0) rfl; have n1 := N.cell (i := 1) rfl; have n2 := N.cell (i := 2) rfl; have n3 := N.cell (i := 3) rfl; have n4 := N.cell (i := 4) rfl; have n5 := N.cell (i := 5) rfl; have n6 := N.cell (i := 6) rfl; go_wp2_with fail; refine (ag _ _ _).mono ?_; rintro e w' ⟨rfl, rfl⟩; go_wp2_with fail; refine (ag _ _ _).mono ?_; rintro e w' ⟨rfl, rfl⟩
    (try rw [g2])
    go_wp2_with fail
    refine (ab _ _).mono ?_
    rintro e w' ⟨rfl, rfl⟩
    rw [g1]
    go_wp2_with fail
    go_ret
    exact ⟨aa (by simp), B⟩
   ·go_enter Tryz.func8, Tryz.ntmps8; go_upto_region 1 with fail; generalize w.alloc (.cells #[.int .i64 9, .int .i64 nd, .int .i64 tt, .int .i64 a, .int .i64 b, .string tx, .slice p n c] 26) = v at *; have n0 := N.cell (i := 0) rfl; have n1 := N.cell (i := 1) rfl; have n2 := N.cell (i := 2) rfl; have n3 := N.cell (i := 3) rfl; have n4 := N.cell (i := 4) rfl; have n5 := N.cell (i := 5) rfl; have n6 := N.cell (i := 6) rfl; go_wp2_with fail; refine (ag _ _ _).mono ?_; rintro e w' ⟨rfl, rfl⟩; go_wp2_with fail; refine (ag _ _ _).mono ?_; rintro e w' ⟨rfl, rfl⟩
    (try rw [g2])
    go_wp2_with fail
    refine (ab _ _).mono ?_
    rintro e w' ⟨rfl, rfl⟩
    rw [g1]
    go_wp2_with fail
    refine (aE _ _ _ _ _ _ _ _ _ _ _ _ _ _ _ _ _ _ _ hn (by first | exact hn | simp [maxLen])).mono ?_
    rintro e v2 ⟨rfl, hb⟩
    go_wp2_with fail
    go_ret
    exact ⟨aa (by simp), B.trans (hb.mono B.size)⟩
set_option maxHeartbeats 8000000 in
set_option maxRecDepth 100000 in
theorem nj (nd tt a b : Int) (tx : ByteArray) (p : Option Addr) (n c : Nat) (f : Nat → Int) (w : World) (hx : tx.size ≤ maxLen) (hn : n ≤ maxLen) :
 Calls Tryz.prog 8 #[.agg #[.int .i64 10, .int .i64 nd, .int .i64 tt, .int .i64 a, .int .i64 b, .string tx, .slice p n c]] w fun e w' => e = .returned (.bool (opB 10 nd tt a b tx n f)) ∧ Below w.heap.size w w' := by
 rw [op_10]
 unfold maxLen at hx
 have B := Below.nw w (.cells #[.int .i64 10, .int .i64 nd, .int .i64 tt, .int .i64 a, .int .i64 b, .string tx, .slice p n c] 26)
 have N := Bo.new w #[.int .i64 10, .int .i64 nd, .int .i64 tt, .int .i64 a, .int .i64 b, .string tx, .slice p n c] 26
 cases g1 : (upB a 39)
 ·go_enter Tryz.func8, Tryz.ntmps8; go_upto_region 1 with fail; generalize w.alloc (.cells #[.int .i64 10, .int .i64 nd, .int .i64 tt, .int .i64 a, .int .i64 b, .string tx, .slice p n c] 26) = v at *; have n0 := N.cell (i := 0) rfl; have n1 := N.cell (i := 1) rfl; have n2 := N.cell (i := 2) rfl; have n3 := N.cell (i := 3) rfl; have n4 := N.cell (i := 4) rfl; have n5 := N.cell (i := 5) rfl; have n6 := N.cell (i := 6) rfl; go_wp2_with fail; refine (ag _ _ _).mono ?_; rintro e w' ⟨rfl, rfl⟩; go_wp2_with fail; refine (ag _ _ _).mono ?_; rintro e w' ⟨rfl, rfl⟩
  (try rw [g1])
  go_wp2_with fail
  go_ret
  exact ⟨aa (by simp), B⟩
 ·go_enter Tryz.func8, Tryz.ntmps8; go_upto_region 1 with fail; generalize w.alloc (.cells #[.int .i64 10, .int .i64 nd, .int .i64 tt, .int .i64 a, .int .i64 b, .string tx, .slice p n c] 26) = v at *; have n0 := N.cell (i := 0) rfl; have n1 := N.cell (i := 1) rfl; have n2 := N.cell (i := 2) rfl; have n3 := N.cell (i := 3) rfl; have n4 := N.cell (i := 4) rfl; have n5 := N.cell (i := 5) rfl; have n6 := N.cell (i := 6) rfl; go_wp2_with fail; refine (ag _ _ _).mono ?_; rintro e w' ⟨rfl, rfl⟩; go_wp2_with fail; refine (ag _ _ _).mono ?_; rintro e w' ⟨rfl, rfl⟩
  (try rw [g1])
  go_wp2_with fail
  refine (aE _ _ _ _ _ _ _ _ _ _ _ _ _ _ _ _ _ _ _ hn (by first | exact hn | simp [maxLen])).mono ?_
  rintro e v2 ⟨rfl, hb⟩
  go_wp2_with fail
  go_ret
  exact ⟨aa (by simp), B.trans (hb.mono B.size)⟩
set_option maxHeartbeats 8000000 in
set_option maxRecDepth 100000 in
theorem nk (nd tt a b : Int) (tx : ByteArray) (p : Option Addr) (n c : Nat) (f : Nat → Int) (w : World) (hx : tx.size ≤ maxLen) (hn : n ≤ maxLen) :
 Calls Tryz.prog 8 #[.agg #[.int .i64 11, .int .i64 nd, .int .i64 tt, .int .i64 a, .int .i64 b, .string tx, .slice p n c]] w fun e w' => e = .returned (.bool (opB 11 nd tt a b tx n f)) ∧ Below w.heap.size w w' := by
 rw [op_11]
 unfold maxLen at hx
 have B := Below.nw w (.cells #[.int .i64 11, .int .i64 nd, .int .i64 tt, .int .i64 a, .int .i64 b, .string tx, .slice p n c] 26)
 have N := Bo.new w #[.int .i64 11, .int .i64 nd, .int .i64 tt, .int .i64 a, .int .i64 b, .string tx, .slice p n c] 26
 cases g1 : (upB a 39)
 ·go_enter Tryz.func8, Tryz.ntmps8; go_upto_region 1 with fail; generalize w.alloc (.cells #[.int .i64 11, .int .i64 nd, .int .i64 tt, .int .i64 a, .int .i64 b, .string tx, .slice p n c] 26) = v at *; have n0 := N.cell (i := 0) rfl; have n1 := N.cell (i := 1) rfl; have n2 := N.cell (i := 2) rfl; have n3 := N.cell (i := 3) rfl; have n4 := N.cell (i := 4) rfl; have n5 := N.cell (i := 5) rfl; have n6 := N.cell (i := 6) rfl; go_wp2_with fail; refine (ag _ _ _).mono ?_; rintro e w' ⟨rfl, rfl⟩; go_wp2_with fail; refine (ag _ _ _).mono ?_; rintro e w' ⟨rfl, rfl⟩
  (try rw [g1])
  go_wp2_with fail
  go_ret
  exact ⟨aa (by simp), B⟩
 ·go_enter Tryz.func8, Tryz.ntmps8; go_upto_region 1 with fail; generalize w.alloc (.cells #[.int .i64 11, .int .i64 nd, .int .i64 tt, .int .i64 a, .int .i64 b, .string tx, .slice p n c] 26) = v at *; have n0 := N.cell (i := 0) rfl; have n1 := N.cell (i := 1) rfl; have n2 := N.cell (i := 2) rfl; have n3 := N.cell (i := 3) rfl; have n4 := N.cell (i := 4) rfl; have n5 := N.cell (i := 5) rfl; have n6 := N.cell (i := 6) rfl; go_wp2_with fail; refine (ag _ _ _).mono ?_; rintro e w' ⟨rfl, rfl⟩; go_wp2_with fail; refine (ag _ _ _).mono ?_; rintro e w' ⟨rfl, rfl⟩
  (try rw [g1])
  go_wp2_with fail
  refine (aE _ _ _ _ _ _ _ _ _ _ _ _ _ _ _ _ _ _ _ hn (by first | exact hn | simp [maxLen])).mono ?_
  rintro e v2 ⟨rfl, hb⟩
  go_wp2_with fail
  go_ret
  exact ⟨aa (by simp), B.trans (hb.mono B.size)⟩
set_option maxHeartbeats 8000000 in
set_option maxRecDepth 100000 in
theorem nq (nd tt a b : Int) (tx : ByteArray) (p : Option Addr) (n c : Nat) (f : Nat → Int) (w : World) (hx : tx.size ≤ maxLen) (hn : n ≤ maxLen) :
 Calls Tryz.prog 8 #[.agg #[.int .i64 12, .int .i64 nd, .int .i64 tt, .int .i64 a, .int .i64 b, .string tx, .slice p n c]] w fun e w' => e = .returned (.bool (opB 12 nd tt a b tx n f)) ∧ Below w.heap.size w w' := by
 rw [op_12]
 unfold maxLen at hx
 have B := Below.nw w (.cells #[.int .i64 12, .int .i64 nd, .int .i64 tt, .int .i64 a, .int .i64 b, .string tx, .slice p n c] 26)
 have N := Bo.new w #[.int .i64 12, .int .i64 nd, .int .i64 tt, .int .i64 a, .int .i64 b, .string tx, .slice p n c] 26
 cases g1 : (upB a 39)
 ·go_enter Tryz.func8, Tryz.ntmps8; go_upto_region 1 with fail; generalize w.alloc (.cells #[.int .i64 12, .int .i64 nd, .int .i64 tt, .int .i64 a, .int .i64 b, .string tx, .slice p n c] 26) = v at *; have n0 := N.cell (i := 0) rfl; have n1 := N.cell (i := 1) rfl; have n2 := N.cell (i := 2) rfl; have n3 := N.cell (i := 3) rfl; have n4 := N.cell (i := 4) rfl; have n5 := N.cell (i := 5) rfl; have n6 := N.cell (i := 6) rfl; go_wp2_with fail; refine (ag _ _ _).mono ?_; rintro e w' ⟨rfl, rfl⟩; go_wp2_with fail; refine (ag _ _ _).mono ?_; rintro e w' ⟨rfl, rfl⟩
  (try rw [g1])
  go_wp2_with fail
  go_ret
  exact ⟨aa (by simp), B⟩
 ·go_enter Tryz.func8, Tryz.ntmps8; go_upto_region 1 with fail; generalize w.alloc (.cells #[.int .i64 12, .int .i64 nd, .int .i64 tt, .int .i64 a, .int .i64 b, .string tx, .slice p n c] 26) = v at *; have n0 := N.cell (i := 0) rfl; have n1 := N.cell (i := 1) rfl; have n2 := N.cell (i := 2) rfl; have n3 := N.cell (i := 3) rfl; have n4 := N.cell (i := 4) rfl; have n5 := N.cell (i := 5) rfl; have n6 := N.cell (i := 6) rfl; go_wp2_with fail; refine (ag _ _ _).mono ?_; rintro e w' ⟨rfl, rfl⟩; go_wp2_with fail; refine (ag _ _ _).mono ?_; rintro e w' ⟨rfl, rfl⟩
  (try rw [g1])
  go_wp2_with fail
  refine (aE _ _ _ _ _ _ _ _ _ _ _ _ _ _ _ _ _ _ _ hn (by first | exact hn | simp [maxLen])).mono ?_
  rintro e v2 ⟨rfl, hb⟩
  go_wp2_with fail
  go_ret
  exact ⟨aa (by simp), B.trans (hb.mono B.size)⟩
set_option maxHeartbeats 8000000 in
set_option maxRecDepth 100000 in
theorem nr (nd tt a b : Int) (tx : ByteArray) (p : Option Addr) (n c : Nat) (f : Nat → Int) (w : World) (hx : tx.size ≤ maxLen) (hn : n ≤ maxLen) :
 Calls Tryz.prog 8 #[.agg #[.int .i64 13, .int .i64 nd, .int .i64 tt, .int .i64 a, .int .i64 b, .string tx, .slice p n c]] w fun e w' => e = .returned (.bool (opB 13 nd tt a b tx n f)) ∧ Below w.heap.size w w' := by
 rw [op_13]
 unfold maxLen at hx
 have B := Below.nw w (.cells #[.int .i64 13, .int .i64 nd, .int .i64 tt, .int .i64 a, .int .i64 b, .string tx, .slice p n c] 26)
 have N := Bo.new w #[.int .i64 13, .int .i64 nd, .int .i64 tt, .int .i64 a, .int .i64 b, .string tx, .slice p n c] 26
 cases g1 : (upB a 39)
 ·go_enter Tryz.func8, Tryz.ntmps8; go_upto_region 1 with fail; generalize w.alloc (.cells #[.int .i64 13, .int .i64 nd, .int .i64 tt, .int .i64 a, .int .i64 b, .string tx, .slice p n c] 26) = v at *; have n0 := N.cell (i := 0) rfl; have n1 := N.cell (i := 1) rfl; have n2 := N.cell (i := 2) rfl; have n3 := N.cell (i := 3) rfl; have n4 := N.cell (i := 4) rfl; have n5 := N.cell (i := 5) rfl; have n6 := N.cell (i := 6) rfl; go_wp2_with fail; refine (ag _ _ _).mono ?_; rintro e w' ⟨rfl, rfl⟩; go_wp2_with fail; refine (ag _ _ _).mono ?_; rintro e w' ⟨rfl, rfl⟩
  (try rw [g1])
  go_wp2_with fail
  go_ret
  exact ⟨aa (by simp), B⟩
 ·skip
  cases g2 : (upB b 39)
  ·go_enter Tryz.func8, Tryz.ntmps8; go_upto_region 1 with fail; generalize w.alloc (.cells #[.int .i64 13, .int .i64 nd, .int .i64 tt, .int .i64 a, .int .i64 b, .string tx, .slice p n c] 26) = v at *; have n0 := N.cell (i := 0) rfl; have n1 := N.cell (i := 1) rfl; have n2 := N.cell (i := 2) rfl; have n3 := N.cell (i := 3) rfl; have n4 := N.cell (i := 4) rfl; have n5 := N.cell (i := 5) rfl; have n6 := N.cell (i := 6) rfl; go_wp2_with fail; refine (ag _ _ _).mono ?_; rintro e w' ⟨rfl, rfl⟩; go_wp2_with fail; refine (ag _ _ _).mono ?_; rintro e w' ⟨rfl, rfl⟩
   (try rw [g1])
   go_wp2_with fail
   refine (ag _ _ _).mono ?_
   rintro e w' ⟨rfl, rfl⟩
   rw [g2]
   go_wp2_with fail
   go_ret
   exact ⟨aa (by simp), B⟩
  ·go_enter Tryz.func8, Tryz.ntmps8; go_upto_region 1 with fail; generalize w.alloc (.cells #[.int .i64 13, .int .i64 nd, .int .i64 tt, .int .i64 a, .int .i64 b, .string tx, .slice p n c] 26) = v at *; have n0 := N.cell (i := 0) rfl; have n1 := N.cell (i := 1) rfl; have n2 := N.cell (i := 2) rfl; have n3 := N.cell (i := 3) rfl; have n4 := N.cell (i := 4) rfl; have n5 := N.cell (i := 5) rfl; have n6 := N.cell (i := 6) rfl; go_wp2_with fail; refine (ag _ _ _).mono ?_; rintro e w' ⟨rfl, rfl⟩; go_wp2_with fail; refine (ag _ _ _).mono ?_; rintro e w' ⟨rfl, rfl⟩
   (try rw [g1])
   go_wp2_with fail
   refine (ag _ _ _).mono ?_
   rintro e w' ⟨rfl, rfl⟩
   rw [g2]
   go_wp2_with fail
   refine (aE _ _ _ _ _ _ _ _ _ _ _ _ _ _ _ _ _ _ _ hn (by first | exact hn | simp [maxLen])).mono ?_
   rintro e v2 ⟨rfl, hb⟩
   go_wp2_with fail
   go_ret
   exact ⟨aa (by simp), B.trans (hb.mono B.size)⟩
set_option maxHeartbeats 8000000 in
set_option maxRecDepth 100000 in
theorem ns (nd tt a b : Int) (tx : ByteArray) (p : Option Addr) (n c : Nat) (f : Nat → Int) (w : World) (hx : tx.size ≤ maxLen) (hn : n ≤ maxLen) :
 Calls Tryz.prog 8 #[.agg #[.int .i64 14, .int .i64 nd, .int .i64 tt, .int .i64 a, .int .i64 b, .string tx, .slice p n c]] w fun e w' => e = .returned (.bool (opB 14 nd tt a b tx n f)) ∧ Below w.heap.size w w' := by
 rw [op_14]
 unfold maxLen at hx
 have B := Below.nw w (.cells #[.int .i64 14, .int .i64 nd, .int .i64 tt, .int .i64 a, .int .i64 b, .string tx, .slice p n c] 26)
 have N := Bo.new w #[.int .i64 14, .int .i64 nd, .int .i64 tt, .int .i64 a, .int .i64 b, .string tx, .slice p n c] 26
 cases g1 : (aJ nd)
 ·go_enter Tryz.func8, Tryz.ntmps8; go_upto_region 1 with fail; generalize w.alloc (.cells #[.int .i64 14, .int .i64 nd, .int .i64 tt, .int .i64 a, .int .i64 b, .string tx, .slice p n c] 26) = v at *; have n0 := N.cell (i := 0) rfl; have n1 := N.cell (i := 1) rfl; have n2 := N.cell (i := 2) rfl; have n3 := N.cell (i := 3) rfl; have n4 := N.cell (i := 4) rfl; have n5 := N.cell (i := 5) rfl; have n6 := N.cell (i := 6) rfl; go_wp2_with fail; refine (ag _ _ _).mono ?_; rintro e w' ⟨rfl, rfl⟩; go_wp2_with fail; refine (ag _ _ _).mono ?_; rintro e w' ⟨rfl, rfl⟩
  go_wp2_with fail
  refine (ab _ _).mono ?_
  rintro e w' ⟨rfl, rfl⟩
  rw [g1]
  go_wp2_with fail
  go_ret
  exact ⟨aa (by simp), B⟩
 ·skip
  cases g2 : (aJ tt)
  ·go_enter Tryz.func8, Tryz.ntmps8; go_upto_region 1 with fail; generalize w.alloc (.cells #[.int .i64 14, .int .i64 nd, .int .i64 tt, .int .i64 a, .int .i64 b, .string tx, .slice p n c] 26) = v at *; have n0 := N.cell (i := 0) rfl; have n1 := N.cell (i := 1) rfl; have n2 := N.cell (i := 2) rfl; have n3 := N.cell (i := 3) rfl; have n4 := N.cell (i := 4) rfl; have n5 := N.cell (i := 5) rfl; have n6 := N.cell (i := 6) rfl; go_wp2_with fail; refine (ag _ _ _).mono ?_; rintro e w' ⟨rfl, rfl⟩; go_wp2_with fail; refine (ag _ _ _).mono ?_; rintro e w' ⟨rfl, rfl⟩
   go_wp2_with fail
   refine (ab _ _).mono ?_
   rintro e w' ⟨rfl, rfl⟩
   rw [g1]
   go_wp2_with fail
   refine (ab _ _).mono ?_
   rintro e w' ⟨rfl, rfl⟩
   rw [g2]
   go_wp2_with fail
   go_ret
   exact ⟨aa (by simp), B⟩
  ·skip
   cases g3 : (nd != tt)
   ·go_enter Tryz.func8, Tryz.ntmps8; go_upto_region 1 with fail; generalize w.alloc (.cells #[.int .i64 14, .int .i64 nd, .int .i64 tt, .int .i64 a, .int .i64 b, .string tx, .slice p n c] 26) = v at *; have n0 := N.cell (i := 0) rfl; have n1 := N.cell (i := 1) rfl; have n2 := N.cell (i := 2) rfl; have n3 := N.cell (i := 3) rfl; have n4 := N.cell (i := 4) rfl; have n5 := N.cell (i := 5) rfl; have n6 := N.cell (i := 6) rfl; go_wp2_with fail; refine (ag _ _ _).mono ?_; rintro e w' ⟨rfl, rfl⟩; go_wp2_with fail; refine (ag _ _ _).mono ?_; rintro e w' ⟨rfl, rfl⟩
    go_wp2_with fail
    refine (ab _ _).mono ?_
    rintro e w' ⟨rfl, rfl⟩
    rw [g1]
    go_wp2_with fail
    refine (ab _ _).mono ?_
    rintro e w' ⟨rfl, rfl⟩
    rw [g2]
    go_wp2_with fail
    go_ret
    exact ⟨aa (by simp), B⟩
   ·skip
    cases g4 : (decide ((tx.size : Int) ≤ 64))
    ·go_enter Tryz.func8, Tryz.ntmps8; go_upto_region 1 with fail; generalize w.alloc (.cells #[.int .i64 14, .int .i64 nd, .int .i64 tt, .int .i64 a, .int .i64 b, .string tx, .slice p n c] 26) = v at *; have n0 := N.cell (i := 0) rfl; have n1 := N.cell (i := 1) rfl; have n2 := N.cell (i := 2) rfl; have n3 := N.cell (i := 3) rfl; have n4 := N.cell (i := 4) rfl; have n5 := N.cell (i := 5) rfl; have n6 := N.cell (i := 6) rfl; go_wp2_with fail; refine (ag _ _ _).mono ?_; rintro e w' ⟨rfl, rfl⟩; go_wp2_with fail; refine (ag _ _ _).mono ?_; rintro e w' ⟨rfl, rfl⟩
     go_wp2_with fail
     refine (ab _ _).mono ?_
     rintro e w' ⟨rfl, rfl⟩
     rw [g1]
     go_wp2_with fail
     refine (ab _ _).mono ?_
     rintro e w' ⟨rfl, rfl⟩
     rw [g2]
     go_wp2_with fail
     go_ret
     exact ⟨aa (by simp), B⟩
    ·go_enter Tryz.func8, Tryz.ntmps8; go_upto_region 1 with fail; generalize w.alloc (.cells #[.int .i64 14, .int .i64 nd, .int .i64 tt, .int .i64 a, .int .i64 b, .string tx, .slice p n c] 26) = v at *; have n0 := N.cell (i := 0) rfl; have n1 := N.cell (i := 1) rfl; have n2 := N.cell (i := 2) rfl; have n3 := N.cell (i := 3) rfl; have n4 := N.cell (i := 4) rfl; have n5 := N.cell (i := 5) rfl; have n6 := N.cell (i := 6) rfl; go_wp2_with fail; refine (ag _ _ _).mono ?_; rintro e w' ⟨rfl, rfl⟩; go_wp2_with fail; refine (ag _ _ _).mono ?_; rintro e w' ⟨rfl, rfl⟩
     go_wp2_with fail
     refine (ab _ _).mono ?_
     rintro e w' ⟨rfl, rfl⟩
     rw [g1]
     go_wp2_with fail
     refine (ab _ _).mono ?_
     rintro e w' ⟨rfl, rfl⟩
     rw [g2]
     go_wp2_with fail
     refine (aE _ _ _ _ _ _ _ _ _ _ _ _ _ _ _ _ _ _ _ hn (by first | exact hn | simp [maxLen])).mono ?_
     rintro e v2 ⟨rfl, hb⟩
     go_wp2_with fail
     go_ret
     exact ⟨aa (by simp), B.trans (hb.mono B.size)⟩
set_option maxHeartbeats 8000000 in
set_option maxRecDepth 100000 in
theorem nt (k : Int) (nd tt a b : Int) (tx : ByteArray) (p : Option Addr) (n c : Nat) (f : Nat → Int) (w : World) (hx : tx.size ≤ maxLen) (hn : n ≤ maxLen) (h : ¬ (1 ≤ k ∧ k ≤ 14)) :
 Calls Tryz.prog 8 #[.agg #[.int .i64 k, .int .i64 nd, .int .i64 tt, .int .i64 a, .int .i64 b, .string tx, .slice p n c]] w fun e w' => e = .returned (.bool (opB k nd tt a b tx n f)) ∧ Below w.heap.size w w' := by
 rw [op_no k nd tt a b tx n f h]
 have B := Below.nw w (.cells #[.int .i64 k, .int .i64 nd, .int .i64 tt, .int .i64 a, .int .i64 b, .string tx, .slice p n c] 26)
 have N := Bo.new w #[.int .i64 k, .int .i64 nd, .int .i64 tt, .int .i64 a, .int .i64 b, .string tx, .slice p n c] 26
 have e1 : (k == 1) = false := by simp; omega
 have e2 : (k == 2) = false := by simp; omega
 have e3 : (k == 3) = false := by simp; omega
 have e4 : (k == 4) = false := by simp; omega
 have e5 : (k == 5) = false := by simp; omega
 have e6 : (k == 6) = false := by simp; omega
 have e7 : (k == 7) = false := by simp; omega
 have e8 : (k == 8) = false := by simp; omega
 have e9 : (k == 9) = false := by simp; omega
 have e10 : (k == 10) = false := by simp; omega
 have e11 : (k == 11) = false := by simp; omega
 have e12 : (k == 12) = false := by simp; omega
 have e13 : (k == 13) = false := by simp; omega
 have e14 : (k == 14) = false := by simp; omega
 clear h
 go_enter Tryz.func8, Tryz.ntmps8; go_upto_region 1 with fail; generalize w.alloc (.cells #[.int .i64 k, .int .i64 nd, .int .i64 tt, .int .i64 a, .int .i64 b, .string tx, .slice p n c] 26) = v at *; have n0 := N.cell (i := 0) rfl; have n1 := N.cell (i := 1) rfl; have n2 := N.cell (i := 2) rfl; have n3 := N.cell (i := 3) rfl; have n4 := N.cell (i := 4) rfl; have n5 := N.cell (i := 5) rfl; have n6 := N.cell (i := 6) rfl; go_wp2_with fail; refine (ag _ _ _).mono ?_; rintro e w' ⟨rfl, rfl⟩; go_wp2_with fail; refine (ag _ _ _).mono ?_; rintro e w' ⟨rfl, rfl⟩
 go_wp2_with fail
 go_ret
 exact ⟨rfl, B⟩
set_option maxHeartbeats 8000000 in
set_option maxRecDepth 100000 in
theorem sOp_1 (nd tt a b : Int) (tx : ByteArray) (p : Option Addr) (n c : Nat) (f : Nat → Int) (w : World) (hx : tx.size ≤ maxLen) (hn : n ≤ maxLen) (hs : ci w p n (itG f)) :
 Calls Tryz.prog 8 #[.agg #[.int .i64 1, .int .i64 nd, .int .i64 tt, .int .i64 a, .int .i64 b, .string tx, .slice p n c]] w fun e w' => e = .returned (.bool (opB 1 nd tt a b tx n f)) ∧ Below w.heap.size w w' := by
 have HS : Hid (ci w p n (itG f)) := hs
 clear hs
 rw [op_1]
 have B := Below.nw w (.cells #[.int .i64 1, .int .i64 nd, .int .i64 tt, .int .i64 a, .int .i64 b, .string tx, .slice p n c] 26)
 have N := Bo.new w #[.int .i64 1, .int .i64 nd, .int .i64 tt, .int .i64 a, .int .i64 b, .string tx, .slice p n c] 26
 cases g8 : decide (8 < (n : Int))
 rotate_left
 ·have g8' : (n : Int) > 8 := of_decide_eq_true g8
  go_enter Tryz.func8, Tryz.ntmps8; go_upto_region 1 with fail; generalize w.alloc (.cells #[.int .i64 1, .int .i64 nd, .int .i64 tt, .int .i64 a, .int .i64 b, .string tx, .slice p n c] 26) = v at *; have n0 := N.cell (i := 0) rfl; have n1 := N.cell (i := 1) rfl; have n2 := N.cell (i := 2) rfl; have n3 := N.cell (i := 3) rfl; have n4 := N.cell (i := 4) rfl; have n5 := N.cell (i := 5) rfl; have n6 := N.cell (i := 6) rfl; go_wp2_with fail; refine (ag _ _ _).mono ?_; rintro e w' ⟨rfl, rfl⟩; go_wp2_with fail; refine (ag _ _ _).mono ?_; rintro e w' ⟨rfl, rfl⟩
  go_wp2_with fail
  go_ret
  exact ⟨aa (by simp), B⟩
 have g8' : ¬ (n : Int) > 8 := of_decide_eq_false g8
 rcases HS.out.below B with h0 | ⟨bq, off, rfl, hc⟩
 ·subst h0
  have hal : alB f 0 = true := dF (fun i hi => absurd hi (Nat.not_lt_zero _))
  rw [hal]
  cases g1 : (upB a 1000000)
  all_goals
   go_enter Tryz.func8, Tryz.ntmps8; go_upto_region 1 with fail; generalize w.alloc (.cells #[.int .i64 1, .int .i64 nd, .int .i64 tt, .int .i64 a, .int .i64 b, .string tx, .slice p 0 c] 26) = v at *; have n0 := N.cell (i := 0) rfl; have n1 := N.cell (i := 1) rfl; have n2 := N.cell (i := 2) rfl; have n3 := N.cell (i := 3) rfl; have n4 := N.cell (i := 4) rfl; have n5 := N.cell (i := 5) rfl; have n6 := N.cell (i := 6) rfl; go_wp2_with fail; refine (ag _ _ _).mono ?_; rintro e w' ⟨rfl, rfl⟩; go_wp2_with fail; refine (ag _ _ _).mono ?_; rintro e w' ⟨rfl, rfl⟩
   (try rw [g1])
   go_wp2_with fail
   go_loopw [5] (fun i wr => i = .int .i64 0 ∧ v = wr) (fun i _ => 0)
   case atStart => exact ⟨rfl, by first | rfl | trivial⟩
   obtain ⟨rfl, rfl⟩ := hrel
   go_wp2_with fail
  ·go_ret
   exact ⟨aa (by simp), B⟩
  ·refine (aE _ _ _ _ _ _ _ _ _ _ _ _ _ _ _ _ _ _ _ hn (by first | exact hn | simp [maxLen])).mono ?_
   rintro e v2 ⟨rfl, hb⟩
   go_wp2_with fail
   go_ret
   exact ⟨aa (by simp), B.trans (hb.mono B.size)⟩
 ·have HC : Hid (Cs (w.alloc (.cells #[.int .i64 1, .int .i64 nd, .int .i64 tt, .int .i64 a, .int .i64 b, .string tx, .slice (some ⟨bq, off, none⟩) n c] 26)) bq off n (itG f)) := hc
  clear hc
  have hn1 : n ≤ 8 := by omega
  cases g1 : (upB a 1000000)
  all_goals
   go_enter Tryz.func8, Tryz.ntmps8; go_upto_region 1 with fail; generalize w.alloc (.cells #[.int .i64 1, .int .i64 nd, .int .i64 tt, .int .i64 a, .int .i64 b, .string tx, .slice (some ⟨bq, off, none⟩) n c] 26) = v at *; have n0 := N.cell (i := 0) rfl; have n1 := N.cell (i := 1) rfl; have n2 := N.cell (i := 2) rfl; have n3 := N.cell (i := 3) rfl; have n4 := N.cell (i := 4) rfl; have n5 := N.cell (i := 5) rfl; have n6 := N.cell (i := 6) rfl; go_wp2_with fail; refine (ag _ _ _).mono ?_; rintro e w' ⟨rfl, rfl⟩; go_wp2_with fail; refine (ag _ _ _).mono ?_; rintro e w' ⟨rfl, rfl⟩
   (try rw [g1])
   go_wp2_with fail
   go_loopw [5] (fun i wr => ∃ k : Nat, k ≤ n ∧ i = .int .i64 k ∧ v = wr ∧ ∀ i, i < k → -1000000 ≤ f i ∧ f i ≤ 1000000) (fun i _ => n - (intOf i).toNat)
   case atStart => exact ⟨0, Nat.zero_le _, rfl, by first | rfl | trivial, fun i hi => absurd hi (Nat.not_lt_zero _)⟩
   obtain ⟨k, hk, rfl, rfl, hA⟩ := hrel
   by_cases hlt : k < n
   ·have c0 : v.cell? ⟨bq, off + k, none⟩ = some (.int .i64 (f k)) := HC.out.2 k hlt
    have hli : (k : Int) < (n : Int) := by omega
    cases g2 : (decide (-1000000 ≤ f k ∧ f k ≤ 1000000))
    ·go_wp2_with fail
     refine (az _ _ _ _).mono ?_
     rintro e w' ⟨rfl, rfl⟩
     rw [g2]
     go_wp2_with fail
     go_ret
     exact ⟨aa (by rw [ko hlt (of_decide_eq_false g2)]; simp), B⟩
    ·go_wp2_with fail
     refine (az _ _ _ _).mono ?_
     rintro e w' ⟨rfl, rfl⟩
     rw [g2]
     go_wp2_with fail
     go_roundw
     case rel => exact ⟨k + 1, by omega, by go_num, by first | rfl | trivial, jm hA (of_decide_eq_true g2).1 (of_decide_eq_true g2).2⟩
     case measure => simp [intOf]; omega
   have hkn : k = n := by omega
   subst hkn
   have hli : ¬ (k : Int) < (k : Int) := by omega
   go_wp2_with fail
  ·go_ret
   exact ⟨aa (by first | (rw [dF hA]; simp) | simp), B⟩
  ·refine (aE _ _ _ _ _ _ _ _ _ _ _ _ _ _ _ _ _ _ _ hn (by first | exact hn | simp [maxLen])).mono ?_
   rintro e v2 ⟨rfl, hb⟩
   go_wp2_with fail
   go_ret
   exact ⟨aa (by first | (rw [dF hA]; simp) | simp), B.trans (hb.mono B.size)⟩
theorem gl (k : Int) (nd tt a b : Int) (tx : ByteArray) (p : Option Addr) (n c : Nat) (f : Nat → Int) (w : World) (hx : tx.size ≤ maxLen) (hn : n ≤ maxLen) (hs : ci w p n (itG f)) :
 Calls Tryz.prog 8 #[.agg #[.int .i64 k, .int .i64 nd, .int .i64 tt, .int .i64 a, .int .i64 b, .string tx, .slice p n c]] w fun e w' => e = .returned (.bool (opB k nd tt a b tx n f)) ∧ Below w.heap.size w w' := by
 by_cases h1 : k = 1
 ·subst h1; exact sOp_1 nd tt a b tx p n c f w hx hn hs
 by_cases h2 : k = 2
 ·subst h2; exact sOp_2 nd tt a b tx p n c f w hx hn
 by_cases h3 : k = 3
 ·subst h3; exact sOp_3 nd tt a b tx p n c f w hx hn
 by_cases h4 : k = 4
 ·subst h4; exact sOp_4 nd tt a b tx p n c f w hx hn
 by_cases h5 : k = 5
 ·subst h5; exact sOp_5 nd tt a b tx p n c f w hx hn
 by_cases h6 : k = 6
 ·subst h6; exact sOp_6 nd tt a b tx p n c f w hx hn
 by_cases h7 : k = 7
 ·subst h7; exact sOp_7 nd tt a b tx p n c f w hx hn
 by_cases h8 : k = 8
 ·subst h8; exact sOp_8 nd tt a b tx p n c f w hx hn
 by_cases h9 : k = 9
 ·subst h9; exact sOp_9 nd tt a b tx p n c f w hx hn
 by_cases h10 : k = 10
 ·subst h10; exact nj nd tt a b tx p n c f w hx hn
 by_cases h11 : k = 11
 ·subst h11; exact nk nd tt a b tx p n c f w hx hn
 by_cases h12 : k = 12
 ·subst h12; exact nq nd tt a b tx p n c f w hx hn
 by_cases h13 : k = 13
 ·subst h13; exact nr nd tt a b tx p n c f w hx hn
 by_cases h14 : k = 14
 ·subst h14; exact ns nd tt a b tx p n c f w hx hn
 exact nt k nd tt a b tx p n c f w hx hn (by omega)
end Go.Proofs.YtddjiamollfplaaGreatDoor
