/- OpOk in the program. -/
import Derived.Test.YtddjiamollfplaaGreatDoorMC16
namespace Go.Proofs.YtddjiamollfplaaGreatDoor
open Go.RowKit
set_option linter.unusedVariables false
def itG (f : Nat → Int) (j : Nat) : Value := .int .i64 (f j)
def upB (x m : Int) : Bool := decide (0 ≤ x) && decide (x ≤ m)
def alB (f : Nat → Int) (n : Nat) : Bool := decide (∀ i, i < n → -1000000 ≤ f i ∧ f i ≤ 1000000)
def bdN (k : Int) : Int := if k = 2 ∨ k = 3 ∨ k = 6 ∨ k = 7 ∨ k = 8 ∨ k = 4 ∨ k = 5 ∨ k = 9 ∨ k = 14 then 7 else 0
def bdT (k : Int) : Int := if k = 5 ∨ k = 14 then 7 else 0
def bdA (k : Int) : Int := if k = 1 ∨ k = 4 ∨ k = 9 then 1000000 else if k = 10 ∨ k = 11 ∨ k = 12 ∨ k = 13 then 39 else 0
def bdB (k : Int) : Int := if k = 4 then 1000000 else if k = 13 then 39 else 0
def bdX (k : Int) : Int := if k = 9 then 24 else if k = 14 then 64 else 0
def bdL (k : Int) : Int := if k = 1 then 8 else 0
def bdO (k : Int) : Bool := decide (1 ≤ k ∧ k ≤ 14)
def hdB (bn bt ba bb bx bl nd tt a b : Int) (tx : ByteArray) (n : Nat) : Bool :=
 upB nd bn && upB tt bt && (!decide (0 < bt) || (nd != tt)) && upB a ba && upB b bb && decide ((tx.size : Int) ≤ bx) && decide ((n : Int) ≤ bl)
def opB (k nd tt a b : Int) (tx : ByteArray) (n : Nat) (f : Nat → Int) : Bool :=
 bdO k && hdB (bdN k) (bdT k) (bdA k) (bdB k) (bdX k) (bdL k) nd tt a b tx n && alB f n
theorem ar (x m : Int) (w : World) :
 Calls Tryz.prog 81 #[.int .i64 x, .int .i64 m] w fun e w' => e = .returned (.bool (upB x m)) ∧ w = w' := by
 go_enter Tryz.func81, Tryz.ntmps81
 go_wp2
 all_goals go_ret
 all_goals exact ⟨aa (by rw [Bool.eq_iff_iff]; simp [upB]; try omega), rfl⟩
theorem bQ (bn bt ba bb bx bl : Int) (w : World) :
 Calls Tryz.prog 82 #[.agg #[.int .i64 bn, .int .i64 bt, .int .i64 ba, .int .i64 bb, .int .i64 bx, .int .i64 bl]] w fun e w' => e = .returned (.bool (decide (0 < bt))) ∧ Below w.heap.size w w' := by
 have B := Below.nw w (.cells #[.int .i64 bn, .int .i64 bt, .int .i64 ba, .int .i64 bb, .int .i64 bx, .int .i64 bl] 108)
 go_enter Tryz.func82, Tryz.ntmps82
 go_wp2_with fail
 go_ret
 exact ⟨aa (by simp), B⟩
set_option maxHeartbeats 4000000 in
set_option maxRecDepth 100000 in
theorem fN (k : Int) (w : World) :
 Calls Tryz.prog 53 #[.int .i64 k] w fun e w' => e = .returned (.tuple #[.agg #[.int .i64 (bdN k), .int .i64 (bdT k), .int .i64 (bdA k), .int .i64 (bdB k), .int .i64 (bdX k), .int .i64 (bdL k)], .bool (bdO k)]) ∧ Below w.heap.size w w' := by
 by_cases h1 : k = 1
 ·subst h1
  rw [show (.tuple #[.agg #[.int .i64 (bdN 1), .int .i64 (bdT 1), .int .i64 (bdA 1), .int .i64 (bdB 1), .int .i64 (bdX 1), .int .i64 (bdL 1)], .bool (bdO 1)] : Value) = .tuple #[.agg #[.int .i64 0, .int .i64 0, .int .i64 1000000, .int .i64 0, .int .i64 0, .int .i64 8], .bool true] from by simp [bdN, bdT, bdA, bdB, bdX, bdL, bdO]]
  go_enter Tryz.func53, Tryz.ntmps53
  go_wp2_with fail
  exact bodyPost_ret (v := (.tuple #[.agg #[.int .i64 0, .int .i64 0, .int .i64 1000000, .int .i64 0, .int .i64 0, .int .i64 8], .bool true])) (by simp (maxDischargeDepth := 6) [results, Tryz.results53, go_sem, *]) rfl ⟨rfl, (Below.nw w _).alloc (by simp) _⟩
 by_cases h2 : k = 2
 ·subst h2
  rw [show (.tuple #[.agg #[.int .i64 (bdN 2), .int .i64 (bdT 2), .int .i64 (bdA 2), .int .i64 (bdB 2), .int .i64 (bdX 2), .int .i64 (bdL 2)], .bool (bdO 2)] : Value) = .tuple #[.agg #[.int .i64 7, .int .i64 0, .int .i64 0, .int .i64 0, .int .i64 0, .int .i64 0], .bool true] from by simp [bdN, bdT, bdA, bdB, bdX, bdL, bdO]]
  go_enter Tryz.func53, Tryz.ntmps53
  go_wp2_with fail
  exact bodyPost_ret (v := (.tuple #[.agg #[.int .i64 7, .int .i64 0, .int .i64 0, .int .i64 0, .int .i64 0, .int .i64 0], .bool true])) (by simp (maxDischargeDepth := 6) [results, Tryz.results53, go_sem, *]) rfl ⟨rfl, (Below.nw w _).alloc (by simp) _⟩
 by_cases h3 : k = 3
 ·subst h3
  rw [show (.tuple #[.agg #[.int .i64 (bdN 3), .int .i64 (bdT 3), .int .i64 (bdA 3), .int .i64 (bdB 3), .int .i64 (bdX 3), .int .i64 (bdL 3)], .bool (bdO 3)] : Value) = .tuple #[.agg #[.int .i64 7, .int .i64 0, .int .i64 0, .int .i64 0, .int .i64 0, .int .i64 0], .bool true] from by simp [bdN, bdT, bdA, bdB, bdX, bdL, bdO]]
  go_enter Tryz.func53, Tryz.ntmps53
  go_wp2_with fail
  exact bodyPost_ret (v := (.tuple #[.agg #[.int .i64 7, .int .i64 0, .int .i64 0, .int .i64 0, .int .i64 0, .int .i64 0], .bool true])) (by simp (maxDischargeDepth := 6) [results, Tryz.results53, go_sem, *]) rfl ⟨rfl, (Below.nw w _).alloc (by simp) _⟩
 by_cases h4 : k = 4
 ·subst h4
  rw [show (.tuple #[.agg #[.int .i64 (bdN 4), .int .i64 (bdT 4), .int .i64 (bdA 4), .int .i64 (bdB 4), .int .i64 (bdX 4), .int .i64 (bdL 4)], .bool (bdO 4)] : Value) = .tuple #[.agg #[.int .i64 7, .int .i64 0, .int .i64 1000000, .int .i64 1000000, .int .i64 0, .int .i64 0], .bool true] from by simp [bdN, bdT, bdA, bdB, bdX, bdL, bdO]]
  go_enter Tryz.func53, Tryz.ntmps53
  go_wp2_with fail
  exact bodyPost_ret (v := (.tuple #[.agg #[.int .i64 7, .int .i64 0, .int .i64 1000000, .int .i64 1000000, .int .i64 0, .int .i64 0], .bool true])) (by simp (maxDischargeDepth := 6) [results, Tryz.results53, go_sem, *]) rfl ⟨rfl, (Below.nw w _).alloc (by simp) _⟩
 by_cases h5 : k = 5
 ·subst h5
  rw [show (.tuple #[.agg #[.int .i64 (bdN 5), .int .i64 (bdT 5), .int .i64 (bdA 5), .int .i64 (bdB 5), .int .i64 (bdX 5), .int .i64 (bdL 5)], .bool (bdO 5)] : Value) = .tuple #[.agg #[.int .i64 7, .int .i64 7, .int .i64 0, .int .i64 0, .int .i64 0, .int .i64 0], .bool true] from by simp [bdN, bdT, bdA, bdB, bdX, bdL, bdO]]
  go_enter Tryz.func53, Tryz.ntmps53
  go_wp2_with fail
  exact bodyPost_ret (v := (.tuple #[.agg #[.int .i64 7, .int .i64 7, .int .i64 0, .int .i64 0, .int .i64 0, .int .i64 0], .bool true])) (by simp (maxDischargeDepth := 6) [results, Tryz.results53, go_sem, *]) rfl ⟨rfl, (Below.nw w _).alloc (by simp) _⟩
 by_cases h6 : k = 6
 ·subst h6
  rw [show (.tuple #[.agg #[.int .i64 (bdN 6), .int .i64 (bdT 6), .int .i64 (bdA 6), .int .i64 (bdB 6), .int .i64 (bdX 6), .int .i64 (bdL 6)], .bool (bdO 6)] : Value) = .tuple #[.agg #[.int .i64 7, .int .i64 0, .int .i64 0, .int .i64 0, .int .i64 0, .int .i64 0], .bool true] from by simp [bdN, bdT, bdA, bdB, bdX, bdL, bdO]]
  go_enter Tryz.func53, Tryz.ntmps53
  go_wp2_with fail
  exact bodyPost_ret (v := (.tuple #[.agg #[.int .i64 7, .int .i64 0, .int .i64 0, .int .i64 0, .int .i64 0, .int .i64 0], .bool true])) (by simp (maxDischargeDepth := 6) [results, Tryz.results53, go_sem, *]) rfl ⟨rfl, (Below.nw w _).alloc (by simp) _⟩
 by_cases h7 : k = 7
 ·subst h7
  rw [show (.tuple #[.agg #[.int .i64 (bdN 7), .int .i64 (bdT 7), .int .i64 (bdA 7), .int .i64 (bdB 7), .int .i64 (bdX 7), .int .i64 (bdL 7)], .bool (bdO 7)] : Value) = .tuple #[.agg #[.int .i64 7, .int .i64 0, .int .i64 0, .int .i64 0, .int .i64 0, .int .i64 0], .bool true] from by simp [bdN, bdT, bdA, bdB, bdX, bdL, bdO]]
  go_enter Tryz.func53, Tryz.ntmps53
  go_wp2_with fail
  exact bodyPost_ret (v := (.tuple #[.agg #[.int .i64 7, .int .i64 0, .int .i64 0, .int .i64 0, .int .i64 0, .int .i64 0], .bool true])) (by simp (maxDischargeDepth := 6) [results, Tryz.results53, go_sem, *]) rfl ⟨rfl, (Below.nw w _).alloc (by simp) _⟩
 by_cases h8 : k = 8
 ·subst h8
  rw [show (.tuple #[.agg #[.int .i64 (bdN 8), .int .i64 (bdT 8), .int .i64 (bdA 8), .int .i64 (bdB 8), .int .i64 (bdX 8), .int .i64 (bdL 8)], .bool (bdO 8)] : Value) = .tuple #[.agg #[.int .i64 7, .int .i64 0, .int .i64 0, .int .i64 0, .int .i64 0, .int .i64 0], .bool true] from by simp [bdN, bdT, bdA, bdB, bdX, bdL, bdO]]
  go_enter Tryz.func53, Tryz.ntmps53
  go_wp2_with fail
  exact bodyPost_ret (v := (.tuple #[.agg #[.int .i64 7, .int .i64 0, .int .i64 0, .int .i64 0, .int .i64 0, .int .i64 0], .bool true])) (by simp (maxDischargeDepth := 6) [results, Tryz.results53, go_sem, *]) rfl ⟨rfl, (Below.nw w _).alloc (by simp) _⟩
 by_cases h9 : k = 9
 ·subst h9
  rw [show (.tuple #[.agg #[.int .i64 (bdN 9), .int .i64 (bdT 9), .int .i64 (bdA 9), .int .i64 (bdB 9), .int .i64 (bdX 9), .int .i64 (bdL 9)], .bool (bdO 9)] : Value) = .tuple #[.agg #[.int .i64 7, .int .i64 0, .int .i64 1000000, .int .i64 0, .int .i64 24, .int .i64 0], .bool true] from by simp [bdN, bdT, bdA, bdB, bdX, bdL, bdO]]
  go_enter Tryz.func53, Tryz.ntmps53
  go_wp2_with fail
  exact bodyPost_ret (v := (.tuple #[.agg #[.int .i64 7, .int .i64 0, .int .i64 1000000, .int .i64 0, .int .i64 24, .int .i64 0], .bool true])) (by simp (maxDischargeDepth := 6) [results, Tryz.results53, go_sem, *]) rfl ⟨rfl, (Below.nw w _).alloc (by simp) _⟩
 by_cases h10 : k = 10
 ·subst h10
  rw [show (.tuple #[.agg #[.int .i64 (bdN 10), .int .i64 (bdT 10), .int .i64 (bdA 10), .int .i64 (bdB 10), .int .i64 (bdX 10), .int .i64 (bdL 10)], .bool (bdO 10)] : Value) = .tuple #[.agg #[.int .i64 0, .int .i64 0, .int .i64 39, .int .i64 0, .int .i64 0, .int .i64 0], .bool true] from by simp [bdN, bdT, bdA, bdB, bdX, bdL, bdO]]
  go_enter Tryz.func53, Tryz.ntmps53
  go_wp2_with fail
  exact bodyPost_ret (v := (.tuple #[.agg #[.int .i64 0, .int .i64 0, .int .i64 39, .int .i64 0, .int .i64 0, .int .i64 0], .bool true])) (by simp (maxDischargeDepth := 6) [results, Tryz.results53, go_sem, *]) rfl ⟨rfl, (Below.nw w _).alloc (by simp) _⟩
 by_cases h11 : k = 11
 ·subst h11
  rw [show (.tuple #[.agg #[.int .i64 (bdN 11), .int .i64 (bdT 11), .int .i64 (bdA 11), .int .i64 (bdB 11), .int .i64 (bdX 11), .int .i64 (bdL 11)], .bool (bdO 11)] : Value) = .tuple #[.agg #[.int .i64 0, .int .i64 0, .int .i64 39, .int .i64 0, .int .i64 0, .int .i64 0], .bool true] from by simp [bdN, bdT, bdA, bdB, bdX, bdL, bdO]]
  go_enter Tryz.func53, Tryz.ntmps53
  go_wp2_with fail
  exact bodyPost_ret (v := (.tuple #[.agg #[.int .i64 0, .int .i64 0, .int .i64 39, .int .i64 0, .int .i64 0, .int .i64 0], .bool true])) (by simp (maxDischargeDepth := 6) [results, Tryz.results53, go_sem, *]) rfl ⟨rfl, (Below.nw w _).alloc (by simp) _⟩
 by_cases h12 : k = 12
 ·subst h12
  rw [show (.tuple #[.agg #[.int .i64 (bdN 12), .int .i64 (bdT 12), .int .i64 (bdA 12), .int .i64 (bdB 12), .int .i64 (bdX 12), .int .i64 (bdL 12)], .bool (bdO 12)] : Value) = .tuple #[.agg #[.int .i64 0, .int .i64 0, .int .i64 39, .int .i64 0, .int .i64 0, .int .i64 0], .bool true] from by simp [bdN, bdT, bdA, bdB, bdX, bdL, bdO]]
  go_enter Tryz.func53, Tryz.ntmps53
  go_wp2_with fail
  exact bodyPost_ret (v := (.tuple #[.agg #[.int .i64 0, .int .i64 0, .int .i64 39, .int .i64 0, .int .i64 0, .int .i64 0], .bool true])) (by simp (maxDischargeDepth := 6) [results, Tryz.results53, go_sem, *]) rfl ⟨rfl, (Below.nw w _).alloc (by simp) _⟩
 by_cases h13 : k = 13
 ·subst h13
  rw [show (.tuple #[.agg #[.int .i64 (bdN 13), .int .i64 (bdT 13), .int .i64 (bdA 13), .int .i64 (bdB 13), .int .i64 (bdX 13), .int .i64 (bdL 13)], .bool (bdO 13)] : Value) = .tuple #[.agg #[.int .i64 0, .int .i64 0, .int .i64 39, .int .i64 39, .int .i64 0, .int .i64 0], .bool true] from by simp [bdN, bdT, bdA, bdB, bdX, bdL, bdO]]
  go_enter Tryz.func53, Tryz.ntmps53
  go_wp2_with fail
  exact bodyPost_ret (v := (.tuple #[.agg #[.int .i64 0, .int .i64 0, .int .i64 39, .int .i64 39, .int .i64 0, .int .i64 0], .bool true])) (by simp (maxDischargeDepth := 6) [results, Tryz.results53, go_sem, *]) rfl ⟨rfl, (Below.nw w _).alloc (by simp) _⟩
 by_cases h14 : k = 14
 ·subst h14
  rw [show (.tuple #[.agg #[.int .i64 (bdN 14), .int .i64 (bdT 14), .int .i64 (bdA 14), .int .i64 (bdB 14), .int .i64 (bdX 14), .int .i64 (bdL 14)], .bool (bdO 14)] : Value) = .tuple #[.agg #[.int .i64 7, .int .i64 7, .int .i64 0, .int .i64 0, .int .i64 64, .int .i64 0], .bool true] from by simp [bdN, bdT, bdA, bdB, bdX, bdL, bdO]]
  go_enter Tryz.func53, Tryz.ntmps53
  go_wp2_with fail
  exact bodyPost_ret (v := (.tuple #[.agg #[.int .i64 7, .int .i64 7, .int .i64 0, .int .i64 0, .int .i64 64, .int .i64 0], .bool true])) (by simp (maxDischargeDepth := 6) [results, Tryz.results53, go_sem, *]) rfl ⟨rfl, (Below.nw w _).alloc (by simp) _⟩
 have hO : bdO k = false := by unfold bdO; simp; omega
 have hN : bdN k = 0 := by unfold bdN; rw [if_neg (by omega)]
 have hT : bdT k = 0 := by unfold bdT; rw [if_neg (by omega)]
 have hA : bdA k = 0 := by unfold bdA; rw [if_neg (by omega), if_neg (by omega)]
 have hB : bdB k = 0 := by unfold bdB; rw [if_neg (by omega), if_neg (by omega)]
 have hX : bdX k = 0 := by unfold bdX; rw [if_neg (by omega), if_neg (by omega)]
 have hL : bdL k = 0 := by unfold bdL; rw [if_neg (by omega)]
 have hV : (.tuple #[.agg #[.int .i64 (bdN k), .int .i64 (bdT k), .int .i64 (bdA k), .int .i64 (bdB k), .int .i64 (bdX k), .int .i64 (bdL k)], .bool (bdO k)] : Value) = .tuple #[.agg #[.int .i64 0, .int .i64 0, .int .i64 0, .int .i64 0, .int .i64 0, .int .i64 0], .bool false] := by rw [hO, hN, hT, hA, hB, hX, hL]
 rw [hV]
 clear hV hO hN hT hA hB hX hL
 go_enter Tryz.func53, Tryz.ntmps53
 go_wp2_with fail
 exact bodyPost_ret (v := (.tuple #[.agg #[.int .i64 0, .int .i64 0, .int .i64 0, .int .i64 0, .int .i64 0, .int .i64 0], .bool false])) (by simp (maxDischargeDepth := 6) [results, Tryz.results53, go_sem, *]) rfl ⟨rfl, (Below.nw w _).alloc (by simp) _⟩
set_option maxHeartbeats 8000000 in
set_option maxRecDepth 100000 in
theorem kO (bn bt ba bb bx bl k nd tt a b : Int) (tx : ByteArray) (p : Option Addr) (n c : Nat) (w : World) (hx : tx.size ≤ maxLen) (hn : n ≤ maxLen) :
 Calls Tryz.prog 54 #[.agg #[.int .i64 bn, .int .i64 bt, .int .i64 ba, .int .i64 bb, .int .i64 bx, .int .i64 bl], .agg #[.int .i64 k, .int .i64 nd, .int .i64 tt, .int .i64 a, .int .i64 b, .string tx, .slice p n c]] w fun e w' => e = .returned (.bool (hdB bn bt ba bb bx bl nd tt a b tx n)) ∧ Below w.heap.size w w' := by
 unfold maxLen at hx hn
 have B := (Below.nw w (.cells #[.int .i64 bn, .int .i64 bt, .int .i64 ba, .int .i64 bb, .int .i64 bx, .int .i64 bl] 108)).trans ((Below.nw (w.alloc (.cells #[.int .i64 bn, .int .i64 bt, .int .i64 ba, .int .i64 bb, .int .i64 bx, .int .i64 bl] 108)) (.cells #[.int .i64 k, .int .i64 nd, .int .i64 tt, .int .i64 a, .int .i64 b, .string tx, .slice p n c] 26)).mono (by simp))
 have N : Bo ((w.alloc (.cells #[.int .i64 bn, .int .i64 bt, .int .i64 ba, .int .i64 bb, .int .i64 bx, .int .i64 bl] 108)).alloc (.cells #[.int .i64 k, .int .i64 nd, .int .i64 tt, .int .i64 a, .int .i64 b, .string tx, .slice p n c] 26)) w.heap.size #[.int .i64 bn, .int .i64 bt, .int .i64 ba, .int .i64 bb, .int .i64 bx, .int .i64 bl] := (Bo.new w _ _).below (Below.nw _ _)
 have X : Bo ((w.alloc (.cells #[.int .i64 bn, .int .i64 bt, .int .i64 ba, .int .i64 bb, .int .i64 bx, .int .i64 bl] 108)).alloc (.cells #[.int .i64 k, .int .i64 nd, .int .i64 tt, .int .i64 a, .int .i64 b, .string tx, .slice p n c] 26)) (w.heap.size + 1) #[.int .i64 k, .int .i64 nd, .int .i64 tt, .int .i64 a, .int .i64 b, .string tx, .slice p n c] := by
  have := Bo.new (w.alloc (.cells #[.int .i64 bn, .int .i64 bt, .int .i64 ba, .int .i64 bb, .int .i64 bx, .int .i64 bl] 108)) #[.int .i64 k, .int .i64 nd, .int .i64 tt, .int .i64 a, .int .i64 b, .string tx, .slice p n c] 26
  simpa using this
 cases h1 : upB nd bn
 ·go_enter Tryz.func54, Tryz.ntmps54
  go_wp2_with fail
  refine (ar _ _ _).mono ?_
  rintro e w' ⟨rfl, rfl⟩
  rw [h1]
  go_wp2_with fail
  all_goals go_ret
  all_goals exact ⟨aa (by rw [Bool.eq_iff_iff]; simp [hdB, h1]; try omega), B⟩
 ·cases h2 : upB tt bt
  ·go_enter Tryz.func54, Tryz.ntmps54
   go_wp2_with fail
   refine (ar _ _ _).mono ?_
   rintro e w' ⟨rfl, rfl⟩
   rw [h1]
   go_wp2_with fail
   refine (ar _ _ _).mono ?_
   rintro e w' ⟨rfl, rfl⟩
   rw [h2]
   go_wp2_with fail
   all_goals go_ret
   all_goals exact ⟨aa (by rw [Bool.eq_iff_iff]; simp [hdB, h1, h2]; try omega), B⟩
  ·cases h3 : decide (0 < bt)
   ·skip
    cases h5 : upB a ba
    ·go_enter Tryz.func54, Tryz.ntmps54
     go_wp2_with fail
     refine (ar _ _ _).mono ?_
     rintro e w' ⟨rfl, rfl⟩
     rw [h1]
     go_wp2_with fail
     refine (ar _ _ _).mono ?_
     rintro e w' ⟨rfl, rfl⟩
     rw [h2]
     go_wp2_with fail
     refine (bQ _ _ _ _ _ _ _).mono ?_
     rintro e v ⟨rfl, hb⟩
     have B2 := B.trans (hb.mono B.size)
     replace N := N.below hb
     replace X := X.below hb
     have n0 := N.cell (i := 0) rfl; have n1 := N.cell (i := 1) rfl; have n2 := N.cell (i := 2) rfl; have n3 := N.cell (i := 3) rfl; have n4 := N.cell (i := 4) rfl; have n5 := N.cell (i := 5) rfl; have x1 := X.cell (i := 1) rfl; have x2 := X.cell (i := 2) rfl; have x3 := X.cell (i := 3) rfl; have x4 := X.cell (i := 4) rfl; have x5 := X.cell (i := 5) rfl; have x6 := X.cell (i := 6) rfl
     rw [h3]
     go_wp2_with fail
     refine (ar _ _ _).mono ?_
     rintro e w' ⟨rfl, rfl⟩
     rw [h5]
     go_wp2_with fail
     all_goals go_ret
     all_goals exact ⟨aa (by rw [Bool.eq_iff_iff]; simp [hdB, h1, h2, h3, h5]; try omega), B2⟩
    ·cases h6 : upB b bb
     ·go_enter Tryz.func54, Tryz.ntmps54
      go_wp2_with fail
      refine (ar _ _ _).mono ?_
      rintro e w' ⟨rfl, rfl⟩
      rw [h1]
      go_wp2_with fail
      refine (ar _ _ _).mono ?_
      rintro e w' ⟨rfl, rfl⟩
      rw [h2]
      go_wp2_with fail
      refine (bQ _ _ _ _ _ _ _).mono ?_
      rintro e v ⟨rfl, hb⟩
      have B2 := B.trans (hb.mono B.size)
      replace N := N.below hb
      replace X := X.below hb
      have n0 := N.cell (i := 0) rfl; have n1 := N.cell (i := 1) rfl; have n2 := N.cell (i := 2) rfl; have n3 := N.cell (i := 3) rfl; have n4 := N.cell (i := 4) rfl; have n5 := N.cell (i := 5) rfl; have x1 := X.cell (i := 1) rfl; have x2 := X.cell (i := 2) rfl; have x3 := X.cell (i := 3) rfl; have x4 := X.cell (i := 4) rfl; have x5 := X.cell (i := 5) rfl; have x6 := X.cell (i := 6) rfl
      rw [h3]
      go_wp2_with fail
      refine (ar _ _ _).mono ?_
      rintro e w' ⟨rfl, rfl⟩
      rw [h5]
      go_wp2_with fail
      refine (ar _ _ _).mono ?_
      rintro e w' ⟨rfl, rfl⟩
      rw [h6]
      go_wp2_with fail
      all_goals go_ret
      all_goals exact ⟨aa (by rw [Bool.eq_iff_iff]; simp [hdB, h1, h2, h3, h5, h6]; try omega), B2⟩
     ·go_enter Tryz.func54, Tryz.ntmps54
      go_wp2_with fail
      refine (ar _ _ _).mono ?_
      rintro e w' ⟨rfl, rfl⟩
      rw [h1]
      go_wp2_with fail
      refine (ar _ _ _).mono ?_
      rintro e w' ⟨rfl, rfl⟩
      rw [h2]
      go_wp2_with fail
      refine (bQ _ _ _ _ _ _ _).mono ?_
      rintro e v ⟨rfl, hb⟩
      have B2 := B.trans (hb.mono B.size)
      replace N := N.below hb
      replace X := X.below hb
      have n0 := N.cell (i := 0) rfl; have n1 := N.cell (i := 1) rfl; have n2 := N.cell (i := 2) rfl; have n3 := N.cell (i := 3) rfl; have n4 := N.cell (i := 4) rfl; have n5 := N.cell (i := 5) rfl; have x1 := X.cell (i := 1) rfl; have x2 := X.cell (i := 2) rfl; have x3 := X.cell (i := 3) rfl; have x4 := X.cell (i := 4) rfl; have x5 := X.cell (i := 5) rfl; have x6 := X.cell (i := 6) rfl
      rw [h3]
      go_wp2_with fail
      refine (ar _ _ _).mono ?_
      rintro e w' ⟨rfl, rfl⟩
      rw [h5]
      go_wp2_with fail
      refine (ar _ _ _).mono ?_
      rintro e w' ⟨rfl, rfl⟩
      rw [h6]
      go_wp2_with fail
      all_goals go_ret
      all_goals exact ⟨aa (by rw [Bool.eq_iff_iff]; simp [hdB, h1, h2, h3, h5, h6]; try omega), B2⟩
   ·cases h4 : (nd != tt)
    ·go_enter Tryz.func54, Tryz.ntmps54
     go_wp2_with fail
     refine (ar _ _ _).mono ?_
     rintro e w' ⟨rfl, rfl⟩
     rw [h1]
     go_wp2_with fail
     refine (ar _ _ _).mono ?_
     rintro e w' ⟨rfl, rfl⟩
     rw [h2]
     go_wp2_with fail
     refine (bQ _ _ _ _ _ _ _).mono ?_
     rintro e v ⟨rfl, hb⟩
     have B2 := B.trans (hb.mono B.size)
     replace N := N.below hb
     replace X := X.below hb
     have n0 := N.cell (i := 0) rfl; have n1 := N.cell (i := 1) rfl; have n2 := N.cell (i := 2) rfl; have n3 := N.cell (i := 3) rfl; have n4 := N.cell (i := 4) rfl; have n5 := N.cell (i := 5) rfl; have x1 := X.cell (i := 1) rfl; have x2 := X.cell (i := 2) rfl; have x3 := X.cell (i := 3) rfl; have x4 := X.cell (i := 4) rfl; have x5 := X.cell (i := 5) rfl; have x6 := X.cell (i := 6) rfl
     rw [h3]
     go_wp2_with fail
     all_goals go_ret
     all_goals exact ⟨aa (by rw [Bool.eq_iff_iff]; simp [hdB, h1, h2, h3, h4]; try omega), B2⟩
    ·skip
     cases h5 : upB a ba
     ·go_enter Tryz.func54, Tryz.ntmps54
      go_wp2_with fail
      refine (ar _ _ _).mono ?_
      rintro e w' ⟨rfl, rfl⟩
      rw [h1]
      go_wp2_with fail
      refine (ar _ _ _).mono ?_
      rintro e w' ⟨rfl, rfl⟩
      rw [h2]
      go_wp2_with fail
      refine (bQ _ _ _ _ _ _ _).mono ?_
      rintro e v ⟨rfl, hb⟩
      have B2 := B.trans (hb.mono B.size)
      replace N := N.below hb
      replace X := X.below hb
      have n0 := N.cell (i := 0) rfl; have n1 := N.cell (i := 1) rfl; have n2 := N.cell (i := 2) rfl; have n3 := N.cell (i := 3) rfl; have n4 := N.cell (i := 4) rfl; have n5 := N.cell (i := 5) rfl; have x1 := X.cell (i := 1) rfl; have x2 := X.cell (i := 2) rfl; have x3 := X.cell (i := 3) rfl; have x4 := X.cell (i := 4) rfl; have x5 := X.cell (i := 5) rfl; have x6 := X.cell (i := 6) rfl
      rw [h3]
      go_wp2_with fail
      refine (ar _ _ _).mono ?_
      rintro e w' ⟨rfl, rfl⟩
      rw [h5]
      go_wp2_with fail
      all_goals go_ret
      all_goals exact ⟨aa (by rw [Bool.eq_iff_iff]; simp [hdB, h1, h2, h3, h4, h5]; try omega), B2⟩
     ·cases h6 : upB b bb
      ·go_enter Tryz.func54, Tryz.ntmps54
       go_wp2_with fail
       refine (ar _ _ _).mono ?_
       rintro e w' ⟨rfl, rfl⟩
       rw [h1]
       go_wp2_with fail
       refine (ar _ _ _).mono ?_
       rintro e w' ⟨rfl, rfl⟩
       rw [h2]
       go_wp2_with fail
       refine (bQ _ _ _ _ _ _ _).mono ?_
       rintro e v ⟨rfl, hb⟩
       have B2 := B.trans (hb.mono B.size)
       replace N := N.below hb
       replace X := X.below hb
       have n0 := N.cell (i := 0) rfl; have n1 := N.cell (i := 1) rfl; have n2 := N.cell (i := 2) rfl; have n3 := N.cell (i := 3) rfl; have n4 := N.cell (i := 4) rfl; have n5 := N.cell (i := 5) rfl; have x1 := X.cell (i := 1) rfl; have x2 := X.cell (i := 2) rfl; have x3 := X.cell (i := 3) rfl; have x4 := X.cell (i := 4) rfl; have x5 := X.cell (i := 5) rfl; have x6 := X.cell (i := 6) rfl
       rw [h3]
       go_wp2_with fail
       refine (ar _ _ _).mono ?_
       rintro e w' ⟨rfl, rfl⟩
       rw [h5]
       go_wp2_with fail
       refine (ar _ _ _).mono ?_
       rintro e w' ⟨rfl, rfl⟩
       rw [h6]
       go_wp2_with fail
       all_goals go_ret
       all_goals exact ⟨aa (by rw [Bool.eq_iff_iff]; simp [hdB, h1, h2, h3, h4, h5, h6]; try omega), B2⟩
      ·go_enter Tryz.func54, Tryz.ntmps54
       go_wp2_with fail
       refine (ar _ _ _).mono ?_
       rintro e w' ⟨rfl, rfl⟩
       rw [h1]
       go_wp2_with fail
       refine (ar _ _ _).mono ?_
       rintro e w' ⟨rfl, rfl⟩
       rw [h2]
       go_wp2_with fail
       refine (bQ _ _ _ _ _ _ _).mono ?_
       rintro e v ⟨rfl, hb⟩
       have B2 := B.trans (hb.mono B.size)
       replace N := N.below hb
       replace X := X.below hb
       have n0 := N.cell (i := 0) rfl; have n1 := N.cell (i := 1) rfl; have n2 := N.cell (i := 2) rfl; have n3 := N.cell (i := 3) rfl; have n4 := N.cell (i := 4) rfl; have n5 := N.cell (i := 5) rfl; have x1 := X.cell (i := 1) rfl; have x2 := X.cell (i := 2) rfl; have x3 := X.cell (i := 3) rfl; have x4 := X.cell (i := 4) rfl; have x5 := X.cell (i := 5) rfl; have x6 := X.cell (i := 6) rfl
       rw [h3]
       go_wp2_with fail
       refine (ar _ _ _).mono ?_
       rintro e w' ⟨rfl, rfl⟩
       rw [h5]
       go_wp2_with fail
       refine (ar _ _ _).mono ?_
       rintro e w' ⟨rfl, rfl⟩
       rw [h6]
       go_wp2_with fail
       all_goals go_ret
       all_goals exact ⟨aa (by rw [Bool.eq_iff_iff]; simp [hdB, h1, h2, h3, h4, h5, h6]; try omega), B2⟩
theorem jm {f : Nat → Int} {k : Nat} (h : ∀ i, i < k → -1000000 ≤ f i ∧ f i ≤ 1000000) (h1 : -1000000 ≤ f k) (h2 : f k ≤ 1000000) : ∀ i, i < k + 1 → -1000000 ≤ f i ∧ f i ≤ 1000000 := by
 intro i hi
 rcases Nat.lt_succ_iff_lt_or_eq.1 hi with h3 | h3
 ·exact h i h3
 ·subst h3; exact ⟨h1, h2⟩
theorem ko {f : Nat → Int} {n k : Nat} (hk : k < n) (h : ¬ (-1000000 ≤ f k ∧ f k ≤ 1000000)) : alB f n = false := by
 unfold alB; simp only [decide_eq_false_iff_not]; intro q; exact h (q k hk)
theorem dF {f : Nat → Int} {n : Nat} (h : ∀ i, i < n → -1000000 ≤ f i ∧ f i ≤ 1000000) : alB f n = true := by
 unfold alB; exact decide_eq_true h
set_option maxHeartbeats 4000000 in
theorem fg (b off n c : Nat) (f : Nat → Int) (w : World) (hn : n ≤ maxLen) (hf : Cs w b off n (itG f)) :
 Calls Tryz.prog 55 #[.slice (some ⟨b, off, none⟩) n c] w fun e w' => e = .returned (.bool (alB f n)) ∧ w = w' := by
 unfold maxLen at hn
 have HF : Hid (Cs w b off n (itG f)) := hf
 clear hf
 go_enter Tryz.func55, Tryz.ntmps55
 go_wp2_with fail
 go_loopw [7] (fun i wr => ∃ k : Nat, k ≤ n ∧ i = .int .i64 k ∧ w = wr ∧ ∀ i, i < k → -1000000 ≤ f i ∧ f i ≤ 1000000) (fun i _ => n - (intOf i).toNat)
 case atStart => exact ⟨0, Nat.zero_le _, rfl, rfl, fun i hi => absurd hi (Nat.not_lt_zero _)⟩
 case round =>
  obtain ⟨k, hk, rfl, rfl, hA⟩ := hrel
  by_cases hlt : k < n
  ·have c0 : w.cell? ⟨b, off + k, none⟩ = some (.int .i64 (f k)) := HF.out.2 k hlt
   have hli : (k : Int) < (n : Int) := by omega
   by_cases g1 : f k < -1000000
   ·go_wp2_with fail
    go_ret
    exact ⟨aa (ko hlt (by omega)).symm, rfl⟩
   ·by_cases g2 : 1000000 < f k
    ·go_wp2_with fail
     go_ret
     exact ⟨aa (ko hlt (by omega)).symm, rfl⟩
    ·go_wp2_with fail
     go_roundw
     case rel => exact ⟨k + 1, by omega, by go_num, by first | rfl | trivial, jm hA (by omega) (by omega)⟩
     case measure => simp [intOf]; omega
  ·have hkn : k = n := by omega
   subst hkn
   have hli : ¬ (k : Int) < (k : Int) := by omega
   go_wp2_with fail
   go_ret
   exact ⟨aa (dF hA).symm, rfl⟩
set_option maxHeartbeats 1000000 in
theorem fh (a : Option Addr) (c : Nat) (f : Nat → Int) (w : World) :
 Calls Tryz.prog 55 #[.slice a 0 c] w fun e w' => e = .returned (.bool (alB f 0)) ∧ w = w' := by
 go_enter Tryz.func55, Tryz.ntmps55
 go_wp2_with fail
 go_loopw [7] (fun i wr => i = .int .i64 0 ∧ w = wr) (fun i _ => 0)
 case atStart => exact ⟨rfl, by first | rfl | trivial⟩
 case round =>
  obtain ⟨rfl, rfl⟩ := hrel
  go_wp2_with fail
  go_ret
  exact ⟨aa (dF (fun i hi => absurd hi (Nat.not_lt_zero _))).symm, rfl⟩
theorem f9 (a : Option Addr) (n c : Nat) (f : Nat → Int) (w : World) (hn : n ≤ maxLen) (h : ci w a n (itG f)) :
 Calls Tryz.prog 55 #[.slice a n c] w fun e w' => e = .returned (.bool (alB f n)) ∧ w = w' := by
 rcases h with rfl | ⟨b, off, rfl, hp⟩
 ·exact fh a c f w
 ·exact fg b off n c f w hn hp
set_option maxHeartbeats 4000000 in
set_option maxRecDepth 100000 in
theorem ey (k nd tt a b : Int) (tx : ByteArray) (p : Option Addr) (n c : Nat) (f : Nat → Int) (w : World) (hx : tx.size ≤ maxLen) (hn : n ≤ maxLen) (hs : ci w p n (itG f)) :
 Calls Tryz.prog 21 #[.agg #[.int .i64 k, .int .i64 nd, .int .i64 tt, .int .i64 a, .int .i64 b, .string tx, .slice p n c]] w fun e w' => e = .returned (.bool (opB k nd tt a b tx n f)) ∧ Below w.heap.size w w' := by
 have HS : Hid (ci w p n (itG f)) := hs
 clear hs
 have E : opB k nd tt a b tx n f = (bdO k && hdB (bdN k) (bdT k) (bdA k) (bdB k) (bdX k) (bdL k) nd tt a b tx n && alB f n) := rfl
 have CB := fN k
 have CH := fun w' => kO (bdN k) (bdT k) (bdA k) (bdB k) (bdX k) (bdL k) k nd tt a b tx p n c w' hx hn
 rw [E]
 generalize bdO k = o at *
 generalize hdB (bdN k) (bdT k) (bdA k) (bdB k) (bdX k) (bdL k) nd tt a b tx n = hh at *
 generalize bdN k = bn at *; generalize bdT k = bt at *; generalize bdA k = ba at *; generalize bdB k = bb at *; generalize bdX k = bx at *; generalize bdL k = bl at *
 clear E
 have B := Below.nw w (.cells #[.int .i64 k, .int .i64 nd, .int .i64 tt, .int .i64 a, .int .i64 b, .string tx, .slice p n c] 26)
 have N := Bo.new w #[.int .i64 k, .int .i64 nd, .int .i64 tt, .int .i64 a, .int .i64 b, .string tx, .slice p n c] 26
 go_enter Tryz.func21, Tryz.ntmps21
 go_upto_region 1 with fail
 generalize w.alloc (.cells #[.int .i64 k, .int .i64 nd, .int .i64 tt, .int .i64 a, .int .i64 b, .string tx, .slice p n c] 26) = v at *
 have n0 := N.cell (i := 0) rfl
 go_wp2_with fail
 refine (CB _).mono ?_
 rintro e v1 ⟨rfl, hb⟩
 clear n0
 replace B := B.trans (hb.mono B.size)
 replace N := N.below hb
 clear hb
 have NL := Below.nw v1 (.cells #[.int .i64 bn, .int .i64 bt, .int .i64 ba, .int .i64 bb, .int .i64 bx, .int .i64 bl] 108)
 have X := Bo.new v1 #[.int .i64 bn, .int .i64 bt, .int .i64 ba, .int .i64 bb, .int .i64 bx, .int .i64 bl] 108
 go_upto_region 2 with fail
 replace B := B.trans (NL.mono B.size)
 replace N := N.below NL
 clear NL
 generalize v1.alloc (.cells #[.int .i64 bn, .int .i64 bt, .int .i64 ba, .int .i64 bb, .int .i64 bx, .int .i64 bl] 108) = v2 at *
 generalize v1.heap.size = q at *
 have n0 := N.cell (i := 0) rfl; have n1 := N.cell (i := 1) rfl; have n2 := N.cell (i := 2) rfl; have n3 := N.cell (i := 3) rfl; have n4 := N.cell (i := 4) rfl; have n5 := N.cell (i := 5) rfl; have n6 := N.cell (i := 6) rfl
 have x0 := X.cell (i := 0) rfl; have x1 := X.cell (i := 1) rfl; have x2 := X.cell (i := 2) rfl; have x3 := X.cell (i := 3) rfl; have x4 := X.cell (i := 4) rfl; have x5 := X.cell (i := 5) rfl
 cases o
 ·go_wp2_with fail
  go_ret
  exact ⟨aa (by simp), B⟩
 ·go_wp2_with fail
  refine (CH _).mono ?_
  rintro e v3 ⟨rfl, hb⟩
  clear n0 n1 n2 n3 n4 n5 n6 x0 x1 x2 x3 x4 x5
  replace B := B.trans (hb.mono B.size)
  replace N := N.below hb
  have n6 := N.cell (i := 6) rfl
  cases hh
  ·go_wp2_with fail
   go_ret
   exact ⟨aa (by simp), B⟩
  ·go_wp2_with fail
   refine (f9 p n c f _ hn (HS.out.below B)).mono ?_
   rintro e v4 ⟨rfl, rfl⟩
   go_wp2_with fail
   go_ret
   exact ⟨aa (by simp), B⟩
end Go.Proofs.YtddjiamollfplaaGreatDoor
