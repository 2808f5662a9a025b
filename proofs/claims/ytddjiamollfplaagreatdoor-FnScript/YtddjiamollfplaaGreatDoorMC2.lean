/- Contracts of the functions of chapter 1 (intervals) in the specification and in the program, and the walks of its first exact laws. Contracts of Fold and Unfold, and the walks of their exact laws. Contracts of the helpers of chapter 1 (told intervals, least and greatest, meet and join). Contracts of MsgOk. The walk of the exact law of MsgOk. -/
import Derived.Test.YtddjiamollfplaaGreatDoorRows
import Derived.WalkKit
import Derived.WalkSpells
import Derived.WalkLawsBesides
import Derived.Deep.RegionHeld
namespace Go.Proofs.YtddjiamollfplaaGreatDoor
open Go.RowKit
set_option linter.unusedVariables false
theorem gf {k : IntKind} {a b : Int} (h : a = b) : Ending.returned (.int k a) = .returned (.int k b) := by rw [h]
theorem aa {a b : Bool} (h : a = b) : Ending.returned (.bool a) = .returned (.bool b) := by rw [h]
def okI (lo hi : Int) : Bool := decide (lo ≤ hi ∧ -1000000000000 ≤ lo ∧ hi ≤ 1000000000000)
set_option maxHeartbeats 400000 in
theorem cr (lo hi : Int) (w : World) :
 Calls Tryz.prog 109 #[.agg #[.int .i64 lo, .int .i64 hi]] w fun e w' => e = .returned (.bool (okI lo hi)) ∧ Below w.heap.size w w' := by
 go_enter Tryz.func109, Tryz.ntmps109
 go_wp2
 all_goals go_ret
 all_goals exact ⟨aa (by rw [Bool.eq_iff_iff]; simp [okI]; try omega), by repeat (first | exact Below.refl _ _ | refine Below.drew ?_ | refine Below.alloc ?_ (by first | (simp; done) | (simp; omega) | omega) _ | refine Below.setCell ?_ (by first | (simp; done) | (simp; omega) | omega) _ | refine Below.trans ?_ (Below.mono (by assumption) (by first | (simp; done) | (simp; omega) | omega)))⟩
end Go.Proofs.YtddjiamollfplaaGreatDoor
namespace Go.Proofs.YtddjiamollfplaaGreatDoor
open Go.RowKit
set_option linter.unusedVariables false
set_option maxHeartbeats 400000 in
theorem az (x l h : Int) (w : World) :
 Calls Tryz.prog 25 #[.int .i64 x, .int .i64 l, .int .i64 h] w fun e w' => e = .returned (.bool (decide (l ≤ x ∧ x ≤ h))) ∧ w = w' := by
 go_enter Tryz.func25, Tryz.ntmps25
 go_wp2
 all_goals go_ret
 all_goals exact ⟨aa (by rw [Bool.eq_iff_iff]; simp; try omega), rfl⟩
def bg (x : Int) : Int := if -1000000000000 ≤ x ∧ x ≤ 1000000000000 then (if x < 0 then -2 * x - 1 else 2 * x) else 0
set_option maxHeartbeats 400000 in
theorem dC (x : Int) (w : World) :
 Calls Tryz.prog 99 #[.int .i64 x] w fun e w' => e = .returned (.int .i64 (bg x)) ∧ w = w' := by
 by_cases h : -1000000000000 ≤ x ∧ x ≤ 1000000000000
 ·have hd : decide (-1000000000000 ≤ x ∧ x ≤ 1000000000000) = true := decide_eq_true h
  have hl := h.1
  have hh := h.2
  go_enter Tryz.func99, Tryz.ntmps99
  go_wp2_with (first | (go_at_call 25; refine (az _ _ _ _).mono ?_; rintro e w' ⟨rfl, rfl⟩; rw [hd]))
  all_goals go_ret
  all_goals exact ⟨gf (by rw [bg, if_pos h]; split <;> omega), rfl⟩
 ·have hd : decide (-1000000000000 ≤ x ∧ x ≤ 1000000000000) = false := decide_eq_false h
  have HH : Hid (¬ (-1000000000000 ≤ x ∧ x ≤ 1000000000000)) := h
  clear h
  go_enter Tryz.func99, Tryz.ntmps99
  go_wp2_with (first | (go_at_call 25; refine (az _ _ _ _).mono ?_; rintro e w' ⟨rfl, rfl⟩; rw [hd]))
  all_goals go_ret
  all_goals exact ⟨gf (by rw [bg, if_neg HH.out]), rfl⟩
end Go.Proofs.YtddjiamollfplaaGreatDoor
namespace Go.Proofs.YtddjiamollfplaaGreatDoor
open Go.RowKit
set_option linter.unusedVariables false
def imx (x y : Int) : Int := if y < x then x else y
theorem imx_l {x y : Int} (h : y < x) : imx x y = x := by simp [imx, h]
theorem imx_g {x y : Int} (h : ¬ y < x) : imx x y = y := by simp [imx, h]
set_option maxHeartbeats 400000 in
theorem cW (x y : Int) (w : World) :
 Calls Tryz.prog 76 #[.int .i64 x, .int .i64 y] w fun e w' => e = .returned (.int .i64 (imx x y)) ∧ w = w' := by
 go_enter Tryz.func76, Tryz.ntmps76
 go_wp2
 all_goals go_ret
 all_goals exact ⟨gf (by first | rw [imx_l (by omega)] | rw [imx_g (by omega)]), rfl⟩
end Go.Proofs.YtddjiamollfplaaGreatDoor
namespace Go.Proofs.YtddjiamollfplaaGreatDoor
open Go.RowKit
set_option linter.unusedVariables false
def aJ (n : Int) : Bool := decide (0 ≤ n ∧ n ≤ 7)
def adB (fr tuu no : Int) : Bool := aJ fr && aJ tuu && (fr != tuu) && decide (0 ≤ no ∧ no ≤ 100000999)
set_option maxHeartbeats 400000 in
theorem ab (n : Int) (w : World) :
 Calls Tryz.prog 27 #[.int .i64 n] w fun e w' => e = .returned (.bool (aJ n)) ∧ w = w' := by
 go_enter Tryz.func27, Tryz.ntmps27
 go_wp2_with (first | (go_at_call 25; refine (az _ _ _ _).mono ?_; rintro e w' ⟨rfl, rfl⟩))
 go_ret
 exact ⟨aa (by simp [aJ]), rfl⟩
def aN (w : World) (j : Nat) (k fr tuu no lo hi sl : Int) (s : ByteArray) : Prop := j < w.heap.size ∧ w.cell? ⟨j, 0, none⟩ = some (.int .i64 k) ∧ w.cell? ⟨j, 1, none⟩ = some (.int .i64 fr) ∧ w.cell? ⟨j, 2, none⟩ = some (.int .i64 tuu) ∧ w.cell? ⟨j, 3, none⟩ = some (.int .i64 no) ∧ w.cell? ⟨j, 4, none⟩ = some (.int .i64 lo) ∧ w.cell? ⟨j, 5, none⟩ = some (.int .i64 hi) ∧ w.cell? ⟨j, 6, none⟩ = some (.int .i64 sl) ∧ w.cell? ⟨j, 7, none⟩ = some (.string s)
theorem aN.belowB {j B : Nat} {w w' : World} {k fr tuu no lo hi sl : Int} {s : ByteArray} (h : aN w j k fr tuu no lo hi sl s) (hw : Below B w w') (hk : j < B) : aN w' j k fr tuu no lo hi sl s := by
 obtain ⟨h0, h1, h2, h3, h4, h5, h6, h7, h8⟩ := h
 exact ⟨Nat.lt_of_lt_of_le h0 hw.size, by rw [hw.cell (p := ⟨j, 0, none⟩) hk]; exact h1, by rw [hw.cell (p := ⟨j, 1, none⟩) hk]; exact h2, by rw [hw.cell (p := ⟨j, 2, none⟩) hk]; exact h3, by rw [hw.cell (p := ⟨j, 3, none⟩) hk]; exact h4, by rw [hw.cell (p := ⟨j, 4, none⟩) hk]; exact h5, by rw [hw.cell (p := ⟨j, 5, none⟩) hk]; exact h6, by rw [hw.cell (p := ⟨j, 6, none⟩) hk]; exact h7, by rw [hw.cell (p := ⟨j, 7, none⟩) hk]; exact h8⟩
theorem aN.below {j : Nat} {w w' : World} {k fr tuu no lo hi sl : Int} {s : ByteArray} (h : aN w j k fr tuu no lo hi sl s) (hw : Below w.heap.size w w') : aN w' j k fr tuu no lo hi sl s := h.belowB hw h.1
theorem aN.new (w : World) (k fr tuu no lo hi sl : Int) (s : ByteArray) (T : TypeId) : aN (w.alloc (.cells #[.int .i64 k, .int .i64 fr, .int .i64 tuu, .int .i64 no, .int .i64 lo, .int .i64 hi, .int .i64 sl, .string s] T)) w.heap.size k fr tuu no lo hi sl s := ⟨by simp, by simp, by simp, by simp, by simp, by simp, by simp, by simp, by simp⟩
def emp (s : ByteArray) : Bool := decide (s.toList = [])
def aD (k fr tuu no lo hi sl : Int) (s : ByteArray) : Bool :=
 if k = 1 then adB fr tuu no && (lo == 0) && (hi == 0) && (sl == 0) && emp s
 else if k = 2 then adB fr tuu no && okI lo hi && (sl == 0) && emp s
 else if k = 3 then aJ fr && decide (0 ≤ sl ∧ sl ≤ 15) && decide (s.size ≤ 24) && (tuu == 0) && (no == 0) && (lo == 0) && (hi == 0)
 else false
end Go.Proofs.YtddjiamollfplaaGreatDoor
namespace Go.Proofs.YtddjiamollfplaaGreatDoor
open Go.RowKit
set_option linter.unusedVariables false
def bw (w : World) (j : Nat) : Prop := w.frozen? ⟨j, 0, none⟩ = false ∧ w.frozen? ⟨j, 1, none⟩ = false ∧ w.frozen? ⟨j, 2, none⟩ = false ∧ w.frozen? ⟨j, 3, none⟩ = false ∧ w.frozen? ⟨j, 4, none⟩ = false ∧ w.frozen? ⟨j, 5, none⟩ = false ∧ w.frozen? ⟨j, 6, none⟩ = false ∧ w.frozen? ⟨j, 7, none⟩ = false
theorem bw.belowB {j B : Nat} {w w' : World} (h : bw w j) (hw : Below B w w') (hk : j < B) : bw w' j := by
 obtain ⟨h0, h1, h2, h3, h4, h5, h6, h7⟩ := h
 exact ⟨by rw [hw.frozen (p := ⟨j, 0, none⟩) hk]; exact h0, by rw [hw.frozen (p := ⟨j, 1, none⟩) hk]; exact h1, by rw [hw.frozen (p := ⟨j, 2, none⟩) hk]; exact h2, by rw [hw.frozen (p := ⟨j, 3, none⟩) hk]; exact h3, by rw [hw.frozen (p := ⟨j, 4, none⟩) hk]; exact h4, by rw [hw.frozen (p := ⟨j, 5, none⟩) hk]; exact h5, by rw [hw.frozen (p := ⟨j, 6, none⟩) hk]; exact h6, by rw [hw.frozen (p := ⟨j, 7, none⟩) hk]; exact h7⟩
theorem bw.new (w : World) (k fr tuu no lo hi sl : Int) (s : ByteArray) (T : TypeId) : bw (w.alloc (.cells #[.int .i64 k, .int .i64 fr, .int .i64 tuu, .int .i64 no, .int .i64 lo, .int .i64 hi, .int .i64 sl, .string s] T)) w.heap.size := ⟨by simp, by simp, by simp, by simp, by simp, by simp, by simp, by simp⟩
theorem bw.set {w : World} {j : Nat} (h : bw w j) (p : Addr) (u : Value) : bw (w.setCell p u) j := by
 obtain ⟨h0, h1, h2, h3, h4, h5, h6, h7⟩ := h
 exact ⟨by simpa using h0, by simpa using h1, by simpa using h2, by simpa using h3, by simpa using h4, by simpa using h5, by simpa using h6, by simpa using h7⟩
theorem aN.alloc {j : Nat} {w : World} {k fr tuu no lo hi sl : Int} {s : ByteArray} (h : aN w j k fr tuu no lo hi sl s) (o : Obj) : aN (w.alloc o) j k fr tuu no lo hi sl s := h.below ((Below.refl _ _).alloc (Nat.le_refl _) _)
theorem aN.setO {j b : Nat} {w : World} {k fr tuu no lo hi sl : Int} {s : ByteArray} (h : aN w j k fr tuu no lo hi sl s) (hk : b ≠ j) (o : Nat) (u : Value) : aN (w.setCell ⟨b, o, none⟩ u) j k fr tuu no lo hi sl s := by
 have hne : ∀ q, (⟨b, o, none⟩ : Addr) ≠ ⟨j, q, none⟩ := fun q e => hk (congrArg Addr.block e)
 obtain ⟨h0, h1, h2, h3, h4, h5, h6, h7, h8⟩ := h
 exact ⟨by simpa using h0, by rw [World.cell?_setCell_other _ _ _ _ (hne _)]; exact h1, by rw [World.cell?_setCell_other _ _ _ _ (hne _)]; exact h2, by rw [World.cell?_setCell_other _ _ _ _ (hne _)]; exact h3, by rw [World.cell?_setCell_other _ _ _ _ (hne _)]; exact h4, by rw [World.cell?_setCell_other _ _ _ _ (hne _)]; exact h5, by rw [World.cell?_setCell_other _ _ _ _ (hne _)]; exact h6, by rw [World.cell?_setCell_other _ _ _ _ (hne _)]; exact h7, by rw [World.cell?_setCell_other _ _ _ _ (hne _)]; exact h8⟩
theorem ae (w : World) (j a b : Nat) (u : Value) (h : a ≠ b) : (w.setCell ⟨j, a, none⟩ u).cell? ⟨j, b, none⟩ = w.cell? ⟨j, b, none⟩ := World.cell?_setCell_other _ _ _ _ (by intro e; exact h (congrArg Addr.off e))
theorem aN.set0 {j : Nat} {w : World} {k fr tuu no lo hi sl : Int} {s : ByteArray} (h : aN w j k fr tuu no lo hi sl s) (x : Int) : aN (w.setCell ⟨j, 0, none⟩ (.int .i64 x)) j x fr tuu no lo hi sl s := by
 obtain ⟨h0, h1, h2, h3, h4, h5, h6, h7, h8⟩ := h
 exact ⟨by simpa using h0, World.cell?_setCell_same _ _ _ h1, by rw [ae _ _ _ _ _ (by decide)]; exact h2, by rw [ae _ _ _ _ _ (by decide)]; exact h3, by rw [ae _ _ _ _ _ (by decide)]; exact h4, by rw [ae _ _ _ _ _ (by decide)]; exact h5, by rw [ae _ _ _ _ _ (by decide)]; exact h6, by rw [ae _ _ _ _ _ (by decide)]; exact h7, by rw [ae _ _ _ _ _ (by decide)]; exact h8⟩
theorem aN.set1 {j : Nat} {w : World} {k fr tuu no lo hi sl : Int} {s : ByteArray} (h : aN w j k fr tuu no lo hi sl s) (x : Int) : aN (w.setCell ⟨j, 1, none⟩ (.int .i64 x)) j k x tuu no lo hi sl s := by
 obtain ⟨h0, h1, h2, h3, h4, h5, h6, h7, h8⟩ := h
 exact ⟨by simpa using h0, by rw [ae _ _ _ _ _ (by decide)]; exact h1, World.cell?_setCell_same _ _ _ h2, by rw [ae _ _ _ _ _ (by decide)]; exact h3, by rw [ae _ _ _ _ _ (by decide)]; exact h4, by rw [ae _ _ _ _ _ (by decide)]; exact h5, by rw [ae _ _ _ _ _ (by decide)]; exact h6, by rw [ae _ _ _ _ _ (by decide)]; exact h7, by rw [ae _ _ _ _ _ (by decide)]; exact h8⟩
theorem aN.set2 {j : Nat} {w : World} {k fr tuu no lo hi sl : Int} {s : ByteArray} (h : aN w j k fr tuu no lo hi sl s) (x : Int) : aN (w.setCell ⟨j, 2, none⟩ (.int .i64 x)) j k fr x no lo hi sl s := by
 obtain ⟨h0, h1, h2, h3, h4, h5, h6, h7, h8⟩ := h
 exact ⟨by simpa using h0, by rw [ae _ _ _ _ _ (by decide)]; exact h1, by rw [ae _ _ _ _ _ (by decide)]; exact h2, World.cell?_setCell_same _ _ _ h3, by rw [ae _ _ _ _ _ (by decide)]; exact h4, by rw [ae _ _ _ _ _ (by decide)]; exact h5, by rw [ae _ _ _ _ _ (by decide)]; exact h6, by rw [ae _ _ _ _ _ (by decide)]; exact h7, by rw [ae _ _ _ _ _ (by decide)]; exact h8⟩
theorem aN.set3 {j : Nat} {w : World} {k fr tuu no lo hi sl : Int} {s : ByteArray} (h : aN w j k fr tuu no lo hi sl s) (x : Int) : aN (w.setCell ⟨j, 3, none⟩ (.int .i64 x)) j k fr tuu x lo hi sl s := by
 obtain ⟨h0, h1, h2, h3, h4, h5, h6, h7, h8⟩ := h
 exact ⟨by simpa using h0, by rw [ae _ _ _ _ _ (by decide)]; exact h1, by rw [ae _ _ _ _ _ (by decide)]; exact h2, by rw [ae _ _ _ _ _ (by decide)]; exact h3, World.cell?_setCell_same _ _ _ h4, by rw [ae _ _ _ _ _ (by decide)]; exact h5, by rw [ae _ _ _ _ _ (by decide)]; exact h6, by rw [ae _ _ _ _ _ (by decide)]; exact h7, by rw [ae _ _ _ _ _ (by decide)]; exact h8⟩
theorem aN.set4 {j : Nat} {w : World} {k fr tuu no lo hi sl : Int} {s : ByteArray} (h : aN w j k fr tuu no lo hi sl s) (x : Int) : aN (w.setCell ⟨j, 4, none⟩ (.int .i64 x)) j k fr tuu no x hi sl s := by
 obtain ⟨h0, h1, h2, h3, h4, h5, h6, h7, h8⟩ := h
 exact ⟨by simpa using h0, by rw [ae _ _ _ _ _ (by decide)]; exact h1, by rw [ae _ _ _ _ _ (by decide)]; exact h2, by rw [ae _ _ _ _ _ (by decide)]; exact h3, by rw [ae _ _ _ _ _ (by decide)]; exact h4, World.cell?_setCell_same _ _ _ h5, by rw [ae _ _ _ _ _ (by decide)]; exact h6, by rw [ae _ _ _ _ _ (by decide)]; exact h7, by rw [ae _ _ _ _ _ (by decide)]; exact h8⟩
theorem aN.set5 {j : Nat} {w : World} {k fr tuu no lo hi sl : Int} {s : ByteArray} (h : aN w j k fr tuu no lo hi sl s) (x : Int) : aN (w.setCell ⟨j, 5, none⟩ (.int .i64 x)) j k fr tuu no lo x sl s := by
 obtain ⟨h0, h1, h2, h3, h4, h5, h6, h7, h8⟩ := h
 exact ⟨by simpa using h0, by rw [ae _ _ _ _ _ (by decide)]; exact h1, by rw [ae _ _ _ _ _ (by decide)]; exact h2, by rw [ae _ _ _ _ _ (by decide)]; exact h3, by rw [ae _ _ _ _ _ (by decide)]; exact h4, by rw [ae _ _ _ _ _ (by decide)]; exact h5, World.cell?_setCell_same _ _ _ h6, by rw [ae _ _ _ _ _ (by decide)]; exact h7, by rw [ae _ _ _ _ _ (by decide)]; exact h8⟩
theorem aN.set6 {j : Nat} {w : World} {k fr tuu no lo hi sl : Int} {s : ByteArray} (h : aN w j k fr tuu no lo hi sl s) (x : Int) : aN (w.setCell ⟨j, 6, none⟩ (.int .i64 x)) j k fr tuu no lo hi x s := by
 obtain ⟨h0, h1, h2, h3, h4, h5, h6, h7, h8⟩ := h
 exact ⟨by simpa using h0, by rw [ae _ _ _ _ _ (by decide)]; exact h1, by rw [ae _ _ _ _ _ (by decide)]; exact h2, by rw [ae _ _ _ _ _ (by decide)]; exact h3, by rw [ae _ _ _ _ _ (by decide)]; exact h4, by rw [ae _ _ _ _ _ (by decide)]; exact h5, by rw [ae _ _ _ _ _ (by decide)]; exact h6, World.cell?_setCell_same _ _ _ h7, by rw [ae _ _ _ _ _ (by decide)]; exact h8⟩
theorem aN.set7 {j : Nat} {w : World} {k fr tuu no lo hi sl : Int} {s : ByteArray} (h : aN w j k fr tuu no lo hi sl s) (x : ByteArray) : aN (w.setCell ⟨j, 7, none⟩ (.string x)) j k fr tuu no lo hi sl x := by
 obtain ⟨h0, h1, h2, h3, h4, h5, h6, h7, h8⟩ := h
 exact ⟨by simpa using h0, by rw [ae _ _ _ _ _ (by decide)]; exact h1, by rw [ae _ _ _ _ _ (by decide)]; exact h2, by rw [ae _ _ _ _ _ (by decide)]; exact h3, by rw [ae _ _ _ _ _ (by decide)]; exact h4, by rw [ae _ _ _ _ _ (by decide)]; exact h5, by rw [ae _ _ _ _ _ (by decide)]; exact h6, by rw [ae _ _ _ _ _ (by decide)]; exact h7, World.cell?_setCell_same _ _ _ h8⟩
theorem bw.alloc {j : Nat} {w : World} (h : bw w j) (hj : j < w.heap.size) (o : Obj) : bw (w.alloc o) j := h.belowB ((Below.refl w.heap.size w).alloc (Nat.le_refl _) _) hj
end Go.Proofs.YtddjiamollfplaaGreatDoor
