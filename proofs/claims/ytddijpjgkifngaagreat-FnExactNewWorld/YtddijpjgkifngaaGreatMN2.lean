/- Contracts of the functions of chapter 1 (intervals) in the specificati -/
import Derived.Test.YtddijpjgkifngaaGreatRows
import Derived.WalkKit
import Derived.WalkSpells
import Derived.WalkLawsBesides
import Derived.Deep.RegionHeld
import Derived.Test.YtddijpjgkifngaaGreatMN0
namespace Go.Proofs.YtddijpjgkifngaaGreat
open Go.RowKit
set_option linter.unusedVariables false
set_option maxRecDepth 100000
set_option maxHeartbeats 16000000
theorem ab {a b : Bool} (h : a = b) : Ending.returned (.bool a) = .returned (.bool b) := by rw [h]
theorem iD {W w1 : World} (hb : Below W.heap.size W w1) : (∀ b o, b < W.heap.size → w1.cell? ⟨b, o, none⟩ = W.cell? ⟨b, o, none⟩) ∧ (∀ b o, b < W.heap.size → w1.frozen? ⟨b, o, none⟩ = W.frozen? ⟨b, o, none⟩) :=
 ⟨fun b o h => hb.cell (p := ⟨b, o, none⟩) h, fun b o h => hb.frozen (p := ⟨b, o, none⟩) h⟩
def okI (lo hi : Int) : Bool := decide (lo ≤ hi ∧ -1000000000000 ≤ lo ∧ hi ≤ 1000000000000)
theorem aN (lo hi : Int) (w : World) :
 Calls Tryz.prog 137 #[.agg #[.int .i64 lo, .int .i64 hi]] w fun e w' => e = .returned (.bool (okI lo hi)) ∧ Below w.heap.size w w' := by
 go_enter Tryz.func137, Tryz.ntmps137
 go_wp2
 all_goals go_ret
 all_goals exact ⟨ab (by rw [Bool.eq_iff_iff]; simp [okI]; try omega), zB⟩
theorem il (lo hi : Int) (w : World) :
 Calls Tryz.prog 170 #[.agg #[.int .i64 lo, .int .i64 hi]] w fun e w' => e = .returned (.bool (okI lo hi)) ∧ Below w.heap.size w w' := by
 go_enter Tryz.func170, Tryz.ntmps170
 go_wp2
 all_goals go_ret
 all_goals exact ⟨ab (by rw [Bool.eq_iff_iff]; simp [okI]; try omega), zB⟩
theorem cL (lo hi : Int) (w : World) :
 Calls Tryz.prog 132 #[.agg #[.int .i64 lo, .int .i64 hi], .agg #[.int .i64 lo, .int .i64 hi]] w fun e w' => e = .returned (.bool true) ∧ Below w.heap.size w w' := by
 go_enter Tryz.func132, Tryz.ntmps132
 go_wp2
 go_ret
 exact ⟨rfl, zB⟩
def okD (n d : Int) : Bool := decide (1 ≤ d ∧ d ≤ 1000000 ∧ 0 ≤ n ∧ 2 * n ≤ d)
def okT (t : Int) : Bool := decide (0 ≤ t ∧ t ≤ 1000000000000)
theorem cW (n d : Int) (w : World) :
 Calls Tryz.prog 82 #[.agg #[.int .i64 n, .int .i64 d]] w fun e w' => e = .returned (.bool (okD n d)) ∧ Below w.heap.size w w' := by
 go_enter Tryz.func82, Tryz.ntmps82
 go_wp2
 all_goals go_ret
 all_goals exact ⟨ab (by rw [Bool.eq_iff_iff]; simp [okD]; try omega), zB⟩
theorem kb (n d : Int) (w : World) :
 Calls Tryz.prog 146 #[.agg #[.int .i64 n, .int .i64 d]] w fun e w' => e = .returned (.bool (okD n d)) ∧ Below w.heap.size w w' := by
 have hd : d.tdiv 2 = if 0 ≤ d then d / 2 else -(-d / 2) := by
  split
  ·exact Int.tdiv_eq_ediv_of_nonneg ‹_›
  ·have h := Int.neg_tdiv (a := -d) (b := 2)
   have k : (-d).tdiv 2 = -d / 2 := Int.tdiv_eq_ediv_of_nonneg (by omega)
   rw [Int.neg_neg, k] at h
   exact h
 go_enter Tryz.func146, Tryz.ntmps146
 go_wp2
 all_goals go_ret
 all_goals exact ⟨ab (by rw [Bool.eq_iff_iff]; simp [okD]; try (split at hd <;> omega)), zB⟩
theorem gF (n d : Int) (w : World) :
 Calls Tryz.prog 59 #[.agg #[.int .i64 n, .int .i64 d]] w fun e w' => e = .returned (.agg #[.int .i64 n, .int .i64 d]) ∧ Below w.heap.size w w' := by
 go_enter Tryz.func59, Tryz.ntmps59
 go_wp2
 exact bodyPost_ret (v := .agg #[.int .i64 n, .int .i64 d]) (by simp [results, Tryz.results59, go_sem]) rfl ⟨rfl, zB⟩
theorem eO (n d : Int) (w : World) :
 Calls Tryz.prog 63 #[.agg #[.int .i64 n, .int .i64 d], .agg #[.int .i64 n, .int .i64 d]] w fun e w' => e = .returned (.bool true) ∧ Below w.heap.size w w' := by
 go_enter Tryz.func63, Tryz.ntmps63
 go_wp2
 go_ret
 exact ⟨rfl, zB⟩
theorem aD (t : Int) (w : World) :
 Calls Tryz.prog 99 #[.int .i64 t] w fun e w' => e = .returned (.bool (okT t)) ∧ w = w' := by
 go_enter Tryz.func99, Tryz.ntmps99
 go_wp2
 all_goals go_ret
 all_goals exact ⟨ab (by rw [Bool.eq_iff_iff]; simp [okT]; try omega), rfl⟩
theorem aE (t : Int) (w : World) :
 Calls Tryz.prog 43 #[.int .i64 t] w fun e w' => e = .returned (.bool (okT t)) ∧ w = w' := by
 go_enter Tryz.func43, Tryz.ntmps43
 go_wp2
 all_goals go_ret
 all_goals exact ⟨ab (by rw [Bool.eq_iff_iff]; simp [okT]; try omega), rfl⟩
theorem al (x l h : Int) (w : World) :
 Calls Tryz.prog 42 #[.int .i64 x, .int .i64 l, .int .i64 h] w fun e w' => e = .returned (.bool (decide (l ≤ x ∧ x ≤ h))) ∧ w = w' := by
 go_enter Tryz.func42, Tryz.ntmps42
 go_wp2
 all_goals go_ret
 all_goals exact ⟨ab (by rw [Bool.eq_iff_iff]; simp; try omega), rfl⟩
def aO (n : Int) : Bool := decide (0 ≤ n ∧ n ≤ 7)
theorem au (n : Int) (w : World) :
 Calls Tryz.prog 108 #[.int .i64 n] w fun e w' => e = .returned (.bool (aO n)) ∧ w = w' := by
 go_enter Tryz.func108, Tryz.ntmps108
 go_wp2
 all_goals go_ret
 all_goals exact ⟨ab (by rw [Bool.eq_iff_iff]; simp [aO]; try omega), rfl⟩
theorem an (n : Int) (w : World) :
 Calls Tryz.prog 86 #[.int .i64 n] w fun e w' => e = .returned (.bool (aO n)) ∧ w = w' := by
 go_enter Tryz.func86, Tryz.ntmps86
 go_wp2_with (first | (go_at_call 42; refine (al _ _ _ _).mono ?_; rintro e w' ⟨rfl, rfl⟩))
 go_ret
 exact ⟨ab (by simp [aO]), rfl⟩
def dj (w : World) (j : Nat) (k fr tuu no lo hi sl : Int) (s : ByteArray) : Prop := j < w.heap.size ∧ w.cell? ⟨j, 0, none⟩ = some (.int .i64 k) ∧ w.cell? ⟨j, 1, none⟩ = some (.int .i64 fr) ∧ w.cell? ⟨j, 2, none⟩ = some (.int .i64 tuu) ∧ w.cell? ⟨j, 3, none⟩ = some (.int .i64 no) ∧ w.cell? ⟨j, 4, none⟩ = some (.int .i64 lo) ∧ w.cell? ⟨j, 5, none⟩ = some (.int .i64 hi) ∧ w.cell? ⟨j, 6, none⟩ = some (.int .i64 sl) ∧ w.cell? ⟨j, 7, none⟩ = some (.string s)
theorem dj.belowB {j B : Nat} {w w' : World} {k fr tuu no lo hi sl : Int} {s : ByteArray} (h : dj w j k fr tuu no lo hi sl s) (hw : Below B w w') (hk : j < B) : dj w' j k fr tuu no lo hi sl s := by
 obtain ⟨h0, h1, h2, h3, h4, h5, h6, h7, h8⟩ := h
 exact ⟨Nat.lt_of_lt_of_le h0 hw.size, by rw [hw.cell (p := ⟨j, 0, none⟩) hk]; exact h1, by rw [hw.cell (p := ⟨j, 1, none⟩) hk]; exact h2, by rw [hw.cell (p := ⟨j, 2, none⟩) hk]; exact h3, by rw [hw.cell (p := ⟨j, 3, none⟩) hk]; exact h4, by rw [hw.cell (p := ⟨j, 4, none⟩) hk]; exact h5, by rw [hw.cell (p := ⟨j, 5, none⟩) hk]; exact h6, by rw [hw.cell (p := ⟨j, 6, none⟩) hk]; exact h7, by rw [hw.cell (p := ⟨j, 7, none⟩) hk]; exact h8⟩
theorem dj.below {j : Nat} {w w' : World} {k fr tuu no lo hi sl : Int} {s : ByteArray} (h : dj w j k fr tuu no lo hi sl s) (hw : Below w.heap.size w w') : dj w' j k fr tuu no lo hi sl s := h.belowB hw h.1
theorem dj.new (w : World) (k fr tuu no lo hi sl : Int) (s : ByteArray) (T : TypeId) : dj (w.alloc (.cells #[.int .i64 k, .int .i64 fr, .int .i64 tuu, .int .i64 no, .int .i64 lo, .int .i64 hi, .int .i64 sl, .string s] T)) w.heap.size k fr tuu no lo hi sl s := ⟨by simp, by simp, by simp, by simp, by simp, by simp, by simp, by simp, by simp⟩
abbrev SlT : Type := Int × Int
def zSl : SlT := (0, 0)
def lnB (l : Int) : Bool := decide (1 ≤ l ∧ l ≤ 1000000)
def slB (o l : Int) : Bool := aO o && lnB l
def slA (M : Nat → SlT) : Nat → Bool
 | 0 => true
 | j + 1 => slA M j && slB (M j).1 (M j).2
def gpB (g : Int) : Bool := decide (0 ≤ g ∧ g ≤ 100000)
def cnB (n : Nat) : Bool := decide (1 ≤ (n : Int) ∧ (n : Int) ≤ 12)
def plB (s g : Int) (M : Nat → SlT) (n : Nat) : Bool := okT s && (gpB g && (cnB n && slA M n))
theorem ip {M : Nat → SlT} {k n : Nat} (h : slA M (k + 1) = false) (hk : k < n) : slA M n = false := by
 induction n with
 | zero => omega
 | succ n ih =>
  by_cases e : k = n
  ·subst e; exact h
  ·rw [slA, ih (by omega)]; rfl
def Bx (w : World) (k : Nat) (x y : Int) : Prop := k < w.heap.size ∧ w.cell? ⟨k, 0, none⟩ = some (.int .i64 x) ∧ w.cell? ⟨k, 1, none⟩ = some (.int .i64 y) ∧ w.frozen? ⟨k, 0, none⟩ = false ∧ w.frozen? ⟨k, 1, none⟩ = false
theorem Bx.belowB {k B : Nat} {w w' : World} {x y : Int} (h : Bx w k x y) (hw : Below B w w') (hk : k < B) : Bx w' k x y :=
 ⟨Nat.lt_of_lt_of_le h.1 hw.size, by rw [hw.cell (p := ⟨k, 0, none⟩) hk]; exact h.2.1, by rw [hw.cell (p := ⟨k, 1, none⟩) hk]; exact h.2.2.1, by rw [hw.frozen (p := ⟨k, 0, none⟩) hk]; exact h.2.2.2.1, by rw [hw.frozen (p := ⟨k, 1, none⟩) hk]; exact h.2.2.2.2⟩
theorem Bx.below {k : Nat} {w w' : World} {x y : Int} (h : Bx w k x y) (hw : Below w.heap.size w w') : Bx w' k x y := h.belowB hw h.1
theorem Bx.alloc {k : Nat} {w : World} {x y : Int} (h : Bx w k x y) (o : Obj) : Bx (w.alloc o) k x y := h.below ((Below.refl _ _).alloc (Nat.le_refl _) _)
theorem Bx.new (w : World) (x y : Int) (T : TypeId) : Bx (w.alloc (.cells #[.int .i64 x, .int .i64 y] T)) w.heap.size x y := ⟨by simp, by simp, by simp, by simp, by simp⟩
theorem Bx.setO {k j : Nat} {w : World} {x y : Int} (h : Bx w k x y) (hk : j ≠ k) (o : Nat) (u : Value) : Bx (w.setCell ⟨j, o, none⟩ u) k x y := by
 have hne : ∀ q, (⟨j, o, none⟩ : Addr) ≠ ⟨k, q, none⟩ := fun q e => hk (congrArg Addr.block e)
 exact ⟨by simpa using h.1, by rw [World.cell?_setCell_other _ _ _ _ (hne _)]; exact h.2.1, by rw [World.cell?_setCell_other _ _ _ _ (hne _)]; exact h.2.2.1, by simpa using h.2.2.2.1, by simpa using h.2.2.2.2⟩
theorem Bx.drew {k : Nat} {w : World} {x y : Int} (h : Bx w k x y) : Bx w.drew k x y := h
theorem Below.alc (w : World) (o : Obj) : Below w.heap.size w (w.alloc o) := (Below.refl _ _).alloc (Nat.le_refl _) _
def bO (w : World) (k : Nat) (a b c d : Int) : Prop := k < w.heap.size ∧ w.cell? ⟨k, 0, none⟩ = some (.int .i64 a) ∧ w.cell? ⟨k, 1, none⟩ = some (.int .i64 b) ∧ w.cell? ⟨k, 2, none⟩ = some (.int .i64 c) ∧ w.cell? ⟨k, 3, none⟩ = some (.int .i64 d) ∧ w.frozen? ⟨k, 0, none⟩ = false ∧ w.frozen? ⟨k, 1, none⟩ = false ∧ w.frozen? ⟨k, 2, none⟩ = false ∧ w.frozen? ⟨k, 3, none⟩ = false
theorem bO.belowB {k B : Nat} {w w' : World} {a b c d : Int} (h : bO w k a b c d) (hw : Below B w w') (hk : k < B) : bO w' k a b c d := by
 obtain ⟨h0, h1, h2, h3, h4, f1, f2, f3, f4⟩ := h
 exact ⟨Nat.lt_of_lt_of_le h0 hw.size, by rw [hw.cell (p := ⟨k, 0, none⟩) hk]; exact h1, by rw [hw.cell (p := ⟨k, 1, none⟩) hk]; exact h2, by rw [hw.cell (p := ⟨k, 2, none⟩) hk]; exact h3, by rw [hw.cell (p := ⟨k, 3, none⟩) hk]; exact h4, by rw [hw.frozen (p := ⟨k, 0, none⟩) hk]; exact f1, by rw [hw.frozen (p := ⟨k, 1, none⟩) hk]; exact f2, by rw [hw.frozen (p := ⟨k, 2, none⟩) hk]; exact f3, by rw [hw.frozen (p := ⟨k, 3, none⟩) hk]; exact f4⟩
theorem bO.below {k : Nat} {w w' : World} {a b c d : Int} (h : bO w k a b c d) (hw : Below w.heap.size w w') : bO w' k a b c d := h.belowB hw h.1
theorem bO.alloc {k : Nat} {w : World} {a b c d : Int} (h : bO w k a b c d) (o : Obj) : bO (w.alloc o) k a b c d := h.below ((Below.refl _ _).alloc (Nat.le_refl _) _)
theorem bO.new (w : World) (a b c d : Int) (T : TypeId) : bO (w.alloc (.cells #[.int .i64 a, .int .i64 b, .int .i64 c, .int .i64 d] T)) w.heap.size a b c d := ⟨by simp, by simp, by simp, by simp, by simp, by simp, by simp, by simp, by simp⟩
theorem bO.drew {k : Nat} {w : World} {a b c d : Int} (h : bO w k a b c d) : bO w.drew k a b c d := h
theorem bO.setO {k j : Nat} {w : World} {a b c d : Int} (h : bO w k a b c d) (hk : j ≠ k) (o : Nat) (u : Value) : bO (w.setCell ⟨j, o, none⟩ u) k a b c d := by
 have hne : ∀ q, (⟨j, o, none⟩ : Addr) ≠ ⟨k, q, none⟩ := fun q e => hk (congrArg Addr.block e)
 obtain ⟨h0, h1, h2, h3, h4, f1, f2, f3, f4⟩ := h
 exact ⟨by simpa using h0, by rw [World.cell?_setCell_other _ _ _ _ (hne _)]; exact h1, by rw [World.cell?_setCell_other _ _ _ _ (hne _)]; exact h2, by rw [World.cell?_setCell_other _ _ _ _ (hne _)]; exact h3, by rw [World.cell?_setCell_other _ _ _ _ (hne _)]; exact h4, by simpa using f1, by simpa using f2, by simpa using f3, by simpa using f4⟩
def set4 (w : World) (k : Nat) (a b c d : Int) : World := (((w.setCell ⟨k, 0, none⟩ (.int .i64 a)).setCell ⟨k, 1, none⟩ (.int .i64 b)).setCell ⟨k, 2, none⟩ (.int .i64 c)).setCell ⟨k, 3, none⟩ (.int .i64 d)
theorem Below.set4 {B j : Nat} {w w' : World} (h : Below B w w') (hj : B ≤ j) (a b c d : Int) : Below B w (set4 w' j a b c d) := (((h.setCell hj _).setCell hj _).setCell hj _).setCell hj _
def bJ (w : World) (k : Nat) (a : Bool) (b c d : Int) : Prop := k < w.heap.size ∧ w.cell? ⟨k, 0, none⟩ = some (.bool a) ∧ w.cell? ⟨k, 1, none⟩ = some (.int .i64 b) ∧ w.cell? ⟨k, 2, none⟩ = some (.int .i64 c) ∧ w.cell? ⟨k, 3, none⟩ = some (.int .i64 d) ∧ w.frozen? ⟨k, 0, none⟩ = false ∧ w.frozen? ⟨k, 1, none⟩ = false ∧ w.frozen? ⟨k, 2, none⟩ = false ∧ w.frozen? ⟨k, 3, none⟩ = false
theorem bJ.belowB {k B : Nat} {w w' : World} {a : Bool} {b c d : Int} (h : bJ w k a b c d) (hw : Below B w w') (hk : k < B) : bJ w' k a b c d := by
 obtain ⟨h0, h1, h2, h3, h4, f1, f2, f3, f4⟩ := h
 exact ⟨Nat.lt_of_lt_of_le h0 hw.size, by rw [hw.cell (p := ⟨k, 0, none⟩) hk]; exact h1, by rw [hw.cell (p := ⟨k, 1, none⟩) hk]; exact h2, by rw [hw.cell (p := ⟨k, 2, none⟩) hk]; exact h3, by rw [hw.cell (p := ⟨k, 3, none⟩) hk]; exact h4, by rw [hw.frozen (p := ⟨k, 0, none⟩) hk]; exact f1, by rw [hw.frozen (p := ⟨k, 1, none⟩) hk]; exact f2, by rw [hw.frozen (p := ⟨k, 2, none⟩) hk]; exact f3, by rw [hw.frozen (p := ⟨k, 3, none⟩) hk]; exact f4⟩
theorem bJ.below {k : Nat} {w w' : World} {a : Bool} {b c d : Int} (h : bJ w k a b c d) (hw : Below w.heap.size w w') : bJ w' k a b c d := h.belowB hw h.1
theorem bJ.alloc {k : Nat} {w : World} {a : Bool} {b c d : Int} (h : bJ w k a b c d) (o : Obj) : bJ (w.alloc o) k a b c d := h.below ((Below.refl _ _).alloc (Nat.le_refl _) _)
theorem bJ.new (w : World) (a : Bool) (b c d : Int) (T : TypeId) : bJ (w.alloc (.cells #[.bool a, .int .i64 b, .int .i64 c, .int .i64 d] T)) w.heap.size a b c d := ⟨by simp, by simp, by simp, by simp, by simp, by simp, by simp, by simp, by simp⟩
theorem bJ.drew {k : Nat} {w : World} {a : Bool} {b c d : Int} (h : bJ w k a b c d) : bJ w.drew k a b c d := h
theorem bJ.setO {k j : Nat} {w : World} {a : Bool} {b c d : Int} (h : bJ w k a b c d) (hk : j ≠ k) (o : Nat) (u : Value) : bJ (w.setCell ⟨j, o, none⟩ u) k a b c d := by
 have hne : ∀ q, (⟨j, o, none⟩ : Addr) ≠ ⟨k, q, none⟩ := fun q e => hk (congrArg Addr.block e)
 obtain ⟨h0, h1, h2, h3, h4, f1, f2, f3, f4⟩ := h
 exact ⟨by simpa using h0, by rw [World.cell?_setCell_other _ _ _ _ (hne _)]; exact h1, by rw [World.cell?_setCell_other _ _ _ _ (hne _)]; exact h2, by rw [World.cell?_setCell_other _ _ _ _ (hne _)]; exact h3, by rw [World.cell?_setCell_other _ _ _ _ (hne _)]; exact h4, by simpa using f1, by simpa using f2, by simpa using f3, by simpa using f4⟩
def okL (kn : Bool) (lo hi a : Int) : Bool := match kn with | true => okI lo hi && okT a | false => decide (lo = 0 ∧ hi = 0 ∧ a = 0)
theorem cZ (kn : Bool) (lo hi a : Int) (w : World) :
 Calls Tryz.prog 88 #[.agg #[.bool kn, .int .i64 lo, .int .i64 hi, .int .i64 a]] w fun e w' => e = .returned (.bool (okL kn lo hi a)) ∧ Below w.heap.size w w' := by
 cases kn
 ·go_enter Tryz.func88, Tryz.ntmps88
  go_wp2
  all_goals go_ret
  all_goals exact ⟨ab (by rw [Bool.eq_iff_iff]; simp [okL]; try omega), zB⟩
 cases h1 : okI lo hi <;> cases h2 : okT a
 all_goals
  go_enter Tryz.func88, Tryz.ntmps88
  go_wp2_with (first | (go_at_call 137; refine (aN _ _ _).mono ?_; rintro e w' ⟨rfl, hb⟩; obtain ⟨hc, hf⟩ := iD hb; (first | have hB := Below.trans (Below.trans hB zB) (Below.mono hb zL) | have hB := hb); obtain ⟨hC, hF⟩ := iD hB; have hz := hb.size; (try simp at hz); (first | have hz0 := zH4 w w' | have hz0 := zH3 w w' | have hz0 := zH2 w w' | have hz0 := zH1 w w' | skip)) | (go_at_call 43; refine (aE _ _).mono ?_; rintro e w' ⟨rfl, rfl⟩))
  go_ret
  exact ⟨ab (by simp [okL, *]), zB⟩
theorem eT (kn : Bool) (lo hi a : Int) (w : World) :
 Calls Tryz.prog 154 #[.agg #[.bool kn, .int .i64 lo, .int .i64 hi, .int .i64 a], .agg #[.bool kn, .int .i64 lo, .int .i64 hi, .int .i64 a]] w fun e w' => e = .returned (.bool true) ∧ Below w.heap.size w w' := by
 have P0 := (bJ.new w kn lo hi a 89).alloc (.cells #[.bool kn, .int .i64 lo, .int .i64 hi, .int .i64 a] 89)
 have P1 := bJ.new (w.alloc (.cells #[.bool kn, .int .i64 lo, .int .i64 hi, .int .i64 a] 89)) kn lo hi a 89
 have B0 : Below w.heap.size w ((w.alloc (.cells #[.bool kn, .int .i64 lo, .int .i64 hi, .int .i64 a] 89)).alloc (.cells #[.bool kn, .int .i64 lo, .int .i64 hi, .int .i64 a] 89)) := (Below.alc _ _).alloc (by simp) _
 simp only [World.size_alloc] at P1
 go_enter Tryz.func154, Tryz.ntmps154
 go_wp2_with fail
 refine (cL _ _ _).mono ?_
 rintro e w1 ⟨rfl, hb⟩
 have B := B0.trans (hb.mono B0.size)
 obtain ⟨a0, a1, a2, a3, a4, a5, a6, a7, a8⟩ := P0.below hb
 obtain ⟨b0, b1, b2, b3, b4, b5, b6, b7, b8⟩ := P1.below hb
 clear P0 P1 hb
 go_wp2
 go_ret
 exact ⟨rfl, B⟩
end Go.Proofs.YtddijpjgkifngaaGreat
