/- Rows of numbers and of truths: what the laws make of them. -/
import Derived.Test.YtddijpjgkifngaaGreatMN6
namespace Go.Proofs.YtddijpjgkifngaaGreat
open Go.RowKit
set_option linter.unusedVariables false
set_option maxRecDepth 100000
set_option maxHeartbeats 16000000
def itG (f : Nat → Int) (j : Nat) : Value := .int .i64 (f j)
def boG (f : Nat → Bool) (j : Nat) : Value := .bool (f j)
def am (n : Nat) : Obj := .cells (madeCells #[.int .i64 0] n) 3
theorem jv : (Tryz.prog.info? 3).map (fun i => (i.zero, i.size, i.bytes)) = some (some (.int .i64 0), 1, 8) := by kernel_rfl
theorem de (n : Nat) (h : n ≤ 1048576) (w : World) : (Instr.makeSlice 30 (.int .i64 (n : Int)) (.int .i64 (n : Int))).run Tryz.prog w = .ok (.slice (some ⟨w.heap.size, 0, none⟩) n n) (w.alloc (am n)) := by
 obtain ⟨i, hi, hz⟩ := Option.map_eq_some_iff.1 jv
 simp only [Prod.mk.injEq] at hz
 obtain ⟨h1, h2, h3⟩ := hz
 have hr := run_make (P := Tryz.prog) w 30 3 i _ Tryz.underlying30 hi h1 .i64 .i64 n n (by omega) (Int.le_refl _) (by rw [h3]; omega) (by omega)
 simp only [Int.toNat_natCast, h2, Nat.mul_one] at hr
 exact hr
theorem aM (w : World) (n : Nat) (F : Nat → Value) : ao (w.alloc (am n)) w.heap.size 3 n 0 F := by
 have h := World.rowIs_alloc w (madeCells #[.int .i64 0] n) 3 (fun i => (madeCells #[.int .i64 0] n).getD i undef) (fun i hi => by
  rw [Array.getElem?_eq_getElem hi]; exact congrArg some (by rw [Array.getD_eq_getD_getElem?, Array.getElem?_eq_getElem hi]; rfl))
 rw [size_madeCells] at h
 exact ⟨_, h, fun j hj => absurd hj (Nat.not_lt_zero _)⟩
theorem fO (b off b' off' n c c' : Nat) (f : Nat → Int) (w : World) (hn : n ≤ maxLen) (hf : Cs w b off n (itG f)) (hg : Cs w b' off' n (itG f)) :
 Calls Tryz.prog 28 #[.slice (some ⟨b, off, none⟩) n c, .slice (some ⟨b', off', none⟩) n c'] w fun e w' => e = .returned (.bool true) ∧ Below w.heap.size w w' := by
 unfold maxLen at hn
 have HF : Hid (Cs w b off n (itG f)) := hf
 have HG : Hid (Cs w b' off' n (itG f)) := hg
 clear hf hg
 go_enter Tryz.func28, Tryz.ntmps28
 go_wp2_with fail
 go_loopw [5] (fun i wr => ∃ k : Nat, k ≤ n ∧ i = .int .i64 k ∧ Below w.heap.size w wr) (fun i _ => n - (intOf i).toNat)
 case atStart => exact ⟨0, Nat.zero_le _, rfl, Below.refl _ _⟩
 case round =>
  obtain ⟨k, hk, rfl, hB⟩ := hrel
  by_cases hlt : k < n
  ·have c0 : wr.cell? ⟨b, off + k, none⟩ = some (.int .i64 (f k)) := (HF.out.below hB HF.out.1).2 k hlt
   have d0 : wr.cell? ⟨b', off' + k, none⟩ = some (.int .i64 (f k)) := (HG.out.below hB HG.out.1).2 k hlt
   have hsz := hB.size
   have hli : (k : Int) < (n : Int) := by omega
   go_wp2_with fail
   go_region
   all_goals go_wp2_with fail
   all_goals go_roundw
   all_goals first | (case rel => exact ⟨k + 1, by omega, by go_num, Below.drew hB⟩) | skip
   all_goals first | (case measure => simp [intOf]; omega) | skip
  ·go_wp2_with fail
   go_ret
   exact ⟨rfl, hB⟩
theorem fP (a a' : Option Addr) (c c' : Nat) (w : World) :
 Calls Tryz.prog 28 #[.slice a 0 c, .slice a' 0 c'] w fun e w' => e = .returned (.bool true) ∧ Below w.heap.size w w' := by
 go_enter Tryz.func28, Tryz.ntmps28
 go_wp2_with fail
 go_loopw [5] (fun i wr => i = .int .i64 0 ∧ w = wr) (fun i _ => 0)
 case atStart => exact ⟨rfl, by first | rfl | trivial⟩
 case round =>
  obtain ⟨rfl, rfl⟩ := hrel
  go_wp2_with fail
  go_ret
  exact ⟨rfl, Below.refl _ _⟩
theorem gT (a a' : Option Addr) (n c c' : Nat) (f : Nat → Int) (w : World) (hn : n ≤ maxLen) (h : ae w a n (itG f)) (h' : ae w a' n (itG f)) :
 Calls Tryz.prog 28 #[.slice a n c, .slice a' n c'] w fun e w' => e = .returned (.bool true) ∧ Below w.heap.size w w' := by
 by_cases h0 : n = 0
 ·subst h0; exact fP a a' c c' w
 ·rcases h with h | ⟨b, off, rfl, hp⟩
  ·exact absurd h h0
  ·rcases h' with h | ⟨b', off', rfl, hp'⟩
   ·exact absurd h h0
   ·exact fO b off b' off' n c c' f w hn hp hp'
def gA (n : Nat) : Obj := .cells (madeCells #[.bool false] n) 4
theorem hH : (Tryz.prog.info? 4).map (fun i => (i.zero, i.size, i.bytes)) = some (some (.bool false), 1, 1) := by kernel_rfl
theorem go (n : Nat) (h : n ≤ 1048576) (w : World) : (Instr.makeSlice 29 (.int .i64 (n : Int)) (.int .i64 (n : Int))).run Tryz.prog w = .ok (.slice (some ⟨w.heap.size, 0, none⟩) n n) (w.alloc (gA n)) := by
 obtain ⟨i, hi, hz⟩ := Option.map_eq_some_iff.1 hH
 simp only [Prod.mk.injEq] at hz
 obtain ⟨h1, h2, h3⟩ := hz
 have hr := run_make (P := Tryz.prog) w 29 4 i _ Tryz.underlying29 hi h1 .i64 .i64 n n (by omega) (Int.le_refl _) (by rw [h3]; omega) (by omega)
 simp only [Int.toNat_natCast, h2, Nat.mul_one] at hr
 exact hr
theorem cM (w : World) (n : Nat) (F : Nat → Value) : ao (w.alloc (gA n)) w.heap.size 4 n 0 F := by
 have h := World.rowIs_alloc w (madeCells #[.bool false] n) 4 (fun i => (madeCells #[.bool false] n).getD i undef) (fun i hi => by
  rw [Array.getElem?_eq_getElem hi]; exact congrArg some (by rw [Array.getD_eq_getD_getElem?, Array.getElem?_eq_getElem hi]; rfl))
 rw [size_madeCells] at h
 exact ⟨_, h, fun j hj => absurd hj (Nat.not_lt_zero _)⟩
theorem fy (b off n c : Nat) (f : Nat → Bool) (w : World) (hn : n ≤ 1048576) (hf : Cs w b off n (boG f)) :
 Calls Tryz.prog 16 #[.slice (some ⟨b, off, none⟩) n c] w fun e w' => e = .returned (.slice (some ⟨w.heap.size, 0, none⟩) n n) ∧ ao w' w.heap.size 4 n n (boG f) ∧ Below w.heap.size w w' := by
 have hmk := go n hn
 have HF : Hid (Cs w b off n (boG f)) := hf
 clear hf
 go_enter Tryz.func16, Tryz.ntmps16
 go_wp2_with fail
 clear hmk
 go_loopw [4] (fun i wr => ∃ k : Nat, k ≤ n ∧ i = .int .i64 k ∧ ao wr w.heap.size 4 n k (boG f) ∧ Below w.heap.size w wr) (fun i _ => n - (intOf i).toNat)
 case atStart => exact ⟨0, Nat.zero_le _, rfl, cM w n _, Below.nw _ _⟩
 case round =>
  obtain ⟨k, hk, rfl, hrow, hB⟩ := hrel
  by_cases hlt : k < n
  ·have c0 : wr.cell? ⟨b, off + k, none⟩ = some (.bool (f k)) := (HF.out.below hB HF.out.1).2 k hlt
   have hli : (k : Int) < (n : Int) := by omega
   have hsz := hB.size
   obtain ⟨⟨v1, e1⟩, f1⟩ := hrow.facts k hlt
   have l1 := hrow.lt
   go_wp2_with fail
   go_roundw
   case rel => exact ⟨k + 1, by omega, by go_num, hrow.put (k + 1) rfl rfl, hB.setCell (Nat.le_refl _) _⟩
   case measure => simp [intOf]; omega
  ·have hkn : k = n := by omega
   subst hkn
   have hli : ¬ (k : Int) < (k : Int) := by omega
   go_wp2_with fail
   go_ret
   exact ⟨rfl, hrow, hB⟩
theorem fz (a : Option Addr) (c : Nat) (f : Nat → Bool) (w : World) :
 Calls Tryz.prog 16 #[.slice a 0 c] w fun e w' => e = .returned (.slice (some ⟨w.heap.size, 0, none⟩) 0 0) ∧ ao w' w.heap.size 4 0 0 (boG f) ∧ Below w.heap.size w w' := by
 have hmk := go 0 (by omega)
 simp only [Int.ofNat_zero] at hmk
 go_enter Tryz.func16, Tryz.ntmps16
 go_wp2_with fail
 clear hmk
 go_loopw [4] (fun i wr => i = .int .i64 0 ∧ ao wr w.heap.size 4 0 0 (boG f) ∧ Below w.heap.size w wr) (fun i _ => 0)
 case atStart => exact ⟨rfl, cM w 0 _, Below.nw _ _⟩
 case round =>
  obtain ⟨rfl, hrow, hB⟩ := hrel
  go_wp2_with fail
  go_ret
  exact ⟨rfl, hrow, hB⟩
theorem gE (a : Option Addr) (n c : Nat) (f : Nat → Bool) (w : World) (hn : n ≤ 1048576) (h : ae w a n (boG f)) :
 Calls Tryz.prog 16 #[.slice a n c] w fun e w' => e = .returned (.slice (some ⟨w.heap.size, 0, none⟩) n n) ∧ ao w' w.heap.size 4 n n (boG f) ∧ Below w.heap.size w w' := by
 rcases h with rfl | ⟨b, off, rfl, h2⟩
 ·exact fz a c f w
 ·exact fy b off n c f w hn h2
theorem eM (b off b' off' n c c' : Nat) (f : Nat → Bool) (w : World) (hn : n ≤ maxLen) (hf : Cs w b off n (boG f)) (hg : Cs w b' off' n (boG f)) :
 Calls Tryz.prog 19 #[.slice (some ⟨b, off, none⟩) n c, .slice (some ⟨b', off', none⟩) n c'] w fun e w' => e = .returned (.bool true) ∧ Below w.heap.size w w' := by
 unfold maxLen at hn
 have HF : Hid (Cs w b off n (boG f)) := hf
 have HG : Hid (Cs w b' off' n (boG f)) := hg
 clear hf hg
 go_enter Tryz.func19, Tryz.ntmps19
 go_wp2_with fail
 go_loopw [5] (fun i wr => ∃ k : Nat, k ≤ n ∧ i = .int .i64 k ∧ Below w.heap.size w wr) (fun i _ => n - (intOf i).toNat)
 case atStart => exact ⟨0, Nat.zero_le _, rfl, Below.refl _ _⟩
 case round =>
  obtain ⟨k, hk, rfl, hB⟩ := hrel
  by_cases hlt : k < n
  ·have c0 : wr.cell? ⟨b, off + k, none⟩ = some (.bool (f k)) := (HF.out.below hB HF.out.1).2 k hlt
   have d0 : wr.cell? ⟨b', off' + k, none⟩ = some (.bool (f k)) := (HG.out.below hB HG.out.1).2 k hlt
   have hsz := hB.size
   have hli : (k : Int) < (n : Int) := by omega
   go_wp2_with fail
   go_region
   all_goals go_wp2_with fail
   all_goals go_roundw
   all_goals first | (case rel => exact ⟨k + 1, by omega, by go_num, Below.drew hB⟩) | skip
   all_goals first | (case measure => simp [intOf]; omega) | skip
  ·go_wp2_with fail
   go_ret
   exact ⟨rfl, hB⟩
theorem eN (a a' : Option Addr) (c c' : Nat) (w : World) :
 Calls Tryz.prog 19 #[.slice a 0 c, .slice a' 0 c'] w fun e w' => e = .returned (.bool true) ∧ Below w.heap.size w w' := by
 go_enter Tryz.func19, Tryz.ntmps19
 go_wp2_with fail
 go_loopw [5] (fun i wr => i = .int .i64 0 ∧ w = wr) (fun i _ => 0)
 case atStart => exact ⟨rfl, by first | rfl | trivial⟩
 case round =>
  obtain ⟨rfl, rfl⟩ := hrel
  go_wp2_with fail
  go_ret
  exact ⟨rfl, Below.refl _ _⟩
theorem cK (a a' : Option Addr) (n c c' : Nat) (f : Nat → Bool) (w : World) (hn : n ≤ maxLen) (h : ae w a n (boG f)) (h' : ae w a' n (boG f)) :
 Calls Tryz.prog 19 #[.slice a n c, .slice a' n c'] w fun e w' => e = .returned (.bool true) ∧ Below w.heap.size w w' := by
 by_cases h0 : n = 0
 ·subst h0; exact eN a a' c c' w
 ·rcases h with h | ⟨b, off, rfl, hp⟩
  ·exact absurd h h0
  ·rcases h' with h | ⟨b', off', rfl, hp'⟩
   ·exact absurd h h0
   ·exact eM b off b' off' n c c' f w hn hp hp'
end Go.Proofs.YtddijpjgkifngaaGreat
