/- What the laws make of an op. -/
import Derived.Test.YtddjiamollfplaaDoorMS26
namespace Go.Proofs.YtddjiamollfplaaDoor
open Go.RowKit
set_option linter.unusedVariables false

set_option maxHeartbeats 1600000 in
theorem eqIntG_some (b off b' off' n c c' : Nat) (f : Nat → Int) (w : World) (hn : n ≤ maxLen) (hf : Cs w b off n (itG f)) (hg : Cs w b' off' n (itG f)) :
 Calls Tryd.prog 62 #[.slice (some ⟨b, off, none⟩) n c, .slice (some ⟨b', off', none⟩) n c'] w fun e w' => e = .returned (.bool true) ∧ Below w.heap.size w w' := by
 unfold maxLen at hn
 have HF : Hid (Cs w b off n (itG f)) := hf
 have HG : Hid (Cs w b' off' n (itG f)) := hg
 clear hf hg
 go_enter Tryd.func62, Tryd.ntmps62
 go_wp2_with fail
 go_loopw [5] (fun i wr => ∃ k : Nat, k ≤ n ∧ i = .int .i64 k ∧ Below w.heap.size w wr) (fun i _ => n - (intOf i).toNat)
 case atStart => exact ⟨0, Nat.zero_le _, rfl, Below.refl _ _⟩
 case round =>
  obtain ⟨k, hk, rfl, hB⟩ := hrel
  by_cases hlt : k < n
  ·have c0 : wr.cell? ⟨b, off + k, none⟩ = some (.int .i64 (f k)) := (HF.out.below hB HF.out.1).2 k hlt
   have d0 : wr.cell? ⟨b', off' + k, none⟩ = some (.int .i64 (f k)) := (HG.out.below hB HG.out.1).2 k hlt
   have hsz := hB.size
   have hli : (k : Int) < (n : Int) := by omega
   go_wp2_with fail
   go_region
   all_goals go_wp2_with fail
   all_goals go_roundw
   all_goals first | (case rel => exact ⟨k + 1, by omega, by go_num, Below.drew hB⟩) | skip
   all_goals first | (case measure => simp [intOf]; omega) | skip
  ·go_wp2_with fail
   go_ret
   exact ⟨rfl, hB⟩
set_option maxHeartbeats 400000 in
theorem eqIntG_zero (a a' : Option Addr) (c c' : Nat) (w : World) :
 Calls Tryd.prog 62 #[.slice a 0 c, .slice a' 0 c'] w fun e w' => e = .returned (.bool true) ∧ Below w.heap.size w w' := by
 go_enter Tryd.func62, Tryd.ntmps62
 go_wp2_with fail
 go_loopw [5] (fun i wr => i = .int .i64 0 ∧ w = wr) (fun i _ => 0)
 case atStart => exact ⟨rfl, by first | rfl | trivial⟩
 case round =>
  obtain ⟨rfl, rfl⟩ := hrel
  go_wp2_with fail
  go_ret
  exact ⟨rfl, Below.refl _ _⟩
theorem eqIntG_src (a a' : Option Addr) (n c c' : Nat) (f : Nat → Int) (w : World) (hn : n ≤ maxLen) (h : SrcC w a n (itG f)) (h' : SrcC w a' n (itG f)) :
 Calls Tryd.prog 62 #[.slice a n c, .slice a' n c'] w fun e w' => e = .returned (.bool true) ∧ Below w.heap.size w w' := by
 by_cases h0 : n = 0
 ·subst h0; exact eqIntG_zero a a' c c' w
 ·rcases h with h | ⟨b, off, rfl, hp⟩
  ·exact absurd h h0
  ·rcases h' with h | ⟨b', off', rfl, hp'⟩
   ·exact absurd h h0
   ·exact eqIntG_some b off b' off' n c c' f w hn hp hp'
set_option maxHeartbeats 8000000 in
theorem eqOp_same (k nd tt a b : Int) (tx : ByteArray) (p p' : Option Addr) (n c c' : Nat) (f : Nat → Int) (w : World) (hn : n ≤ maxLen) (h : SrcC w p n (itG f)) (h' : SrcC w p' n (itG f)) :
 Calls Tryd.prog 25 #[.agg #[.int .i64 k, .int .i64 nd, .int .i64 tt, .int .i64 a, .int .i64 b, .string tx, .slice p n c], .agg #[.int .i64 k, .int .i64 nd, .int .i64 tt, .int .i64 a, .int .i64 b, .string tx, .slice p' n c']] w fun e w' => e = .returned (.bool true) ∧ Below w.heap.size w w' := by
 have A0 := (Below.nw w (.cells #[.int .i64 k, .int .i64 nd, .int .i64 tt, .int .i64 a, .int .i64 b, .string tx, .slice p n c] 39)).alloc (by simp) (.cells #[.int .i64 k, .int .i64 nd, .int .i64 tt, .int .i64 a, .int .i64 b, .string tx, .slice p' n c'] 39)
 have C := eqIntG_src p p' n c c' f _ hn (h.below A0) (h'.below A0)
 clear h h'
 go_enter Tryd.func25, Tryd.ntmps25
 go_wp2_with fail
 refine C.mono ?_
 rintro e w1 ⟨rfl, hb⟩
 go_wp2_with fail
 go_ret
 exact ⟨rfl, A0.trans (hb.mono A0.size)⟩

end Go.Proofs.YtddjiamollfplaaDoor
