/- Nets: what the laws make of them. -/
import Derived.Test.YtjhnfnehdiapcaaN52
import Derived.WalkKit
import Derived.WalkSpells
import Derived.WalkLawsBesides
import Derived.Deep.RegionHeld
namespace Go.Proofs.Ytjhnfnehdiapcaa
open Go.RowKit
set_option linter.unusedVariables false
set_option maxHeartbeats 2000000 in
theorem szNet_any (nx : Int) (a : Option Addr) (n c : Nat) (M : Nat → FT) (w : World) (hm : n ≤ maxLen) (h : SrcC w a (n * 5) (MFFlight M)) (hs : ∀ i, i < n → ((M i).2.2.2.1).size ≤ maxLen) :
    Calls Try.prog 24 #[.agg #[.int .i64 nx, .slice a n c], .int .i64 1048576] w fun e w' => ∃ L : Int, e = .returned (.int .i64 L) ∧ (0 ≤ L → n ≤ 1048576 ∧ ∀ i, i < n → ((M i).2.2.2.1).size ≤ 1048576) ∧ Below w.heap.size w w' := by
  have A0 := Below.nw w (.cells #[.int .i64 nx, .slice a n c] 43)
  have C := szFlightS_any a n c M _ hm (h.below A0) hs
  clear h hs
  go_enter Try.func24, Try.ntmps24
  go_wp2_with fail
  refine C.mono ?_
  rintro e w1 ⟨L, rfl, hL, hb⟩
  have B1 := A0.trans (hb.mono A0.size)
  by_cases hneg : L < 0
  · clear hL
    go_wp2_with fail
    go_ret
    exact ⟨-1, rfl, fun h => absurd h (by decide), B1⟩
  · have HL : Hid (0 ≤ L → n ≤ 1048576 ∧ ∀ i, i < n → ((M i).2.2.2.1).size ≤ 1048576) := hL
    clear hL
    go_wp2_with fail
    go_ret
    exact ⟨L, rfl, HL.out, B1⟩
set_option maxHeartbeats 2000000 in
theorem toNet_any (nx : Int) (a : Option Addr) (n c : Nat) (M : Nat → FT) (w : World) (hn : n ≤ 1048576) (h : SrcC w a (n * 5) (MFFlight M)) :
    Calls Try.prog 26 #[.agg #[.int .i64 nx, .slice a n c]] w fun e w' => e = .returned (.agg #[.int .i64 nx, .slice (some ⟨w.heap.size + 3, 0, none⟩) n n]) ∧ RowF w' (w.heap.size + 3) 30 (n * 5) (n * 5) (MFFlight M) ∧ Below w.heap.size w w' := by
  have A0 := ((Below.nw w (.cells #[.int .i64 nx, .slice a n c] 43)).alloc (by simp) (.cells #[.int .i64 0, .slice none 0 0] 26)).alloc (by simp; omega) (.cells #[.int .i64 nx, .slice none 0 0] 26)
  have z3 : (((w.alloc (.cells #[.int .i64 nx, .slice a n c] 43)).alloc (.cells #[.int .i64 0, .slice none 0 0] 26)).alloc (.cells #[.int .i64 nx, .slice none 0 0] 26)).heap.size = w.heap.size + 3 := by simp
  have C := toFlightS_any a n c M _ hn (h.below A0)
  rw [z3] at C
  have r0 : (((w.alloc (.cells #[.int .i64 nx, .slice a n c] 43)).alloc (.cells #[.int .i64 0, .slice none 0 0] 26)).alloc (.cells #[.int .i64 nx, .slice none 0 0] 26)).cell? ⟨w.heap.size + 1, 0, none⟩ = some (.int .i64 0) := by simp [go_sem]
  have r1 : (((w.alloc (.cells #[.int .i64 nx, .slice a n c] 43)).alloc (.cells #[.int .i64 0, .slice none 0 0] 26)).alloc (.cells #[.int .i64 nx, .slice none 0 0] 26)).cell? ⟨w.heap.size + 1, 1, none⟩ = some (.slice none 0 0) := by simp [go_sem]
  have o0 : (((w.alloc (.cells #[.int .i64 nx, .slice a n c] 43)).alloc (.cells #[.int .i64 0, .slice none 0 0] 26)).alloc (.cells #[.int .i64 nx, .slice none 0 0] 26)).cell? ⟨w.heap.size + 1 + 1, 0, none⟩ = some (.int .i64 nx) := by simp [go_sem]
  have o1 : (((w.alloc (.cells #[.int .i64 nx, .slice a n c] 43)).alloc (.cells #[.int .i64 0, .slice none 0 0] 26)).alloc (.cells #[.int .i64 nx, .slice none 0 0] 26)).cell? ⟨w.heap.size + 1 + 1, 1, none⟩ = some (.slice none 0 0) := by simp [go_sem]
  have f0 : (((w.alloc (.cells #[.int .i64 nx, .slice a n c] 43)).alloc (.cells #[.int .i64 0, .slice none 0 0] 26)).alloc (.cells #[.int .i64 nx, .slice none 0 0] 26)).frozen? ⟨w.heap.size + 1, 0, none⟩ = false := by simp [go_sem]
  have f1 : (((w.alloc (.cells #[.int .i64 nx, .slice a n c] 43)).alloc (.cells #[.int .i64 0, .slice none 0 0] 26)).alloc (.cells #[.int .i64 nx, .slice none 0 0] 26)).frozen? ⟨w.heap.size + 1, 1, none⟩ = false := by simp [go_sem]
  have g1 : (((w.alloc (.cells #[.int .i64 nx, .slice a n c] 43)).alloc (.cells #[.int .i64 0, .slice none 0 0] 26)).alloc (.cells #[.int .i64 nx, .slice none 0 0] 26)).frozen? ⟨w.heap.size + 1 + 1, 1, none⟩ = false := by simp [go_sem]
  clear h
  go_enter Try.func26, Try.ntmps26
  go_wp2_with fail
  refine C.mono ?_
  rintro e w1 ⟨rfl, R1, hb⟩
  have l3 := R1.lt
  have q0 := (hb.cell (p := ⟨w.heap.size + 1, 0, none⟩) (by simp)).trans r0
  have q1 := (hb.cell (p := ⟨w.heap.size + 1, 1, none⟩) (by simp)).trans r1
  have p0 := (hb.cell (p := ⟨w.heap.size + 1 + 1, 0, none⟩) (by simp)).trans o0
  have p1 := (hb.cell (p := ⟨w.heap.size + 1 + 1, 1, none⟩) (by simp)).trans o1
  have k0 := (hb.frozen (p := ⟨w.heap.size + 1, 0, none⟩) (by simp)).trans f0
  have k1 := (hb.frozen (p := ⟨w.heap.size + 1, 1, none⟩) (by simp)).trans f1
  have j1 := (hb.frozen (p := ⟨w.heap.size + 1 + 1, 1, none⟩) (by simp)).trans g1
  have B1 := A0.trans (hb.mono (by omega))
  have RF : RowF (((w1.setCell ⟨w.heap.size + 1 + 1, 1, none⟩ (.slice (some ⟨w.heap.size + 3, 0, none⟩) n n)).setCell ⟨w.heap.size + 1, 0, none⟩ (.int .i64 nx)).setCell ⟨w.heap.size + 1, 1, none⟩ (.slice (some ⟨w.heap.size + 3, 0, none⟩) n n)) (w.heap.size + 3) 30 (n * 5) (n * 5) (MFFlight M) := ((R1.setO (by omega) _ _).setO (by omega) _ _).setO (by omega) _ _
  have BF : Below w.heap.size w (((w1.setCell ⟨w.heap.size + 1 + 1, 1, none⟩ (.slice (some ⟨w.heap.size + 3, 0, none⟩) n n)).setCell ⟨w.heap.size + 1, 0, none⟩ (.int .i64 nx)).setCell ⟨w.heap.size + 1, 1, none⟩ (.slice (some ⟨w.heap.size + 3, 0, none⟩) n n)) := ((B1.setCell (by simp; omega) _).setCell (by simp) _).setCell (by simp) _
  have s1 : w.heap.size + 1 < w1.heap.size := by omega
  have s2 : w.heap.size + 1 + 1 < w1.heap.size := by omega
  clear hb C r0 r1 o0 o1 f0 f1 g1 A0 z3 R1 B1
  go_wp2_with fail
  exact bodyPost_ret (v := .agg #[.int .i64 nx, .slice (some ⟨w.heap.size + 3, 0, none⟩) n n]) (by simp (maxDischargeDepth := 6) [results, Try.results26, go_sem, *]) rfl ⟨rfl, RF, BF⟩
set_option maxHeartbeats 2000000 in
theorem eqNet_same (nx : Int) (a a' : Option Addr) (n c c' : Nat) (M : Nat → FT) (w : World) (hn : n ≤ maxLen) (h : SrcC w a (n * 5) (MFFlight M)) (h' : SrcC w a' (n * 5) (MFFlight M)) :
    Calls Try.prog 28 #[.agg #[.int .i64 nx, .slice a n c], .agg #[.int .i64 nx, .slice a' n c']] w fun e w' => e = .returned (.bool true) ∧ Below w.heap.size w w' := by
  have A0 := (Below.nw w (.cells #[.int .i64 nx, .slice a n c] 26)).alloc (by simp) (.cells #[.int .i64 nx, .slice a' n c'] 26)
  have C := eqFlightS_src a a' n c c' M _ hn (h.below A0) (h'.below A0)
  clear h h'
  go_enter Try.func28, Try.ntmps28
  go_wp2_with fail
  refine C.mono ?_
  rintro e w1 ⟨rfl, hb⟩
  go_wp2_with fail
  go_ret
  exact ⟨rfl, A0.trans (hb.mono A0.size)⟩
set_option maxHeartbeats 2000000 in
theorem markNet_row (nx : Int) (b N n c : Nat) (w : World) (hn : n ≤ 1048576) (hN : n * 5 ≤ N) (h : RowF w b 30 N 0 mkFlight) :
    Calls Try.prog 29 #[.agg #[.int .i64 nx, .slice (some ⟨b, 0, none⟩) n c], .int .i64 1] w fun e w' => e = .returned (.int .i64 (1 + (n : Int) * 5)) ∧ RowF w' b 30 N (n * 5) mkFlight ∧ But b w w' := by
  have A0 := Below.nw w (.cells #[.int .i64 nx, .slice (some ⟨b, 0, none⟩) n c] 26)
  have C := markFlightS_row b N n c _ hn hN (RowF.below' A0 h)
  clear h
  go_enter Try.func29, Try.ntmps29
  go_wp2_with fail
  refine C.mono ?_
  rintro e w1 ⟨rfl, R1, hb⟩
  go_wp2_with fail
  go_ret
  exact ⟨rfl, R1, (But.of_below A0).trans hb⟩
set_option maxHeartbeats 2000000 in
theorem markNet_any (nx : Int) (a : Option Addr) (n c base : Nat) (xs : List Value) (w : World) (hn : n ≤ 1048576) (hb : base ≤ w.heap.size) (h : w.ownsRow base 30 5 (.slice a n c) n xs) :
    Calls Try.prog 29 #[.agg #[.int .i64 nx, .slice a n c], .int .i64 1] w fun e w' => e = .returned (.int .i64 (1 + (n : Int) * 5)) ∧ SrcC w' a (n * 5) mkFlight ∧ Below base w w' := by
  have A0 := Below.nw w (.cells #[.int .i64 nx, .slice a n c] 26)
  have C := markFlightS_any a n c base xs _ hn (Nat.le_trans hb A0.size) (World.ownsRow.alloc h _)
  clear h
  go_enter Try.func29, Try.ntmps29
  go_wp2_with fail
  refine C.mono ?_
  rintro e w1 ⟨rfl, R1, hb'⟩
  go_wp2_with fail
  go_ret
  exact ⟨rfl, R1, (A0.mono hb).trans hb'⟩
set_option maxHeartbeats 2000000 in
theorem heldNet_any (nx : Int) (a : Option Addr) (n c : Nat) (w : World) (hn : n ≤ 1048576) (h : SrcC w a (n * 5) mkFlight) :
    Calls Try.prog 30 #[.agg #[.int .i64 nx, .slice a n c], .int .i64 1] w fun e w' => e = .returned (.int .i64 (1 + (n : Int) * 5)) ∧ Below w.heap.size w w' := by
  have A0 := Below.nw w (.cells #[.int .i64 nx, .slice a n c] 26)
  have C := heldFlightS_any a n c _ hn (h.below A0)
  have hk : ¬ (1 + (n : Int) * 5 < 0) := by omega
  clear h
  go_enter Try.func30, Try.ntmps30
  go_wp2_with fail
  refine C.mono ?_
  rintro e w1 ⟨rfl, hb⟩
  go_wp2_with fail
  go_ret
  exact ⟨rfl, A0.trans (hb.mono A0.size)⟩
end Go.Proofs.Ytjhnfnehdiapcaa
