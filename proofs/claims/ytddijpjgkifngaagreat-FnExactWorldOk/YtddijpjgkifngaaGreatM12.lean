/- Tables: what the laws make of them. -/
import Derived.Test.YtddijpjgkifngaaGreatM7
namespace Go.Proofs.YtddijpjgkifngaaGreat
open Go.RowKit
set_option linter.unusedVariables false
set_option maxHeartbeats 4000000 in
theorem toTable_any (ep us : Int) (a : Option Addr) (n c : Nat) (M : Nat → KT) (w : World) (hn : n ≤ 1048576) (h : SrcC w a (n * 4) (MFAsk M)) :
 Calls Tryz.prog 141 #[.agg #[.int .i64 ep, .int .i64 us, .slice a n c]] w fun e w' => e = .returned (.agg #[.int .i64 ep, .int .i64 us, .slice (some ⟨w.heap.size + 3, 0, none⟩) n n]) ∧ RowF w' (w.heap.size + 3) 160 (n * 4) (n * 4) (MFAsk M) ∧ Below w.heap.size w w' := by
 have A0 := ((Below.nw w (.cells #[.int .i64 ep, .int .i64 us, .slice a n c] 137)).alloc (by simp) (.cells #[.int .i64 0, .int .i64 0, .slice none 0 0] 92)).alloc (by simp; omega) (.cells #[.int .i64 ep, .int .i64 us, .slice none 0 0] 92)
 have z3 : (((w.alloc (.cells #[.int .i64 ep, .int .i64 us, .slice a n c] 137)).alloc (.cells #[.int .i64 0, .int .i64 0, .slice none 0 0] 92)).alloc (.cells #[.int .i64 ep, .int .i64 us, .slice none 0 0] 92)).heap.size = w.heap.size + 3 := by simp
 have C := toAskS_any a n c M _ hn (h.below A0)
 rw [z3] at C
 have r0 : (((w.alloc (.cells #[.int .i64 ep, .int .i64 us, .slice a n c] 137)).alloc (.cells #[.int .i64 0, .int .i64 0, .slice none 0 0] 92)).alloc (.cells #[.int .i64 ep, .int .i64 us, .slice none 0 0] 92)).cell? ⟨w.heap.size + 1, 0, none⟩ = some (.int .i64 0) := by simp [go_sem]
 have f0 : (((w.alloc (.cells #[.int .i64 ep, .int .i64 us, .slice a n c] 137)).alloc (.cells #[.int .i64 0, .int .i64 0, .slice none 0 0] 92)).alloc (.cells #[.int .i64 ep, .int .i64 us, .slice none 0 0] 92)).frozen? ⟨w.heap.size + 1, 0, none⟩ = false := by simp [go_sem]
 have r1 : (((w.alloc (.cells #[.int .i64 ep, .int .i64 us, .slice a n c] 137)).alloc (.cells #[.int .i64 0, .int .i64 0, .slice none 0 0] 92)).alloc (.cells #[.int .i64 ep, .int .i64 us, .slice none 0 0] 92)).cell? ⟨w.heap.size + 1, 1, none⟩ = some (.int .i64 0) := by simp [go_sem]
 have f1 : (((w.alloc (.cells #[.int .i64 ep, .int .i64 us, .slice a n c] 137)).alloc (.cells #[.int .i64 0, .int .i64 0, .slice none 0 0] 92)).alloc (.cells #[.int .i64 ep, .int .i64 us, .slice none 0 0] 92)).frozen? ⟨w.heap.size + 1, 1, none⟩ = false := by simp [go_sem]
 have r2 : (((w.alloc (.cells #[.int .i64 ep, .int .i64 us, .slice a n c] 137)).alloc (.cells #[.int .i64 0, .int .i64 0, .slice none 0 0] 92)).alloc (.cells #[.int .i64 ep, .int .i64 us, .slice none 0 0] 92)).cell? ⟨w.heap.size + 1, 2, none⟩ = some (.slice none 0 0) := by simp [go_sem]
 have f2 : (((w.alloc (.cells #[.int .i64 ep, .int .i64 us, .slice a n c] 137)).alloc (.cells #[.int .i64 0, .int .i64 0, .slice none 0 0] 92)).alloc (.cells #[.int .i64 ep, .int .i64 us, .slice none 0 0] 92)).frozen? ⟨w.heap.size + 1, 2, none⟩ = false := by simp [go_sem]
 have o0 : (((w.alloc (.cells #[.int .i64 ep, .int .i64 us, .slice a n c] 137)).alloc (.cells #[.int .i64 0, .int .i64 0, .slice none 0 0] 92)).alloc (.cells #[.int .i64 ep, .int .i64 us, .slice none 0 0] 92)).cell? ⟨w.heap.size + 1 + 1, 0, none⟩ = some (.int .i64 ep) := by simp [go_sem]
 have o1 : (((w.alloc (.cells #[.int .i64 ep, .int .i64 us, .slice a n c] 137)).alloc (.cells #[.int .i64 0, .int .i64 0, .slice none 0 0] 92)).alloc (.cells #[.int .i64 ep, .int .i64 us, .slice none 0 0] 92)).cell? ⟨w.heap.size + 1 + 1, 1, none⟩ = some (.int .i64 us) := by simp [go_sem]
 have o2 : (((w.alloc (.cells #[.int .i64 ep, .int .i64 us, .slice a n c] 137)).alloc (.cells #[.int .i64 0, .int .i64 0, .slice none 0 0] 92)).alloc (.cells #[.int .i64 ep, .int .i64 us, .slice none 0 0] 92)).cell? ⟨w.heap.size + 1 + 1, 2, none⟩ = some (.slice none 0 0) := by simp [go_sem]
 have g2 : (((w.alloc (.cells #[.int .i64 ep, .int .i64 us, .slice a n c] 137)).alloc (.cells #[.int .i64 0, .int .i64 0, .slice none 0 0] 92)).alloc (.cells #[.int .i64 ep, .int .i64 us, .slice none 0 0] 92)).frozen? ⟨w.heap.size + 1 + 1, 2, none⟩ = false := by simp [go_sem]
 clear h
 go_enter Tryz.func141, Tryz.ntmps141
 go_wp2_with fail
 refine C.mono ?_
 rintro e w1 ⟨rfl, R1, hb⟩
 have l3 := R1.lt
 have q0 := (hb.cell (p := ⟨w.heap.size + 1, 0, none⟩) (by simp)).trans r0
 have k0 := (hb.frozen (p := ⟨w.heap.size + 1, 0, none⟩) (by simp)).trans f0
 have q1 := (hb.cell (p := ⟨w.heap.size + 1, 1, none⟩) (by simp)).trans r1
 have k1 := (hb.frozen (p := ⟨w.heap.size + 1, 1, none⟩) (by simp)).trans f1
 have q2 := (hb.cell (p := ⟨w.heap.size + 1, 2, none⟩) (by simp)).trans r2
 have k2 := (hb.frozen (p := ⟨w.heap.size + 1, 2, none⟩) (by simp)).trans f2
 have p0 := (hb.cell (p := ⟨w.heap.size + 1 + 1, 0, none⟩) (by simp)).trans o0
 have p1 := (hb.cell (p := ⟨w.heap.size + 1 + 1, 1, none⟩) (by simp)).trans o1
 have p2 := (hb.cell (p := ⟨w.heap.size + 1 + 1, 2, none⟩) (by simp)).trans o2
 have j2 := (hb.frozen (p := ⟨w.heap.size + 1 + 1, 2, none⟩) (by simp)).trans g2
 have B1 := A0.trans (hb.mono (by omega))
 have RF : RowF ((((w1.setCell ⟨w.heap.size + 1 + 1, 2, none⟩ (.slice (some ⟨w.heap.size + 3, 0, none⟩) n n)).setCell ⟨w.heap.size + 1, 0, none⟩ (.int .i64 ep)).setCell ⟨w.heap.size + 1, 1, none⟩ (.int .i64 us)).setCell ⟨w.heap.size + 1, 2, none⟩ (.slice (some ⟨w.heap.size + 3, 0, none⟩) n n)) (w.heap.size + 3) 160 (n * 4) (n * 4) (MFAsk M) := (((R1.setO (by omega) _ _).setO (by omega) _ _).setO (by omega) _ _).setO (by omega) _ _
 have BF : Below w.heap.size w ((((w1.setCell ⟨w.heap.size + 1 + 1, 2, none⟩ (.slice (some ⟨w.heap.size + 3, 0, none⟩) n n)).setCell ⟨w.heap.size + 1, 0, none⟩ (.int .i64 ep)).setCell ⟨w.heap.size + 1, 1, none⟩ (.int .i64 us)).setCell ⟨w.heap.size + 1, 2, none⟩ (.slice (some ⟨w.heap.size + 3, 0, none⟩) n n)) := (((B1.setCell (by simp; omega) _).setCell (by simp) _).setCell (by simp) _).setCell (by simp) _
 have s1 : w.heap.size + 1 < w1.heap.size := by omega
 have s2 : w.heap.size + 1 + 1 < w1.heap.size := by omega
 clear hb C r0 r1 r2 o0 o1 o2 f0 f1 f2 g2 A0 z3 R1 B1
 go_wp2_with fail
 exact bodyPost_ret (v := .agg #[.int .i64 ep, .int .i64 us, .slice (some ⟨w.heap.size + 3, 0, none⟩) n n]) (by simp (maxDischargeDepth := 6) [results, Tryz.results141, go_sem, *]) rfl ⟨rfl, RF, BF⟩
set_option maxHeartbeats 2000000 in
theorem eqTable_same (ep us : Int) (a a' : Option Addr) (n c c' : Nat) (M : Nat → KT) (w : World) (hn : n ≤ maxLen) (h : SrcC w a (n * 4) (MFAsk M)) (h' : SrcC w a' (n * 4) (MFAsk M)) :
 Calls Tryz.prog 155 #[.agg #[.int .i64 ep, .int .i64 us, .slice a n c], .agg #[.int .i64 ep, .int .i64 us, .slice a' n c']] w fun e w' => e = .returned (.bool true) ∧ Below w.heap.size w w' := by
 have A0 := (Below.nw w (.cells #[.int .i64 ep, .int .i64 us, .slice a n c] 92)).alloc (by simp) (.cells #[.int .i64 ep, .int .i64 us, .slice a' n c'] 92)
 have C := eqAskS_src a a' n c c' M _ hn (h.below A0) (h'.below A0)
 clear h h'
 go_enter Tryz.func155, Tryz.ntmps155
 go_wp2_with fail
 refine C.mono ?_
 rintro e w1 ⟨rfl, hb⟩
 go_wp2_with fail
 go_ret
 exact ⟨rfl, A0.trans (hb.mono A0.size)⟩
end Go.Proofs.YtddijpjgkifngaaGreat
