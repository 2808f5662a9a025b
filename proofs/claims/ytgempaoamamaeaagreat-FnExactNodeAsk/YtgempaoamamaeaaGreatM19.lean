/- Plans: what the laws make of them. What the laws make of a configuration. What the laws ask of a configuration: how great it is, whether two are the same. The library's contracts of maps.Keys, slices.Sorted and slices.Sort at this program. -/
import Derived.Shelf.SlIterI.Nil
import Derived.Shelf.SortM.Plain
import Derived.Shelf.SortM.SortNone
import Derived.Test.YtgempaoamamaeaaGreatProg
import Derived.Test.YtgempaoamamaeaaGreatM18
namespace Go.Proofs.YtgempaoamamaeaaGreat
open Go.RowKit
set_option linter.unusedVariables false
set_option maxHeartbeats 4000000 in
theorem toPlan_any (ep us : Int) (a : Option Addr) (n c : Nat) (M : Nat → SlT) (w : World) (hn : n ≤ 1048576) (h : SrcC w a (n * 2) (MFSlot M)) :
    Calls Tryz.prog 35 #[.agg #[.int .i64 ep, .int .i64 us, .slice a n c]] w fun e w' => e = .returned (.agg #[.int .i64 ep, .int .i64 us, .slice (some ⟨w.heap.size + 3, 0, none⟩) n n]) ∧ RowF w' (w.heap.size + 3) 201 (n * 2) (n * 2) (MFSlot M) ∧ Below w.heap.size w w' := by
  have A0 := ((Below.nw w (.cells #[.int .i64 ep, .int .i64 us, .slice a n c] 26)).alloc (by simp) (.cells #[.int .i64 0, .int .i64 0, .slice none 0 0] 65)).alloc (by simp; omega) (.cells #[.int .i64 ep, .int .i64 us, .slice none 0 0] 65)
  have z3 : (((w.alloc (.cells #[.int .i64 ep, .int .i64 us, .slice a n c] 26)).alloc (.cells #[.int .i64 0, .int .i64 0, .slice none 0 0] 65)).alloc (.cells #[.int .i64 ep, .int .i64 us, .slice none 0 0] 65)).heap.size = w.heap.size + 3 := by simp
  have C := toSlotS_any a n c M _ hn (h.below A0)
  rw [z3] at C
  have r0 : (((w.alloc (.cells #[.int .i64 ep, .int .i64 us, .slice a n c] 26)).alloc (.cells #[.int .i64 0, .int .i64 0, .slice none 0 0] 65)).alloc (.cells #[.int .i64 ep, .int .i64 us, .slice none 0 0] 65)).cell? ⟨w.heap.size + 1, 0, none⟩ = some (.int .i64 0) := by simp [go_sem]
  have f0 : (((w.alloc (.cells #[.int .i64 ep, .int .i64 us, .slice a n c] 26)).alloc (.cells #[.int .i64 0, .int .i64 0, .slice none 0 0] 65)).alloc (.cells #[.int .i64 ep, .int .i64 us, .slice none 0 0] 65)).frozen? ⟨w.heap.size + 1, 0, none⟩ = false := by simp [go_sem]
  have r1 : (((w.alloc (.cells #[.int .i64 ep, .int .i64 us, .slice a n c] 26)).alloc (.cells #[.int .i64 0, .int .i64 0, .slice none 0 0] 65)).alloc (.cells #[.int .i64 ep, .int .i64 us, .slice none 0 0] 65)).cell? ⟨w.heap.size + 1, 1, none⟩ = some (.int .i64 0) := by simp [go_sem]
  have f1 : (((w.alloc (.cells #[.int .i64 ep, .int .i64 us, .slice a n c] 26)).alloc (.cells #[.int .i64 0, .int .i64 0, .slice none 0 0] 65)).alloc (.cells #[.int .i64 ep, .int .i64 us, .slice none 0 0] 65)).frozen? ⟨w.heap.size + 1, 1, none⟩ = false := by simp [go_sem]
  have r2 : (((w.alloc (.cells #[.int .i64 ep, .int .i64 us, .slice a n c] 26)).alloc (.cells #[.int .i64 0, .int .i64 0, .slice none 0 0] 65)).alloc (.cells #[.int .i64 ep, .int .i64 us, .slice none 0 0] 65)).cell? ⟨w.heap.size + 1, 2, none⟩ = some (.slice none 0 0) := by simp [go_sem]
  have f2 : (((w.alloc (.cells #[.int .i64 ep, .int .i64 us, .slice a n c] 26)).alloc (.cells #[.int .i64 0, .int .i64 0, .slice none 0 0] 65)).alloc (.cells #[.int .i64 ep, .int .i64 us, .slice none 0 0] 65)).frozen? ⟨w.heap.size + 1, 2, none⟩ = false := by simp [go_sem]
  have o0 : (((w.alloc (.cells #[.int .i64 ep, .int .i64 us, .slice a n c] 26)).alloc (.cells #[.int .i64 0, .int .i64 0, .slice none 0 0] 65)).alloc (.cells #[.int .i64 ep, .int .i64 us, .slice none 0 0] 65)).cell? ⟨w.heap.size + 1 + 1, 0, none⟩ = some (.int .i64 ep) := by simp [go_sem]
  have o1 : (((w.alloc (.cells #[.int .i64 ep, .int .i64 us, .slice a n c] 26)).alloc (.cells #[.int .i64 0, .int .i64 0, .slice none 0 0] 65)).alloc (.cells #[.int .i64 ep, .int .i64 us, .slice none 0 0] 65)).cell? ⟨w.heap.size + 1 + 1, 1, none⟩ = some (.int .i64 us) := by simp [go_sem]
  have o2 : (((w.alloc (.cells #[.int .i64 ep, .int .i64 us, .slice a n c] 26)).alloc (.cells #[.int .i64 0, .int .i64 0, .slice none 0 0] 65)).alloc (.cells #[.int .i64 ep, .int .i64 us, .slice none 0 0] 65)).cell? ⟨w.heap.size + 1 + 1, 2, none⟩ = some (.slice none 0 0) := by simp [go_sem]
  have g2 : (((w.alloc (.cells #[.int .i64 ep, .int .i64 us, .slice a n c] 26)).alloc (.cells #[.int .i64 0, .int .i64 0, .slice none 0 0] 65)).alloc (.cells #[.int .i64 ep, .int .i64 us, .slice none 0 0] 65)).frozen? ⟨w.heap.size + 1 + 1, 2, none⟩ = false := by simp [go_sem]
  clear h
  go_enter Tryz.func35, Tryz.ntmps35
  go_wp2_with fail
  refine C.mono ?_
  rintro e w1 ⟨rfl, R1, hb⟩
  have l3 := R1.lt
  have q0 := (hb.cell (p := ⟨w.heap.size + 1, 0, none⟩) (by simp)).trans r0
  have k0 := (hb.frozen (p := ⟨w.heap.size + 1, 0, none⟩) (by simp)).trans f0
  have q1 := (hb.cell (p := ⟨w.heap.size + 1, 1, none⟩) (by simp)).trans r1
  have k1 := (hb.frozen (p := ⟨w.heap.size + 1, 1, none⟩) (by simp)).trans f1
  have q2 := (hb.cell (p := ⟨w.heap.size + 1, 2, none⟩) (by simp)).trans r2
  have k2 := (hb.frozen (p := ⟨w.heap.size + 1, 2, none⟩) (by simp)).trans f2
  have p0 := (hb.cell (p := ⟨w.heap.size + 1 + 1, 0, none⟩) (by simp)).trans o0
  have p1 := (hb.cell (p := ⟨w.heap.size + 1 + 1, 1, none⟩) (by simp)).trans o1
  have p2 := (hb.cell (p := ⟨w.heap.size + 1 + 1, 2, none⟩) (by simp)).trans o2
  have j2 := (hb.frozen (p := ⟨w.heap.size + 1 + 1, 2, none⟩) (by simp)).trans g2
  have B1 := A0.trans (hb.mono (by omega))
  have RF : RowF ((((w1.setCell ⟨w.heap.size + 1 + 1, 2, none⟩ (.slice (some ⟨w.heap.size + 3, 0, none⟩) n n)).setCell ⟨w.heap.size + 1, 0, none⟩ (.int .i64 ep)).setCell ⟨w.heap.size + 1, 1, none⟩ (.int .i64 us)).setCell ⟨w.heap.size + 1, 2, none⟩ (.slice (some ⟨w.heap.size + 3, 0, none⟩) n n)) (w.heap.size + 3) 201 (n * 2) (n * 2) (MFSlot M) := (((R1.setO (by omega) _ _).setO (by omega) _ _).setO (by omega) _ _).setO (by omega) _ _
  have BF : Below w.heap.size w ((((w1.setCell ⟨w.heap.size + 1 + 1, 2, none⟩ (.slice (some ⟨w.heap.size + 3, 0, none⟩) n n)).setCell ⟨w.heap.size + 1, 0, none⟩ (.int .i64 ep)).setCell ⟨w.heap.size + 1, 1, none⟩ (.int .i64 us)).setCell ⟨w.heap.size + 1, 2, none⟩ (.slice (some ⟨w.heap.size + 3, 0, none⟩) n n)) := (((B1.setCell (by simp; omega) _).setCell (by simp) _).setCell (by simp) _).setCell (by simp) _
  have s1 : w.heap.size + 1 < w1.heap.size := by omega
  have s2 : w.heap.size + 1 + 1 < w1.heap.size := by omega
  clear hb C r0 r1 r2 o0 o1 o2 f0 f1 f2 g2 A0 z3 R1 B1
  go_wp2_with fail
  exact bodyPost_ret (v := .agg #[.int .i64 ep, .int .i64 us, .slice (some ⟨w.heap.size + 3, 0, none⟩) n n]) (by simp (maxDischargeDepth := 6) [results, Tryz.results35, go_sem, *]) rfl ⟨rfl, RF, BF⟩
set_option maxHeartbeats 2000000 in
theorem eqPlan_same (ep us : Int) (a a' : Option Addr) (n c c' : Nat) (M : Nat → SlT) (w : World) (hn : n ≤ maxLen) (h : SrcC w a (n * 2) (MFSlot M)) (h' : SrcC w a' (n * 2) (MFSlot M)) :
    Calls Tryz.prog 54 #[.agg #[.int .i64 ep, .int .i64 us, .slice a n c], .agg #[.int .i64 ep, .int .i64 us, .slice a' n c']] w fun e w' => e = .returned (.bool true) ∧ Below w.heap.size w w' := by
  have A0 := (Below.nw w (.cells #[.int .i64 ep, .int .i64 us, .slice a n c] 65)).alloc (by simp) (.cells #[.int .i64 ep, .int .i64 us, .slice a' n c'] 65)
  have C := eqSlotS_src a a' n c c' M _ hn (h.below A0) (h'.below A0)
  clear h h'
  go_enter Tryz.func54, Tryz.ntmps54
  go_wp2_with fail
  refine C.mono ?_
  rintro e w1 ⟨rfl, hb⟩
  go_wp2_with fail
  go_ret
  exact ⟨rfl, A0.trans (hb.mono A0.size)⟩
end Go.Proofs.YtgempaoamamaeaaGreat
namespace Go.Proofs.YtgempaoamamaeaaGreat
open Go.RowKit
set_option linter.unusedVariables false
set_option maxRecDepth 100000 in
set_option maxHeartbeats 8000000 in
theorem toCfg_any (dn dd li le pt ag ke lg s g : Int) (p : Option Addr) (m d : Nat) (PM : Nat → SlT) (w : World) (hpn : m ≤ 1048576) (hp : SrcC w p (m * 2) (MFSlot PM)) :
    Calls Tryz.prog 9 #[.agg #[.int .i64 dn, .int .i64 dd, .int .i64 li, .int .i64 le, .int .i64 pt, .int .i64 ag, .int .i64 ke, .int .i64 lg, .int .i64 s, .int .i64 g, .slice p m d]] w fun e w' => ∃ jx, e = .returned (.agg #[.int .i64 dn, .int .i64 dd, .int .i64 li, .int .i64 le, .int .i64 pt, .int .i64 ag, .int .i64 ke, .int .i64 lg, .int .i64 s, .int .i64 g, .slice (some ⟨jx, 0, none⟩) m m]) ∧ w.heap.size ≤ jx ∧ RowF w' jx 201 (m * 2) (m * 2) (MFSlot PM) ∧ Below w.heap.size w w' := by
  have A0 := Below.nw w (.cells #[.int .i64 dn, .int .i64 dd, .int .i64 li, .int .i64 le, .int .i64 pt, .int .i64 ag, .int .i64 ke, .int .i64 lg, .int .i64 s, .int .i64 g, .slice p m d] 28)
  have A1 := Below.nw (w.alloc (.cells #[.int .i64 dn, .int .i64 dd, .int .i64 li, .int .i64 le, .int .i64 pt, .int .i64 ag, .int .i64 ke, .int .i64 lg, .int .i64 s, .int .i64 g, .slice p m d] 28)) (.cells #[.int .i64 0, .int .i64 0, .int .i64 0, .int .i64 0, .int .i64 0, .int .i64 0, .int .i64 0, .int .i64 0, .int .i64 0, .int .i64 0, .slice none 0 0] 67)
  have A2 := Below.nw ((w.alloc (.cells #[.int .i64 dn, .int .i64 dd, .int .i64 li, .int .i64 le, .int .i64 pt, .int .i64 ag, .int .i64 ke, .int .i64 lg, .int .i64 s, .int .i64 g, .slice p m d] 28)).alloc (.cells #[.int .i64 0, .int .i64 0, .int .i64 0, .int .i64 0, .int .i64 0, .int .i64 0, .int .i64 0, .int .i64 0, .int .i64 0, .int .i64 0, .slice none 0 0] 67)) (.cells #[.int .i64 0, .int .i64 0, .int .i64 0, .int .i64 0, .int .i64 0, .int .i64 0, .int .i64 0, .int .i64 0, .int .i64 0, .int .i64 0, .slice none 0 0] 67)
  have C := ((Cx11.new w (.int .i64 dn) (.int .i64 dd) (.int .i64 li) (.int .i64 le) (.int .i64 pt) (.int .i64 ag) (.int .i64 ke) (.int .i64 lg) (.int .i64 s) (.int .i64 g) (.slice p m d) 28).below A1).below A2
  have R := (Cx11.new (w.alloc (.cells #[.int .i64 dn, .int .i64 dd, .int .i64 li, .int .i64 le, .int .i64 pt, .int .i64 ag, .int .i64 ke, .int .i64 lg, .int .i64 s, .int .i64 g, .slice p m d] 28)) (.int .i64 0) (.int .i64 0) (.int .i64 0) (.int .i64 0) (.int .i64 0) (.int .i64 0) (.int .i64 0) (.int .i64 0) (.int .i64 0) (.int .i64 0) (.slice none 0 0) 67).below A2
  have X := Cx11.new ((w.alloc (.cells #[.int .i64 dn, .int .i64 dd, .int .i64 li, .int .i64 le, .int .i64 pt, .int .i64 ag, .int .i64 ke, .int .i64 lg, .int .i64 s, .int .i64 g, .slice p m d] 28)).alloc (.cells #[.int .i64 0, .int .i64 0, .int .i64 0, .int .i64 0, .int .i64 0, .int .i64 0, .int .i64 0, .int .i64 0, .int .i64 0, .int .i64 0, .slice none 0 0] 67)) (.int .i64 0) (.int .i64 0) (.int .i64 0) (.int .i64 0) (.int .i64 0) (.int .i64 0) (.int .i64 0) (.int .i64 0) (.int .i64 0) (.int .i64 0) (.slice none 0 0) 67
  have B := (A0.trans (A1.mono A0.size)).trans (A2.mono (A0.trans (A1.mono A0.size)).size)
  have hj : w.heap.size + 3 ≤ (((w.alloc (.cells #[.int .i64 dn, .int .i64 dd, .int .i64 li, .int .i64 le, .int .i64 pt, .int .i64 ag, .int .i64 ke, .int .i64 lg, .int .i64 s, .int .i64 g, .slice p m d] 28)).alloc (.cells #[.int .i64 0, .int .i64 0, .int .i64 0, .int .i64 0, .int .i64 0, .int .i64 0, .int .i64 0, .int .i64 0, .int .i64 0, .int .i64 0, .slice none 0 0] 67)).alloc (.cells #[.int .i64 0, .int .i64 0, .int .i64 0, .int .i64 0, .int .i64 0, .int .i64 0, .int .i64 0, .int .i64 0, .int .i64 0, .int .i64 0, .slice none 0 0] 67)).heap.size := by simp
  simp only [World.size_alloc] at R X
  clear A0 A1 A2
  have HP : Hid (SrcC w p (m * 2) (MFSlot PM)) := hp
  have C1 := fun w' => toDrift_any dn dd w'
  have C2 := fun (w' : World) (h : Below w.heap.size w w') => toPlan_any s g p m d PM w' hpn (HP.out.below h)
  clear hp
  go_enter Tryz.func9, Tryz.ntmps9
  go_upto_region 2 with fail
  generalize ((w.alloc (.cells #[.int .i64 dn, .int .i64 dd, .int .i64 li, .int .i64 le, .int .i64 pt, .int .i64 ag, .int .i64 ke, .int .i64 lg, .int .i64 s, .int .i64 g, .slice p m d] 28)).alloc (.cells #[.int .i64 0, .int .i64 0, .int .i64 0, .int .i64 0, .int .i64 0, .int .i64 0, .int .i64 0, .int .i64 0, .int .i64 0, .int .i64 0, .slice none 0 0] 67)).alloc (.cells #[.int .i64 0, .int .i64 0, .int .i64 0, .int .i64 0, .int .i64 0, .int .i64 0, .int .i64 0, .int .i64 0, .int .i64 0, .int .i64 0, .slice none 0 0] 67) = v at *
  obtain ⟨x0, x1, x2, x3, x4, x5, x6, x7, x8, x9, x10, x11, y0, y1, y2, y3, y4, y5, y6, y7, y8, y9, y10⟩ := id C
  go_wp2_with fail
  refine (C1 _).mono ?_
  clear C1
  rintro e v1 ⟨rfl, hb⟩
  clear x0 x1 x2 x3 x4 x5 x6 x7 x8 x9 x10 x11 y0 y1 y2 y3 y4 y5 y6 y7 y8 y9 y10
  replace B := B.trans (hb.mono B.size)
  replace C := C.below hb
  replace R := R.below hb
  replace X := X.below hb
  replace hj := Nat.le_trans hj hb.size
  clear hb
  obtain ⟨x0, x1, x2, x3, x4, x5, x6, x7, x8, x9, x10, x11, y0, y1, y2, y3, y4, y5, y6, y7, y8, y9, y10⟩ := id C
  obtain ⟨u0, u1, u2, u3, u4, u5, u6, u7, u8, u9, u10, u11, t0, t1, t2, t3, t4, t5, t6, t7, t8, t9, t10⟩ := id X
  go_upto_region 3 with fail
  clear x0 x1 x2 x3 x4 x5 x6 x7 x8 x9 x10 x11 y0 y1 y2 y3 y4 y5 y6 y7 y8 y9 y10
  clear u0 u1 u2 u3 u4 u5 u6 u7 u8 u9 u10 u11 t0 t1 t2 t3 t4 t5 t6 t7 t8 t9 t10
  replace X := ((X.set0 (.int .i64 dn)).set1 (.int .i64 dd))
  replace C := ((C.setO (j := w.heap.size + 2) (by omega) 0 (.int .i64 dn)).setO (j := w.heap.size + 2) (by omega) 1 (.int .i64 dd))
  replace R := ((R.setO (j := w.heap.size + 2) (by omega) 0 (.int .i64 dn)).setO (j := w.heap.size + 2) (by omega) 1 (.int .i64 dd))
  replace B := ((B.setCell (p := ⟨w.heap.size + 2, 0, none⟩) (by simp; try omega) (.int .i64 dn)).setCell (p := ⟨w.heap.size + 2, 1, none⟩) (by simp; try omega) (.int .i64 dd))
  replace hj : w.heap.size + 3 ≤ (((v1).setCell ⟨w.heap.size + 2, 0, none⟩ (.int .i64 dn)).setCell ⟨w.heap.size + 2, 1, none⟩ (.int .i64 dd)).heap.size := by simpa using hj
  generalize ((v1).setCell ⟨w.heap.size + 2, 0, none⟩ (.int .i64 dn)).setCell ⟨w.heap.size + 2, 1, none⟩ (.int .i64 dd) = w0 at *
  obtain ⟨x0, x1, x2, x3, x4, x5, x6, x7, x8, x9, x10, x11, y0, y1, y2, y3, y4, y5, y6, y7, y8, y9, y10⟩ := id C
  obtain ⟨u0, u1, u2, u3, u4, u5, u6, u7, u8, u9, u10, u11, t0, t1, t2, t3, t4, t5, t6, t7, t8, t9, t10⟩ := id X
  go_upto_region 4 with fail
  clear x0 x1 x2 x3 x4 x5 x6 x7 x8 x9 x10 x11 y0 y1 y2 y3 y4 y5 y6 y7 y8 y9 y10
  clear u0 u1 u2 u3 u4 u5 u6 u7 u8 u9 u10 u11 t0 t1 t2 t3 t4 t5 t6 t7 t8 t9 t10
  replace X := (X.set2 (.int .i64 li))
  replace C := (C.setO (j := w.heap.size + 2) (by omega) 2 (.int .i64 li))
  replace R := (R.setO (j := w.heap.size + 2) (by omega) 2 (.int .i64 li))
  replace B := (B.setCell (p := ⟨w.heap.size + 2, 2, none⟩) (by simp; try omega) (.int .i64 li))
  replace hj : w.heap.size + 3 ≤ ((w0).setCell ⟨w.heap.size + 2, 2, none⟩ (.int .i64 li)).heap.size := by simpa using hj
  generalize (w0).setCell ⟨w.heap.size + 2, 2, none⟩ (.int .i64 li) = w1 at *
  obtain ⟨x0, x1, x2, x3, x4, x5, x6, x7, x8, x9, x10, x11, y0, y1, y2, y3, y4, y5, y6, y7, y8, y9, y10⟩ := id C
  obtain ⟨u0, u1, u2, u3, u4, u5, u6, u7, u8, u9, u10, u11, t0, t1, t2, t3, t4, t5, t6, t7, t8, t9, t10⟩ := id X
  go_upto_region 5 with fail
  clear x0 x1 x2 x3 x4 x5 x6 x7 x8 x9 x10 x11 y0 y1 y2 y3 y4 y5 y6 y7 y8 y9 y10
  clear u0 u1 u2 u3 u4 u5 u6 u7 u8 u9 u10 u11 t0 t1 t2 t3 t4 t5 t6 t7 t8 t9 t10
  replace X := (X.set3 (.int .i64 le))
  replace C := (C.setO (j := w.heap.size + 2) (by omega) 3 (.int .i64 le))
  replace R := (R.setO (j := w.heap.size + 2) (by omega) 3 (.int .i64 le))
  replace B := (B.setCell (p := ⟨w.heap.size + 2, 3, none⟩) (by simp; try omega) (.int .i64 le))
  replace hj : w.heap.size + 3 ≤ ((w1).setCell ⟨w.heap.size + 2, 3, none⟩ (.int .i64 le)).heap.size := by simpa using hj
  generalize (w1).setCell ⟨w.heap.size + 2, 3, none⟩ (.int .i64 le) = w2 at *
  obtain ⟨x0, x1, x2, x3, x4, x5, x6, x7, x8, x9, x10, x11, y0, y1, y2, y3, y4, y5, y6, y7, y8, y9, y10⟩ := id C
  obtain ⟨u0, u1, u2, u3, u4, u5, u6, u7, u8, u9, u10, u11, t0, t1, t2, t3, t4, t5, t6, t7, t8, t9, t10⟩ := id X
  go_upto_region 6 with fail
  clear x0 x1 x2 x3 x4 x5 x6 x7 x8 x9 x10 x11 y0 y1 y2 y3 y4 y5 y6 y7 y8 y9 y10
  clear u0 u1 u2 u3 u4 u5 u6 u7 u8 u9 u10 u11 t0 t1 t2 t3 t4 t5 t6 t7 t8 t9 t10
  replace X := (X.set4 (.int .i64 pt))
  replace C := (C.setO (j := w.heap.size + 2) (by omega) 4 (.int .i64 pt))
  replace R := (R.setO (j := w.heap.size + 2) (by omega) 4 (.int .i64 pt))
  replace B := (B.setCell (p := ⟨w.heap.size + 2, 4, none⟩) (by simp; try omega) (.int .i64 pt))
  replace hj : w.heap.size + 3 ≤ ((w2).setCell ⟨w.heap.size + 2, 4, none⟩ (.int .i64 pt)).heap.size := by simpa using hj
  generalize (w2).setCell ⟨w.heap.size + 2, 4, none⟩ (.int .i64 pt) = w3 at *
  obtain ⟨x0, x1, x2, x3, x4, x5, x6, x7, x8, x9, x10, x11, y0, y1, y2, y3, y4, y5, y6, y7, y8, y9, y10⟩ := id C
  obtain ⟨u0, u1, u2, u3, u4, u5, u6, u7, u8, u9, u10, u11, t0, t1, t2, t3, t4, t5, t6, t7, t8, t9, t10⟩ := id X
  go_upto_region 7 with fail
  clear x0 x1 x2 x3 x4 x5 x6 x7 x8 x9 x10 x11 y0 y1 y2 y3 y4 y5 y6 y7 y8 y9 y10
  clear u0 u1 u2 u3 u4 u5 u6 u7 u8 u9 u10 u11 t0 t1 t2 t3 t4 t5 t6 t7 t8 t9 t10
  replace X := (X.set5 (.int .i64 ag))
  replace C := (C.setO (j := w.heap.size + 2) (by omega) 5 (.int .i64 ag))
  replace R := (R.setO (j := w.heap.size + 2) (by omega) 5 (.int .i64 ag))
  replace B := (B.setCell (p := ⟨w.heap.size + 2, 5, none⟩) (by simp; try omega) (.int .i64 ag))
  replace hj : w.heap.size + 3 ≤ ((w3).setCell ⟨w.heap.size + 2, 5, none⟩ (.int .i64 ag)).heap.size := by simpa using hj
  generalize (w3).setCell ⟨w.heap.size + 2, 5, none⟩ (.int .i64 ag) = w4 at *
  obtain ⟨x0, x1, x2, x3, x4, x5, x6, x7, x8, x9, x10, x11, y0, y1, y2, y3, y4, y5, y6, y7, y8, y9, y10⟩ := id C
  obtain ⟨u0, u1, u2, u3, u4, u5, u6, u7, u8, u9, u10, u11, t0, t1, t2, t3, t4, t5, t6, t7, t8, t9, t10⟩ := id X
  go_upto_region 8 with fail
  clear x0 x1 x2 x3 x4 x5 x6 x7 x8 x9 x10 x11 y0 y1 y2 y3 y4 y5 y6 y7 y8 y9 y10
  clear u0 u1 u2 u3 u4 u5 u6 u7 u8 u9 u10 u11 t0 t1 t2 t3 t4 t5 t6 t7 t8 t9 t10
  replace X := (X.set6 (.int .i64 ke))
  replace C := (C.setO (j := w.heap.size + 2) (by omega) 6 (.int .i64 ke))
  replace R := (R.setO (j := w.heap.size + 2) (by omega) 6 (.int .i64 ke))
  replace B := (B.setCell (p := ⟨w.heap.size + 2, 6, none⟩) (by simp; try omega) (.int .i64 ke))
  replace hj : w.heap.size + 3 ≤ ((w4).setCell ⟨w.heap.size + 2, 6, none⟩ (.int .i64 ke)).heap.size := by simpa using hj
  generalize (w4).setCell ⟨w.heap.size + 2, 6, none⟩ (.int .i64 ke) = w5 at *
  obtain ⟨x0, x1, x2, x3, x4, x5, x6, x7, x8, x9, x10, x11, y0, y1, y2, y3, y4, y5, y6, y7, y8, y9, y10⟩ := id C
  obtain ⟨u0, u1, u2, u3, u4, u5, u6, u7, u8, u9, u10, u11, t0, t1, t2, t3, t4, t5, t6, t7, t8, t9, t10⟩ := id X
  go_upto_region 9 with fail
  clear x0 x1 x2 x3 x4 x5 x6 x7 x8 x9 x10 x11 y0 y1 y2 y3 y4 y5 y6 y7 y8 y9 y10
  clear u0 u1 u2 u3 u4 u5 u6 u7 u8 u9 u10 u11 t0 t1 t2 t3 t4 t5 t6 t7 t8 t9 t10
  replace X := (X.set7 (.int .i64 lg))
  replace C := (C.setO (j := w.heap.size + 2) (by omega) 7 (.int .i64 lg))
  replace R := (R.setO (j := w.heap.size + 2) (by omega) 7 (.int .i64 lg))
  replace B := (B.setCell (p := ⟨w.heap.size + 2, 7, none⟩) (by simp; try omega) (.int .i64 lg))
  replace hj : w.heap.size + 3 ≤ ((w5).setCell ⟨w.heap.size + 2, 7, none⟩ (.int .i64 lg)).heap.size := by simpa using hj
  generalize (w5).setCell ⟨w.heap.size + 2, 7, none⟩ (.int .i64 lg) = w6 at *
  obtain ⟨x0, x1, x2, x3, x4, x5, x6, x7, x8, x9, x10, x11, y0, y1, y2, y3, y4, y5, y6, y7, y8, y9, y10⟩ := id C
  go_wp2_with fail
  refine (C2 _ B).mono ?_
  clear C2
  rintro e v2 ⟨rfl, RW, hb⟩
  clear x0 x1 x2 x3 x4 x5 x6 x7 x8 x9 x10 x11 y0 y1 y2 y3 y4 y5 y6 y7 y8 y9 y10
  replace B := B.trans (hb.mono B.size)
  replace R := R.below hb
  replace X := X.below hb
  have hjx : w.heap.size + 3 ≤ w6.heap.size + 3 := by omega
  clear hb C
  generalize w6.heap.size + 3 = jx at *
  obtain ⟨u0, u1, u2, u3, u4, u5, u6, u7, u8, u9, u10, u11, t0, t1, t2, t3, t4, t5, t6, t7, t8, t9, t10⟩ := id X
  go_upto_region 10 with fail
  clear u0 u1 u2 u3 u4 u5 u6 u7 u8 u9 u10 u11 t0 t1 t2 t3 t4 t5 t6 t7 t8 t9 t10
  replace X := (((X.set8 (.int .i64 s)).set9 (.int .i64 g)).set10 (.slice (some ⟨jx, 0, none⟩) m m))
  replace R := (((R.setO (j := w.heap.size + 2) (by omega) 8 (.int .i64 s)).setO (j := w.heap.size + 2) (by omega) 9 (.int .i64 g)).setO (j := w.heap.size + 2) (by omega) 10 (.slice (some ⟨jx, 0, none⟩) m m))
  replace B := (((B.setCell (p := ⟨w.heap.size + 2, 8, none⟩) (by simp; try omega) (.int .i64 s)).setCell (p := ⟨w.heap.size + 2, 9, none⟩) (by simp; try omega) (.int .i64 g)).setCell (p := ⟨w.heap.size + 2, 10, none⟩) (by simp; try omega) (.slice (some ⟨jx, 0, none⟩) m m))
  replace RW : RowF ((((v2).setCell ⟨w.heap.size + 2, 8, none⟩ (.int .i64 s)).setCell ⟨w.heap.size + 2, 9, none⟩ (.int .i64 g)).setCell ⟨w.heap.size + 2, 10, none⟩ (.slice (some ⟨jx, 0, none⟩) m m)) jx 201 (m * 2) (m * 2) (MFSlot PM) := by
    obtain ⟨gg, hr, hh⟩ := RW
    exact ⟨gg, ((hr.setOther (a := ⟨w.heap.size + 2, 8, none⟩) (by show jx ≠ w.heap.size + 2; omega) _).setOther (a := ⟨w.heap.size + 2, 9, none⟩) (by show jx ≠ w.heap.size + 2; omega) _).setOther (a := ⟨w.heap.size + 2, 10, none⟩) (by show jx ≠ w.heap.size + 2; omega) _, hh⟩
  generalize (((v2).setCell ⟨w.heap.size + 2, 8, none⟩ (.int .i64 s)).setCell ⟨w.heap.size + 2, 9, none⟩ (.int .i64 g)).setCell ⟨w.heap.size + 2, 10, none⟩ (.slice (some ⟨jx, 0, none⟩) m m) = v3 at *
  have R1 := (((((((((((R.set0 (.int .i64 dn)).set1 (.int .i64 dd)).set2 (.int .i64 li)).set3 (.int .i64 le)).set4 (.int .i64 pt)).set5 (.int .i64 ag)).set6 (.int .i64 ke)).set7 (.int .i64 lg)).set8 (.int .i64 s)).set9 (.int .i64 g)).set10 (.slice (some ⟨jx, 0, none⟩) m m))
  have B1 := (((((((((((B.setCell (p := ⟨w.heap.size + 1, 0, none⟩) (by simp; try omega) (.int .i64 dn)).setCell (p := ⟨w.heap.size + 1, 1, none⟩) (by simp; try omega) (.int .i64 dd)).setCell (p := ⟨w.heap.size + 1, 2, none⟩) (by simp; try omega) (.int .i64 li)).setCell (p := ⟨w.heap.size + 1, 3, none⟩) (by simp; try omega) (.int .i64 le)).setCell (p := ⟨w.heap.size + 1, 4, none⟩) (by simp; try omega) (.int .i64 pt)).setCell (p := ⟨w.heap.size + 1, 5, none⟩) (by simp; try omega) (.int .i64 ag)).setCell (p := ⟨w.heap.size + 1, 6, none⟩) (by simp; try omega) (.int .i64 ke)).setCell (p := ⟨w.heap.size + 1, 7, none⟩) (by simp; try omega) (.int .i64 lg)).setCell (p := ⟨w.heap.size + 1, 8, none⟩) (by simp; try omega) (.int .i64 s)).setCell (p := ⟨w.heap.size + 1, 9, none⟩) (by simp; try omega) (.int .i64 g)).setCell (p := ⟨w.heap.size + 1, 10, none⟩) (by simp; try omega) (.slice (some ⟨jx, 0, none⟩) m m))
  have HR : Hid (RowF ((((((((((((v3).setCell ⟨w.heap.size + 1, 0, none⟩ (.int .i64 dn)).setCell ⟨w.heap.size + 1, 1, none⟩ (.int .i64 dd)).setCell ⟨w.heap.size + 1, 2, none⟩ (.int .i64 li)).setCell ⟨w.heap.size + 1, 3, none⟩ (.int .i64 le)).setCell ⟨w.heap.size + 1, 4, none⟩ (.int .i64 pt)).setCell ⟨w.heap.size + 1, 5, none⟩ (.int .i64 ag)).setCell ⟨w.heap.size + 1, 6, none⟩ (.int .i64 ke)).setCell ⟨w.heap.size + 1, 7, none⟩ (.int .i64 lg)).setCell ⟨w.heap.size + 1, 8, none⟩ (.int .i64 s)).setCell ⟨w.heap.size + 1, 9, none⟩ (.int .i64 g)).setCell ⟨w.heap.size + 1, 10, none⟩ (.slice (some ⟨jx, 0, none⟩) m m)) jx 201 (m * 2) (m * 2) (MFSlot PM)) := by
    obtain ⟨gg, hr, hh⟩ := RW
    refine ⟨gg, ?_, hh⟩
    have hn : jx ≠ w.heap.size + 1 := by omega
    repeat (refine World.rowIs.setOther ?_ (by exact hn) _)
    exact hr
  clear RW
  obtain ⟨u0, u1, u2, u3, u4, u5, u6, u7, u8, u9, u10, u11, t0, t1, t2, t3, t4, t5, t6, t7, t8, t9, t10⟩ := id X
  obtain ⟨x0, x1, x2, x3, x4, x5, x6, x7, x8, x9, x10, x11, y0, y1, y2, y3, y4, y5, y6, y7, y8, y9, y10⟩ := id R
  go_wp2_with fail
  clear u0 u1 u2 u3 u4 u5 u6 u7 u8 u9 u10 u11 t0 t1 t2 t3 t4 t5 t6 t7 t8 t9 t10
  clear x0 x1 x2 x3 x4 x5 x6 x7 x8 x9 x10 x11 y0 y1 y2 y3 y4 y5 y6 y7 y8 y9 y10
  clear X R B
  generalize (((((((((((v3).setCell ⟨w.heap.size + 1, 0, none⟩ (.int .i64 dn)).setCell ⟨w.heap.size + 1, 1, none⟩ (.int .i64 dd)).setCell ⟨w.heap.size + 1, 2, none⟩ (.int .i64 li)).setCell ⟨w.heap.size + 1, 3, none⟩ (.int .i64 le)).setCell ⟨w.heap.size + 1, 4, none⟩ (.int .i64 pt)).setCell ⟨w.heap.size + 1, 5, none⟩ (.int .i64 ag)).setCell ⟨w.heap.size + 1, 6, none⟩ (.int .i64 ke)).setCell ⟨w.heap.size + 1, 7, none⟩ (.int .i64 lg)).setCell ⟨w.heap.size + 1, 8, none⟩ (.int .i64 s)).setCell ⟨w.heap.size + 1, 9, none⟩ (.int .i64 g)).setCell ⟨w.heap.size + 1, 10, none⟩ (.slice (some ⟨jx, 0, none⟩) m m) = v4 at *
  obtain ⟨x0, x1, x2, x3, x4, x5, x6, x7, x8, x9, x10, x11, y0, y1, y2, y3, y4, y5, y6, y7, y8, y9, y10⟩ := id R1
  exact bodyPost_ret (v := (.agg #[.int .i64 dn, .int .i64 dd, .int .i64 li, .int .i64 le, .int .i64 pt, .int .i64 ag, .int .i64 ke, .int .i64 lg, .int .i64 s, .int .i64 g, .slice (some ⟨jx, 0, none⟩) m m])) (by simp (maxDischargeDepth := 6) [results, Tryz.results9, go_sem, *]) rfl ⟨jx, rfl, by omega, HR.out, B1⟩
end Go.Proofs.YtgempaoamamaeaaGreat
namespace Go.Proofs.YtgempaoamamaeaaGreat
open Go.RowKit
set_option linter.unusedVariables false
set_option maxRecDepth 100000 in
set_option maxHeartbeats 8000000 in
theorem szCfg_at (dn dd li le pt ag ke lg s g : Int) (p : Option Addr) (m d : Nat) (PM : Nat → SlT) (Z : Int) (w : World) (hm : m ≤ maxLen) (h0 : 0 ≤ Z) (h1 : Z ≤ 1048576) :
    Calls Tryz.prog 6 #[.agg #[.int .i64 dn, .int .i64 dd, .int .i64 li, .int .i64 le, .int .i64 pt, .int .i64 ag, .int .i64 ke, .int .i64 lg, .int .i64 s, .int .i64 g, .slice p m d], .int .i64 Z] w fun e w' => ∃ L : Int, e = .returned (.int .i64 L) ∧ (0 ≤ L → m ≤ 1048576 ∧ L ≤ 1048576) ∧ Below w.heap.size w w' := by
  have B := Below.nw w (.cells #[.int .i64 dn, .int .i64 dd, .int .i64 li, .int .i64 le, .int .i64 pt, .int .i64 ag, .int .i64 ke, .int .i64 lg, .int .i64 s, .int .i64 g, .slice p m d] 28)
  have C := Cx11.new w (.int .i64 dn) (.int .i64 dd) (.int .i64 li) (.int .i64 le) (.int .i64 pt) (.int .i64 ag) (.int .i64 ke) (.int .i64 lg) (.int .i64 s) (.int .i64 g) (.slice p m d) 28
  have C1 := fun w' => szPlan_at s g p m d Z w' hm h0 h1
  go_enter Tryz.func6, Tryz.ntmps6
  go_upto_region 1 with fail
  generalize w.alloc (.cells #[.int .i64 dn, .int .i64 dd, .int .i64 li, .int .i64 le, .int .i64 pt, .int .i64 ag, .int .i64 ke, .int .i64 lg, .int .i64 s, .int .i64 g, .slice p m d] 28) = v at *
  obtain ⟨x0, x1, x2, x3, x4, x5, x6, x7, x8, x9, x10, x11, y0, y1, y2, y3, y4, y5, y6, y7, y8, y9, y10⟩ := id C
  go_wp2_with fail
  refine (C1 _).mono ?_
  rintro e v1 ⟨L, rfl, hL, hb⟩
  clear x0 x1 x2 x3 x4 x5 x6 x7 x8 x9 x10 x11 y0 y1 y2 y3 y4 y5 y6 y7 y8 y9 y10
  replace B := B.trans (hb.mono B.size)
  clear hb C C1
  by_cases hz : L < 0
  · go_wp2_with fail
    go_ret
    exact ⟨-1, rfl, fun h => absurd h (by decide), B⟩
  · have HL : Hid (0 ≤ L → m ≤ 1048576 ∧ L ≤ 1048576) := hL
    clear hL
    go_wp2_with fail
    go_ret
    exact ⟨L, rfl, HL.out, B⟩
set_option maxRecDepth 100000 in
set_option maxHeartbeats 8000000 in
theorem eqCfg_same (dn dd li le pt ag ke lg s g : Int) (p : Option Addr) (m d : Nat) (PM : Nat → SlT) (p' : Option Addr) (d' : Nat) (w : World) (hm : m ≤ maxLen) (h : SrcC w p (m * 2) (MFSlot PM)) (h' : SrcC w p' (m * 2) (MFSlot PM)) :
    Calls Tryz.prog 14 #[.agg #[.int .i64 dn, .int .i64 dd, .int .i64 li, .int .i64 le, .int .i64 pt, .int .i64 ag, .int .i64 ke, .int .i64 lg, .int .i64 s, .int .i64 g, .slice p m d], .agg #[.int .i64 dn, .int .i64 dd, .int .i64 li, .int .i64 le, .int .i64 pt, .int .i64 ag, .int .i64 ke, .int .i64 lg, .int .i64 s, .int .i64 g, .slice p' m d']] w fun e w' => e = .returned (.bool true) ∧ Below w.heap.size w w' := by
  have A0 := Below.nw w (.cells #[.int .i64 dn, .int .i64 dd, .int .i64 li, .int .i64 le, .int .i64 pt, .int .i64 ag, .int .i64 ke, .int .i64 lg, .int .i64 s, .int .i64 g, .slice p m d] 67)
  have A1 := Below.nw (w.alloc (.cells #[.int .i64 dn, .int .i64 dd, .int .i64 li, .int .i64 le, .int .i64 pt, .int .i64 ag, .int .i64 ke, .int .i64 lg, .int .i64 s, .int .i64 g, .slice p m d] 67)) (.cells #[.int .i64 dn, .int .i64 dd, .int .i64 li, .int .i64 le, .int .i64 pt, .int .i64 ag, .int .i64 ke, .int .i64 lg, .int .i64 s, .int .i64 g, .slice p' m d'] 67)
  have C := (Cx11.new w (.int .i64 dn) (.int .i64 dd) (.int .i64 li) (.int .i64 le) (.int .i64 pt) (.int .i64 ag) (.int .i64 ke) (.int .i64 lg) (.int .i64 s) (.int .i64 g) (.slice p m d) 67).below A1
  have X := Cx11.new (w.alloc (.cells #[.int .i64 dn, .int .i64 dd, .int .i64 li, .int .i64 le, .int .i64 pt, .int .i64 ag, .int .i64 ke, .int .i64 lg, .int .i64 s, .int .i64 g, .slice p m d] 67)) (.int .i64 dn) (.int .i64 dd) (.int .i64 li) (.int .i64 le) (.int .i64 pt) (.int .i64 ag) (.int .i64 ke) (.int .i64 lg) (.int .i64 s) (.int .i64 g) (.slice p' m d') 67
  have B := A0.trans (A1.mono A0.size)
  simp only [World.size_alloc] at X
  clear A0 A1
  have C1 := fun w' => eqDrift_same dn dd w'
  have C2 := fun (w' : World) (hb : Below w.heap.size w w') => eqPlan_same s g p p' m d d' PM w' hm (h.below hb) (h'.below hb)
  clear h h'
  go_enter Tryz.func14, Tryz.ntmps14
  go_upto_region 1 with fail
  generalize (w.alloc (.cells #[.int .i64 dn, .int .i64 dd, .int .i64 li, .int .i64 le, .int .i64 pt, .int .i64 ag, .int .i64 ke, .int .i64 lg, .int .i64 s, .int .i64 g, .slice p m d] 67)).alloc (.cells #[.int .i64 dn, .int .i64 dd, .int .i64 li, .int .i64 le, .int .i64 pt, .int .i64 ag, .int .i64 ke, .int .i64 lg, .int .i64 s, .int .i64 g, .slice p' m d'] 67) = v at *
  obtain ⟨x0, x1, x2, x3, x4, x5, x6, x7, x8, x9, x10, x11, y0, y1, y2, y3, y4, y5, y6, y7, y8, y9, y10⟩ := id C
  obtain ⟨u0, u1, u2, u3, u4, u5, u6, u7, u8, u9, u10, u11, t0, t1, t2, t3, t4, t5, t6, t7, t8, t9, t10⟩ := id X
  go_wp2_with fail
  refine (C1 _).mono ?_
  rintro e v1 ⟨rfl, hb⟩
  clear x0 x1 x2 x3 x4 x5 x6 x7 x8 x9 x10 x11 y0 y1 y2 y3 y4 y5 y6 y7 y8 y9 y10
  clear u0 u1 u2 u3 u4 u5 u6 u7 u8 u9 u10 u11 t0 t1 t2 t3 t4 t5 t6 t7 t8 t9 t10
  replace B := B.trans (hb.mono B.size)
  replace C := C.below hb
  replace X := X.below hb
  clear hb C1
  obtain ⟨x0, x1, x2, x3, x4, x5, x6, x7, x8, x9, x10, x11, y0, y1, y2, y3, y4, y5, y6, y7, y8, y9, y10⟩ := id C
  obtain ⟨u0, u1, u2, u3, u4, u5, u6, u7, u8, u9, u10, u11, t0, t1, t2, t3, t4, t5, t6, t7, t8, t9, t10⟩ := id X
  have e1 : (li != li) = false := by simp
  have e2 : (le != le) = false := by simp
  have e3 : (pt != pt) = false := by simp
  have e4 : (ag != ag) = false := by simp
  have e5 : (ke != ke) = false := by simp
  have e6 : (lg != lg) = false := by simp
  go_wp2_with fail
  refine (C2 _ B).mono ?_
  rintro e v2 ⟨rfl, hb⟩
  clear x0 x1 x2 x3 x4 x5 x6 x7 x8 x9 x10 x11 y0 y1 y2 y3 y4 y5 y6 y7 y8 y9 y10
  clear u0 u1 u2 u3 u4 u5 u6 u7 u8 u9 u10 u11 t0 t1 t2 t3 t4 t5 t6 t7 t8 t9 t10
  replace B := B.trans (hb.mono B.size)
  clear hb C X C2
  go_wp2_with fail
  go_ret
  exact ⟨rfl, B⟩
end Go.Proofs.YtgempaoamamaeaaGreat
namespace Go.Proofs.YtgempaoamamaeaaGreat
open Go.Shelf
def sortedA_ren : Go.Shelf.Ren := ⟨fun | 6 => 220 | 8 => 237 | 9 => 238 | 11 => 252 | 13 => 216 | 12 => 253 | 23 => 235 | 24 => 236 | 14 => 256 | 15 => 257 | 16 => 258 | 17 => 259 | 18 => 260 | 19 => 261 | 20 => 262 | 21 => 263 | 22 => 264 | 25 => 265 | 26 => 248 | 27 => 249 | 28 => 266 | 29 => 267 | 30 => 217 | 31 => 268 | n => n, fun | 26 => 3 | 28 => 261 | 24 => 134 | 0 => 0 | 3 => 3 | 37 => 258 | 48 => 275 | 50 => 277 | 4 => 4 | 40 => 269 | 39 => 268 | 45 => 212 | 5 => 5 | 9 => 9 | 51 => 283 | 55 => 287 | 57 => 292 | 58 => 163 | 33 => 89 | n => n, fun | n => n⟩
theorem sortedA : Go.Proofs.SlLaysZI.n6 Tryz.prog sortedA_ren := {
  mixed := by kernel_rfl
  f6 := ⟨Tryz.f220.name, by decide, Tryz.func220.trans (congrArg some (by kernel_rfl))⟩
  f8 := ⟨Tryz.f237.name, by decide, Tryz.func237.trans (congrArg some (by kernel_rfl))⟩
  f11 := ⟨Tryz.f252.name, by decide, Tryz.func252.trans (congrArg some (by kernel_rfl))⟩
  t0 := Tryz.underlying0
  a0 := Tryz.isAgg0
  z0 := Tryz.sizeOf0
  v0 := Tryz.zeroValue0
  t24 := Tryz.underlying134
  a24 := Tryz.isAgg134
  z24 := Tryz.sizeOf134
  v24 := Tryz.zeroValue134
  t26 := Tryz.underlying3
  a26 := Tryz.isAgg3
  z26 := Tryz.sizeOf3
  v26 := Tryz.zeroValue3
  t28 := Tryz.underlying261
  a28 := Tryz.isAgg261
  z28 := Tryz.sizeOf261
  v28 := Tryz.zeroValue261
  i26 := by kernel_rfl }
def sortA_ren : Go.Shelf.Ren := ⟨fun | 5 => 238 | 8 => 216 | 7 => 253 | 19 => 235 | 20 => 236 | 10 => 256 | 11 => 257 | 12 => 258 | 13 => 259 | 14 => 260 | 15 => 261 | 16 => 262 | 17 => 263 | 18 => 264 | 30 => 265 | 31 => 248 | 32 => 249 | 33 => 266 | 34 => 267 | 35 => 217 | 40 => 268 | n => n, fun | 23 => 134 | 25 => 3 | 3 => 3 | 32 => 258 | 22 => 134 | 0 => 0 | 44 => 275 | 46 => 277 | 4 => 4 | 36 => 269 | 35 => 268 | 41 => 212 | 5 => 5 | 9 => 9 | 53 => 283 | 57 => 287 | 63 => 292 | 64 => 163 | n => n, fun | n => n⟩
theorem sortA : Go.Proofs.SlLaysM.n5 Tryz.prog sortA_ren := {
  mixed := by kernel_rfl
  f5 := ⟨Tryz.f238.name, by decide, Tryz.func238.trans (congrArg some (by kernel_rfl))⟩
  f7 := ⟨Tryz.f253.name, by decide, Tryz.func253.trans (congrArg some (by kernel_rfl))⟩
  f8 := Tryz.func216.trans (congrArg some (by kernel_rfl))
  f10 := ⟨Tryz.f256.name, by decide, Tryz.func256.trans (congrArg some (by kernel_rfl))⟩
  f11 := ⟨Tryz.f257.name, by decide, Tryz.func257.trans (congrArg some (by kernel_rfl))⟩
  f12 := ⟨Tryz.f258.name, by decide, Tryz.func258.trans (congrArg some (by kernel_rfl))⟩
  f13 := ⟨Tryz.f259.name, by decide, Tryz.func259.trans (congrArg some (by kernel_rfl))⟩
  f14 := ⟨Tryz.f260.name, by decide, Tryz.func260.trans (congrArg some (by kernel_rfl))⟩
  f15 := ⟨Tryz.f261.name, by decide, Tryz.func261.trans (congrArg some (by kernel_rfl))⟩
  f16 := ⟨Tryz.f262.name, by decide, Tryz.func262.trans (congrArg some (by kernel_rfl))⟩
  f17 := ⟨Tryz.f263.name, by decide, Tryz.func263.trans (congrArg some (by kernel_rfl))⟩
  f18 := ⟨Tryz.f264.name, by decide, Tryz.func264.trans (congrArg some (by kernel_rfl))⟩
  f19 := Tryz.func235.trans (congrArg some (by kernel_rfl))
  f20 := Tryz.func236.trans (congrArg some (by kernel_rfl))
  f30 := ⟨Tryz.f265.name, by decide, Tryz.func265.trans (congrArg some (by kernel_rfl))⟩
  f31 := Tryz.func248.trans (congrArg some (by kernel_rfl))
  f32 := Tryz.func249.trans (congrArg some (by kernel_rfl))
  f33 := ⟨Tryz.f266.name, by decide, Tryz.func266.trans (congrArg some (by kernel_rfl))⟩
  f34 := ⟨Tryz.f267.name, by decide, Tryz.func267.trans (congrArg some (by kernel_rfl))⟩
  f35 := ⟨Tryz.f217.name, by decide, Tryz.func217.trans (congrArg some (by kernel_rfl))⟩
  f40 := ⟨Tryz.f268.name, by decide, Tryz.func268.trans (congrArg some (by kernel_rfl))⟩
  t0 := Tryz.underlying0
  a0 := Tryz.isAgg0
  z0 := Tryz.sizeOf0
  v0 := Tryz.zeroValue0
  t3 := Tryz.underlying3
  a3 := Tryz.isAgg3
  z3 := Tryz.sizeOf3
  v3 := Tryz.zeroValue3
  t4 := Tryz.underlying4
  a4 := Tryz.isAgg4
  z4 := Tryz.sizeOf4
  v4 := Tryz.zeroValue4
  t5 := Tryz.underlying5
  a5 := Tryz.isAgg5
  z5 := Tryz.sizeOf5
  v5 := Tryz.zeroValue5
  t9 := Tryz.underlying9
  a9 := Tryz.isAgg9
  z9 := Tryz.sizeOf9
  v9 := Tryz.zeroValue9
  t22 := Tryz.underlying134
  a22 := Tryz.isAgg134
  z22 := Tryz.sizeOf134
  v22 := Tryz.zeroValue134
  t23 := Tryz.underlying134
  a23 := Tryz.isAgg134
  z23 := Tryz.sizeOf134
  v23 := Tryz.zeroValue134
  t25 := Tryz.underlying3
  a25 := Tryz.isAgg3
  z25 := Tryz.sizeOf3
  v25 := Tryz.zeroValue3
  t32 := Tryz.underlying258
  a32 := Tryz.isAgg258
  z32 := Tryz.sizeOf258
  v32 := Tryz.zeroValue258
  t35 := Tryz.underlying268
  a35 := Tryz.isAgg268
  z35 := Tryz.sizeOf268
  v35 := Tryz.zeroValue268
  t36 := Tryz.underlying269
  a36 := Tryz.isAgg269
  z36 := Tryz.sizeOf269
  v36 := Tryz.zeroValue269
  t41 := Tryz.underlying212
  a41 := Tryz.isAgg212
  z41 := Tryz.sizeOf212
  v41 := Tryz.zeroValue212
  t44 := Tryz.underlying275
  a44 := Tryz.isAgg275
  z44 := Tryz.sizeOf275
  v44 := Tryz.zeroValue275
  t46 := Tryz.underlying277
  a46 := Tryz.isAgg277
  z46 := Tryz.sizeOf277
  v46 := Tryz.zeroValue277
  t53 := Tryz.underlying283
  a53 := Tryz.isAgg283
  z53 := Tryz.sizeOf283
  v53 := Tryz.zeroValue283
  t57 := Tryz.underlying287
  a57 := Tryz.isAgg287
  z57 := Tryz.sizeOf287
  v57 := Tryz.zeroValue287
  t63 := Tryz.underlying292
  a63 := Tryz.isAgg292
  z63 := Tryz.sizeOf292
  v63 := Tryz.zeroValue292
  t64 := Tryz.underlying163
  a64 := Tryz.isAgg163
  z64 := Tryz.sizeOf163
  v64 := Tryz.zeroValue163 }
end Go.Proofs.YtgempaoamamaeaaGreat
