/- What the laws make of a configuration. What the laws of chapter 16 make of their arguments. What the laws ask of a configuration: how great it is, whether two are the same. The walk of the exact law of CfgOk (the program told as a hypothesis). A struct in memory, told by the array of its cells. -/
import Derived.Deep.OwnRows
import Derived.Deep.RegionHeld3
import Derived.WalkKit
import Derived.WalkSpells
import Derived.WalkLawsBesides
import Derived.Deep.RegionHeld
import Derived.Deep.QuietTactic
import Derived.BigQuiet
import Derived.Deep.DeepCutAuto
import Derived.Test.YtlllbahfjihepaaM7
import Derived.Test.YtlllbahfjihepaaM1
import Derived.Test.YtlllbahfjihepaaM6
import Derived.Test.YtlllbahfjihepaaM4
namespace Go.Proofs.Ytlllbahfjihepaa
open Go.RowKit
set_option linter.unusedVariables false
set_option maxRecDepth 100000 in
set_option maxHeartbeats 8000000 in
theorem toCfg_any (dn dd li le pt ag ke lg s g : Int) (p : Option Addr) (m d : Nat) (PM : Nat → SlT) (w : World) (hpn : m ≤ 1048576) (hp : SrcC w p (m * 2) (MFSlot PM)) :
    Calls Try.prog 8 #[.agg #[.int .i64 dn, .int .i64 dd, .int .i64 li, .int .i64 le, .int .i64 pt, .int .i64 ag, .int .i64 ke, .int .i64 lg, .int .i64 s, .int .i64 g, .slice p m d]] w fun e w' => ∃ jx, e = .returned (.agg #[.int .i64 dn, .int .i64 dd, .int .i64 li, .int .i64 le, .int .i64 pt, .int .i64 ag, .int .i64 ke, .int .i64 lg, .int .i64 s, .int .i64 g, .slice (some ⟨jx, 0, none⟩) m m]) ∧ w.heap.size ≤ jx ∧ RowF w' jx 112 (m * 2) (m * 2) (MFSlot PM) ∧ Below w.heap.size w w' := by
  have A0 := Below.nw w (.cells #[.int .i64 dn, .int .i64 dd, .int .i64 li, .int .i64 le, .int .i64 pt, .int .i64 ag, .int .i64 ke, .int .i64 lg, .int .i64 s, .int .i64 g, .slice p m d] 28)
  have A1 := Below.nw (w.alloc (.cells #[.int .i64 dn, .int .i64 dd, .int .i64 li, .int .i64 le, .int .i64 pt, .int .i64 ag, .int .i64 ke, .int .i64 lg, .int .i64 s, .int .i64 g, .slice p m d] 28)) (.cells #[.int .i64 0, .int .i64 0, .int .i64 0, .int .i64 0, .int .i64 0, .int .i64 0, .int .i64 0, .int .i64 0, .int .i64 0, .int .i64 0, .slice none 0 0] 36)
  have A2 := Below.nw ((w.alloc (.cells #[.int .i64 dn, .int .i64 dd, .int .i64 li, .int .i64 le, .int .i64 pt, .int .i64 ag, .int .i64 ke, .int .i64 lg, .int .i64 s, .int .i64 g, .slice p m d] 28)).alloc (.cells #[.int .i64 0, .int .i64 0, .int .i64 0, .int .i64 0, .int .i64 0, .int .i64 0, .int .i64 0, .int .i64 0, .int .i64 0, .int .i64 0, .slice none 0 0] 36)) (.cells #[.int .i64 0, .int .i64 0, .int .i64 0, .int .i64 0, .int .i64 0, .int .i64 0, .int .i64 0, .int .i64 0, .int .i64 0, .int .i64 0, .slice none 0 0] 36)
  have C := ((Cx11.new w (.int .i64 dn) (.int .i64 dd) (.int .i64 li) (.int .i64 le) (.int .i64 pt) (.int .i64 ag) (.int .i64 ke) (.int .i64 lg) (.int .i64 s) (.int .i64 g) (.slice p m d) 28).below A1).below A2
  have R := (Cx11.new (w.alloc (.cells #[.int .i64 dn, .int .i64 dd, .int .i64 li, .int .i64 le, .int .i64 pt, .int .i64 ag, .int .i64 ke, .int .i64 lg, .int .i64 s, .int .i64 g, .slice p m d] 28)) (.int .i64 0) (.int .i64 0) (.int .i64 0) (.int .i64 0) (.int .i64 0) (.int .i64 0) (.int .i64 0) (.int .i64 0) (.int .i64 0) (.int .i64 0) (.slice none 0 0) 36).below A2
  have X := Cx11.new ((w.alloc (.cells #[.int .i64 dn, .int .i64 dd, .int .i64 li, .int .i64 le, .int .i64 pt, .int .i64 ag, .int .i64 ke, .int .i64 lg, .int .i64 s, .int .i64 g, .slice p m d] 28)).alloc (.cells #[.int .i64 0, .int .i64 0, .int .i64 0, .int .i64 0, .int .i64 0, .int .i64 0, .int .i64 0, .int .i64 0, .int .i64 0, .int .i64 0, .slice none 0 0] 36)) (.int .i64 0) (.int .i64 0) (.int .i64 0) (.int .i64 0) (.int .i64 0) (.int .i64 0) (.int .i64 0) (.int .i64 0) (.int .i64 0) (.int .i64 0) (.slice none 0 0) 36
  have B := (A0.trans (A1.mono A0.size)).trans (A2.mono (A0.trans (A1.mono A0.size)).size)
  have hj : w.heap.size + 3 ≤ (((w.alloc (.cells #[.int .i64 dn, .int .i64 dd, .int .i64 li, .int .i64 le, .int .i64 pt, .int .i64 ag, .int .i64 ke, .int .i64 lg, .int .i64 s, .int .i64 g, .slice p m d] 28)).alloc (.cells #[.int .i64 0, .int .i64 0, .int .i64 0, .int .i64 0, .int .i64 0, .int .i64 0, .int .i64 0, .int .i64 0, .int .i64 0, .int .i64 0, .slice none 0 0] 36)).alloc (.cells #[.int .i64 0, .int .i64 0, .int .i64 0, .int .i64 0, .int .i64 0, .int .i64 0, .int .i64 0, .int .i64 0, .int .i64 0, .int .i64 0, .slice none 0 0] 36)).heap.size := by simp
  simp only [World.size_alloc] at R X
  clear A0 A1 A2
  have HP : Hid (SrcC w p (m * 2) (MFSlot PM)) := hp
  have C1 := fun w' => toDrift_any dn dd w'
  have C2 := fun (w' : World) (h : Below w.heap.size w w') => toPlan_any s g p m d PM w' hpn (HP.out.below h)
  clear hp
  go_enter Try.func8, Try.ntmps8
  go_upto_region 2 with fail
  generalize ((w.alloc (.cells #[.int .i64 dn, .int .i64 dd, .int .i64 li, .int .i64 le, .int .i64 pt, .int .i64 ag, .int .i64 ke, .int .i64 lg, .int .i64 s, .int .i64 g, .slice p m d] 28)).alloc (.cells #[.int .i64 0, .int .i64 0, .int .i64 0, .int .i64 0, .int .i64 0, .int .i64 0, .int .i64 0, .int .i64 0, .int .i64 0, .int .i64 0, .slice none 0 0] 36)).alloc (.cells #[.int .i64 0, .int .i64 0, .int .i64 0, .int .i64 0, .int .i64 0, .int .i64 0, .int .i64 0, .int .i64 0, .int .i64 0, .int .i64 0, .slice none 0 0] 36) = v at *
  obtain ⟨x0, x1, x2, x3, x4, x5, x6, x7, x8, x9, x10, x11, y0, y1, y2, y3, y4, y5, y6, y7, y8, y9, y10⟩ := id C
  go_wp2_with fail
  refine (C1 _).mono ?_
  clear C1
  rintro e v1 ⟨rfl, hb⟩
  clear x0 x1 x2 x3 x4 x5 x6 x7 x8 x9 x10 x11 y0 y1 y2 y3 y4 y5 y6 y7 y8 y9 y10
  replace B := B.trans (hb.mono B.size)
  replace C := C.below hb
  replace R := R.below hb
  replace X := X.below hb
  replace hj := Nat.le_trans hj hb.size
  clear hb
  obtain ⟨x0, x1, x2, x3, x4, x5, x6, x7, x8, x9, x10, x11, y0, y1, y2, y3, y4, y5, y6, y7, y8, y9, y10⟩ := id C
  obtain ⟨u0, u1, u2, u3, u4, u5, u6, u7, u8, u9, u10, u11, t0, t1, t2, t3, t4, t5, t6, t7, t8, t9, t10⟩ := id X
  go_upto_region 3 with fail
  clear x0 x1 x2 x3 x4 x5 x6 x7 x8 x9 x10 x11 y0 y1 y2 y3 y4 y5 y6 y7 y8 y9 y10
  clear u0 u1 u2 u3 u4 u5 u6 u7 u8 u9 u10 u11 t0 t1 t2 t3 t4 t5 t6 t7 t8 t9 t10
  replace X := ((X.set0 (.int .i64 dn)).set1 (.int .i64 dd))
  replace C := ((C.setO (j := w.heap.size + 2) (by omega) 0 (.int .i64 dn)).setO (j := w.heap.size + 2) (by omega) 1 (.int .i64 dd))
  replace R := ((R.setO (j := w.heap.size + 2) (by omega) 0 (.int .i64 dn)).setO (j := w.heap.size + 2) (by omega) 1 (.int .i64 dd))
  replace B := ((B.setCell (p := ⟨w.heap.size + 2, 0, none⟩) (by simp; try omega) (.int .i64 dn)).setCell (p := ⟨w.heap.size + 2, 1, none⟩) (by simp; try omega) (.int .i64 dd))
  replace hj : w.heap.size + 3 ≤ (((v1).setCell ⟨w.heap.size + 2, 0, none⟩ (.int .i64 dn)).setCell ⟨w.heap.size + 2, 1, none⟩ (.int .i64 dd)).heap.size := by simpa using hj
  generalize ((v1).setCell ⟨w.heap.size + 2, 0, none⟩ (.int .i64 dn)).setCell ⟨w.heap.size + 2, 1, none⟩ (.int .i64 dd) = w0 at *
  obtain ⟨x0, x1, x2, x3, x4, x5, x6, x7, x8, x9, x10, x11, y0, y1, y2, y3, y4, y5, y6, y7, y8, y9, y10⟩ := id C
  obtain ⟨u0, u1, u2, u3, u4, u5, u6, u7, u8, u9, u10, u11, t0, t1, t2, t3, t4, t5, t6, t7, t8, t9, t10⟩ := id X
  go_upto_region 4 with fail
  clear x0 x1 x2 x3 x4 x5 x6 x7 x8 x9 x10 x11 y0 y1 y2 y3 y4 y5 y6 y7 y8 y9 y10
  clear u0 u1 u2 u3 u4 u5 u6 u7 u8 u9 u10 u11 t0 t1 t2 t3 t4 t5 t6 t7 t8 t9 t10
  replace X := (X.set2 (.int .i64 li))
  replace C := (C.setO (j := w.heap.size + 2) (by omega) 2 (.int .i64 li))
  replace R := (R.setO (j := w.heap.size + 2) (by omega) 2 (.int .i64 li))
  replace B := (B.setCell (p := ⟨w.heap.size + 2, 2, none⟩) (by simp; try omega) (.int .i64 li))
  replace hj : w.heap.size + 3 ≤ ((w0).setCell ⟨w.heap.size + 2, 2, none⟩ (.int .i64 li)).heap.size := by simpa using hj
  generalize (w0).setCell ⟨w.heap.size + 2, 2, none⟩ (.int .i64 li) = w1 at *
  obtain ⟨x0, x1, x2, x3, x4, x5, x6, x7, x8, x9, x10, x11, y0, y1, y2, y3, y4, y5, y6, y7, y8, y9, y10⟩ := id C
  obtain ⟨u0, u1, u2, u3, u4, u5, u6, u7, u8, u9, u10, u11, t0, t1, t2, t3, t4, t5, t6, t7, t8, t9, t10⟩ := id X
  go_upto_region 5 with fail
  clear x0 x1 x2 x3 x4 x5 x6 x7 x8 x9 x10 x11 y0 y1 y2 y3 y4 y5 y6 y7 y8 y9 y10
  clear u0 u1 u2 u3 u4 u5 u6 u7 u8 u9 u10 u11 t0 t1 t2 t3 t4 t5 t6 t7 t8 t9 t10
  replace X := (X.set3 (.int .i64 le))
  replace C := (C.setO (j := w.heap.size + 2) (by omega) 3 (.int .i64 le))
  replace R := (R.setO (j := w.heap.size + 2) (by omega) 3 (.int .i64 le))
  replace B := (B.setCell (p := ⟨w.heap.size + 2, 3, none⟩) (by simp; try omega) (.int .i64 le))
  replace hj : w.heap.size + 3 ≤ ((w1).setCell ⟨w.heap.size + 2, 3, none⟩ (.int .i64 le)).heap.size := by simpa using hj
  generalize (w1).setCell ⟨w.heap.size + 2, 3, none⟩ (.int .i64 le) = w2 at *
  obtain ⟨x0, x1, x2, x3, x4, x5, x6, x7, x8, x9, x10, x11, y0, y1, y2, y3, y4, y5, y6, y7, y8, y9, y10⟩ := id C
  obtain ⟨u0, u1, u2, u3, u4, u5, u6, u7, u8, u9, u10, u11, t0, t1, t2, t3, t4, t5, t6, t7, t8, t9, t10⟩ := id X
  go_upto_region 6 with fail
  clear x0 x1 x2 x3 x4 x5 x6 x7 x8 x9 x10 x11 y0 y1 y2 y3 y4 y5 y6 y7 y8 y9 y10
  clear u0 u1 u2 u3 u4 u5 u6 u7 u8 u9 u10 u11 t0 t1 t2 t3 t4 t5 t6 t7 t8 t9 t10
  replace X := (X.set4 (.int .i64 pt))
  replace C := (C.setO (j := w.heap.size + 2) (by omega) 4 (.int .i64 pt))
  replace R := (R.setO (j := w.heap.size + 2) (by omega) 4 (.int .i64 pt))
  replace B := (B.setCell (p := ⟨w.heap.size + 2, 4, none⟩) (by simp; try omega) (.int .i64 pt))
  replace hj : w.heap.size + 3 ≤ ((w2).setCell ⟨w.heap.size + 2, 4, none⟩ (.int .i64 pt)).heap.size := by simpa using hj
  generalize (w2).setCell ⟨w.heap.size + 2, 4, none⟩ (.int .i64 pt) = w3 at *
  obtain ⟨x0, x1, x2, x3, x4, x5, x6, x7, x8, x9, x10, x11, y0, y1, y2, y3, y4, y5, y6, y7, y8, y9, y10⟩ := id C
  obtain ⟨u0, u1, u2, u3, u4, u5, u6, u7, u8, u9, u10, u11, t0, t1, t2, t3, t4, t5, t6, t7, t8, t9, t10⟩ := id X
  go_upto_region 7 with fail
  clear x0 x1 x2 x3 x4 x5 x6 x7 x8 x9 x10 x11 y0 y1 y2 y3 y4 y5 y6 y7 y8 y9 y10
  clear u0 u1 u2 u3 u4 u5 u6 u7 u8 u9 u10 u11 t0 t1 t2 t3 t4 t5 t6 t7 t8 t9 t10
  replace X := (X.set5 (.int .i64 ag))
  replace C := (C.setO (j := w.heap.size + 2) (by omega) 5 (.int .i64 ag))
  replace R := (R.setO (j := w.heap.size + 2) (by omega) 5 (.int .i64 ag))
  replace B := (B.setCell (p := ⟨w.heap.size + 2, 5, none⟩) (by simp; try omega) (.int .i64 ag))
  replace hj : w.heap.size + 3 ≤ ((w3).setCell ⟨w.heap.size + 2, 5, none⟩ (.int .i64 ag)).heap.size := by simpa using hj
  generalize (w3).setCell ⟨w.heap.size + 2, 5, none⟩ (.int .i64 ag) = w4 at *
  obtain ⟨x0, x1, x2, x3, x4, x5, x6, x7, x8, x9, x10, x11, y0, y1, y2, y3, y4, y5, y6, y7, y8, y9, y10⟩ := id C
  obtain ⟨u0, u1, u2, u3, u4, u5, u6, u7, u8, u9, u10, u11, t0, t1, t2, t3, t4, t5, t6, t7, t8, t9, t10⟩ := id X
  go_upto_region 8 with fail
  clear x0 x1 x2 x3 x4 x5 x6 x7 x8 x9 x10 x11 y0 y1 y2 y3 y4 y5 y6 y7 y8 y9 y10
  clear u0 u1 u2 u3 u4 u5 u6 u7 u8 u9 u10 u11 t0 t1 t2 t3 t4 t5 t6 t7 t8 t9 t10
  replace X := (X.set6 (.int .i64 ke))
  replace C := (C.setO (j := w.heap.size + 2) (by omega) 6 (.int .i64 ke))
  replace R := (R.setO (j := w.heap.size + 2) (by omega) 6 (.int .i64 ke))
  replace B := (B.setCell (p := ⟨w.heap.size + 2, 6, none⟩) (by simp; try omega) (.int .i64 ke))
  replace hj : w.heap.size + 3 ≤ ((w4).setCell ⟨w.heap.size + 2, 6, none⟩ (.int .i64 ke)).heap.size := by simpa using hj
  generalize (w4).setCell ⟨w.heap.size + 2, 6, none⟩ (.int .i64 ke) = w5 at *
  obtain ⟨x0, x1, x2, x3, x4, x5, x6, x7, x8, x9, x10, x11, y0, y1, y2, y3, y4, y5, y6, y7, y8, y9, y10⟩ := id C
  obtain ⟨u0, u1, u2, u3, u4, u5, u6, u7, u8, u9, u10, u11, t0, t1, t2, t3, t4, t5, t6, t7, t8, t9, t10⟩ := id X
  go_upto_region 9 with fail
  clear x0 x1 x2 x3 x4 x5 x6 x7 x8 x9 x10 x11 y0 y1 y2 y3 y4 y5 y6 y7 y8 y9 y10
  clear u0 u1 u2 u3 u4 u5 u6 u7 u8 u9 u10 u11 t0 t1 t2 t3 t4 t5 t6 t7 t8 t9 t10
  replace X := (X.set7 (.int .i64 lg))
  replace C := (C.setO (j := w.heap.size + 2) (by omega) 7 (.int .i64 lg))
  replace R := (R.setO (j := w.heap.size + 2) (by omega) 7 (.int .i64 lg))
  replace B := (B.setCell (p := ⟨w.heap.size + 2, 7, none⟩) (by simp; try omega) (.int .i64 lg))
  replace hj : w.heap.size + 3 ≤ ((w5).setCell ⟨w.heap.size + 2, 7, none⟩ (.int .i64 lg)).heap.size := by simpa using hj
  generalize (w5).setCell ⟨w.heap.size + 2, 7, none⟩ (.int .i64 lg) = w6 at *
  obtain ⟨x0, x1, x2, x3, x4, x5, x6, x7, x8, x9, x10, x11, y0, y1, y2, y3, y4, y5, y6, y7, y8, y9, y10⟩ := id C
  go_wp2_with fail
  refine (C2 _ B).mono ?_
  clear C2
  rintro e v2 ⟨rfl, RW, hb⟩
  clear x0 x1 x2 x3 x4 x5 x6 x7 x8 x9 x10 x11 y0 y1 y2 y3 y4 y5 y6 y7 y8 y9 y10
  replace B := B.trans (hb.mono B.size)
  replace R := R.below hb
  replace X := X.below hb
  have hjx : w.heap.size + 3 ≤ w6.heap.size + 3 := by omega
  clear hb C
  generalize w6.heap.size + 3 = jx at *
  obtain ⟨u0, u1, u2, u3, u4, u5, u6, u7, u8, u9, u10, u11, t0, t1, t2, t3, t4, t5, t6, t7, t8, t9, t10⟩ := id X
  go_upto_region 10 with fail
  clear u0 u1 u2 u3 u4 u5 u6 u7 u8 u9 u10 u11 t0 t1 t2 t3 t4 t5 t6 t7 t8 t9 t10
  replace X := (((X.set8 (.int .i64 s)).set9 (.int .i64 g)).set10 (.slice (some ⟨jx, 0, none⟩) m m))
  replace R := (((R.setO (j := w.heap.size + 2) (by omega) 8 (.int .i64 s)).setO (j := w.heap.size + 2) (by omega) 9 (.int .i64 g)).setO (j := w.heap.size + 2) (by omega) 10 (.slice (some ⟨jx, 0, none⟩) m m))
  replace B := (((B.setCell (p := ⟨w.heap.size + 2, 8, none⟩) (by simp; try omega) (.int .i64 s)).setCell (p := ⟨w.heap.size + 2, 9, none⟩) (by simp; try omega) (.int .i64 g)).setCell (p := ⟨w.heap.size + 2, 10, none⟩) (by simp; try omega) (.slice (some ⟨jx, 0, none⟩) m m))
  replace RW : RowF ((((v2).setCell ⟨w.heap.size + 2, 8, none⟩ (.int .i64 s)).setCell ⟨w.heap.size + 2, 9, none⟩ (.int .i64 g)).setCell ⟨w.heap.size + 2, 10, none⟩ (.slice (some ⟨jx, 0, none⟩) m m)) jx 112 (m * 2) (m * 2) (MFSlot PM) := by
    obtain ⟨gg, hr, hh⟩ := RW
    exact ⟨gg, ((hr.setOther (a := ⟨w.heap.size + 2, 8, none⟩) (by show jx ≠ w.heap.size + 2; omega) _).setOther (a := ⟨w.heap.size + 2, 9, none⟩) (by show jx ≠ w.heap.size + 2; omega) _).setOther (a := ⟨w.heap.size + 2, 10, none⟩) (by show jx ≠ w.heap.size + 2; omega) _, hh⟩
  generalize (((v2).setCell ⟨w.heap.size + 2, 8, none⟩ (.int .i64 s)).setCell ⟨w.heap.size + 2, 9, none⟩ (.int .i64 g)).setCell ⟨w.heap.size + 2, 10, none⟩ (.slice (some ⟨jx, 0, none⟩) m m) = v3 at *
  have R1 := (((((((((((R.set0 (.int .i64 dn)).set1 (.int .i64 dd)).set2 (.int .i64 li)).set3 (.int .i64 le)).set4 (.int .i64 pt)).set5 (.int .i64 ag)).set6 (.int .i64 ke)).set7 (.int .i64 lg)).set8 (.int .i64 s)).set9 (.int .i64 g)).set10 (.slice (some ⟨jx, 0, none⟩) m m))
  have B1 := (((((((((((B.setCell (p := ⟨w.heap.size + 1, 0, none⟩) (by simp; try omega) (.int .i64 dn)).setCell (p := ⟨w.heap.size + 1, 1, none⟩) (by simp; try omega) (.int .i64 dd)).setCell (p := ⟨w.heap.size + 1, 2, none⟩) (by simp; try omega) (.int .i64 li)).setCell (p := ⟨w.heap.size + 1, 3, none⟩) (by simp; try omega) (.int .i64 le)).setCell (p := ⟨w.heap.size + 1, 4, none⟩) (by simp; try omega) (.int .i64 pt)).setCell (p := ⟨w.heap.size + 1, 5, none⟩) (by simp; try omega) (.int .i64 ag)).setCell (p := ⟨w.heap.size + 1, 6, none⟩) (by simp; try omega) (.int .i64 ke)).setCell (p := ⟨w.heap.size + 1, 7, none⟩) (by simp; try omega) (.int .i64 lg)).setCell (p := ⟨w.heap.size + 1, 8, none⟩) (by simp; try omega) (.int .i64 s)).setCell (p := ⟨w.heap.size + 1, 9, none⟩) (by simp; try omega) (.int .i64 g)).setCell (p := ⟨w.heap.size + 1, 10, none⟩) (by simp; try omega) (.slice (some ⟨jx, 0, none⟩) m m))
  have HR : Hid (RowF ((((((((((((v3).setCell ⟨w.heap.size + 1, 0, none⟩ (.int .i64 dn)).setCell ⟨w.heap.size + 1, 1, none⟩ (.int .i64 dd)).setCell ⟨w.heap.size + 1, 2, none⟩ (.int .i64 li)).setCell ⟨w.heap.size + 1, 3, none⟩ (.int .i64 le)).setCell ⟨w.heap.size + 1, 4, none⟩ (.int .i64 pt)).setCell ⟨w.heap.size + 1, 5, none⟩ (.int .i64 ag)).setCell ⟨w.heap.size + 1, 6, none⟩ (.int .i64 ke)).setCell ⟨w.heap.size + 1, 7, none⟩ (.int .i64 lg)).setCell ⟨w.heap.size + 1, 8, none⟩ (.int .i64 s)).setCell ⟨w.heap.size + 1, 9, none⟩ (.int .i64 g)).setCell ⟨w.heap.size + 1, 10, none⟩ (.slice (some ⟨jx, 0, none⟩) m m)) jx 112 (m * 2) (m * 2) (MFSlot PM)) := by
    obtain ⟨gg, hr, hh⟩ := RW
    refine ⟨gg, ?_, hh⟩
    have hn : jx ≠ w.heap.size + 1 := by omega
    repeat (refine World.rowIs.setOther ?_ (by exact hn) _)
    exact hr
  clear RW
  obtain ⟨u0, u1, u2, u3, u4, u5, u6, u7, u8, u9, u10, u11, t0, t1, t2, t3, t4, t5, t6, t7, t8, t9, t10⟩ := id X
  obtain ⟨x0, x1, x2, x3, x4, x5, x6, x7, x8, x9, x10, x11, y0, y1, y2, y3, y4, y5, y6, y7, y8, y9, y10⟩ := id R
  go_wp2_with fail
  clear u0 u1 u2 u3 u4 u5 u6 u7 u8 u9 u10 u11 t0 t1 t2 t3 t4 t5 t6 t7 t8 t9 t10
  clear x0 x1 x2 x3 x4 x5 x6 x7 x8 x9 x10 x11 y0 y1 y2 y3 y4 y5 y6 y7 y8 y9 y10
  clear X R B
  generalize (((((((((((v3).setCell ⟨w.heap.size + 1, 0, none⟩ (.int .i64 dn)).setCell ⟨w.heap.size + 1, 1, none⟩ (.int .i64 dd)).setCell ⟨w.heap.size + 1, 2, none⟩ (.int .i64 li)).setCell ⟨w.heap.size + 1, 3, none⟩ (.int .i64 le)).setCell ⟨w.heap.size + 1, 4, none⟩ (.int .i64 pt)).setCell ⟨w.heap.size + 1, 5, none⟩ (.int .i64 ag)).setCell ⟨w.heap.size + 1, 6, none⟩ (.int .i64 ke)).setCell ⟨w.heap.size + 1, 7, none⟩ (.int .i64 lg)).setCell ⟨w.heap.size + 1, 8, none⟩ (.int .i64 s)).setCell ⟨w.heap.size + 1, 9, none⟩ (.int .i64 g)).setCell ⟨w.heap.size + 1, 10, none⟩ (.slice (some ⟨jx, 0, none⟩) m m) = v4 at *
  obtain ⟨x0, x1, x2, x3, x4, x5, x6, x7, x8, x9, x10, x11, y0, y1, y2, y3, y4, y5, y6, y7, y8, y9, y10⟩ := id R1
  exact bodyPost_ret (v := (.agg #[.int .i64 dn, .int .i64 dd, .int .i64 li, .int .i64 le, .int .i64 pt, .int .i64 ag, .int .i64 ke, .int .i64 lg, .int .i64 s, .int .i64 g, .slice (some ⟨jx, 0, none⟩) m m])) (by simp (maxDischargeDepth := 6) [results, Try.results8, go_sem, *]) rfl ⟨jx, rfl, by omega, HR.out, B1⟩
end Go.Proofs.Ytlllbahfjihepaa
namespace Go.Proofs.Ytlllbahfjihepaa
open Go.RowKit
set_option linter.unusedVariables false
theorem szHeardS_le (a : Option Addr) (n c : Nat) (Z : Int) (w : World) (hm : n ≤ maxLen) (h0 : 0 ≤ Z) (h1 : Z ≤ 1048576) :
    Calls Try.prog 32 #[.slice a n c, .int .i64 Z] w fun e w' => ∃ L : Int, e = .returned (.int .i64 L) ∧ (0 ≤ L → n ≤ 1048576 ∧ L ≤ 1048576) ∧ Below w.heap.size w w' := by
  refine (szHeardS_any a n c Z w hm h0 h1).mono ?_
  rintro e w' ⟨rfl, rfl⟩
  refine ⟨_, rfl, fun h => ?_, Below.refl _ _⟩
  split at h
  · rename_i hq; rw [if_pos hq]; constructor <;> omega
  · omega
set_option maxHeartbeats 2000000 in
theorem szPlan_at (ep us : Int) (a : Option Addr) (n c : Nat) (Z : Int) (w : World) (hm : n ≤ maxLen) (h0 : 0 ≤ Z) (h1 : Z ≤ 1048576) :
    Calls Try.prog 20 #[.agg #[.int .i64 ep, .int .i64 us, .slice a n c], .int .i64 Z] w fun e w' => ∃ L : Int, e = .returned (.int .i64 L) ∧ (0 ≤ L → n ≤ 1048576 ∧ L ≤ 1048576) ∧ Below w.heap.size w w' := by
  have A0 := Below.nw w (.cells #[.int .i64 ep, .int .i64 us, .slice a n c] 26)
  by_cases h : (n : Int) ≤ Z
  · have hneg : ¬ (Z - (n : Int) < 0) := by omega
    go_enter Try.func20, Try.ntmps20
    go_wp2_with fail
    refine (szSlotS_any _ _ _ _ _ hm h0 h1).mono ?_
    rintro e w1 ⟨rfl, rfl⟩
    rw [if_pos h]
    go_wp2_with fail
    go_ret
    exact ⟨_, rfl, fun _ => ⟨by omega, by omega⟩, A0⟩
  · go_enter Try.func20, Try.ntmps20
    go_wp2_with fail
    refine (szSlotS_any _ _ _ _ _ hm h0 h1).mono ?_
    rintro e w1 ⟨rfl, rfl⟩
    rw [if_neg (Int.not_le.2 h)]
    go_wp2_with fail
    go_ret
    exact ⟨_, rfl, fun h => absurd h (by decide), A0⟩
theorem Box8.kept {w w' : World} {q : Option Nat} {j : Nat} {k fr tu no lo hi sl : Int} {s : ByteArray} (h : Box8 w j k fr tu no lo hi sl s) (hg : w.grownBy w' q) (hq : some j ≠ q) : Box8 w' j k fr tu no lo hi sl s := by
  obtain ⟨h0, h1, h2, h3, h4, h5, h6, h7, h8⟩ := h
  have cc : ∀ i, w'.cell? ⟨j, i, none⟩ = w.cell? ⟨j, i, none⟩ := fun i => cell_grown hg h0 hq
  exact ⟨Nat.lt_of_lt_of_le h0 hg.size, by rw [cc]; exact h1, by rw [cc]; exact h2, by rw [cc]; exact h3, by rw [cc]; exact h4, by rw [cc]; exact h5, by rw [cc]; exact h6, by rw [cc]; exact h7, by rw [cc]; exact h8⟩
end Go.Proofs.Ytlllbahfjihepaa
namespace Go.Proofs.Ytlllbahfjihepaa
open Go.RowKit
set_option linter.unusedVariables false
set_option maxRecDepth 100000 in
set_option maxHeartbeats 8000000 in
theorem szCfg_at (dn dd li le pt ag ke lg s g : Int) (p : Option Addr) (m d : Nat) (PM : Nat → SlT) (Z : Int) (w : World) (hm : m ≤ maxLen) (h0 : 0 ≤ Z) (h1 : Z ≤ 1048576) :
    Calls Try.prog 6 #[.agg #[.int .i64 dn, .int .i64 dd, .int .i64 li, .int .i64 le, .int .i64 pt, .int .i64 ag, .int .i64 ke, .int .i64 lg, .int .i64 s, .int .i64 g, .slice p m d], .int .i64 Z] w fun e w' => ∃ L : Int, e = .returned (.int .i64 L) ∧ (0 ≤ L → m ≤ 1048576 ∧ L ≤ 1048576) ∧ Below w.heap.size w w' := by
  have B := Below.nw w (.cells #[.int .i64 dn, .int .i64 dd, .int .i64 li, .int .i64 le, .int .i64 pt, .int .i64 ag, .int .i64 ke, .int .i64 lg, .int .i64 s, .int .i64 g, .slice p m d] 28)
  have C := Cx11.new w (.int .i64 dn) (.int .i64 dd) (.int .i64 li) (.int .i64 le) (.int .i64 pt) (.int .i64 ag) (.int .i64 ke) (.int .i64 lg) (.int .i64 s) (.int .i64 g) (.slice p m d) 28
  have C1 := fun w' => szPlan_at s g p m d Z w' hm h0 h1
  go_enter Try.func6, Try.ntmps6
  go_upto_region 1 with fail
  generalize w.alloc (.cells #[.int .i64 dn, .int .i64 dd, .int .i64 li, .int .i64 le, .int .i64 pt, .int .i64 ag, .int .i64 ke, .int .i64 lg, .int .i64 s, .int .i64 g, .slice p m d] 28) = v at *
  obtain ⟨x0, x1, x2, x3, x4, x5, x6, x7, x8, x9, x10, x11, y0, y1, y2, y3, y4, y5, y6, y7, y8, y9, y10⟩ := id C
  go_wp2_with fail
  refine (C1 _).mono ?_
  rintro e v1 ⟨L, rfl, hL, hb⟩
  clear x0 x1 x2 x3 x4 x5 x6 x7 x8 x9 x10 x11 y0 y1 y2 y3 y4 y5 y6 y7 y8 y9 y10
  replace B := B.trans (hb.mono B.size)
  clear hb C C1
  by_cases hz : L < 0
  · go_wp2_with fail
    go_ret
    exact ⟨-1, rfl, fun h => absurd h (by decide), B⟩
  · have HL : Hid (0 ≤ L → m ≤ 1048576 ∧ L ≤ 1048576) := hL
    clear hL
    go_wp2_with fail
    go_ret
    exact ⟨L, rfl, HL.out, B⟩
set_option maxRecDepth 100000 in
set_option maxHeartbeats 8000000 in
theorem eqCfg_same (dn dd li le pt ag ke lg s g : Int) (p : Option Addr) (m d : Nat) (PM : Nat → SlT) (p' : Option Addr) (d' : Nat) (w : World) (hm : m ≤ maxLen) (h : SrcC w p (m * 2) (MFSlot PM)) (h' : SrcC w p' (m * 2) (MFSlot PM)) :
    Calls Try.prog 10 #[.agg #[.int .i64 dn, .int .i64 dd, .int .i64 li, .int .i64 le, .int .i64 pt, .int .i64 ag, .int .i64 ke, .int .i64 lg, .int .i64 s, .int .i64 g, .slice p m d], .agg #[.int .i64 dn, .int .i64 dd, .int .i64 li, .int .i64 le, .int .i64 pt, .int .i64 ag, .int .i64 ke, .int .i64 lg, .int .i64 s, .int .i64 g, .slice p' m d']] w fun e w' => e = .returned (.bool true) ∧ Below w.heap.size w w' := by
  have A0 := Below.nw w (.cells #[.int .i64 dn, .int .i64 dd, .int .i64 li, .int .i64 le, .int .i64 pt, .int .i64 ag, .int .i64 ke, .int .i64 lg, .int .i64 s, .int .i64 g, .slice p m d] 36)
  have A1 := Below.nw (w.alloc (.cells #[.int .i64 dn, .int .i64 dd, .int .i64 li, .int .i64 le, .int .i64 pt, .int .i64 ag, .int .i64 ke, .int .i64 lg, .int .i64 s, .int .i64 g, .slice p m d] 36)) (.cells #[.int .i64 dn, .int .i64 dd, .int .i64 li, .int .i64 le, .int .i64 pt, .int .i64 ag, .int .i64 ke, .int .i64 lg, .int .i64 s, .int .i64 g, .slice p' m d'] 36)
  have C := (Cx11.new w (.int .i64 dn) (.int .i64 dd) (.int .i64 li) (.int .i64 le) (.int .i64 pt) (.int .i64 ag) (.int .i64 ke) (.int .i64 lg) (.int .i64 s) (.int .i64 g) (.slice p m d) 36).below A1
  have X := Cx11.new (w.alloc (.cells #[.int .i64 dn, .int .i64 dd, .int .i64 li, .int .i64 le, .int .i64 pt, .int .i64 ag, .int .i64 ke, .int .i64 lg, .int .i64 s, .int .i64 g, .slice p m d] 36)) (.int .i64 dn) (.int .i64 dd) (.int .i64 li) (.int .i64 le) (.int .i64 pt) (.int .i64 ag) (.int .i64 ke) (.int .i64 lg) (.int .i64 s) (.int .i64 g) (.slice p' m d') 36
  have B := A0.trans (A1.mono A0.size)
  simp only [World.size_alloc] at X
  clear A0 A1
  have C1 := fun w' => eqDrift_same dn dd w'
  have C2 := fun (w' : World) (hb : Below w.heap.size w w') => eqPlan_same s g p p' m d d' PM w' hm (h.below hb) (h'.below hb)
  clear h h'
  go_enter Try.func10, Try.ntmps10
  go_upto_region 1 with fail
  generalize (w.alloc (.cells #[.int .i64 dn, .int .i64 dd, .int .i64 li, .int .i64 le, .int .i64 pt, .int .i64 ag, .int .i64 ke, .int .i64 lg, .int .i64 s, .int .i64 g, .slice p m d] 36)).alloc (.cells #[.int .i64 dn, .int .i64 dd, .int .i64 li, .int .i64 le, .int .i64 pt, .int .i64 ag, .int .i64 ke, .int .i64 lg, .int .i64 s, .int .i64 g, .slice p' m d'] 36) = v at *
  obtain ⟨x0, x1, x2, x3, x4, x5, x6, x7, x8, x9, x10, x11, y0, y1, y2, y3, y4, y5, y6, y7, y8, y9, y10⟩ := id C
  obtain ⟨u0, u1, u2, u3, u4, u5, u6, u7, u8, u9, u10, u11, t0, t1, t2, t3, t4, t5, t6, t7, t8, t9, t10⟩ := id X
  go_wp2_with fail
  refine (C1 _).mono ?_
  rintro e v1 ⟨rfl, hb⟩
  clear x0 x1 x2 x3 x4 x5 x6 x7 x8 x9 x10 x11 y0 y1 y2 y3 y4 y5 y6 y7 y8 y9 y10
  clear u0 u1 u2 u3 u4 u5 u6 u7 u8 u9 u10 u11 t0 t1 t2 t3 t4 t5 t6 t7 t8 t9 t10
  replace B := B.trans (hb.mono B.size)
  replace C := C.below hb
  replace X := X.below hb
  clear hb C1
  obtain ⟨x0, x1, x2, x3, x4, x5, x6, x7, x8, x9, x10, x11, y0, y1, y2, y3, y4, y5, y6, y7, y8, y9, y10⟩ := id C
  obtain ⟨u0, u1, u2, u3, u4, u5, u6, u7, u8, u9, u10, u11, t0, t1, t2, t3, t4, t5, t6, t7, t8, t9, t10⟩ := id X
  have e1 : (li != li) = false := by simp
  have e2 : (le != le) = false := by simp
  have e3 : (pt != pt) = false := by simp
  have e4 : (ag != ag) = false := by simp
  have e5 : (ke != ke) = false := by simp
  have e6 : (lg != lg) = false := by simp
  go_wp2_with fail
  refine (C2 _ B).mono ?_
  rintro e v2 ⟨rfl, hb⟩
  clear x0 x1 x2 x3 x4 x5 x6 x7 x8 x9 x10 x11 y0 y1 y2 y3 y4 y5 y6 y7 y8 y9 y10
  clear u0 u1 u2 u3 u4 u5 u6 u7 u8 u9 u10 u11 t0 t1 t2 t3 t4 t5 t6 t7 t8 t9 t10
  replace B := B.trans (hb.mono B.size)
  clear hb C X C2
  go_wp2_with fail
  go_ret
  exact ⟨rfl, B⟩
end Go.Proofs.Ytlllbahfjihepaa
namespace Go.Proofs.Ytlllbahfjihepaa
open Go.RowKit
set_option linter.unusedVariables false
def CfgOkTold : Prop := ∀ (dn dd li le pt ag ke lg s g : Int) (p : Option Addr) (m d : Nat) (PM : Nat → SlT) (w : World) (hpm : m ≤ maxLen) (hp : SrcC w p (m * 2) (MFSlot PM)),
    Calls Try.prog 9 #[.agg #[.int .i64 dn, .int .i64 dd, .int .i64 li, .int .i64 le, .int .i64 pt, .int .i64 ag, .int .i64 ke, .int .i64 lg, .int .i64 s, .int .i64 g, .slice p m d]] w fun e w' => e = .returned (.bool (cfB dn dd li le pt ag ke lg s g PM m)) ∧ Below w.heap.size w w'
set_option maxRecDepth 100000 in
set_option maxHeartbeats 8000000 in
theorem lawCfgOk (CI : CfgOkTold) (dn dd li le pt ag ke lg s g : Int) (p : Option Addr) (m d : Nat) (PM : Nat → SlT) (w : World) (hpm : m ≤ maxLen) (hp : SrcC w p (m * 2) (MFSlot PM)) :
    Calls Try.prog 3 #[.agg #[.int .i64 dn, .int .i64 dd, .int .i64 li, .int .i64 le, .int .i64 pt, .int .i64 ag, .int .i64 ke, .int .i64 lg, .int .i64 s, .int .i64 g, .slice p m d]] w fun e w' => e = .returned (.bool true) ∧ Below w.heap.size w w' := by
  have B := Below.nw w (.cells #[.int .i64 dn, .int .i64 dd, .int .i64 li, .int .i64 le, .int .i64 pt, .int .i64 ag, .int .i64 ke, .int .i64 lg, .int .i64 s, .int .i64 g, .slice p m d] 28)
  have C := Cx11.new w (.int .i64 dn) (.int .i64 dd) (.int .i64 li) (.int .i64 le) (.int .i64 pt) (.int .i64 ag) (.int .i64 ke) (.int .i64 lg) (.int .i64 s) (.int .i64 g) (.slice p m d) 28
  have HP : Hid (SrcC w p (m * 2) (MFSlot PM)) := hp
  have C1 := fun w' => szCfg_at dn dd li le pt ag ke lg s g p m d PM 1048576 w' hpm (by decide) (by decide)
  have CS := fun (w' : World) (p' : Option Addr) (h : SrcC w' p' (m * 2) (MFSlot PM)) => specCfgOk_any dn dd li le pt ag ke lg s g p' m m PM w' hpm h
  have CP := fun (w' : World) (p' : Option Addr) (h : SrcC w' p' (m * 2) (MFSlot PM)) => CI dn dd li le pt ag ke lg s g p' m m PM w' hpm h
  have CE := fun (w' : World) (q q' : Option Addr) (h : SrcC w' q (m * 2) (MFSlot PM)) (h' : SrcC w' q' (m * 2) (MFSlot PM)) => eqCfg_same dn dd li le pt ag ke lg s g q m m PM q' m w' hpm h h'
  clear hp CI
  generalize cfB dn dd li le pt ag ke lg s g PM m = A at *
  go_enter Try.func3, Try.ntmps3
  go_upto_region 1 with fail
  generalize w.alloc (.cells #[.int .i64 dn, .int .i64 dd, .int .i64 li, .int .i64 le, .int .i64 pt, .int .i64 ag, .int .i64 ke, .int .i64 lg, .int .i64 s, .int .i64 g, .slice p m d] 28) = v at *
  obtain ⟨x0, x1, x2, x3, x4, x5, x6, x7, x8, x9, x10, x11, y0, y1, y2, y3, y4, y5, y6, y7, y8, y9, y10⟩ := id C
  go_wp2_with fail
  refine (C1 _).mono ?_
  clear C1
  rintro e v1 ⟨Z, rfl, hZ, hb⟩
  clear x0 x1 x2 x3 x4 x5 x6 x7 x8 x9 x10 x11 y0 y1 y2 y3 y4 y5 y6 y7 y8 y9 y10
  replace B := B.trans (hb.mono B.size)
  replace C := C.below hb
  clear hb
  by_cases hz : Z < 0
  · clear CS CP CE hZ
    go_wp2_with fail
    go_ret
    exact ⟨rfl, B⟩
  obtain ⟨hpn, -⟩ := hZ (by omega)
  clear hZ
  have CT := fun (w' : World) (h : Below w.heap.size w w') => toCfg_any dn dd li le pt ag ke lg s g p m d PM w' hpn (HP.out.below h)
  obtain ⟨x0, x1, x2, x3, x4, x5, x6, x7, x8, x9, x10, x11, y0, y1, y2, y3, y4, y5, y6, y7, y8, y9, y10⟩ := id C
  go_wp2_with fail
  refine (CT _ B).mono ?_
  rintro e v2 ⟨j2, rfl, _, R2, hb⟩
  clear x0 x1 x2 x3 x4 x5 x6 x7 x8 x9 x10 x11 y0 y1 y2 y3 y4 y5 y6 y7 y8 y9 y10
  replace B := B.trans (hb.mono B.size)
  replace C := C.below hb
  clear hb
  go_wp2_with fail
  refine (CS _ _ (.inr ⟨_, _, rfl, R2.cs (Nat.le_refl _)⟩)).mono ?_
  clear CS R2
  rintro e v3 ⟨rfl, hb⟩
  replace B := B.trans (hb.mono B.size)
  replace C := C.below hb
  clear hb
  obtain ⟨x0, x1, x2, x3, x4, x5, x6, x7, x8, x9, x10, x11, y0, y1, y2, y3, y4, y5, y6, y7, y8, y9, y10⟩ := id C
  go_wp2_with fail
  refine (CT _ B).mono ?_
  rintro e v4 ⟨jx, rfl, _, RX, hb⟩
  clear x0 x1 x2 x3 x4 x5 x6 x7 x8 x9 x10 x11 y0 y1 y2 y3 y4 y5 y6 y7 y8 y9 y10
  replace B := B.trans (hb.mono B.size)
  replace C := C.below hb
  clear hb
  have A5 := Below.nw v4 (.cells #[.int .i64 dn, .int .i64 dd, .int .i64 li, .int .i64 le, .int .i64 pt, .int .i64 ag, .int .i64 ke, .int .i64 lg, .int .i64 s, .int .i64 g, .slice (some ⟨jx, 0, none⟩) m m] 36)
  have X := Cx11.new v4 (.int .i64 dn) (.int .i64 dd) (.int .i64 li) (.int .i64 le) (.int .i64 pt) (.int .i64 ag) (.int .i64 ke) (.int .i64 lg) (.int .i64 s) (.int .i64 g) (.slice (some ⟨jx, 0, none⟩) m m) 36
  go_upto_region 7 with fail
  replace B := B.trans (A5.mono B.size)
  replace C := C.below A5
  replace RX := RowF.below' A5 RX
  clear A5
  generalize v4.alloc (.cells #[.int .i64 dn, .int .i64 dd, .int .i64 li, .int .i64 le, .int .i64 pt, .int .i64 ag, .int .i64 ke, .int .i64 lg, .int .i64 s, .int .i64 g, .slice (some ⟨jx, 0, none⟩) m m] 36) = v5 at *
  generalize v4.heap.size = kx at *
  obtain ⟨u0, u1, u2, u3, u4, u5, u6, u7, u8, u9, u10, u11, t0, t1, t2, t3, t4, t5, t6, t7, t8, t9, t10⟩ := id X
  go_wp2_with fail
  refine (CP _ _ (.inr ⟨_, _, rfl, RX.cs (Nat.le_refl _)⟩)).mono ?_
  clear CP u0 u1 u2 u3 u4 u5 u6 u7 u8 u9 u10 u11 t0 t1 t2 t3 t4 t5 t6 t7 t8 t9 t10
  rintro e v6 ⟨rfl, hb⟩
  replace B := B.trans (hb.mono B.size)
  replace C := C.below hb
  replace X := X.below hb
  replace RX := RowF.below' hb RX
  clear hb
  have hAA : (A != A) = false := by simp
  cases A
  · go_upto_region 10 with fail
    have SK : Hid (∀ w', Below v6.heap.size v6 w' → ((fun w' => w'.cell? ⟨w.heap.size, 0, none⟩ = some (.int .i64 dn) ∧ w'.cell? ⟨w.heap.size, 1, none⟩ = some (.int .i64 dd) ∧ w'.cell? ⟨w.heap.size, 2, none⟩ = some (.int .i64 li) ∧ w'.cell? ⟨w.heap.size, 3, none⟩ = some (.int .i64 le) ∧ w'.cell? ⟨w.heap.size, 4, none⟩ = some (.int .i64 pt) ∧ w'.cell? ⟨w.heap.size, 5, none⟩ = some (.int .i64 ag) ∧ w'.cell? ⟨w.heap.size, 6, none⟩ = some (.int .i64 ke) ∧ w'.cell? ⟨w.heap.size, 7, none⟩ = some (.int .i64 lg) ∧ w'.cell? ⟨w.heap.size, 8, none⟩ = some (.int .i64 s) ∧ w'.cell? ⟨w.heap.size, 9, none⟩ = some (.int .i64 g) ∧ w'.cell? ⟨w.heap.size, 10, none⟩ = some (.slice p m d) ∧ w'.cell? ⟨kx, 0, none⟩ = some (.int .i64 dn) ∧ w'.cell? ⟨kx, 1, none⟩ = some (.int .i64 dd) ∧ w'.cell? ⟨kx, 2, none⟩ = some (.int .i64 li) ∧ w'.cell? ⟨kx, 3, none⟩ = some (.int .i64 le) ∧ w'.cell? ⟨kx, 4, none⟩ = some (.int .i64 pt) ∧ w'.cell? ⟨kx, 5, none⟩ = some (.int .i64 ag) ∧ w'.cell? ⟨kx, 6, none⟩ = some (.int .i64 ke) ∧ w'.cell? ⟨kx, 7, none⟩ = some (.int .i64 lg) ∧ w'.cell? ⟨kx, 8, none⟩ = some (.int .i64 s) ∧ w'.cell? ⟨kx, 9, none⟩ = some (.int .i64 g) ∧ w'.cell? ⟨kx, 10, none⟩ = some (.slice (some ⟨jx, 0, none⟩) m m))) w') := fun w' hw => ⟨(C.below hw).2.1, (C.below hw).2.2.1, (C.below hw).2.2.2.1, (C.below hw).2.2.2.2.1, (C.below hw).2.2.2.2.2.1, (C.below hw).2.2.2.2.2.2.1, (C.below hw).2.2.2.2.2.2.2.1, (C.below hw).2.2.2.2.2.2.2.2.1, (C.below hw).2.2.2.2.2.2.2.2.2.1, (C.below hw).2.2.2.2.2.2.2.2.2.2.1, (C.below hw).2.2.2.2.2.2.2.2.2.2.2.1, (X.below hw).2.1, (X.below hw).2.2.1, (X.below hw).2.2.2.1, (X.below hw).2.2.2.2.1, (X.below hw).2.2.2.2.2.1, (X.below hw).2.2.2.2.2.2.1, (X.below hw).2.2.2.2.2.2.2.1, (X.below hw).2.2.2.2.2.2.2.2.1, (X.below hw).2.2.2.2.2.2.2.2.2.1, (X.below hw).2.2.2.2.2.2.2.2.2.2.1, (X.below hw).2.2.2.2.2.2.2.2.2.2.2.1⟩
    refine wp_region_held_drew (S := (fun w' => w'.cell? ⟨w.heap.size, 0, none⟩ = some (.int .i64 dn) ∧ w'.cell? ⟨w.heap.size, 1, none⟩ = some (.int .i64 dd) ∧ w'.cell? ⟨w.heap.size, 2, none⟩ = some (.int .i64 li) ∧ w'.cell? ⟨w.heap.size, 3, none⟩ = some (.int .i64 le) ∧ w'.cell? ⟨w.heap.size, 4, none⟩ = some (.int .i64 pt) ∧ w'.cell? ⟨w.heap.size, 5, none⟩ = some (.int .i64 ag) ∧ w'.cell? ⟨w.heap.size, 6, none⟩ = some (.int .i64 ke) ∧ w'.cell? ⟨w.heap.size, 7, none⟩ = some (.int .i64 lg) ∧ w'.cell? ⟨w.heap.size, 8, none⟩ = some (.int .i64 s) ∧ w'.cell? ⟨w.heap.size, 9, none⟩ = some (.int .i64 g) ∧ w'.cell? ⟨w.heap.size, 10, none⟩ = some (.slice p m d) ∧ w'.cell? ⟨kx, 0, none⟩ = some (.int .i64 dn) ∧ w'.cell? ⟨kx, 1, none⟩ = some (.int .i64 dd) ∧ w'.cell? ⟨kx, 2, none⟩ = some (.int .i64 li) ∧ w'.cell? ⟨kx, 3, none⟩ = some (.int .i64 le) ∧ w'.cell? ⟨kx, 4, none⟩ = some (.int .i64 pt) ∧ w'.cell? ⟨kx, 5, none⟩ = some (.int .i64 ag) ∧ w'.cell? ⟨kx, 6, none⟩ = some (.int .i64 ke) ∧ w'.cell? ⟨kx, 7, none⟩ = some (.int .i64 lg) ∧ w'.cell? ⟨kx, 8, none⟩ = some (.int .i64 s) ∧ w'.cell? ⟨kx, 9, none⟩ = some (.int .i64 g) ∧ w'.cell? ⟨kx, 10, none⟩ = some (.slice (some ⟨jx, 0, none⟩) m m))) (by kernel_rfl) ?_ (fun hHeld => ?_)
    · first | exact SK.out _ XB | exact SK.out _ (Below.drew (Below.refl _ _))
    have XB : Below v6.heap.size v6 v6.drew := Below.drew (Below.refl _ _)
    have RX0 : RowF v6.drew jx 112 (m * 2) (m * 2) (MFSlot PM) := RowF.below' (Below.drew (Below.refl _ _)) RX
    clear RX
    generalize v6.drew = vx at *
    refine wpAnyH_take (i := 0) (v := ?_) (by rw [List.getElem?_toArray]; rfl) (by kernel_rfl) (by kernel_rfl) (by kernel_rfl) (by intro _ _ _ h; exact h) (Or.inl ⟨by rfl, ?_⟩) (by assumption) ?_
    rotate_left
    · (intro w hSw; (try dsimp only at hSw); go_simp; all_goals with_reducible rfl)
    (try simp only [Act.put, List.setIfInBounds_toArray, List.set_cons_zero, List.set_cons_succ])
    refine wpAnyH_take (i := 1) (v := ?_) (by rw [List.getElem?_toArray]; rfl) (by kernel_rfl) (by kernel_rfl) (by kernel_rfl) (by intro _ _ _ h; exact h) (Or.inl ⟨by rfl, ?_⟩) (by assumption) ?_
    rotate_left
    · (intro w hSw; (try dsimp only at hSw); go_simp; all_goals with_reducible rfl)
    (try simp only [Act.put, List.setIfInBounds_toArray, List.set_cons_zero, List.set_cons_succ])
    refine wpAnyH_ready (rs := [2]) (by kernel_rfl) (by simp) ?_
    refine AllReadyH.cons (by rw [List.getElem?_toArray]; rfl) (fun K hK => ?_) AllReadyH.nil
    go_simp
    refine (CT vx (B.trans (XB.mono B.size))).mono ?_; rintro ee vy ⟨jy, rfl, _, RY, hbl⟩; (replace XB := XB.trans (hbl.mono XB.size)); (replace RX := RowF.below' hbl RX0); (clear hbl); (generalize hvv : vy = vx at *); (clear hvv)
    (try go_wp2_with fail)
    refine hK.out _ _ ?_ (fun hHeld => ?_)
    · first | exact SK.out _ XB | exact SK.out _ (Below.drew (Below.refl _ _))
    clear hK K
    (try simp only [Act.put, List.setIfInBounds_toArray, List.set_cons_zero, List.set_cons_succ])
    refine wpAnyH_ready (rs := [3]) (by kernel_rfl) (by simp) ?_
    refine AllReadyH.cons (by rw [List.getElem?_toArray]; rfl) (fun K hK => ?_) AllReadyH.nil
    go_simp
    refine (CE vx _ _ (.inr ⟨_, _, rfl, RX.cs (Nat.le_refl _)⟩) (.inr ⟨_, _, rfl, RY.cs (Nat.le_refl _)⟩)).mono ?_; rintro ee vx ⟨rfl, hbl⟩; (replace XB := XB.trans (hbl.mono XB.size)); (clear hbl)
    (try go_wp2_with fail)
    refine hK.out _ _ ?_ (fun hHeld => ?_)
    · first | exact SK.out _ XB | exact SK.out _ (Below.drew (Below.refl _ _))
    clear hK K
    (try simp only [Act.put, List.setIfInBounds_toArray, List.set_cons_zero, List.set_cons_succ])
    refine wpAnyH_take (i := 4) (v := ?_) (by rw [List.getElem?_toArray]; rfl) (by kernel_rfl) (by kernel_rfl) (by kernel_rfl) (by intro _ _ _ h; exact h) (Or.inl ⟨by rfl, ?_⟩) (by assumption) ?_
    rotate_left
    · (intro w hSw; (try dsimp only at hSw); go_simp; all_goals with_reducible rfl)
    (try simp only [Act.put, List.setIfInBounds_toArray, List.set_cons_zero, List.set_cons_succ])
    refine wpAnyH_done (by kernel_rfl) ?_ _
    replace B := B.trans (XB.mono B.size)
    clear SK XB
    go_wp2_with fail
    go_ret
    exact ⟨rfl, B⟩
  · go_upto_region 10 with fail
    have SK : Hid (∀ w', Below v6.heap.size v6 w' → ((fun w' => w'.cell? ⟨w.heap.size, 0, none⟩ = some (.int .i64 dn) ∧ w'.cell? ⟨w.heap.size, 1, none⟩ = some (.int .i64 dd) ∧ w'.cell? ⟨w.heap.size, 2, none⟩ = some (.int .i64 li) ∧ w'.cell? ⟨w.heap.size, 3, none⟩ = some (.int .i64 le) ∧ w'.cell? ⟨w.heap.size, 4, none⟩ = some (.int .i64 pt) ∧ w'.cell? ⟨w.heap.size, 5, none⟩ = some (.int .i64 ag) ∧ w'.cell? ⟨w.heap.size, 6, none⟩ = some (.int .i64 ke) ∧ w'.cell? ⟨w.heap.size, 7, none⟩ = some (.int .i64 lg) ∧ w'.cell? ⟨w.heap.size, 8, none⟩ = some (.int .i64 s) ∧ w'.cell? ⟨w.heap.size, 9, none⟩ = some (.int .i64 g) ∧ w'.cell? ⟨w.heap.size, 10, none⟩ = some (.slice p m d) ∧ w'.cell? ⟨kx, 0, none⟩ = some (.int .i64 dn) ∧ w'.cell? ⟨kx, 1, none⟩ = some (.int .i64 dd) ∧ w'.cell? ⟨kx, 2, none⟩ = some (.int .i64 li) ∧ w'.cell? ⟨kx, 3, none⟩ = some (.int .i64 le) ∧ w'.cell? ⟨kx, 4, none⟩ = some (.int .i64 pt) ∧ w'.cell? ⟨kx, 5, none⟩ = some (.int .i64 ag) ∧ w'.cell? ⟨kx, 6, none⟩ = some (.int .i64 ke) ∧ w'.cell? ⟨kx, 7, none⟩ = some (.int .i64 lg) ∧ w'.cell? ⟨kx, 8, none⟩ = some (.int .i64 s) ∧ w'.cell? ⟨kx, 9, none⟩ = some (.int .i64 g) ∧ w'.cell? ⟨kx, 10, none⟩ = some (.slice (some ⟨jx, 0, none⟩) m m))) w') := fun w' hw => ⟨(C.below hw).2.1, (C.below hw).2.2.1, (C.below hw).2.2.2.1, (C.below hw).2.2.2.2.1, (C.below hw).2.2.2.2.2.1, (C.below hw).2.2.2.2.2.2.1, (C.below hw).2.2.2.2.2.2.2.1, (C.below hw).2.2.2.2.2.2.2.2.1, (C.below hw).2.2.2.2.2.2.2.2.2.1, (C.below hw).2.2.2.2.2.2.2.2.2.2.1, (C.below hw).2.2.2.2.2.2.2.2.2.2.2.1, (X.below hw).2.1, (X.below hw).2.2.1, (X.below hw).2.2.2.1, (X.below hw).2.2.2.2.1, (X.below hw).2.2.2.2.2.1, (X.below hw).2.2.2.2.2.2.1, (X.below hw).2.2.2.2.2.2.2.1, (X.below hw).2.2.2.2.2.2.2.2.1, (X.below hw).2.2.2.2.2.2.2.2.2.1, (X.below hw).2.2.2.2.2.2.2.2.2.2.1, (X.below hw).2.2.2.2.2.2.2.2.2.2.2.1⟩
    refine wp_region_held_drew (S := (fun w' => w'.cell? ⟨w.heap.size, 0, none⟩ = some (.int .i64 dn) ∧ w'.cell? ⟨w.heap.size, 1, none⟩ = some (.int .i64 dd) ∧ w'.cell? ⟨w.heap.size, 2, none⟩ = some (.int .i64 li) ∧ w'.cell? ⟨w.heap.size, 3, none⟩ = some (.int .i64 le) ∧ w'.cell? ⟨w.heap.size, 4, none⟩ = some (.int .i64 pt) ∧ w'.cell? ⟨w.heap.size, 5, none⟩ = some (.int .i64 ag) ∧ w'.cell? ⟨w.heap.size, 6, none⟩ = some (.int .i64 ke) ∧ w'.cell? ⟨w.heap.size, 7, none⟩ = some (.int .i64 lg) ∧ w'.cell? ⟨w.heap.size, 8, none⟩ = some (.int .i64 s) ∧ w'.cell? ⟨w.heap.size, 9, none⟩ = some (.int .i64 g) ∧ w'.cell? ⟨w.heap.size, 10, none⟩ = some (.slice p m d) ∧ w'.cell? ⟨kx, 0, none⟩ = some (.int .i64 dn) ∧ w'.cell? ⟨kx, 1, none⟩ = some (.int .i64 dd) ∧ w'.cell? ⟨kx, 2, none⟩ = some (.int .i64 li) ∧ w'.cell? ⟨kx, 3, none⟩ = some (.int .i64 le) ∧ w'.cell? ⟨kx, 4, none⟩ = some (.int .i64 pt) ∧ w'.cell? ⟨kx, 5, none⟩ = some (.int .i64 ag) ∧ w'.cell? ⟨kx, 6, none⟩ = some (.int .i64 ke) ∧ w'.cell? ⟨kx, 7, none⟩ = some (.int .i64 lg) ∧ w'.cell? ⟨kx, 8, none⟩ = some (.int .i64 s) ∧ w'.cell? ⟨kx, 9, none⟩ = some (.int .i64 g) ∧ w'.cell? ⟨kx, 10, none⟩ = some (.slice (some ⟨jx, 0, none⟩) m m))) (by kernel_rfl) ?_ (fun hHeld => ?_)
    · first | exact SK.out _ XB | exact SK.out _ (Below.drew (Below.refl _ _))
    have XB : Below v6.heap.size v6 v6.drew := Below.drew (Below.refl _ _)
    have RX0 : RowF v6.drew jx 112 (m * 2) (m * 2) (MFSlot PM) := RowF.below' (Below.drew (Below.refl _ _)) RX
    clear RX
    generalize v6.drew = vx at *
    refine wpAnyH_take (i := 0) (v := ?_) (by rw [List.getElem?_toArray]; rfl) (by kernel_rfl) (by kernel_rfl) (by kernel_rfl) (by intro _ _ _ h; exact h) (Or.inl ⟨by rfl, ?_⟩) (by assumption) ?_
    rotate_left
    · (intro w hSw; (try dsimp only at hSw); go_simp; all_goals with_reducible rfl)
    (try simp only [Act.put, List.setIfInBounds_toArray, List.set_cons_zero, List.set_cons_succ])
    refine wpAnyH_take (i := 1) (v := ?_) (by rw [List.getElem?_toArray]; rfl) (by kernel_rfl) (by kernel_rfl) (by kernel_rfl) (by intro _ _ _ h; exact h) (Or.inl ⟨by rfl, ?_⟩) (by assumption) ?_
    rotate_left
    · (intro w hSw; (try dsimp only at hSw); go_simp; all_goals with_reducible rfl)
    (try simp only [Act.put, List.setIfInBounds_toArray, List.set_cons_zero, List.set_cons_succ])
    refine wpAnyH_ready (rs := [2]) (by kernel_rfl) (by simp) ?_
    refine AllReadyH.cons (by rw [List.getElem?_toArray]; rfl) (fun K hK => ?_) AllReadyH.nil
    go_simp
    refine (CT vx (B.trans (XB.mono B.size))).mono ?_; rintro ee vy ⟨jy, rfl, _, RY, hbl⟩; (replace XB := XB.trans (hbl.mono XB.size)); (replace RX := RowF.below' hbl RX0); (clear hbl); (generalize hvv : vy = vx at *); (clear hvv)
    (try go_wp2_with fail)
    refine hK.out _ _ ?_ (fun hHeld => ?_)
    · first | exact SK.out _ XB | exact SK.out _ (Below.drew (Below.refl _ _))
    clear hK K
    (try simp only [Act.put, List.setIfInBounds_toArray, List.set_cons_zero, List.set_cons_succ])
    refine wpAnyH_ready (rs := [3]) (by kernel_rfl) (by simp) ?_
    refine AllReadyH.cons (by rw [List.getElem?_toArray]; rfl) (fun K hK => ?_) AllReadyH.nil
    go_simp
    refine (CE vx _ _ (.inr ⟨_, _, rfl, RX.cs (Nat.le_refl _)⟩) (.inr ⟨_, _, rfl, RY.cs (Nat.le_refl _)⟩)).mono ?_; rintro ee vx ⟨rfl, hbl⟩; (replace XB := XB.trans (hbl.mono XB.size)); (clear hbl)
    (try go_wp2_with fail)
    refine hK.out _ _ ?_ (fun hHeld => ?_)
    · first | exact SK.out _ XB | exact SK.out _ (Below.drew (Below.refl _ _))
    clear hK K
    (try simp only [Act.put, List.setIfInBounds_toArray, List.set_cons_zero, List.set_cons_succ])
    refine wpAnyH_take (i := 4) (v := ?_) (by rw [List.getElem?_toArray]; rfl) (by kernel_rfl) (by kernel_rfl) (by kernel_rfl) (by intro _ _ _ h; exact h) (Or.inl ⟨by rfl, ?_⟩) (by assumption) ?_
    rotate_left
    · (intro w hSw; (try dsimp only at hSw); go_simp; all_goals with_reducible rfl)
    (try simp only [Act.put, List.setIfInBounds_toArray, List.set_cons_zero, List.set_cons_succ])
    refine wpAnyH_done (by kernel_rfl) ?_ _
    replace B := B.trans (XB.mono B.size)
    clear SK XB
    go_wp2_with fail
    go_ret
    exact ⟨rfl, B⟩
end Go.Proofs.Ytlllbahfjihepaa
namespace Go.Proofs.Ytlllbahfjihepaa
open Go.RowKit
set_option linter.unusedVariables false
def Bo (w : World) (k : Nat) (A : Array Value) : Prop := k < w.heap.size ∧ (∀ i u, A[i]? = some u → w.cell? ⟨k, i, none⟩ = some u) ∧ ∀ i, i < A.size → w.frozen? ⟨k, i, none⟩ = false
theorem Bo.belowB {k B : Nat} {w w' : World} {A : Array Value} (h : Bo w k A) (hw : Below B w w') (hk : k < B) : Bo w' k A :=
  ⟨Nat.lt_of_lt_of_le h.1 hw.size, fun i u hi => by rw [hw.cell (p := ⟨k, i, none⟩) hk]; exact h.2.1 i u hi, fun i hi => by rw [hw.frozen (p := ⟨k, i, none⟩) hk]; exact h.2.2 i hi⟩
theorem Bo.below {k : Nat} {w w' : World} {A : Array Value} (h : Bo w k A) (hw : Below w.heap.size w w') : Bo w' k A := h.belowB hw h.1
theorem Bo.new (w : World) (A : Array Value) (T : TypeId) : Bo (w.alloc (.cells A T)) w.heap.size A :=
  ⟨by simp, fun i u hi => by simp [hi], fun i hi => by simp⟩
theorem Bo.drew {k : Nat} {w : World} {A : Array Value} (h : Bo w k A) : Bo w.drew k A := h
theorem add_at (k o i : Nat) : (⟨k, o, none⟩ : Addr).add i = ⟨k, o + i, none⟩ := by
  unfold Addr.add; split <;> simp_all
theorem Bo.load {P : Program} {w : World} {k n : Nat} {A : Array Value} (h : Bo w k A) (hn : A.size = n) : (loadCells ⟨k, 0, none⟩ n).run P w = .ok A w := by
  have e := run_loadCells_list (P := P) w ⟨k, 0, none⟩ A.toList (fun j v hj => by rw [add_at, Nat.zero_add]; exact h.2.1 j v (by simpa using hj))
  rw [← hn]
  simpa using e
theorem Bo.loadAt {P : Program} {w : World} {k : Nat} {A : Array Value} (h : Bo w k A) (o n : Nat) (hn : o + n ≤ A.size) : (loadCells ⟨k, o, none⟩ n).run P w = .ok (A.extract o (o + n)) w := by
  have e := run_loadCells_list (P := P) w ⟨k, o, none⟩ (A.extract o (o + n)).toList (fun j v hj => by
    rw [add_at]
    refine h.2.1 _ v ?_
    rw [Array.getElem?_toList, Array.getElem?_extract] at hj
    split at hj
    · exact hj
    · cases hj)
  have hl : (A.extract o (o + n)).toList.length = n := by simp; omega
  rw [hl, Array.toArray_toList] at e
  exact e
def putA (w : World) (k : Nat) : Nat → List Value → World
  | _, [] => w
  | o, u :: us => putA (w.setCell ⟨k, o, none⟩ u) k (o + 1) us
def spl (A : Array Value) : Nat → List Value → Array Value
  | _, [] => A
  | o, u :: us => spl (A.setIfInBounds o u) (o + 1) us
theorem Bo.set {w : World} {k : Nat} {A : Array Value} (h : Bo w k A) (o : Nat) (u : Value) : Bo (w.setCell ⟨k, o, none⟩ u) k (A.setIfInBounds o u) := by
  refine ⟨by simpa using h.1, fun i x hi => ?_, fun i hi => ?_⟩
  · by_cases e : o = i
    · subst e
      by_cases ho : o < A.size
      · rw [Array.getElem?_setIfInBounds_self_of_lt ho] at hi
        cases hi
        exact World.cell?_setCell_same _ _ _ (h.2.1 o A[o] (Array.getElem?_eq_getElem ho))
      · rw [Array.getElem?_eq_none (by simp; omega)] at hi
        cases hi
    · rw [Array.getElem?_setIfInBounds_ne e] at hi
      rw [World.cell?_setCell_other _ _ _ _ (by simp)]
      exact h.2.1 i x hi
  · have := h.2.2 i (by simpa using hi)
    simpa using this
theorem Bo.put {k : Nat} : ∀ (us : List Value) {w : World} {A : Array Value} (o : Nat), Bo w k A → Bo (putA w k o us) k (spl A o us)
  | [], _, _, _, h => h
  | u :: us, _, _, o, h => Bo.put us (o + 1) (h.set o u)
theorem spl_get : ∀ (us : List Value) (A : Array Value) (o i : Nat), o + us.length ≤ A.size → (spl A o us)[i]? = if o ≤ i ∧ i < o + us.length then us[i - o]? else A[i]?
  | [], A, o, i, _ => by rw [spl, if_neg (by simp)]
  | u :: us, A, o, i, h => by
    simp only [List.length_cons] at h
    rw [spl, spl_get us _ (o + 1) i (by simp; omega)]
    by_cases e : i = o
    · subst e
      rw [if_neg (by omega), if_pos (by simp), Array.getElem?_setIfInBounds_self_of_lt (by omega), Nat.sub_self]
      rfl
    · by_cases h1 : o + 1 ≤ i ∧ i < o + 1 + us.length
      · rw [if_pos h1, if_pos (by simp; omega)]
        obtain ⟨d, hd⟩ : ∃ d, i - o = d + 1 := ⟨i - o - 1, by omega⟩
        rw [hd, show i - (o + 1) = d by omega]
        rfl
      · rw [if_neg h1, if_neg (by simp; omega), Array.getElem?_setIfInBounds_ne (by omega)]
theorem spl_whole (A U : Array Value) (h : U.size = A.size) : spl A 0 U.toList = U := by
  apply Array.ext_getElem?
  intro i
  rw [spl_get _ _ _ _ (by simp; omega)]
  by_cases hi : i < U.size
  · rw [if_pos (by simpa using hi)]; simp
  · rw [if_neg (by simpa using hi), Array.getElem?_eq_none (by omega), Array.getElem?_eq_none (by omega)]
theorem Bo.store {P : Program} {k b : Nat} : ∀ (us : List Value) {w : World} {A : Array Value} (o i : Nat), Bo w k A → b + i = o → o + us.length ≤ A.size → (∀ u ∈ us, u.oneCell' = true) → (storeCells ⟨k, b, none⟩ us i).run P w = .ok () (putA w k o us)
  | [], _, _, _, _, _, _, _, _ => rfl
  | u :: us, w, A, o, i, h, hb, hl, hu => by
    simp only [List.length_cons] at hl
    have hc := h.2.1 o A[o] (Array.getElem?_eq_getElem (by omega))
    have hf := h.2.2 o (by omega)
    rw [storeCells, Sem.run_bind, add_at, hb, run_store _ _ _ _ _ (hu u (List.mem_cons_self ..)), hc]
    simp [hf, Result.andThen]
    exact Bo.store us (o + 1) (i + 1) (h.set o u) (by omega) (by simp; omega) (fun x hx => hu x (List.mem_cons_of_mem _ hx))
theorem Bo.cell {w : World} {k : Nat} {A : Array Value} (h : Bo w k A) {i : Nat} {u : Value} (hi : A[i]? = some u) : w.cell? ⟨k, i, none⟩ = some u := h.2.1 i u hi
theorem Bo.kept {w w' : World} {q : Option Nat} {k : Nat} {A : Array Value} (h : Bo w k A) (hg : w.grownBy w' q) (hq : some k ≠ q) : Bo w' k A :=
  ⟨Nat.lt_of_lt_of_le h.1 hg.size, fun i u hi => by rw [cell_grown hg h.1 hq]; exact h.2.1 i u hi, fun i hi => by
    have := hg.block k h.1 hq
    have e : w'.frozen? ⟨k, i, none⟩ = w.frozen? ⟨k, i, none⟩ := by simp only [World.frozen?]; rw [this]
    rw [e]; exact h.2.2 i hi⟩
end Go.Proofs.Ytlllbahfjihepaa
