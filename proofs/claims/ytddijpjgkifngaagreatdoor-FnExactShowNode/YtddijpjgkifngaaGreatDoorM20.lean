/- Plans in the program: which are right, how long a round is, which round a time lies in. What the laws make of a configuration. A configuration as data; its contracts, told of arrays of cells. What the laws are handed: arrays that read as a configuration. CfgOk in the program, over arrays of cells. -/
import Derived.Test.YtddijpjgkifngaaGreatDoorM18
import Derived.Test.YtddijpjgkifngaaGreatDoorM19
namespace Go.Proofs.YtddijpjgkifngaaGreatDoor
open Go.RowKit
set_option linter.unusedVariables false
set_option maxHeartbeats 2000000 in
theorem slotOk_any (o l : Int) (w : World) :
 Calls Tryz.prog 139 #[.agg #[.int .i64 o, .int .i64 l]] w fun e w' => e = .returned (.bool (slB o l)) ∧ Below w.heap.size w w' := by
 have B := Below.nw w (.cells #[.int .i64 o, .int .i64 l] 198)
 have C1 := fun w' => isNode_any o w'
 cases h1 : nodB o
 ·have e0 : slB o l = false := by unfold slB; rw [h1]; rfl
  rw [e0]
  go_enter Tryz.func139, Tryz.ntmps139
  go_wp2_with fail
  refine (C1 _).mono ?_
  rintro e w' ⟨rfl, rfl⟩
  rw [h1]
  go_wp2_with fail
  go_ret
  exact ⟨rfl, B⟩
 ·have e0 : slB o l = lnB l := by unfold slB; rw [h1]; rfl
  rw [e0]
  clear e0
  by_cases ha : 1 ≤ l
  ·by_cases hb : l ≤ 1000000
   ·have e0 : lnB l = true := decide_eq_true ⟨ha, hb⟩
    rw [e0]
    clear e0
    go_enter Tryz.func139, Tryz.ntmps139
    go_wp2_with fail
    refine (C1 _).mono ?_
    rintro e w' ⟨rfl, rfl⟩
    rw [h1]
    go_wp2_with fail
    go_ret
    exact ⟨rfl, B⟩
   ·have e0 : lnB l = false := decide_eq_false (by omega)
    rw [e0]
    clear e0
    go_enter Tryz.func139, Tryz.ntmps139
    go_wp2_with fail
    refine (C1 _).mono ?_
    rintro e w' ⟨rfl, rfl⟩
    rw [h1]
    go_wp2_with fail
    go_ret
    exact ⟨ret_bool (decide_eq_false (by omega)), B⟩
  ·have e0 : lnB l = false := decide_eq_false (by omega)
   rw [e0]
   clear e0
   go_enter Tryz.func139, Tryz.ntmps139
   go_wp2_with fail
   refine (C1 _).mono ?_
   rintro e w' ⟨rfl, rfl⟩
   rw [h1]
   go_wp2_with fail
   go_ret
   exact ⟨rfl, B⟩
set_option maxRecDepth 100000 in
set_option maxHeartbeats 8000000 in
theorem planOk_any (s g : Int) (a : Option Addr) (n c : Nat) (M : Nat → SlT) (w : World) (hm : n ≤ maxLen) (hs : SrcC w a (n * 2) (MFSlot M)) :
 Calls Tryz.prog 110 #[.agg #[.int .i64 s, .int .i64 g, .slice a n c]] w fun e w' => e = .returned (.bool (plB s g M n)) ∧ Below w.heap.size w w' := by
 unfold maxLen at hm
 have B := Below.nw w (.cells #[.int .i64 s, .int .i64 g, .slice a n c] 43)
 have N := Tx3.new w (.int .i64 s) (.int .i64 g) (.slice a n c) 43
 have C1 := fun w' => isTime_any s w'
 cases h1 : okT s
 ·have e0 : plB s g M n = false := by unfold plB; rw [h1]; rfl
  rw [e0]
  clear e0 hs
  go_enter Tryz.func110, Tryz.ntmps110; go_upto_region 1 with fail; generalize w.alloc (.cells #[.int .i64 s, .int .i64 g, .slice a n c] 43) = v at *; obtain ⟨n0, n1, n2, n3, n4, n5, n6⟩ := id N; go_wp2_with fail; refine (C1 _).mono ?_; rintro e w' ⟨rfl, rfl⟩; rw [h1]; go_wp2_with fail; go_ret; exact ⟨rfl, B⟩
 by_cases h2 : g < 0
 ·have e0 : plB s g M n = false := by unfold plB; rw [h1, show gpB g = false from decide_eq_false (by omega)]; rfl
  rw [e0]
  clear e0 hs
  go_enter Tryz.func110, Tryz.ntmps110; go_upto_region 1 with fail; generalize w.alloc (.cells #[.int .i64 s, .int .i64 g, .slice a n c] 43) = v at *; obtain ⟨n0, n1, n2, n3, n4, n5, n6⟩ := id N; go_wp2_with fail; refine (C1 _).mono ?_; rintro e w' ⟨rfl, rfl⟩; rw [h1]; go_wp2_with fail; go_ret; exact ⟨rfl, B⟩
 by_cases h3 : 100000 < g
 ·have e0 : plB s g M n = false := by unfold plB; rw [h1, show gpB g = false from decide_eq_false (by omega)]; rfl
  rw [e0]
  clear e0 hs
  go_enter Tryz.func110, Tryz.ntmps110; go_upto_region 1 with fail; generalize w.alloc (.cells #[.int .i64 s, .int .i64 g, .slice a n c] 43) = v at *; obtain ⟨n0, n1, n2, n3, n4, n5, n6⟩ := id N; go_wp2_with fail; refine (C1 _).mono ?_; rintro e w' ⟨rfl, rfl⟩; rw [h1]; go_wp2_with fail; go_ret; exact ⟨rfl, B⟩
 have e2 : gpB g = true := decide_eq_true (by omega)
 by_cases h4 : (n : Int) < 1
 ·have e0 : plB s g M n = false := by unfold plB; rw [h1, e2, show cnB n = false from decide_eq_false (by omega)]; rfl
  rw [e0]
  clear e0 hs e2
  go_enter Tryz.func110, Tryz.ntmps110; go_upto_region 1 with fail; generalize w.alloc (.cells #[.int .i64 s, .int .i64 g, .slice a n c] 43) = v at *; obtain ⟨n0, n1, n2, n3, n4, n5, n6⟩ := id N; go_wp2_with fail; refine (C1 _).mono ?_; rintro e w' ⟨rfl, rfl⟩; rw [h1]; go_wp2_with fail; go_ret; exact ⟨rfl, B⟩
 by_cases h5 : 12 < (n : Int)
 ·have e0 : plB s g M n = false := by unfold plB; rw [h1, e2, show cnB n = false from decide_eq_false (by omega)]; rfl
  rw [e0]
  clear e0 hs e2
  go_enter Tryz.func110, Tryz.ntmps110; go_upto_region 1 with fail; generalize w.alloc (.cells #[.int .i64 s, .int .i64 g, .slice a n c] 43) = v at *; obtain ⟨n0, n1, n2, n3, n4, n5, n6⟩ := id N; go_wp2_with fail; refine (C1 _).mono ?_; rintro e w' ⟨rfl, rfl⟩; rw [h1]; go_wp2_with fail; go_ret; exact ⟨rfl, B⟩
 have e0 : plB s g M n = slA M n := by unfold plB; rw [h1, e2, show cnB n = true from decide_eq_true (by omega)]; rfl
 rw [e0]
 clear e0 e2
 obtain ⟨b, off, rfl, hf⟩ : ∃ b off, a = some ⟨b, off, none⟩ ∧ Cs w b off (n * 2) (MFSlot M) := by
  rcases hs with q | q
  ·exact absurd q (by omega)
  ·exact q
 have HF : Hid (Cs w b off (n * 2) (MFSlot M)) := hf
 clear hf hs
 go_enter Tryz.func110, Tryz.ntmps110; go_upto_region 1 with fail; generalize w.alloc (.cells #[.int .i64 s, .int .i64 g, .slice (some ⟨b, off, none⟩) n c] 43) = v at *
 obtain ⟨n0, n1, n2, n3, n4, n5, n6⟩ := id N; go_wp2_with fail; refine (C1 _).mono ?_; rintro e w' ⟨rfl, rfl⟩; rw [h1]
 clear C1 h1
 go_wp2_with fail
 clear h2 h3 h4 h5 N
 clear n0 n1 n2 n3 n4 n5 n6
 go_loopw [34] (fun i wr => ∃ (k : Nat), k ≤ n ∧ i = .int .i64 k ∧ slA M k = true ∧ Below w.heap.size w wr) (fun i _ => n - (intOf i).toNat)
 case atStart => exact ⟨0, Nat.zero_le _, rfl, rfl, B⟩
 case round =>
  clear B
  obtain ⟨k, hk, rfl, hA, B⟩ := hrel
  by_cases hlt : k < n
  ·obtain ⟨o, l, hM⟩ := tupSlot M k
   obtain ⟨c1, c2⟩ := (HF.out.below B HF.out.1).elSlot hlt hM
   have HA : Hid (slA M (k + 1) = slB o l) := by rw [Hid, slA, hA, hM]; rfl
   have HLT : Hid (k < n) := hlt
   have hli : (k : Int) < (n : Int) := by omega
   have C1 := fun w' => slotOk_any o l w'
   have A1 := Below.nw wr (.cells #[.int .i64 o, .int .i64 l] 198)
   replace B := B.trans (A1.mono B.size)
   clear hM hA HF A1
   go_wp2_with fail
   refine (C1 _).mono ?_
   rintro e v1 ⟨rfl, hb⟩
   replace B := B.trans (hb.mono B.size)
   clear hb
   cases h1 : slB o l
   ·have HN : Hid (slA M (k + 1) = false) := by rw [Hid, HA.out, h1]
    clear HA
    go_wp2_with fail
    go_ret
    exact ⟨ret_bool (slA_no HN.out HLT.out).symm, B⟩
   ·have HT : Hid (slA M (k + 1) = true) := by rw [Hid, HA.out, h1]
    clear HA
    go_wp2_with fail
    go_roundw
    case rel => exact ⟨k + 1, HLT.out, by go_num, HT.out, B⟩
    case measure => have hlt' := HLT.out; simp [intOf]; omega
  ·have hkn : k = n := by omega
   subst hkn
   have hli : ¬ (k : Int) < (k : Int) := by omega
   go_wp2_with fail
   go_ret
   exact ⟨by first | rfl | exact ret_bool hA.symm, B⟩

end Go.Proofs.YtddijpjgkifngaaGreatDoor
namespace Go.Proofs.YtddijpjgkifngaaGreatDoor
open Go.RowKit
set_option linter.unusedVariables false
set_option maxRecDepth 100000 in
set_option maxHeartbeats 8000000 in
theorem toCfg_any (dn dd li le pt ag ke lg s g : Int) (p : Option Addr) (m d : Nat) (PM : Nat → SlT) (w : World) (hpn : m ≤ 1048576) (hp : SrcC w p (m * 2) (MFSlot PM)) :
 Calls Tryz.prog 26 #[.agg #[.int .i64 dn, .int .i64 dd, .int .i64 li, .int .i64 le, .int .i64 pt, .int .i64 ag, .int .i64 ke, .int .i64 lg, .int .i64 s, .int .i64 g, .slice p m d]] w fun e w' => ∃ jx, e = .returned (.agg #[.int .i64 dn, .int .i64 dd, .int .i64 li, .int .i64 le, .int .i64 pt, .int .i64 ag, .int .i64 ke, .int .i64 lg, .int .i64 s, .int .i64 g, .slice (some ⟨jx, 0, none⟩) m m]) ∧ w.heap.size ≤ jx ∧ RowF w' jx 198 (m * 2) (m * 2) (MFSlot PM) ∧ Below w.heap.size w w' := by
 have A0 := Below.nw w (.cells #[.int .i64 dn, .int .i64 dd, .int .i64 li, .int .i64 le, .int .i64 pt, .int .i64 ag, .int .i64 ke, .int .i64 lg, .int .i64 s, .int .i64 g, .slice p m d] 28)
 have A1 := Below.nw (w.alloc (.cells #[.int .i64 dn, .int .i64 dd, .int .i64 li, .int .i64 le, .int .i64 pt, .int .i64 ag, .int .i64 ke, .int .i64 lg, .int .i64 s, .int .i64 g, .slice p m d] 28)) (.cells #[.int .i64 0, .int .i64 0, .int .i64 0, .int .i64 0, .int .i64 0, .int .i64 0, .int .i64 0, .int .i64 0, .int .i64 0, .int .i64 0, .slice none 0 0] 45)
 have A2 := Below.nw ((w.alloc (.cells #[.int .i64 dn, .int .i64 dd, .int .i64 li, .int .i64 le, .int .i64 pt, .int .i64 ag, .int .i64 ke, .int .i64 lg, .int .i64 s, .int .i64 g, .slice p m d] 28)).alloc (.cells #[.int .i64 0, .int .i64 0, .int .i64 0, .int .i64 0, .int .i64 0, .int .i64 0, .int .i64 0, .int .i64 0, .int .i64 0, .int .i64 0, .slice none 0 0] 45)) (.cells #[.int .i64 0, .int .i64 0, .int .i64 0, .int .i64 0, .int .i64 0, .int .i64 0, .int .i64 0, .int .i64 0, .int .i64 0, .int .i64 0, .slice none 0 0] 45)
 have C := ((Cx11.new w (.int .i64 dn) (.int .i64 dd) (.int .i64 li) (.int .i64 le) (.int .i64 pt) (.int .i64 ag) (.int .i64 ke) (.int .i64 lg) (.int .i64 s) (.int .i64 g) (.slice p m d) 28).below A1).below A2
 have R := (Cx11.new (w.alloc (.cells #[.int .i64 dn, .int .i64 dd, .int .i64 li, .int .i64 le, .int .i64 pt, .int .i64 ag, .int .i64 ke, .int .i64 lg, .int .i64 s, .int .i64 g, .slice p m d] 28)) (.int .i64 0) (.int .i64 0) (.int .i64 0) (.int .i64 0) (.int .i64 0) (.int .i64 0) (.int .i64 0) (.int .i64 0) (.int .i64 0) (.int .i64 0) (.slice none 0 0) 45).below A2
 have X := Cx11.new ((w.alloc (.cells #[.int .i64 dn, .int .i64 dd, .int .i64 li, .int .i64 le, .int .i64 pt, .int .i64 ag, .int .i64 ke, .int .i64 lg, .int .i64 s, .int .i64 g, .slice p m d] 28)).alloc (.cells #[.int .i64 0, .int .i64 0, .int .i64 0, .int .i64 0, .int .i64 0, .int .i64 0, .int .i64 0, .int .i64 0, .int .i64 0, .int .i64 0, .slice none 0 0] 45)) (.int .i64 0) (.int .i64 0) (.int .i64 0) (.int .i64 0) (.int .i64 0) (.int .i64 0) (.int .i64 0) (.int .i64 0) (.int .i64 0) (.int .i64 0) (.slice none 0 0) 45
 have B := (A0.trans (A1.mono A0.size)).trans (A2.mono (A0.trans (A1.mono A0.size)).size)
 have hj : w.heap.size + 3 ≤ (((w.alloc (.cells #[.int .i64 dn, .int .i64 dd, .int .i64 li, .int .i64 le, .int .i64 pt, .int .i64 ag, .int .i64 ke, .int .i64 lg, .int .i64 s, .int .i64 g, .slice p m d] 28)).alloc (.cells #[.int .i64 0, .int .i64 0, .int .i64 0, .int .i64 0, .int .i64 0, .int .i64 0, .int .i64 0, .int .i64 0, .int .i64 0, .int .i64 0, .slice none 0 0] 45)).alloc (.cells #[.int .i64 0, .int .i64 0, .int .i64 0, .int .i64 0, .int .i64 0, .int .i64 0, .int .i64 0, .int .i64 0, .int .i64 0, .int .i64 0, .slice none 0 0] 45)).heap.size := by simp
 simp only [World.size_alloc] at R X
 clear A0 A1 A2
 have HP : Hid (SrcC w p (m * 2) (MFSlot PM)) := hp
 have C1 := fun w' => toDrift_any dn dd w'
 have C2 := fun (w' : World) (h : Below w.heap.size w w') => toPlan_any s g p m d PM w' hpn (HP.out.below h)
 clear hp
 go_enter Tryz.func26, Tryz.ntmps26
 go_upto_region 2 with fail
 generalize ((w.alloc (.cells #[.int .i64 dn, .int .i64 dd, .int .i64 li, .int .i64 le, .int .i64 pt, .int .i64 ag, .int .i64 ke, .int .i64 lg, .int .i64 s, .int .i64 g, .slice p m d] 28)).alloc (.cells #[.int .i64 0, .int .i64 0, .int .i64 0, .int .i64 0, .int .i64 0, .int .i64 0, .int .i64 0, .int .i64 0, .int .i64 0, .int .i64 0, .slice none 0 0] 45)).alloc (.cells #[.int .i64 0, .int .i64 0, .int .i64 0, .int .i64 0, .int .i64 0, .int .i64 0, .int .i64 0, .int .i64 0, .int .i64 0, .int .i64 0, .slice none 0 0] 45) = v at *
 obtain ⟨x0, x1, x2, x3, x4, x5, x6, x7, x8, x9, x10, x11, y0, y1, y2, y3, y4, y5, y6, y7, y8, y9, y10⟩ := id C
 go_wp2_with fail
 refine (C1 _).mono ?_
 clear C1
 rintro e v1 ⟨rfl, hb⟩
 clear x0 x1 x2 x3 x4 x5 x6 x7 x8 x9 x10 x11 y0 y1 y2 y3 y4 y5 y6 y7 y8 y9 y10
 replace B := B.trans (hb.mono B.size)
 replace C := C.below hb
 replace R := R.below hb
 replace X := X.below hb
 replace hj := Nat.le_trans hj hb.size
 clear hb
 obtain ⟨x0, x1, x2, x3, x4, x5, x6, x7, x8, x9, x10, x11, y0, y1, y2, y3, y4, y5, y6, y7, y8, y9, y10⟩ := id C
 obtain ⟨u0, u1, u2, u3, u4, u5, u6, u7, u8, u9, u10, u11, t0, t1, t2, t3, t4, t5, t6, t7, t8, t9, t10⟩ := id X
 go_upto_region 3 with fail
 clear x0 x1 x2 x3 x4 x5 x6 x7 x8 x9 x10 x11 y0 y1 y2 y3 y4 y5 y6 y7 y8 y9 y10
 clear u0 u1 u2 u3 u4 u5 u6 u7 u8 u9 u10 u11 t0 t1 t2 t3 t4 t5 t6 t7 t8 t9 t10
 replace X := ((X.set0 (.int .i64 dn)).set1 (.int .i64 dd))
 replace C := ((C.setO (j := w.heap.size + 2) (by omega) 0 (.int .i64 dn)).setO (j := w.heap.size + 2) (by omega) 1 (.int .i64 dd))
 replace R := ((R.setO (j := w.heap.size + 2) (by omega) 0 (.int .i64 dn)).setO (j := w.heap.size + 2) (by omega) 1 (.int .i64 dd))
 replace B := ((B.setCell (p := ⟨w.heap.size + 2, 0, none⟩) (by simp; try omega) (.int .i64 dn)).setCell (p := ⟨w.heap.size + 2, 1, none⟩) (by simp; try omega) (.int .i64 dd))
 replace hj : w.heap.size + 3 ≤ (((v1).setCell ⟨w.heap.size + 2, 0, none⟩ (.int .i64 dn)).setCell ⟨w.heap.size + 2, 1, none⟩ (.int .i64 dd)).heap.size := by simpa using hj
 generalize ((v1).setCell ⟨w.heap.size + 2, 0, none⟩ (.int .i64 dn)).setCell ⟨w.heap.size + 2, 1, none⟩ (.int .i64 dd) = w0 at *
 obtain ⟨x0, x1, x2, x3, x4, x5, x6, x7, x8, x9, x10, x11, y0, y1, y2, y3, y4, y5, y6, y7, y8, y9, y10⟩ := id C
 obtain ⟨u0, u1, u2, u3, u4, u5, u6, u7, u8, u9, u10, u11, t0, t1, t2, t3, t4, t5, t6, t7, t8, t9, t10⟩ := id X
 go_upto_region 4 with fail
 clear x0 x1 x2 x3 x4 x5 x6 x7 x8 x9 x10 x11 y0 y1 y2 y3 y4 y5 y6 y7 y8 y9 y10
 clear u0 u1 u2 u3 u4 u5 u6 u7 u8 u9 u10 u11 t0 t1 t2 t3 t4 t5 t6 t7 t8 t9 t10
 replace X := (X.set2 (.int .i64 li))
 replace C := (C.setO (j := w.heap.size + 2) (by omega) 2 (.int .i64 li))
 replace R := (R.setO (j := w.heap.size + 2) (by omega) 2 (.int .i64 li))
 replace B := (B.setCell (p := ⟨w.heap.size + 2, 2, none⟩) (by simp; try omega) (.int .i64 li))
 replace hj : w.heap.size + 3 ≤ ((w0).setCell ⟨w.heap.size + 2, 2, none⟩ (.int .i64 li)).heap.size := by simpa using hj
 generalize (w0).setCell ⟨w.heap.size + 2, 2, none⟩ (.int .i64 li) = w1 at *
 obtain ⟨x0, x1, x2, x3, x4, x5, x6, x7, x8, x9, x10, x11, y0, y1, y2, y3, y4, y5, y6, y7, y8, y9, y10⟩ := id C
 obtain ⟨u0, u1, u2, u3, u4, u5, u6, u7, u8, u9, u10, u11, t0, t1, t2, t3, t4, t5, t6, t7, t8, t9, t10⟩ := id X
 go_upto_region 5 with fail
 clear x0 x1 x2 x3 x4 x5 x6 x7 x8 x9 x10 x11 y0 y1 y2 y3 y4 y5 y6 y7 y8 y9 y10
 clear u0 u1 u2 u3 u4 u5 u6 u7 u8 u9 u10 u11 t0 t1 t2 t3 t4 t5 t6 t7 t8 t9 t10
 replace X := (X.set3 (.int .i64 le))
 replace C := (C.setO (j := w.heap.size + 2) (by omega) 3 (.int .i64 le))
 replace R := (R.setO (j := w.heap.size + 2) (by omega) 3 (.int .i64 le))
 replace B := (B.setCell (p := ⟨w.heap.size + 2, 3, none⟩) (by simp; try omega) (.int .i64 le))
 replace hj : w.heap.size + 3 ≤ ((w1).setCell ⟨w.heap.size + 2, 3, none⟩ (.int .i64 le)).heap.size := by simpa using hj
 generalize (w1).setCell ⟨w.heap.size + 2, 3, none⟩ (.int .i64 le) = w2 at *
 obtain ⟨x0, x1, x2, x3, x4, x5, x6, x7, x8, x9, x10, x11, y0, y1, y2, y3, y4, y5, y6, y7, y8, y9, y10⟩ := id C
 obtain ⟨u0, u1, u2, u3, u4, u5, u6, u7, u8, u9, u10, u11, t0, t1, t2, t3, t4, t5, t6, t7, t8, t9, t10⟩ := id X
 go_upto_region 6 with fail
 clear x0 x1 x2 x3 x4 x5 x6 x7 x8 x9 x10 x11 y0 y1 y2 y3 y4 y5 y6 y7 y8 y9 y10
 clear u0 u1 u2 u3 u4 u5 u6 u7 u8 u9 u10 u11 t0 t1 t2 t3 t4 t5 t6 t7 t8 t9 t10
 replace X := (X.set4 (.int .i64 pt))
 replace C := (C.setO (j := w.heap.size + 2) (by omega) 4 (.int .i64 pt))
 replace R := (R.setO (j := w.heap.size + 2) (by omega) 4 (.int .i64 pt))
 replace B := (B.setCell (p := ⟨w.heap.size + 2, 4, none⟩) (by simp; try omega) (.int .i64 pt))
 replace hj : w.heap.size + 3 ≤ ((w2).setCell ⟨w.heap.size + 2, 4, none⟩ (.int .i64 pt)).heap.size := by simpa using hj
 generalize (w2).setCell ⟨w.heap.size + 2, 4, none⟩ (.int .i64 pt) = w3 at *
 obtain ⟨x0, x1, x2, x3, x4, x5, x6, x7, x8, x9, x10, x11, y0, y1, y2, y3, y4, y5, y6, y7, y8, y9, y10⟩ := id C
 obtain ⟨u0, u1, u2, u3, u4, u5, u6, u7, u8, u9, u10, u11, t0, t1, t2, t3, t4, t5, t6, t7, t8, t9, t10⟩ := id X
 go_upto_region 7 with fail
 clear x0 x1 x2 x3 x4 x5 x6 x7 x8 x9 x10 x11 y0 y1 y2 y3 y4 y5 y6 y7 y8 y9 y10
 clear u0 u1 u2 u3 u4 u5 u6 u7 u8 u9 u10 u11 t0 t1 t2 t3 t4 t5 t6 t7 t8 t9 t10
 replace X := (X.set5 (.int .i64 ag))
 replace C := (C.setO (j := w.heap.size + 2) (by omega) 5 (.int .i64 ag))
 replace R := (R.setO (j := w.heap.size + 2) (by omega) 5 (.int .i64 ag))
 replace B := (B.setCell (p := ⟨w.heap.size + 2, 5, none⟩) (by simp; try omega) (.int .i64 ag))
 replace hj : w.heap.size + 3 ≤ ((w3).setCell ⟨w.heap.size + 2, 5, none⟩ (.int .i64 ag)).heap.size := by simpa using hj
 generalize (w3).setCell ⟨w.heap.size + 2, 5, none⟩ (.int .i64 ag) = w4 at *
 obtain ⟨x0, x1, x2, x3, x4, x5, x6, x7, x8, x9, x10, x11, y0, y1, y2, y3, y4, y5, y6, y7, y8, y9, y10⟩ := id C
 obtain ⟨u0, u1, u2, u3, u4, u5, u6, u7, u8, u9, u10, u11, t0, t1, t2, t3, t4, t5, t6, t7, t8, t9, t10⟩ := id X
 go_upto_region 8 with fail
 clear x0 x1 x2 x3 x4 x5 x6 x7 x8 x9 x10 x11 y0 y1 y2 y3 y4 y5 y6 y7 y8 y9 y10
 clear u0 u1 u2 u3 u4 u5 u6 u7 u8 u9 u10 u11 t0 t1 t2 t3 t4 t5 t6 t7 t8 t9 t10
 replace X := (X.set6 (.int .i64 ke))
 replace C := (C.setO (j := w.heap.size + 2) (by omega) 6 (.int .i64 ke))
 replace R := (R.setO (j := w.heap.size + 2) (by omega) 6 (.int .i64 ke))
 replace B := (B.setCell (p := ⟨w.heap.size + 2, 6, none⟩) (by simp; try omega) (.int .i64 ke))
 replace hj : w.heap.size + 3 ≤ ((w4).setCell ⟨w.heap.size + 2, 6, none⟩ (.int .i64 ke)).heap.size := by simpa using hj
 generalize (w4).setCell ⟨w.heap.size + 2, 6, none⟩ (.int .i64 ke) = w5 at *
 obtain ⟨x0, x1, x2, x3, x4, x5, x6, x7, x8, x9, x10, x11, y0, y1, y2, y3, y4, y5, y6, y7, y8, y9, y10⟩ := id C
 obtain ⟨u0, u1, u2, u3, u4, u5, u6, u7, u8, u9, u10, u11, t0, t1, t2, t3, t4, t5, t6, t7, t8, t9, t10⟩ := id X
 go_upto_region 9 with fail
 clear x0 x1 x2 x3 x4 x5 x6 x7 x8 x9 x10 x11 y0 y1 y2 y3 y4 y5 y6 y7 y8 y9 y10
 clear u0 u1 u2 u3 u4 u5 u6 u7 u8 u9 u10 u11 t0 t1 t2 t3 t4 t5 t6 t7 t8 t9 t10
 replace X := (X.set7 (.int .i64 lg))
 replace C := (C.setO (j := w.heap.size + 2) (by omega) 7 (.int .i64 lg))
 replace R := (R.setO (j := w.heap.size + 2) (by omega) 7 (.int .i64 lg))
 replace B := (B.setCell (p := ⟨w.heap.size + 2, 7, none⟩) (by simp; try omega) (.int .i64 lg))
 replace hj : w.heap.size + 3 ≤ ((w5).setCell ⟨w.heap.size + 2, 7, none⟩ (.int .i64 lg)).heap.size := by simpa using hj
 generalize (w5).setCell ⟨w.heap.size + 2, 7, none⟩ (.int .i64 lg) = w6 at *
 obtain ⟨x0, x1, x2, x3, x4, x5, x6, x7, x8, x9, x10, x11, y0, y1, y2, y3, y4, y5, y6, y7, y8, y9, y10⟩ := id C
 go_wp2_with fail
 refine (C2 _ B).mono ?_
 clear C2
 rintro e v2 ⟨rfl, RW, hb⟩
 clear x0 x1 x2 x3 x4 x5 x6 x7 x8 x9 x10 x11 y0 y1 y2 y3 y4 y5 y6 y7 y8 y9 y10
 replace B := B.trans (hb.mono B.size)
 replace R := R.below hb
 replace X := X.below hb
 have hjx : w.heap.size + 3 ≤ w6.heap.size + 3 := by omega
 clear hb C
 generalize w6.heap.size + 3 = jx at *
 obtain ⟨u0, u1, u2, u3, u4, u5, u6, u7, u8, u9, u10, u11, t0, t1, t2, t3, t4, t5, t6, t7, t8, t9, t10⟩ := id X
 go_upto_region 10 with fail
 clear u0 u1 u2 u3 u4 u5 u6 u7 u8 u9 u10 u11 t0 t1 t2 t3 t4 t5 t6 t7 t8 t9 t10
 replace X := (((X.set8 (.int .i64 s)).set9 (.int .i64 g)).set10 (.slice (some ⟨jx, 0, none⟩) m m))
 replace R := (((R.setO (j := w.heap.size + 2) (by omega) 8 (.int .i64 s)).setO (j := w.heap.size + 2) (by omega) 9 (.int .i64 g)).setO (j := w.heap.size + 2) (by omega) 10 (.slice (some ⟨jx, 0, none⟩) m m))
 replace B := (((B.setCell (p := ⟨w.heap.size + 2, 8, none⟩) (by simp; try omega) (.int .i64 s)).setCell (p := ⟨w.heap.size + 2, 9, none⟩) (by simp; try omega) (.int .i64 g)).setCell (p := ⟨w.heap.size + 2, 10, none⟩) (by simp; try omega) (.slice (some ⟨jx, 0, none⟩) m m))
 replace RW : RowF ((((v2).setCell ⟨w.heap.size + 2, 8, none⟩ (.int .i64 s)).setCell ⟨w.heap.size + 2, 9, none⟩ (.int .i64 g)).setCell ⟨w.heap.size + 2, 10, none⟩ (.slice (some ⟨jx, 0, none⟩) m m)) jx 198 (m * 2) (m * 2) (MFSlot PM) := by
  obtain ⟨gg, hr, hh⟩ := RW
  exact ⟨gg, ((hr.setOther (a := ⟨w.heap.size + 2, 8, none⟩) (by show jx ≠ w.heap.size + 2; omega) _).setOther (a := ⟨w.heap.size + 2, 9, none⟩) (by show jx ≠ w.heap.size + 2; omega) _).setOther (a := ⟨w.heap.size + 2, 10, none⟩) (by show jx ≠ w.heap.size + 2; omega) _, hh⟩
 generalize (((v2).setCell ⟨w.heap.size + 2, 8, none⟩ (.int .i64 s)).setCell ⟨w.heap.size + 2, 9, none⟩ (.int .i64 g)).setCell ⟨w.heap.size + 2, 10, none⟩ (.slice (some ⟨jx, 0, none⟩) m m) = v3 at *
 have R1 := (((((((((((R.set0 (.int .i64 dn)).set1 (.int .i64 dd)).set2 (.int .i64 li)).set3 (.int .i64 le)).set4 (.int .i64 pt)).set5 (.int .i64 ag)).set6 (.int .i64 ke)).set7 (.int .i64 lg)).set8 (.int .i64 s)).set9 (.int .i64 g)).set10 (.slice (some ⟨jx, 0, none⟩) m m))
 have B1 := (((((((((((B.setCell (p := ⟨w.heap.size + 1, 0, none⟩) (by simp; try omega) (.int .i64 dn)).setCell (p := ⟨w.heap.size + 1, 1, none⟩) (by simp; try omega) (.int .i64 dd)).setCell (p := ⟨w.heap.size + 1, 2, none⟩) (by simp; try omega) (.int .i64 li)).setCell (p := ⟨w.heap.size + 1, 3, none⟩) (by simp; try omega) (.int .i64 le)).setCell (p := ⟨w.heap.size + 1, 4, none⟩) (by simp; try omega) (.int .i64 pt)).setCell (p := ⟨w.heap.size + 1, 5, none⟩) (by simp; try omega) (.int .i64 ag)).setCell (p := ⟨w.heap.size + 1, 6, none⟩) (by simp; try omega) (.int .i64 ke)).setCell (p := ⟨w.heap.size + 1, 7, none⟩) (by simp; try omega) (.int .i64 lg)).setCell (p := ⟨w.heap.size + 1, 8, none⟩) (by simp; try omega) (.int .i64 s)).setCell (p := ⟨w.heap.size + 1, 9, none⟩) (by simp; try omega) (.int .i64 g)).setCell (p := ⟨w.heap.size + 1, 10, none⟩) (by simp; try omega) (.slice (some ⟨jx, 0, none⟩) m m))
 have HR : Hid (RowF ((((((((((((v3).setCell ⟨w.heap.size + 1, 0, none⟩ (.int .i64 dn)).setCell ⟨w.heap.size + 1, 1, none⟩ (.int .i64 dd)).setCell ⟨w.heap.size + 1, 2, none⟩ (.int .i64 li)).setCell ⟨w.heap.size + 1, 3, none⟩ (.int .i64 le)).setCell ⟨w.heap.size + 1, 4, none⟩ (.int .i64 pt)).setCell ⟨w.heap.size + 1, 5, none⟩ (.int .i64 ag)).setCell ⟨w.heap.size + 1, 6, none⟩ (.int .i64 ke)).setCell ⟨w.heap.size + 1, 7, none⟩ (.int .i64 lg)).setCell ⟨w.heap.size + 1, 8, none⟩ (.int .i64 s)).setCell ⟨w.heap.size + 1, 9, none⟩ (.int .i64 g)).setCell ⟨w.heap.size + 1, 10, none⟩ (.slice (some ⟨jx, 0, none⟩) m m)) jx 198 (m * 2) (m * 2) (MFSlot PM)) := by
  obtain ⟨gg, hr, hh⟩ := RW
  refine ⟨gg, ?_, hh⟩
  have hn : jx ≠ w.heap.size + 1 := by omega
  repeat (refine World.rowIs.setOther ?_ (by exact hn) _)
  exact hr
 clear RW
 obtain ⟨u0, u1, u2, u3, u4, u5, u6, u7, u8, u9, u10, u11, t0, t1, t2, t3, t4, t5, t6, t7, t8, t9, t10⟩ := id X
 obtain ⟨x0, x1, x2, x3, x4, x5, x6, x7, x8, x9, x10, x11, y0, y1, y2, y3, y4, y5, y6, y7, y8, y9, y10⟩ := id R
 go_wp2_with fail
 clear u0 u1 u2 u3 u4 u5 u6 u7 u8 u9 u10 u11 t0 t1 t2 t3 t4 t5 t6 t7 t8 t9 t10
 clear x0 x1 x2 x3 x4 x5 x6 x7 x8 x9 x10 x11 y0 y1 y2 y3 y4 y5 y6 y7 y8 y9 y10
 clear X R B
 generalize (((((((((((v3).setCell ⟨w.heap.size + 1, 0, none⟩ (.int .i64 dn)).setCell ⟨w.heap.size + 1, 1, none⟩ (.int .i64 dd)).setCell ⟨w.heap.size + 1, 2, none⟩ (.int .i64 li)).setCell ⟨w.heap.size + 1, 3, none⟩ (.int .i64 le)).setCell ⟨w.heap.size + 1, 4, none⟩ (.int .i64 pt)).setCell ⟨w.heap.size + 1, 5, none⟩ (.int .i64 ag)).setCell ⟨w.heap.size + 1, 6, none⟩ (.int .i64 ke)).setCell ⟨w.heap.size + 1, 7, none⟩ (.int .i64 lg)).setCell ⟨w.heap.size + 1, 8, none⟩ (.int .i64 s)).setCell ⟨w.heap.size + 1, 9, none⟩ (.int .i64 g)).setCell ⟨w.heap.size + 1, 10, none⟩ (.slice (some ⟨jx, 0, none⟩) m m) = v4 at *
 obtain ⟨x0, x1, x2, x3, x4, x5, x6, x7, x8, x9, x10, x11, y0, y1, y2, y3, y4, y5, y6, y7, y8, y9, y10⟩ := id R1
 exact bodyPost_ret (v := (.agg #[.int .i64 dn, .int .i64 dd, .int .i64 li, .int .i64 le, .int .i64 pt, .int .i64 ag, .int .i64 ke, .int .i64 lg, .int .i64 s, .int .i64 g, .slice (some ⟨jx, 0, none⟩) m m])) (by simp (maxDischargeDepth := 6) [results, Tryz.results26, go_sem, *]) rfl ⟨jx, rfl, by omega, HR.out, B1⟩
end Go.Proofs.YtddijpjgkifngaaGreatDoor
namespace Go.Proofs.YtddijpjgkifngaaGreatDoor
open Go.RowKit
set_option linter.unusedVariables false
structure CfX where
 dn : Int
 dd : Int
 li : Int
 le : Int
 pt : Int
 ag : Int
 ke : Int
 lg : Int
 s : Int
 g : Int
 PM : Nat → SlT
 m : Nat
def cfV (y : CfX) (p : Option Addr) (d : Nat) : Array Value :=
 #[.int .i64 y.dn, .int .i64 y.dd, .int .i64 y.li, .int .i64 y.le, .int .i64 y.pt, .int .i64 y.ag, .int .i64 y.ke, .int .i64 y.lg, .int .i64 y.s, .int .i64 y.g, .slice p y.m d]
def CfS (w : World) (A : Array Value) (y : CfX) : Prop := ∃ p d, A = cfV y p d ∧ y.m ≤ maxLen ∧ RwO w p y.m d 2 (MFSlot y.PM)
theorem CfS.below {w w' : World} {A : Array Value} {y : CfX} (h : CfS w A y) (hb : Below w.heap.size w w') : CfS w' A y := by
 obtain ⟨p, d, e, hl, h1⟩ := h
 exact ⟨p, d, e, hl, h1.below hb⟩
theorem CfS.size {w : World} {A : Array Value} {y : CfX} (h : CfS w A y) : A.size = 11 := by
 obtain ⟨p, d, e, _⟩ := h
 rw [e]; rfl
theorem CfS.one {w : World} {A : Array Value} {y : CfX} (h : CfS w A y) : ∀ u ∈ A.toList, u.oneCell' = true := by
 obtain ⟨p, d, e, _⟩ := h
 rw [e]
 intro u hu
 simp only [cfV, List.mem_cons, List.not_mem_nil, or_false] at hu
 rcases hu with h | h | h | h | h | h | h | h | h | h | h <;> (subst h; rfl)
def CfO (w : World) (l u : Nat) (A : Array Value) (y : CfX) : Prop := ∃ p d, A = cfV y p d ∧ y.m ≤ 1048576 ∧ Rwo w l u 198 2 p y.m d (MFSlot y.PM)
theorem CfO.below {w w' : World} {l u : Nat} {A : Array Value} {y : CfX} (h : CfO w l u A y) (hb : Below w.heap.size w w') : CfO w' l u A y := by
 obtain ⟨p, d, e, hl, h1⟩ := h
 exact ⟨p, d, e, hl, h1.below hb⟩
theorem CfO.btw {w w' : World} {l u l' u' : Nat} {A : Array Value} {y : CfX} (h : CfO w l u A y) (hb : Btw l' u' w w') (ho : u ≤ l' ∨ u' ≤ l) : CfO w' l u A y := by
 obtain ⟨p, d, e, hl, h1⟩ := h
 exact ⟨p, d, e, hl, h1.btw hb ho⟩
theorem CfO.src {w : World} {l u : Nat} {A : Array Value} {y : CfX} (h : CfO w l u A y) : CfS w A y := by
 obtain ⟨p, d, e, hl, h1⟩ := h
 exact ⟨p, d, e, by unfold maxLen; omega, h1.rw⟩
theorem CfO.size {w : World} {l u : Nat} {A : Array Value} {y : CfX} (h : CfO w l u A y) : A.size = 11 := h.src.size
theorem CfO.one {w : World} {l u : Nat} {A : Array Value} {y : CfX} (h : CfO w l u A y) : ∀ v ∈ A.toList, v.oneCell' = true := h.src.one
def cokX (y : CfX) : Bool := cfB y.dn y.dd y.li y.le y.pt y.ag y.ke y.lg y.s y.g y.PM y.m
theorem specCfgOkX (A : Array Value) (y : CfX) (w : World) (h : CfS w A y) :
 Calls Tryz.prog 49 #[.agg A] w fun e w' => e = .returned (.bool (cokX y)) ∧ Below w.heap.size w w' := by
 obtain ⟨p, d, rfl, hl, h1⟩ := h
 exact specCfgOk_any y.dn y.dd y.li y.le y.pt y.ag y.ke y.lg y.s y.g p y.m d y.PM w hl h1.src
end Go.Proofs.YtddijpjgkifngaaGreatDoor
namespace Go.Proofs.YtddijpjgkifngaaGreatDoor
open Go.RowKit
set_option linter.unusedVariables false
def CfW (w : World) (A : Array Value) (y : CfX) : Prop := ∃ p d, A = cfV y p d ∧ y.m ≤ maxLen ∧ SrcC w p (y.m * 2) (MFSlot y.PM)
theorem CfS.weak {w : World} {A : Array Value} {y : CfX} (h : CfS w A y) : CfW w A y := by
 obtain ⟨p, d, e, hl, h1⟩ := h
 exact ⟨p, d, e, hl, h1.src⟩
theorem CfW.below {w w' : World} {A : Array Value} {y : CfX} (h : CfW w A y) (hb : Below w.heap.size w w') : CfW w' A y := by
 obtain ⟨p, d, e, hl, h1⟩ := h
 exact ⟨p, d, e, hl, h1.below hb⟩
theorem CfW.size {w : World} {A : Array Value} {y : CfX} (h : CfW w A y) : A.size = 11 := by
 obtain ⟨p, d, e, _⟩ := h
 rw [e]; rfl
theorem toCfgW (A : Array Value) (y : CfX) (w : World) (h : CfW w A y) (hb : y.m ≤ 1048576) :
 Calls Tryz.prog 26 #[.agg A] w fun e w' => ∃ R, e = .returned (.agg R) ∧ CfO w' w.heap.size w'.heap.size R y ∧ Below w.heap.size w w' := by
 obtain ⟨p, d, rfl, hl, h1⟩ := h
 refine (toCfg_any y.dn y.dd y.li y.le y.pt y.ag y.ke y.lg y.s y.g p y.m d y.PM w hb h1).mono ?_
 rintro e w' ⟨jx, rfl, q1, r1, hB⟩
 exact ⟨_, rfl, ⟨some ⟨jx, 0, none⟩, y.m, rfl, hb, r1.rwo hb q1⟩, hB⟩
theorem szCfgW (A : Array Value) (y : CfX) (Z : Int) (w : World) (h : CfW w A y) (h0 : 0 ≤ Z) (h1 : Z ≤ 1048576) :
 Calls Tryz.prog 15 #[.agg A, .int .i64 Z] w fun e w' => ∃ L : Int, e = .returned (.int .i64 L) ∧ (0 ≤ L → y.m ≤ 1048576 ∧ L ≤ 1048576) ∧ Below w.heap.size w w' := by
 obtain ⟨p, d, rfl, hl, r1⟩ := h
 exact szCfg_at y.dn y.dd y.li y.le y.pt y.ag y.ke y.lg y.s y.g p y.m d y.PM Z w hl h0 h1
end Go.Proofs.YtddijpjgkifngaaGreatDoor
namespace Go.Proofs.YtddijpjgkifngaaGreatDoor
open Go.RowKit
set_option linter.unusedVariables false
attribute [-go_sem] loadCells storeCells in
set_option maxRecDepth 100000 in
set_option maxHeartbeats 8000000 in
theorem cfgok_any (AC : Array Value) (y : CfX) (w : World) (HC : CfW w AC y) :
 Calls Tryz.prog 62 #[.agg AC] w fun e w' => e = .returned (.bool (cokX y)) ∧ Below w.heap.size w w' := by
 have CD := fun v => okd_any y.dn y.dd v
 have C4 := fun v => isTime_any y.pt v
 have C5 := fun v => isTime_any y.ag v
 have C6 := fun v => isTime_any y.ke v
 obtain ⟨p, d, rfl, hpm, hr⟩ := HC
 have CP := fun (v : World) (h : Below w.heap.size w v) => planOk_any y.s y.g p y.m d y.PM v hpm (hr.below h)
 clear hr
 have HK : Hid (cokX y = (okD y.dn y.dd && (plB y.s y.g y.PM y.m && ((inI y.li 0 8 && inI y.le 1 8) && ((okT y.pt && (okT y.ag && okT y.ke)) && inI y.lg 1 1000000))))) := by (rw [Hid]; unfold cokX cfB; simp only [Bool.and_assoc])
 generalize cokX y = R at *
 have A0 := Below.nw w (.cells (cfV y p d) 45)
 have C := Bo.new w (cfV y p d) 45
 have B := A0
 clear A0
 go_enter Tryz.func62, Tryz.ntmps62
 go_upto_region 1 with fail
 generalize w.alloc (.cells (cfV y p d) 45) = v0 at *
 have c2 : v0.cell? ⟨w.heap.size, 2, none⟩ = some (.int .i64 y.li) := C.cell rfl
 have c3 : v0.cell? ⟨w.heap.size, 3, none⟩ = some (.int .i64 y.le) := C.cell rfl
 go_upto_region 1 with fail
 go_cut [3] (fun s3 wx => s3 = .bool (inI y.li 0 8 && inI y.le 1 8) ∧ v0 = wx)
 case first =>
  go_wp2
  all_goals go_meet
  all_goals exact ⟨congrArg Value.bool (by rw [Bool.eq_iff_iff]; simp [inI]; try omega), rfl⟩
 case rest =>
 obtain ⟨rfl, rfl⟩ := hcut
 clear c2 c3
 obtain ⟨b1, hb1⟩ : ∃ b, (inI y.li 0 8 && inI y.le 1 8) = b := ⟨_, rfl⟩
 rw [hb1]
 have c4 : v0.cell? ⟨w.heap.size, 4, none⟩ = some (.int .i64 y.pt) := C.cell rfl
 have c5 : v0.cell? ⟨w.heap.size, 5, none⟩ = some (.int .i64 y.ag) := C.cell rfl
 have c6 : v0.cell? ⟨w.heap.size, 6, none⟩ = some (.int .i64 y.ke) := C.cell rfl
 go_upto_region 2 with fail
 go_cut [4] (fun s4 wx => s4 = .bool (okT y.pt && (okT y.ag && okT y.ke)) ∧ v0 = wx)
 case first =>
  cases h4 : okT y.pt
  ·go_wp2_with fail
   refine (C4 _).mono ?_
   rintro e w' ⟨rfl, rfl⟩
   rw [h4]
   go_wp2_with fail
   go_meet
   exact ⟨congrArg Value.bool (by rw [h4]; rfl), rfl⟩
  cases h5 : okT y.ag
  ·go_wp2_with fail
   refine (C4 _).mono ?_
   rintro e w' ⟨rfl, rfl⟩
   rw [h4]
   go_wp2_with fail
   refine (C5 _).mono ?_
   rintro e w' ⟨rfl, rfl⟩
   rw [h5]
   go_wp2_with fail
   go_meet
   exact ⟨congrArg Value.bool (by rw [h4, h5]; rfl), rfl⟩
  go_wp2_with fail
  refine (C4 _).mono ?_
  rintro e w' ⟨rfl, rfl⟩
  rw [h4]
  go_wp2_with fail
  refine (C5 _).mono ?_
  rintro e w' ⟨rfl, rfl⟩
  rw [h5]
  go_wp2_with fail
  refine (C6 _).mono ?_
  rintro e w' ⟨rfl, rfl⟩
  go_wp2_with fail
  go_meet
  exact ⟨congrArg Value.bool (by rw [h4, h5]; rfl), rfl⟩
 case rest =>
 obtain ⟨rfl, rfl⟩ := hcut
 clear c4 c5 c6 C4 C5 C6
 obtain ⟨b2, hb2⟩ : ∃ b, (okT y.pt && (okT y.ag && okT y.ke)) = b := ⟨_, rfl⟩
 rw [hb2]
 replace HK : Hid (R = (okD y.dn y.dd && (plB y.s y.g y.PM y.m && (b1 && (b2 && inI y.lg 1 1000000))))) := by (rw [Hid, HK.out, hb1, hb2])
 clear hb1 hb2
 have hL0 : (loadCells ⟨w.heap.size, 0, none⟩ 2).run Tryz.prog v0 = .ok #[.int .i64 y.dn, .int .i64 y.dd] v0 := C.loadAt (P := Tryz.prog) 0 2 (show 0 + 2 ≤ 11 by decide)
 go_wp2_with (rw [hL0])
 refine (CD _).mono ?_
 rintro e v1 ⟨rfl, hb⟩
 clear hL0
 replace B := B.trans (hb.mono B.size)
 replace C := C.below hb
 clear hb CD
 cases h6 : okD y.dn y.dd
 ·replace HK : Hid (R = false) := by (rw [Hid, HK.out, h6]; rfl)
  go_wp2_with fail
  go_ret
  exact ⟨ret_bool HK.out.symm, B⟩
 have hL0 : (loadCells ⟨w.heap.size, 8, none⟩ 3).run Tryz.prog v1 = .ok #[.int .i64 y.s, .int .i64 y.g, .slice p y.m d] v1 := C.loadAt (P := Tryz.prog) 8 3 (show 8 + 3 ≤ 11 by decide)
 go_wp2_with (rw [hL0])
 refine (CP _ B).mono ?_
 rintro e v2 ⟨rfl, hb⟩
 clear hL0
 replace B := B.trans (hb.mono B.size)
 replace C := C.below hb
 clear hb CP
 cases h7 : plB y.s y.g y.PM y.m
 ·replace HK : Hid (R = false) := by (rw [Hid, HK.out, h6, h7]; rfl)
  go_wp2_with fail
  go_ret
  exact ⟨ret_bool HK.out.symm, B⟩
 cases b1
 ·replace HK : Hid (R = false) := by (rw [Hid, HK.out, h6, h7]; rfl)
  go_wp2_with fail
  go_ret
  exact ⟨ret_bool HK.out.symm, B⟩
 cases b2
 ·replace HK : Hid (R = false) := by (rw [Hid, HK.out, h6, h7]; rfl)
  go_wp2_with fail
  go_ret
  exact ⟨ret_bool HK.out.symm, B⟩
 replace HK : Hid (R = inI y.lg 1 1000000) := by (rw [Hid, HK.out, h6, h7]; rfl)
 have c7 : v2.cell? ⟨w.heap.size, 7, none⟩ = some (.int .i64 y.lg) := C.cell rfl
 go_wp2
 all_goals go_ret
 all_goals exact ⟨ret_bool (by rw [HK.out, Bool.eq_iff_iff]; simp [inI]; try omega), B⟩
end Go.Proofs.YtddijpjgkifngaaGreatDoor
