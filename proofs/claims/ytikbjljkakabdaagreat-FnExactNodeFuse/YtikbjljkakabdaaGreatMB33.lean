/- The program's behind and LifeStep. -/
import Derived.Test.YtikbjljkakabdaaGreatMB13
namespace Go.Proofs.YtikbjljkakabdaaGreat
open Go.RowKit
set_option linter.unusedVariables false
set_option maxRecDepth 100000
set_option maxHeartbeats 16000000
theorem pF (m e s t : Int) (w : World) (hne : ((1 : Int) != m) = true) (hw1 : wrap64 (e + 1) = e + 1) (hw2 : IntKind.i64.wrap (e + 1) = e + 1) :
 Calls Tryz.prog 176 #[.agg #[.int .i64 m, .int .i64 e, .int .i64 s], .agg #[.int .i64 1, .int .i64 t]] w fun x w' => x = .returned (.agg #[.int .i64 (1), .int .i64 (e + 1), .int .i64 (t)]) ∧ Below w.heap.size w w' := by
 have A0 := Below.nw w (.cells #[.int .i64 m, .int .i64 e, .int .i64 s] 46)
 have A1 := Below.nw (w.alloc (.cells #[.int .i64 m, .int .i64 e, .int .i64 s] 46)) (.cells #[.int .i64 1, .int .i64 t] 148)
 have A2 := Below.nw ((w.alloc (.cells #[.int .i64 m, .int .i64 e, .int .i64 s] 46)).alloc (.cells #[.int .i64 1, .int .i64 t] 148)) (.cells #[.int .i64 0, .int .i64 0, .int .i64 0] 46)
 have N := ((Tx3.new w (.int .i64 m) (.int .i64 e) (.int .i64 s) 46).below A1).below A2
 have E := (Bx2.new (w.alloc (.cells #[.int .i64 m, .int .i64 e, .int .i64 s] 46)) (.int .i64 1) (.int .i64 t) 148).below A2
 have R := Tx3.new ((w.alloc (.cells #[.int .i64 m, .int .i64 e, .int .i64 s] 46)).alloc (.cells #[.int .i64 1, .int .i64 t] 148)) (.int .i64 0) (.int .i64 0) (.int .i64 0) 46
 have B := (A0.trans (A1.mono A0.size)).trans (A2.mono (A0.trans (A1.mono A0.size)).size)
 simp only [World.size_alloc] at E R
 clear A0 A1 A2
 go_enter Tryz.func176, Tryz.ntmps176
 go_upto_region 1 with fail
 generalize ((w.alloc (.cells #[.int .i64 m, .int .i64 e, .int .i64 s] 46)).alloc (.cells #[.int .i64 1, .int .i64 t] 148)).alloc (.cells #[.int .i64 0, .int .i64 0, .int .i64 0] 46) = v at *
 have Y := Tx3.new v (.int .i64 m) (.int .i64 e) (.int .i64 s) 46
 have hb := Below.nw v (.cells #[.int .i64 m, .int .i64 e, .int .i64 s] 46)
 have hy : w.heap.size ≤ v.heap.size := B.size
 have hyr : w.heap.size + 2 < v.heap.size := R.1
 have n0 : _ ∧ _ := N
 go_upto_region 2 with fail
 clear n0
 replace B := B.trans (hb.mono B.size)
 replace N := N.below hb
 replace E := E.below hb
 replace R := R.below hb
 clear hb
 generalize v.alloc (.cells #[.int .i64 m, .int .i64 e, .int .i64 s] 46) = w2 at *
 generalize v.heap.size = jy at *
 have y0 : _ ∧ _ := Y
 have e0_ : _ ∧ _ := E
 have n0 : _ ∧ _ := N
 go_upto_region 10 with fail
 clear n0
 clear e0_
 clear y0
 replace Y := Y.set1 (.int .i64 (e + 1))
 have bz : But jy w2 _ := (But.refl jy w2).setCell 1 (.int .i64 (e + 1))
 replace N := N.but bz (by omega)
 replace E := E.but bz (by omega)
 replace R := R.but bz (by omega)
 replace B := B.trans (bz.below hy B.size)
 clear bz
 generalize w2.setCell ⟨jy, 1, none⟩ (.int .i64 (e + 1)) = w3 at *
 have y0 : _ ∧ _ := Y
 have e0_ : _ ∧ _ := E
 have n0 : _ ∧ _ := N
 go_upto_region 14 with fail
 clear n0
 clear e0_
 clear y0
 replace Y := Y.set0 (.int .i64 (1))
 have bz : But jy w3 _ := (But.refl jy w3).setCell 0 (.int .i64 (1))
 replace N := N.but bz (by omega)
 replace E := E.but bz (by omega)
 replace R := R.but bz (by omega)
 replace B := B.trans (bz.below hy B.size)
 clear bz
 generalize w3.setCell ⟨jy, 0, none⟩ (.int .i64 (1)) = w4 at *
 have y0 : _ ∧ _ := Y
 have e0_ : _ ∧ _ := E
 have n0 : _ ∧ _ := N
 go_upto_region 16 with fail
 clear n0
 clear e0_
 clear y0
 replace Y := Y.set2 (.int .i64 (t))
 have bz : But jy w4 _ := (But.refl jy w4).setCell 2 (.int .i64 (t))
 replace N := N.but bz (by omega)
 replace E := E.but bz (by omega)
 replace R := R.but bz (by omega)
 replace B := B.trans (bz.below hy B.size)
 clear bz
 generalize w4.setCell ⟨jy, 2, none⟩ (.int .i64 (t)) = w5 at *
 have y0 : _ ∧ _ := Y
 have e0_ : _ ∧ _ := E
 have n0 : _ ∧ _ := N
 have RR := ((R.set0 (.int .i64 (1))).set1 (.int .i64 (e + 1))).set2 (.int .i64 (t))
 have BB := ((B.setCell (p := ⟨w.heap.size + 2, 0, none⟩) (Nat.le_add_right w.heap.size 2) (.int .i64 (1))).setCell (p := ⟨w.heap.size + 2, 1, none⟩) (Nat.le_add_right w.heap.size 2) (.int .i64 (e + 1))).setCell (p := ⟨w.heap.size + 2, 2, none⟩) (Nat.le_add_right w.heap.size 2) (.int .i64 (t))
 obtain ⟨r0, r1, r2, r3, r4, r5, r6⟩ := id R
 go_wp2_with fail
 clear r0 r1 r2 r3 r4 r5 r6
 generalize ((w5.setCell ⟨w.heap.size + 2, 0, none⟩ (.int .i64 (1))).setCell ⟨w.heap.size + 2, 1, none⟩ (.int .i64 (e + 1))).setCell ⟨w.heap.size + 2, 2, none⟩ (.int .i64 (t)) = vz at *
 obtain ⟨r0, r1, r2, r3, r4, r5, r6⟩ := id RR
 exact bodyPost_ret (v := .agg #[.int .i64 (1), .int .i64 (e + 1), .int .i64 (t)]) (by simp (maxDischargeDepth := 6) [results, Tryz.results176, go_sem, r1, r2, r3]) rfl ⟨rfl, BB⟩
theorem pG (m e s t : Int) (w : World) (hne : ((0 : Int) != m) = true) :
 Calls Tryz.prog 176 #[.agg #[.int .i64 m, .int .i64 e, .int .i64 s], .agg #[.int .i64 2, .int .i64 t]] w fun x w' => x = .returned (.agg #[.int .i64 (0), .int .i64 (e), .int .i64 (t)]) ∧ Below w.heap.size w w' := by
 have A0 := Below.nw w (.cells #[.int .i64 m, .int .i64 e, .int .i64 s] 46)
 have A1 := Below.nw (w.alloc (.cells #[.int .i64 m, .int .i64 e, .int .i64 s] 46)) (.cells #[.int .i64 2, .int .i64 t] 148)
 have A2 := Below.nw ((w.alloc (.cells #[.int .i64 m, .int .i64 e, .int .i64 s] 46)).alloc (.cells #[.int .i64 2, .int .i64 t] 148)) (.cells #[.int .i64 0, .int .i64 0, .int .i64 0] 46)
 have N := ((Tx3.new w (.int .i64 m) (.int .i64 e) (.int .i64 s) 46).below A1).below A2
 have E := (Bx2.new (w.alloc (.cells #[.int .i64 m, .int .i64 e, .int .i64 s] 46)) (.int .i64 2) (.int .i64 t) 148).below A2
 have R := Tx3.new ((w.alloc (.cells #[.int .i64 m, .int .i64 e, .int .i64 s] 46)).alloc (.cells #[.int .i64 2, .int .i64 t] 148)) (.int .i64 0) (.int .i64 0) (.int .i64 0) 46
 have B := (A0.trans (A1.mono A0.size)).trans (A2.mono (A0.trans (A1.mono A0.size)).size)
 simp only [World.size_alloc] at E R
 clear A0 A1 A2
 go_enter Tryz.func176, Tryz.ntmps176
 go_upto_region 1 with fail
 generalize ((w.alloc (.cells #[.int .i64 m, .int .i64 e, .int .i64 s] 46)).alloc (.cells #[.int .i64 2, .int .i64 t] 148)).alloc (.cells #[.int .i64 0, .int .i64 0, .int .i64 0] 46) = v at *
 have Y := Tx3.new v (.int .i64 m) (.int .i64 e) (.int .i64 s) 46
 have hb := Below.nw v (.cells #[.int .i64 m, .int .i64 e, .int .i64 s] 46)
 have hy : w.heap.size ≤ v.heap.size := B.size
 have hyr : w.heap.size + 2 < v.heap.size := R.1
 have n0 : _ ∧ _ := N
 go_upto_region 2 with fail
 clear n0
 replace B := B.trans (hb.mono B.size)
 replace N := N.below hb
 replace E := E.below hb
 replace R := R.below hb
 clear hb
 generalize v.alloc (.cells #[.int .i64 m, .int .i64 e, .int .i64 s] 46) = w2 at *
 generalize v.heap.size = jy at *
 have y0 : _ ∧ _ := Y
 have e0_ : _ ∧ _ := E
 have n0 : _ ∧ _ := N
 go_upto_region 14 with fail
 clear n0
 clear e0_
 clear y0
 replace Y := Y.set0 (.int .i64 (0))
 have bz : But jy w2 _ := (But.refl jy w2).setCell 0 (.int .i64 (0))
 replace N := N.but bz (by omega)
 replace E := E.but bz (by omega)
 replace R := R.but bz (by omega)
 replace B := B.trans (bz.below hy B.size)
 clear bz
 generalize w2.setCell ⟨jy, 0, none⟩ (.int .i64 (0)) = w3 at *
 have y0 : _ ∧ _ := Y
 have e0_ : _ ∧ _ := E
 have n0 : _ ∧ _ := N
 go_upto_region 16 with fail
 clear n0
 clear e0_
 clear y0
 replace Y := Y.set2 (.int .i64 (t))
 have bz : But jy w3 _ := (But.refl jy w3).setCell 2 (.int .i64 (t))
 replace N := N.but bz (by omega)
 replace E := E.but bz (by omega)
 replace R := R.but bz (by omega)
 replace B := B.trans (bz.below hy B.size)
 clear bz
 generalize w3.setCell ⟨jy, 2, none⟩ (.int .i64 (t)) = w4 at *
 have y0 : _ ∧ _ := Y
 have e0_ : _ ∧ _ := E
 have n0 : _ ∧ _ := N
 have RR := ((R.set0 (.int .i64 (0))).set1 (.int .i64 (e))).set2 (.int .i64 (t))
 have BB := ((B.setCell (p := ⟨w.heap.size + 2, 0, none⟩) (Nat.le_add_right w.heap.size 2) (.int .i64 (0))).setCell (p := ⟨w.heap.size + 2, 1, none⟩) (Nat.le_add_right w.heap.size 2) (.int .i64 (e))).setCell (p := ⟨w.heap.size + 2, 2, none⟩) (Nat.le_add_right w.heap.size 2) (.int .i64 (t))
 obtain ⟨r0, r1, r2, r3, r4, r5, r6⟩ := id R
 go_wp2_with fail
 clear r0 r1 r2 r3 r4 r5 r6
 generalize ((w4.setCell ⟨w.heap.size + 2, 0, none⟩ (.int .i64 (0))).setCell ⟨w.heap.size + 2, 1, none⟩ (.int .i64 (e))).setCell ⟨w.heap.size + 2, 2, none⟩ (.int .i64 (t)) = vz at *
 obtain ⟨r0, r1, r2, r3, r4, r5, r6⟩ := id RR
 exact bodyPost_ret (v := .agg #[.int .i64 (0), .int .i64 (e), .int .i64 (t)]) (by simp (maxDischargeDepth := 6) [results, Tryz.results176, go_sem, r1, r2, r3]) rfl ⟨rfl, BB⟩
theorem pH (m e s t : Int) (w : World) (hne : ((2 : Int) != m) = true) :
 Calls Tryz.prog 176 #[.agg #[.int .i64 m, .int .i64 e, .int .i64 s], .agg #[.int .i64 3, .int .i64 t]] w fun x w' => x = .returned (.agg #[.int .i64 (2), .int .i64 (e), .int .i64 (t)]) ∧ Below w.heap.size w w' := by
 have A0 := Below.nw w (.cells #[.int .i64 m, .int .i64 e, .int .i64 s] 46)
 have A1 := Below.nw (w.alloc (.cells #[.int .i64 m, .int .i64 e, .int .i64 s] 46)) (.cells #[.int .i64 3, .int .i64 t] 148)
 have A2 := Below.nw ((w.alloc (.cells #[.int .i64 m, .int .i64 e, .int .i64 s] 46)).alloc (.cells #[.int .i64 3, .int .i64 t] 148)) (.cells #[.int .i64 0, .int .i64 0, .int .i64 0] 46)
 have N := ((Tx3.new w (.int .i64 m) (.int .i64 e) (.int .i64 s) 46).below A1).below A2
 have E := (Bx2.new (w.alloc (.cells #[.int .i64 m, .int .i64 e, .int .i64 s] 46)) (.int .i64 3) (.int .i64 t) 148).below A2
 have R := Tx3.new ((w.alloc (.cells #[.int .i64 m, .int .i64 e, .int .i64 s] 46)).alloc (.cells #[.int .i64 3, .int .i64 t] 148)) (.int .i64 0) (.int .i64 0) (.int .i64 0) 46
 have B := (A0.trans (A1.mono A0.size)).trans (A2.mono (A0.trans (A1.mono A0.size)).size)
 simp only [World.size_alloc] at E R
 clear A0 A1 A2
 go_enter Tryz.func176, Tryz.ntmps176
 go_upto_region 1 with fail
 generalize ((w.alloc (.cells #[.int .i64 m, .int .i64 e, .int .i64 s] 46)).alloc (.cells #[.int .i64 3, .int .i64 t] 148)).alloc (.cells #[.int .i64 0, .int .i64 0, .int .i64 0] 46) = v at *
 have Y := Tx3.new v (.int .i64 m) (.int .i64 e) (.int .i64 s) 46
 have hb := Below.nw v (.cells #[.int .i64 m, .int .i64 e, .int .i64 s] 46)
 have hy : w.heap.size ≤ v.heap.size := B.size
 have hyr : w.heap.size + 2 < v.heap.size := R.1
 have n0 : _ ∧ _ := N
 go_upto_region 2 with fail
 clear n0
 replace B := B.trans (hb.mono B.size)
 replace N := N.below hb
 replace E := E.below hb
 replace R := R.below hb
 clear hb
 generalize v.alloc (.cells #[.int .i64 m, .int .i64 e, .int .i64 s] 46) = w2 at *
 generalize v.heap.size = jy at *
 have y0 : _ ∧ _ := Y
 have e0_ : _ ∧ _ := E
 have n0 : _ ∧ _ := N
 go_upto_region 14 with fail
 clear n0
 clear e0_
 clear y0
 replace Y := Y.set0 (.int .i64 (2))
 have bz : But jy w2 _ := (But.refl jy w2).setCell 0 (.int .i64 (2))
 replace N := N.but bz (by omega)
 replace E := E.but bz (by omega)
 replace R := R.but bz (by omega)
 replace B := B.trans (bz.below hy B.size)
 clear bz
 generalize w2.setCell ⟨jy, 0, none⟩ (.int .i64 (2)) = w3 at *
 have y0 : _ ∧ _ := Y
 have e0_ : _ ∧ _ := E
 have n0 : _ ∧ _ := N
 go_upto_region 16 with fail
 clear n0
 clear e0_
 clear y0
 replace Y := Y.set2 (.int .i64 (t))
 have bz : But jy w3 _ := (But.refl jy w3).setCell 2 (.int .i64 (t))
 replace N := N.but bz (by omega)
 replace E := E.but bz (by omega)
 replace R := R.but bz (by omega)
 replace B := B.trans (bz.below hy B.size)
 clear bz
 generalize w3.setCell ⟨jy, 2, none⟩ (.int .i64 (t)) = w4 at *
 have y0 : _ ∧ _ := Y
 have e0_ : _ ∧ _ := E
 have n0 : _ ∧ _ := N
 have RR := ((R.set0 (.int .i64 (2))).set1 (.int .i64 (e))).set2 (.int .i64 (t))
 have BB := ((B.setCell (p := ⟨w.heap.size + 2, 0, none⟩) (Nat.le_add_right w.heap.size 2) (.int .i64 (2))).setCell (p := ⟨w.heap.size + 2, 1, none⟩) (Nat.le_add_right w.heap.size 2) (.int .i64 (e))).setCell (p := ⟨w.heap.size + 2, 2, none⟩) (Nat.le_add_right w.heap.size 2) (.int .i64 (t))
 obtain ⟨r0, r1, r2, r3, r4, r5, r6⟩ := id R
 go_wp2_with fail
 clear r0 r1 r2 r3 r4 r5 r6
 generalize ((w4.setCell ⟨w.heap.size + 2, 0, none⟩ (.int .i64 (2))).setCell ⟨w.heap.size + 2, 1, none⟩ (.int .i64 (e))).setCell ⟨w.heap.size + 2, 2, none⟩ (.int .i64 (t)) = vz at *
 obtain ⟨r0, r1, r2, r3, r4, r5, r6⟩ := id RR
 exact bodyPost_ret (v := .agg #[.int .i64 (2), .int .i64 (e), .int .i64 (t)]) (by simp (maxDischargeDepth := 6) [results, Tryz.results176, go_sem, r1, r2, r3]) rfl ⟨rfl, BB⟩
theorem oC (m e s t : Int) (w : World) (hne : ((2 : Int) != m) = false) :
 Calls Tryz.prog 176 #[.agg #[.int .i64 m, .int .i64 e, .int .i64 s], .agg #[.int .i64 3, .int .i64 t]] w fun x w' => x = .returned (.agg #[.int .i64 (2), .int .i64 (e), .int .i64 (s)]) ∧ Below w.heap.size w w' := by
 have A0 := Below.nw w (.cells #[.int .i64 m, .int .i64 e, .int .i64 s] 46)
 have A1 := Below.nw (w.alloc (.cells #[.int .i64 m, .int .i64 e, .int .i64 s] 46)) (.cells #[.int .i64 3, .int .i64 t] 148)
 have A2 := Below.nw ((w.alloc (.cells #[.int .i64 m, .int .i64 e, .int .i64 s] 46)).alloc (.cells #[.int .i64 3, .int .i64 t] 148)) (.cells #[.int .i64 0, .int .i64 0, .int .i64 0] 46)
 have N := ((Tx3.new w (.int .i64 m) (.int .i64 e) (.int .i64 s) 46).below A1).below A2
 have E := (Bx2.new (w.alloc (.cells #[.int .i64 m, .int .i64 e, .int .i64 s] 46)) (.int .i64 3) (.int .i64 t) 148).below A2
 have R := Tx3.new ((w.alloc (.cells #[.int .i64 m, .int .i64 e, .int .i64 s] 46)).alloc (.cells #[.int .i64 3, .int .i64 t] 148)) (.int .i64 0) (.int .i64 0) (.int .i64 0) 46
 have B := (A0.trans (A1.mono A0.size)).trans (A2.mono (A0.trans (A1.mono A0.size)).size)
 simp only [World.size_alloc] at E R
 clear A0 A1 A2
 go_enter Tryz.func176, Tryz.ntmps176
 go_upto_region 1 with fail
 generalize ((w.alloc (.cells #[.int .i64 m, .int .i64 e, .int .i64 s] 46)).alloc (.cells #[.int .i64 3, .int .i64 t] 148)).alloc (.cells #[.int .i64 0, .int .i64 0, .int .i64 0] 46) = v at *
 have Y := Tx3.new v (.int .i64 m) (.int .i64 e) (.int .i64 s) 46
 have hb := Below.nw v (.cells #[.int .i64 m, .int .i64 e, .int .i64 s] 46)
 have hy : w.heap.size ≤ v.heap.size := B.size
 have hyr : w.heap.size + 2 < v.heap.size := R.1
 have n0 : _ ∧ _ := N
 go_upto_region 2 with fail
 clear n0
 replace B := B.trans (hb.mono B.size)
 replace N := N.below hb
 replace E := E.below hb
 replace R := R.below hb
 clear hb
 generalize v.alloc (.cells #[.int .i64 m, .int .i64 e, .int .i64 s] 46) = w2 at *
 generalize v.heap.size = jy at *
 have y0 : _ ∧ _ := Y
 have e0_ : _ ∧ _ := E
 have n0 : _ ∧ _ := N
 go_upto_region 14 with fail
 clear n0
 clear e0_
 clear y0
 replace Y := Y.set0 (.int .i64 (2))
 have bz : But jy w2 _ := (But.refl jy w2).setCell 0 (.int .i64 (2))
 replace N := N.but bz (by omega)
 replace E := E.but bz (by omega)
 replace R := R.but bz (by omega)
 replace B := B.trans (bz.below hy B.size)
 clear bz
 generalize w2.setCell ⟨jy, 0, none⟩ (.int .i64 (2)) = w3 at *
 have y0 : _ ∧ _ := Y
 have e0_ : _ ∧ _ := E
 have n0 : _ ∧ _ := N
 have RR := ((R.set0 (.int .i64 (2))).set1 (.int .i64 (e))).set2 (.int .i64 (s))
 have BB := ((B.setCell (p := ⟨w.heap.size + 2, 0, none⟩) (Nat.le_add_right w.heap.size 2) (.int .i64 (2))).setCell (p := ⟨w.heap.size + 2, 1, none⟩) (Nat.le_add_right w.heap.size 2) (.int .i64 (e))).setCell (p := ⟨w.heap.size + 2, 2, none⟩) (Nat.le_add_right w.heap.size 2) (.int .i64 (s))
 obtain ⟨r0, r1, r2, r3, r4, r5, r6⟩ := id R
 go_wp2_with fail
 clear r0 r1 r2 r3 r4 r5 r6
 generalize ((w3.setCell ⟨w.heap.size + 2, 0, none⟩ (.int .i64 (2))).setCell ⟨w.heap.size + 2, 1, none⟩ (.int .i64 (e))).setCell ⟨w.heap.size + 2, 2, none⟩ (.int .i64 (s)) = vz at *
 obtain ⟨r0, r1, r2, r3, r4, r5, r6⟩ := id RR
 exact bodyPost_ret (v := .agg #[.int .i64 (2), .int .i64 (e), .int .i64 (s)]) (by simp (maxDischargeDepth := 6) [results, Tryz.results176, go_sem, r1, r2, r3]) rfl ⟨rfl, BB⟩
theorem pI (m e s t : Int) (w : World) (hne : ((3 : Int) != m) = true) :
 Calls Tryz.prog 176 #[.agg #[.int .i64 m, .int .i64 e, .int .i64 s], .agg #[.int .i64 4, .int .i64 t]] w fun x w' => x = .returned (.agg #[.int .i64 (3), .int .i64 (e), .int .i64 (t)]) ∧ Below w.heap.size w w' := by
 have A0 := Below.nw w (.cells #[.int .i64 m, .int .i64 e, .int .i64 s] 46)
 have A1 := Below.nw (w.alloc (.cells #[.int .i64 m, .int .i64 e, .int .i64 s] 46)) (.cells #[.int .i64 4, .int .i64 t] 148)
 have A2 := Below.nw ((w.alloc (.cells #[.int .i64 m, .int .i64 e, .int .i64 s] 46)).alloc (.cells #[.int .i64 4, .int .i64 t] 148)) (.cells #[.int .i64 0, .int .i64 0, .int .i64 0] 46)
 have N := ((Tx3.new w (.int .i64 m) (.int .i64 e) (.int .i64 s) 46).below A1).below A2
 have E := (Bx2.new (w.alloc (.cells #[.int .i64 m, .int .i64 e, .int .i64 s] 46)) (.int .i64 4) (.int .i64 t) 148).below A2
 have R := Tx3.new ((w.alloc (.cells #[.int .i64 m, .int .i64 e, .int .i64 s] 46)).alloc (.cells #[.int .i64 4, .int .i64 t] 148)) (.int .i64 0) (.int .i64 0) (.int .i64 0) 46
 have B := (A0.trans (A1.mono A0.size)).trans (A2.mono (A0.trans (A1.mono A0.size)).size)
 simp only [World.size_alloc] at E R
 clear A0 A1 A2
 go_enter Tryz.func176, Tryz.ntmps176
 go_upto_region 1 with fail
 generalize ((w.alloc (.cells #[.int .i64 m, .int .i64 e, .int .i64 s] 46)).alloc (.cells #[.int .i64 4, .int .i64 t] 148)).alloc (.cells #[.int .i64 0, .int .i64 0, .int .i64 0] 46) = v at *
 have Y := Tx3.new v (.int .i64 m) (.int .i64 e) (.int .i64 s) 46
 have hb := Below.nw v (.cells #[.int .i64 m, .int .i64 e, .int .i64 s] 46)
 have hy : w.heap.size ≤ v.heap.size := B.size
 have hyr : w.heap.size + 2 < v.heap.size := R.1
 have n0 : _ ∧ _ := N
 go_upto_region 2 with fail
 clear n0
 replace B := B.trans (hb.mono B.size)
 replace N := N.below hb
 replace E := E.below hb
 replace R := R.below hb
 clear hb
 generalize v.alloc (.cells #[.int .i64 m, .int .i64 e, .int .i64 s] 46) = w2 at *
 generalize v.heap.size = jy at *
 have y0 : _ ∧ _ := Y
 have e0_ : _ ∧ _ := E
 have n0 : _ ∧ _ := N
 go_upto_region 14 with fail
 clear n0
 clear e0_
 clear y0
 replace Y := Y.set0 (.int .i64 (3))
 have bz : But jy w2 _ := (But.refl jy w2).setCell 0 (.int .i64 (3))
 replace N := N.but bz (by omega)
 replace E := E.but bz (by omega)
 replace R := R.but bz (by omega)
 replace B := B.trans (bz.below hy B.size)
 clear bz
 generalize w2.setCell ⟨jy, 0, none⟩ (.int .i64 (3)) = w3 at *
 have y0 : _ ∧ _ := Y
 have e0_ : _ ∧ _ := E
 have n0 : _ ∧ _ := N
 go_upto_region 16 with fail
 clear n0
 clear e0_
 clear y0
 replace Y := Y.set2 (.int .i64 (t))
 have bz : But jy w3 _ := (But.refl jy w3).setCell 2 (.int .i64 (t))
 replace N := N.but bz (by omega)
 replace E := E.but bz (by omega)
 replace R := R.but bz (by omega)
 replace B := B.trans (bz.below hy B.size)
 clear bz
 generalize w3.setCell ⟨jy, 2, none⟩ (.int .i64 (t)) = w4 at *
 have y0 : _ ∧ _ := Y
 have e0_ : _ ∧ _ := E
 have n0 : _ ∧ _ := N
 have RR := ((R.set0 (.int .i64 (3))).set1 (.int .i64 (e))).set2 (.int .i64 (t))
 have BB := ((B.setCell (p := ⟨w.heap.size + 2, 0, none⟩) (Nat.le_add_right w.heap.size 2) (.int .i64 (3))).setCell (p := ⟨w.heap.size + 2, 1, none⟩) (Nat.le_add_right w.heap.size 2) (.int .i64 (e))).setCell (p := ⟨w.heap.size + 2, 2, none⟩) (Nat.le_add_right w.heap.size 2) (.int .i64 (t))
 obtain ⟨r0, r1, r2, r3, r4, r5, r6⟩ := id R
 go_wp2_with fail
 clear r0 r1 r2 r3 r4 r5 r6
 generalize ((w4.setCell ⟨w.heap.size + 2, 0, none⟩ (.int .i64 (3))).setCell ⟨w.heap.size + 2, 1, none⟩ (.int .i64 (e))).setCell ⟨w.heap.size + 2, 2, none⟩ (.int .i64 (t)) = vz at *
 obtain ⟨r0, r1, r2, r3, r4, r5, r6⟩ := id RR
 exact bodyPost_ret (v := .agg #[.int .i64 (3), .int .i64 (e), .int .i64 (t)]) (by simp (maxDischargeDepth := 6) [results, Tryz.results176, go_sem, r1, r2, r3]) rfl ⟨rfl, BB⟩
theorem pJ (m e s t : Int) (w : World) (hne : ((2 : Int) != m) = true) :
 Calls Tryz.prog 176 #[.agg #[.int .i64 m, .int .i64 e, .int .i64 s], .agg #[.int .i64 5, .int .i64 t]] w fun x w' => x = .returned (.agg #[.int .i64 (2), .int .i64 (e), .int .i64 (t)]) ∧ Below w.heap.size w w' := by
 have A0 := Below.nw w (.cells #[.int .i64 m, .int .i64 e, .int .i64 s] 46)
 have A1 := Below.nw (w.alloc (.cells #[.int .i64 m, .int .i64 e, .int .i64 s] 46)) (.cells #[.int .i64 5, .int .i64 t] 148)
 have A2 := Below.nw ((w.alloc (.cells #[.int .i64 m, .int .i64 e, .int .i64 s] 46)).alloc (.cells #[.int .i64 5, .int .i64 t] 148)) (.cells #[.int .i64 0, .int .i64 0, .int .i64 0] 46)
 have N := ((Tx3.new w (.int .i64 m) (.int .i64 e) (.int .i64 s) 46).below A1).below A2
 have E := (Bx2.new (w.alloc (.cells #[.int .i64 m, .int .i64 e, .int .i64 s] 46)) (.int .i64 5) (.int .i64 t) 148).below A2
 have R := Tx3.new ((w.alloc (.cells #[.int .i64 m, .int .i64 e, .int .i64 s] 46)).alloc (.cells #[.int .i64 5, .int .i64 t] 148)) (.int .i64 0) (.int .i64 0) (.int .i64 0) 46
 have B := (A0.trans (A1.mono A0.size)).trans (A2.mono (A0.trans (A1.mono A0.size)).size)
 simp only [World.size_alloc] at E R
 clear A0 A1 A2
 go_enter Tryz.func176, Tryz.ntmps176
 go_upto_region 1 with fail
 generalize ((w.alloc (.cells #[.int .i64 m, .int .i64 e, .int .i64 s] 46)).alloc (.cells #[.int .i64 5, .int .i64 t] 148)).alloc (.cells #[.int .i64 0, .int .i64 0, .int .i64 0] 46) = v at *
 have Y := Tx3.new v (.int .i64 m) (.int .i64 e) (.int .i64 s) 46
 have hb := Below.nw v (.cells #[.int .i64 m, .int .i64 e, .int .i64 s] 46)
 have hy : w.heap.size ≤ v.heap.size := B.size
 have hyr : w.heap.size + 2 < v.heap.size := R.1
 have n0 : _ ∧ _ := N
 go_upto_region 2 with fail
 clear n0
 replace B := B.trans (hb.mono B.size)
 replace N := N.below hb
 replace E := E.below hb
 replace R := R.below hb
 clear hb
 generalize v.alloc (.cells #[.int .i64 m, .int .i64 e, .int .i64 s] 46) = w2 at *
 generalize v.heap.size = jy at *
 have y0 : _ ∧ _ := Y
 have e0_ : _ ∧ _ := E
 have n0 : _ ∧ _ := N
 go_upto_region 14 with fail
 clear n0
 clear e0_
 clear y0
 replace Y := Y.set0 (.int .i64 (2))
 have bz : But jy w2 _ := (But.refl jy w2).setCell 0 (.int .i64 (2))
 replace N := N.but bz (by omega)
 replace E := E.but bz (by omega)
 replace R := R.but bz (by omega)
 replace B := B.trans (bz.below hy B.size)
 clear bz
 generalize w2.setCell ⟨jy, 0, none⟩ (.int .i64 (2)) = w3 at *
 have y0 : _ ∧ _ := Y
 have e0_ : _ ∧ _ := E
 have n0 : _ ∧ _ := N
 go_upto_region 16 with fail
 clear n0
 clear e0_
 clear y0
 replace Y := Y.set2 (.int .i64 (t))
 have bz : But jy w3 _ := (But.refl jy w3).setCell 2 (.int .i64 (t))
 replace N := N.but bz (by omega)
 replace E := E.but bz (by omega)
 replace R := R.but bz (by omega)
 replace B := B.trans (bz.below hy B.size)
 clear bz
 generalize w3.setCell ⟨jy, 2, none⟩ (.int .i64 (t)) = w4 at *
 have y0 : _ ∧ _ := Y
 have e0_ : _ ∧ _ := E
 have n0 : _ ∧ _ := N
 have RR := ((R.set0 (.int .i64 (2))).set1 (.int .i64 (e))).set2 (.int .i64 (t))
 have BB := ((B.setCell (p := ⟨w.heap.size + 2, 0, none⟩) (Nat.le_add_right w.heap.size 2) (.int .i64 (2))).setCell (p := ⟨w.heap.size + 2, 1, none⟩) (Nat.le_add_right w.heap.size 2) (.int .i64 (e))).setCell (p := ⟨w.heap.size + 2, 2, none⟩) (Nat.le_add_right w.heap.size 2) (.int .i64 (t))
 obtain ⟨r0, r1, r2, r3, r4, r5, r6⟩ := id R
 go_wp2_with fail
 clear r0 r1 r2 r3 r4 r5 r6
 generalize ((w4.setCell ⟨w.heap.size + 2, 0, none⟩ (.int .i64 (2))).setCell ⟨w.heap.size + 2, 1, none⟩ (.int .i64 (e))).setCell ⟨w.heap.size + 2, 2, none⟩ (.int .i64 (t)) = vz at *
 obtain ⟨r0, r1, r2, r3, r4, r5, r6⟩ := id RR
 exact bodyPost_ret (v := .agg #[.int .i64 (2), .int .i64 (e), .int .i64 (t)]) (by simp (maxDischargeDepth := 6) [results, Tryz.results176, go_sem, r1, r2, r3]) rfl ⟨rfl, BB⟩
theorem pK (m e s t : Int) (w : World) (hne : ((1 : Int) != m) = true) :
 Calls Tryz.prog 176 #[.agg #[.int .i64 m, .int .i64 e, .int .i64 s], .agg #[.int .i64 6, .int .i64 t]] w fun x w' => x = .returned (.agg #[.int .i64 (1), .int .i64 (e), .int .i64 (t)]) ∧ Below w.heap.size w w' := by
 have A0 := Below.nw w (.cells #[.int .i64 m, .int .i64 e, .int .i64 s] 46)
 have A1 := Below.nw (w.alloc (.cells #[.int .i64 m, .int .i64 e, .int .i64 s] 46)) (.cells #[.int .i64 6, .int .i64 t] 148)
 have A2 := Below.nw ((w.alloc (.cells #[.int .i64 m, .int .i64 e, .int .i64 s] 46)).alloc (.cells #[.int .i64 6, .int .i64 t] 148)) (.cells #[.int .i64 0, .int .i64 0, .int .i64 0] 46)
 have N := ((Tx3.new w (.int .i64 m) (.int .i64 e) (.int .i64 s) 46).below A1).below A2
 have E := (Bx2.new (w.alloc (.cells #[.int .i64 m, .int .i64 e, .int .i64 s] 46)) (.int .i64 6) (.int .i64 t) 148).below A2
 have R := Tx3.new ((w.alloc (.cells #[.int .i64 m, .int .i64 e, .int .i64 s] 46)).alloc (.cells #[.int .i64 6, .int .i64 t] 148)) (.int .i64 0) (.int .i64 0) (.int .i64 0) 46
 have B := (A0.trans (A1.mono A0.size)).trans (A2.mono (A0.trans (A1.mono A0.size)).size)
 simp only [World.size_alloc] at E R
 clear A0 A1 A2
 go_enter Tryz.func176, Tryz.ntmps176
 go_upto_region 1 with fail
 generalize ((w.alloc (.cells #[.int .i64 m, .int .i64 e, .int .i64 s] 46)).alloc (.cells #[.int .i64 6, .int .i64 t] 148)).alloc (.cells #[.int .i64 0, .int .i64 0, .int .i64 0] 46) = v at *
 have Y := Tx3.new v (.int .i64 m) (.int .i64 e) (.int .i64 s) 46
 have hb := Below.nw v (.cells #[.int .i64 m, .int .i64 e, .int .i64 s] 46)
 have hy : w.heap.size ≤ v.heap.size := B.size
 have hyr : w.heap.size + 2 < v.heap.size := R.1
 have n0 : _ ∧ _ := N
 go_upto_region 2 with fail
 clear n0
 replace B := B.trans (hb.mono B.size)
 replace N := N.below hb
 replace E := E.below hb
 replace R := R.below hb
 clear hb
 generalize v.alloc (.cells #[.int .i64 m, .int .i64 e, .int .i64 s] 46) = w2 at *
 generalize v.heap.size = jy at *
 have y0 : _ ∧ _ := Y
 have e0_ : _ ∧ _ := E
 have n0 : _ ∧ _ := N
 go_upto_region 14 with fail
 clear n0
 clear e0_
 clear y0
 replace Y := Y.set0 (.int .i64 (1))
 have bz : But jy w2 _ := (But.refl jy w2).setCell 0 (.int .i64 (1))
 replace N := N.but bz (by omega)
 replace E := E.but bz (by omega)
 replace R := R.but bz (by omega)
 replace B := B.trans (bz.below hy B.size)
 clear bz
 generalize w2.setCell ⟨jy, 0, none⟩ (.int .i64 (1)) = w3 at *
 have y0 : _ ∧ _ := Y
 have e0_ : _ ∧ _ := E
 have n0 : _ ∧ _ := N
 go_upto_region 16 with fail
 clear n0
 clear e0_
 clear y0
 replace Y := Y.set2 (.int .i64 (t))
 have bz : But jy w3 _ := (But.refl jy w3).setCell 2 (.int .i64 (t))
 replace N := N.but bz (by omega)
 replace E := E.but bz (by omega)
 replace R := R.but bz (by omega)
 replace B := B.trans (bz.below hy B.size)
 clear bz
 generalize w3.setCell ⟨jy, 2, none⟩ (.int .i64 (t)) = w4 at *
 have y0 : _ ∧ _ := Y
 have e0_ : _ ∧ _ := E
 have n0 : _ ∧ _ := N
 have RR := ((R.set0 (.int .i64 (1))).set1 (.int .i64 (e))).set2 (.int .i64 (t))
 have BB := ((B.setCell (p := ⟨w.heap.size + 2, 0, none⟩) (Nat.le_add_right w.heap.size 2) (.int .i64 (1))).setCell (p := ⟨w.heap.size + 2, 1, none⟩) (Nat.le_add_right w.heap.size 2) (.int .i64 (e))).setCell (p := ⟨w.heap.size + 2, 2, none⟩) (Nat.le_add_right w.heap.size 2) (.int .i64 (t))
 obtain ⟨r0, r1, r2, r3, r4, r5, r6⟩ := id R
 go_wp2_with fail
 clear r0 r1 r2 r3 r4 r5 r6
 generalize ((w4.setCell ⟨w.heap.size + 2, 0, none⟩ (.int .i64 (1))).setCell ⟨w.heap.size + 2, 1, none⟩ (.int .i64 (e))).setCell ⟨w.heap.size + 2, 2, none⟩ (.int .i64 (t)) = vz at *
 obtain ⟨r0, r1, r2, r3, r4, r5, r6⟩ := id RR
 exact bodyPost_ret (v := .agg #[.int .i64 (1), .int .i64 (e), .int .i64 (t)]) (by simp (maxDischargeDepth := 6) [results, Tryz.results176, go_sem, r1, r2, r3]) rfl ⟨rfl, BB⟩
theorem st (m e s k : Int) (h : lfB m e s = true) : mtB m e k = bT m e k := by
 have heb : 0 ≤ e ∧ e ≤ 100000 := by unfold lfB epB at h; simp only [Bool.and_eq_true, decide_eq_true_eq] at h; exact h.2.1
 unfold mtB bT
 by_cases h1 : k = 1
 ·subst h1
  by_cases h2 : e = 100000
  ·subst h2; rfl
  ·rw [beq_eq_false_iff_ne.2 h2, decide_eq_true (show e < 100000 by omega)]; rfl
 ·have e1 : (k == 1) = false := beq_eq_false_iff_ne.2 h1
  have e2 : (k != 1) = true := by unfold bne; rw [e1]; rfl
  rw [e1, e2]; rfl
theorem jc (k : Int) : keB k = decide (1 ≤ k ∧ k ≤ 6) := rfl
theorem l7 (m e s k t : Int) (w : World) (ev : evB m e s k t = true) (mb : bT m e k = true) :
 Calls Tryz.prog 176 #[.agg #[.int .i64 m, .int .i64 e, .int .i64 s], .agg #[.int .i64 k, .int .i64 t]] w fun x w' => x = .returned (.agg #[.int .i64 (stM m e s k t), .int .i64 (stE m e s k t), .int .i64 (stS m e s k t)]) ∧ Below w.heap.size w w' := by
 have hM : stM m e s k t = toM k := by rw [stM, ev, mb]
 have hE : stE m e s k t = (if k = 1 then e + 1 else e) := by rw [stE, ev, mb]
 have hS : stS m e s k t = (if toM k = m then s else t) := by rw [stS, ev, mb]
 rw [hM, hE, hS]
 have h1 : lfB m e s = true := by unfold evB at ev; simp only [Bool.and_eq_true] at ev; exact ev.1
 have hk6 : 1 ≤ k ∧ k ≤ 6 := by unfold evB at ev; simp only [Bool.and_eq_true, decide_eq_true_eq] at ev; exact ev.2.1
 have h4 : lmB m k = true := by unfold bT at mb; simp only [Bool.and_eq_true] at mb; exact mb.1
 have hlk : lkB m k = true := by unfold lmB at h4; simp only [Bool.and_eq_true] at h4; exact h4.2
 have heb : 0 ≤ e ∧ e ≤ 100000 := by unfold lfB epB at h1; simp only [Bool.and_eq_true, decide_eq_true_eq] at h1; exact h1.2.1
 by_cases k1 : k = 1
 ·subst k1
  have hm0 : m = 0 := by unfold lkB at hlk; simpa using hlk
  rw [if_pos rfl, if_neg (show ¬ toM 1 = m by rw [hm0]; decide)]
  exact pF m e s t w (by rw [hm0]; rfl) (Go.IntWalk.wrap64_in _ ⟨by omega, by omega⟩) (Go.IntWalk.i64_in _ ⟨by omega, by omega⟩)
 by_cases k2 : k = 2
 ·subst k2
  have hm0 : m ≠ 0 := by unfold lkB at hlk; simpa using hlk
  rw [if_neg (show ¬ (2 : Int) = 1 by decide), if_neg (show ¬ toM 2 = m from fun h => hm0 h.symm)]
  exact pG m e s t w (by simp; exact fun h => hm0 h.symm)
 by_cases k3 : k = 3
 ·subst k3
  by_cases hm2 : m = 2
  ·rw [if_neg (show ¬ (3 : Int) = 1 by decide), if_pos (show toM 3 = m by rw [hm2]; rfl)]
   exact oC m e s t w (by rw [hm2]; rfl)
  ·rw [if_neg (show ¬ (3 : Int) = 1 by decide), if_neg (show ¬ toM 3 = m from fun h => hm2 h.symm)]
   exact pH m e s t w (by simp; exact fun h => hm2 h.symm)
 by_cases k4 : k = 4
 ·subst k4
  have hm0 : m = 2 := by unfold lkB at hlk; simpa using hlk
  rw [if_neg (show ¬ (4 : Int) = 1 by decide), if_neg (show ¬ toM 4 = m by rw [hm0]; decide)]
  exact pI m e s t w (by rw [hm0]; rfl)
 by_cases k5 : k = 5
 ·subst k5
  have hm0 : m = 3 := by unfold lkB at hlk; simpa using hlk
  rw [if_neg (show ¬ (5 : Int) = 1 by decide), if_neg (show ¬ toM 5 = m by rw [hm0]; decide)]
  exact pJ m e s t w (by rw [hm0]; rfl)
 obtain rfl : k = 6 := by omega
 have hm0 : m ≠ 1 := by
  intro h
  rw [h] at hlk
  exact absurd hlk (by decide)
 rw [if_neg (show ¬ (6 : Int) = 1 by decide), if_neg (show ¬ toM 6 = m from fun h => hm0 h.symm)]
 exact pK m e s t w (by simp; exact fun h => hm0 h.symm)
theorem et (m e s k t : Int) (w : World) :
 Calls Tryz.prog 135 #[.agg #[.int .i64 m, .int .i64 e, .int .i64 s], .agg #[.int .i64 k, .int .i64 t]] w fun x w' => x = .returned (.tuple #[.agg #[.int .i64 (stM m e s k t), .int .i64 (stE m e s k t), .int .i64 (stS m e s k t)], .int .i64 (stC m e s k t)]) ∧ Below w.heap.size w w' := by
 have A0 := Below.nw w (.cells #[.int .i64 m, .int .i64 e, .int .i64 s] 46)
 have A1 := Below.nw (w.alloc (.cells #[.int .i64 m, .int .i64 e, .int .i64 s] 46)) (.cells #[.int .i64 k, .int .i64 t] 148)
 have A2 := Below.nw ((w.alloc (.cells #[.int .i64 m, .int .i64 e, .int .i64 s] 46)).alloc (.cells #[.int .i64 k, .int .i64 t] 148)) (.cells #[.int .i64 0, .int .i64 0, .int .i64 0] 46)
 have N := ((Tx3.new w (.int .i64 m) (.int .i64 e) (.int .i64 s) 46).below A1).below A2
 have E := (Bx2.new (w.alloc (.cells #[.int .i64 m, .int .i64 e, .int .i64 s] 46)) (.int .i64 k) (.int .i64 t) 148).below A2
 have R := Tx3.new ((w.alloc (.cells #[.int .i64 m, .int .i64 e, .int .i64 s] 46)).alloc (.cells #[.int .i64 k, .int .i64 t] 148)) (.int .i64 0) (.int .i64 0) (.int .i64 0) 46
 have B := (A0.trans (A1.mono A0.size)).trans (A2.mono (A0.trans (A1.mono A0.size)).size)
 simp only [World.size_alloc] at E R
 clear A0 A1 A2
 have C1 := fun w' => dP m e s w'
 have C2 := fun w' => kN k w'
 cases h1 : lfB m e s
 ·have ev : evB m e s k t = false := by unfold evB; rw [h1]; rfl
  have hC : stC m e s k t = 1 := by rw [stC, ev]
  have hM : stM m e s k t = 0 := by rw [stM, ev]
  have hE : stE m e s k t = 0 := by rw [stE, ev]
  have hS : stS m e s k t = 0 := by rw [stS, ev]
  rw [hC, hM, hE, hS]
  clear ev hC hM hE hS
  go_enter Tryz.func135, Tryz.ntmps135
  go_upto_region 1 with fail
  generalize ((w.alloc (.cells #[.int .i64 m, .int .i64 e, .int .i64 s] 46)).alloc (.cells #[.int .i64 k, .int .i64 t] 148)).alloc (.cells #[.int .i64 0, .int .i64 0, .int .i64 0] 46) = v at *
  have n0 : _ ∧ _ := N
  go_wp2_with fail
  refine (C1 _).mono ?_
  rintro x w1 ⟨rfl, hb⟩
  clear n0
  rw [h1]
  replace B := B.trans (hb.mono B.size)
  replace N := N.below hb
  replace E := E.below hb
  replace R := R.below hb
  clear hb
  have n0 : _ ∧ _ := N
  have e0_ : _ ∧ _ := E
  have RR := ((R.set0 (.int .i64 (0))).set1 (.int .i64 (0))).set2 (.int .i64 (0))
  have BB := ((B.setCell (p := ⟨w.heap.size + 2, 0, none⟩) (Nat.le_add_right w.heap.size 2) (.int .i64 (0))).setCell (p := ⟨w.heap.size + 2, 1, none⟩) (Nat.le_add_right w.heap.size 2) (.int .i64 (0))).setCell (p := ⟨w.heap.size + 2, 2, none⟩) (Nat.le_add_right w.heap.size 2) (.int .i64 (0))
  obtain ⟨r0, r1, r2, r3, r4, r5, r6⟩ := id R
  go_wp2_with fail
  clear r0 r1 r2 r3 r4 r5 r6
  generalize ((w1.setCell ⟨w.heap.size + 2, 0, none⟩ (.int .i64 (0))).setCell ⟨w.heap.size + 2, 1, none⟩ (.int .i64 (0))).setCell ⟨w.heap.size + 2, 2, none⟩ (.int .i64 (0)) = vz at *
  obtain ⟨r0, r1, r2, r3, r4, r5, r6⟩ := id RR
  exact bodyPost_ret (v := .tuple #[.agg #[.int .i64 0, .int .i64 0, .int .i64 0], .int .i64 1]) (by simp (maxDischargeDepth := 6) [results, Tryz.results135, go_sem, r1, r2, r3]) rfl ⟨rfl, BB⟩
 have C3 : ∀ w', Calls Tryz.prog 175 #[.agg #[.int .i64 m, .int .i64 e, .int .i64 s], .int .i64 k] w' fun x w'' => x = .returned (.bool (bT m e k)) ∧ Below w'.heap.size w' w'' := fun w' => by have h := kZ m e s k w'; rw [st m e s k h1] at h; exact h
 cases h2 : keB k
 ·have ev : evB m e s k t = false := by unfold evB; rw [h1, ← jc, h2]; rfl
  have hC : stC m e s k t = 1 := by rw [stC, ev]
  have hM : stM m e s k t = 0 := by rw [stM, ev]
  have hE : stE m e s k t = 0 := by rw [stE, ev]
  have hS : stS m e s k t = 0 := by rw [stS, ev]
  rw [hC, hM, hE, hS]
  clear ev hC hM hE hS
  clear C3
  go_enter Tryz.func135, Tryz.ntmps135
  go_upto_region 1 with fail
  generalize ((w.alloc (.cells #[.int .i64 m, .int .i64 e, .int .i64 s] 46)).alloc (.cells #[.int .i64 k, .int .i64 t] 148)).alloc (.cells #[.int .i64 0, .int .i64 0, .int .i64 0] 46) = v at *
  have n0 : _ ∧ _ := N
  go_wp2_with fail
  refine (C1 _).mono ?_
  rintro x w1 ⟨rfl, hb⟩
  clear n0
  rw [h1]
  replace B := B.trans (hb.mono B.size)
  replace N := N.below hb
  replace E := E.below hb
  replace R := R.below hb
  clear hb
  have e0_ : _ ∧ _ := E
  go_wp2_with fail
  refine (C2 _).mono ?_
  rintro x w' ⟨rfl, rfl⟩
  rw [h2]
  clear e0_
  have n0 : _ ∧ _ := N
  have e0_ : _ ∧ _ := E
  have RR := ((R.set0 (.int .i64 (0))).set1 (.int .i64 (0))).set2 (.int .i64 (0))
  have BB := ((B.setCell (p := ⟨w.heap.size + 2, 0, none⟩) (Nat.le_add_right w.heap.size 2) (.int .i64 (0))).setCell (p := ⟨w.heap.size + 2, 1, none⟩) (Nat.le_add_right w.heap.size 2) (.int .i64 (0))).setCell (p := ⟨w.heap.size + 2, 2, none⟩) (Nat.le_add_right w.heap.size 2) (.int .i64 (0))
  obtain ⟨r0, r1, r2, r3, r4, r5, r6⟩ := id R
  go_wp2_with fail
  clear r0 r1 r2 r3 r4 r5 r6
  generalize ((w1.setCell ⟨w.heap.size + 2, 0, none⟩ (.int .i64 (0))).setCell ⟨w.heap.size + 2, 1, none⟩ (.int .i64 (0))).setCell ⟨w.heap.size + 2, 2, none⟩ (.int .i64 (0)) = vz at *
  obtain ⟨r0, r1, r2, r3, r4, r5, r6⟩ := id RR
  exact bodyPost_ret (v := .tuple #[.agg #[.int .i64 0, .int .i64 0, .int .i64 0], .int .i64 1]) (by simp (maxDischargeDepth := 6) [results, Tryz.results135, go_sem, r1, r2, r3]) rfl ⟨rfl, BB⟩
 by_cases h3 : t < s
 ·have ev : evB m e s k t = false := by unfold evB; rw [h1, ← jc, h2, decide_eq_false (show ¬ (s ≤ t ∧ t ≤ 1000000000000) by omega)]; rfl
  have hC : stC m e s k t = 1 := by rw [stC, ev]
  have hM : stM m e s k t = 0 := by rw [stM, ev]
  have hE : stE m e s k t = 0 := by rw [stE, ev]
  have hS : stS m e s k t = 0 := by rw [stS, ev]
  rw [hC, hM, hE, hS]
  clear ev hC hM hE hS
  have h3d : decide (t < s) = true := decide_eq_true h3
  clear C3 h3
  go_enter Tryz.func135, Tryz.ntmps135
  go_upto_region 1 with fail
  generalize ((w.alloc (.cells #[.int .i64 m, .int .i64 e, .int .i64 s] 46)).alloc (.cells #[.int .i64 k, .int .i64 t] 148)).alloc (.cells #[.int .i64 0, .int .i64 0, .int .i64 0] 46) = v at *
  have n0 : _ ∧ _ := N
  go_wp2_with fail
  refine (C1 _).mono ?_
  rintro x w1 ⟨rfl, hb⟩
  clear n0
  rw [h1]
  replace B := B.trans (hb.mono B.size)
  replace N := N.below hb
  replace E := E.below hb
  replace R := R.below hb
  clear hb
  have e0_ : _ ∧ _ := E
  go_wp2_with fail
  refine (C2 _).mono ?_
  rintro x w' ⟨rfl, rfl⟩
  rw [h2]
  clear e0_
  have n0 : _ ∧ _ := N
  have e0_ : _ ∧ _ := E
  have RR := ((R.set0 (.int .i64 (0))).set1 (.int .i64 (0))).set2 (.int .i64 (0))
  have BB := ((B.setCell (p := ⟨w.heap.size + 2, 0, none⟩) (Nat.le_add_right w.heap.size 2) (.int .i64 (0))).setCell (p := ⟨w.heap.size + 2, 1, none⟩) (Nat.le_add_right w.heap.size 2) (.int .i64 (0))).setCell (p := ⟨w.heap.size + 2, 2, none⟩) (Nat.le_add_right w.heap.size 2) (.int .i64 (0))
  obtain ⟨r0, r1, r2, r3, r4, r5, r6⟩ := id R
  go_wp2_with fail
  clear r0 r1 r2 r3 r4 r5 r6
  generalize ((w1.setCell ⟨w.heap.size + 2, 0, none⟩ (.int .i64 (0))).setCell ⟨w.heap.size + 2, 1, none⟩ (.int .i64 (0))).setCell ⟨w.heap.size + 2, 2, none⟩ (.int .i64 (0)) = vz at *
  obtain ⟨r0, r1, r2, r3, r4, r5, r6⟩ := id RR
  exact bodyPost_ret (v := .tuple #[.agg #[.int .i64 0, .int .i64 0, .int .i64 0], .int .i64 1]) (by simp (maxDischargeDepth := 6) [results, Tryz.results135, go_sem, r1, r2, r3]) rfl ⟨rfl, BB⟩
 have h3d : decide (t < s) = false := decide_eq_false h3
 by_cases h4 : 1000000000000 < t
 ·have ev : evB m e s k t = false := by unfold evB; rw [h1, ← jc, h2, decide_eq_false (show ¬ (s ≤ t ∧ t ≤ 1000000000000) by omega)]; rfl
  have hC : stC m e s k t = 1 := by rw [stC, ev]
  have hM : stM m e s k t = 0 := by rw [stM, ev]
  have hE : stE m e s k t = 0 := by rw [stE, ev]
  have hS : stS m e s k t = 0 := by rw [stS, ev]
  rw [hC, hM, hE, hS]
  clear ev hC hM hE hS
  have h4d : decide (1000000000000 < t) = true := decide_eq_true h4
  clear C3 h3 h4
  go_enter Tryz.func135, Tryz.ntmps135
  go_upto_region 1 with fail
  generalize ((w.alloc (.cells #[.int .i64 m, .int .i64 e, .int .i64 s] 46)).alloc (.cells #[.int .i64 k, .int .i64 t] 148)).alloc (.cells #[.int .i64 0, .int .i64 0, .int .i64 0] 46) = v at *
  have n0 : _ ∧ _ := N
  go_wp2_with fail
  refine (C1 _).mono ?_
  rintro x w1 ⟨rfl, hb⟩
  clear n0
  rw [h1]
  replace B := B.trans (hb.mono B.size)
  replace N := N.below hb
  replace E := E.below hb
  replace R := R.below hb
  clear hb
  have e0_ : _ ∧ _ := E
  go_wp2_with fail
  refine (C2 _).mono ?_
  rintro x w' ⟨rfl, rfl⟩
  rw [h2]
  clear e0_
  have n0 : _ ∧ _ := N
  have e0_ : _ ∧ _ := E
  have RR := ((R.set0 (.int .i64 (0))).set1 (.int .i64 (0))).set2 (.int .i64 (0))
  have BB := ((B.setCell (p := ⟨w.heap.size + 2, 0, none⟩) (Nat.le_add_right w.heap.size 2) (.int .i64 (0))).setCell (p := ⟨w.heap.size + 2, 1, none⟩) (Nat.le_add_right w.heap.size 2) (.int .i64 (0))).setCell (p := ⟨w.heap.size + 2, 2, none⟩) (Nat.le_add_right w.heap.size 2) (.int .i64 (0))
  obtain ⟨r0, r1, r2, r3, r4, r5, r6⟩ := id R
  go_wp2_with fail
  clear r0 r1 r2 r3 r4 r5 r6
  generalize ((w1.setCell ⟨w.heap.size + 2, 0, none⟩ (.int .i64 (0))).setCell ⟨w.heap.size + 2, 1, none⟩ (.int .i64 (0))).setCell ⟨w.heap.size + 2, 2, none⟩ (.int .i64 (0)) = vz at *
  obtain ⟨r0, r1, r2, r3, r4, r5, r6⟩ := id RR
  exact bodyPost_ret (v := .tuple #[.agg #[.int .i64 0, .int .i64 0, .int .i64 0], .int .i64 1]) (by simp (maxDischargeDepth := 6) [results, Tryz.results135, go_sem, r1, r2, r3]) rfl ⟨rfl, BB⟩
 have h4d : decide (1000000000000 < t) = false := decide_eq_false h4
 have ev : evB m e s k t = true := by unfold evB; rw [h1, ← jc, h2, decide_eq_true (show s ≤ t ∧ t ≤ 1000000000000 by omega)]; rfl
 clear h3 h4
 cases h5 : bT m e k
 ·have hC : stC m e s k t = 2 := by rw [stC, ev, h5]
  have hM : stM m e s k t = m := by rw [stM, ev, h5]
  have hE : stE m e s k t = e := by rw [stE, ev, h5]
  have hS : stS m e s k t = s := by rw [stS, ev, h5]
  rw [hC, hM, hE, hS]
  clear ev hC hM hE hS
  go_enter Tryz.func135, Tryz.ntmps135
  go_upto_region 1 with fail
  generalize ((w.alloc (.cells #[.int .i64 m, .int .i64 e, .int .i64 s] 46)).alloc (.cells #[.int .i64 k, .int .i64 t] 148)).alloc (.cells #[.int .i64 0, .int .i64 0, .int .i64 0] 46) = v at *
  have n0 : _ ∧ _ := N
  go_wp2_with fail
  refine (C1 _).mono ?_
  rintro x w1 ⟨rfl, hb⟩
  clear n0
  rw [h1]
  replace B := B.trans (hb.mono B.size)
  replace N := N.below hb
  replace E := E.below hb
  replace R := R.below hb
  clear hb
  have e0_ : _ ∧ _ := E
  go_wp2_with fail
  refine (C2 _).mono ?_
  rintro x w' ⟨rfl, rfl⟩
  rw [h2]
  clear e0_
  have n0 : _ ∧ _ := N
  have e0_ : _ ∧ _ := E
  go_wp2_with fail
  refine (C3 _).mono ?_
  rintro x w2 ⟨rfl, hb⟩
  clear n0
  clear e0_
  rw [h5]
  replace B := B.trans (hb.mono B.size)
  replace N := N.below hb
  replace E := E.below hb
  replace R := R.below hb
  clear hb
  have n0 : _ ∧ _ := N
  have e0_ : _ ∧ _ := E
  have RR := ((R.set0 (.int .i64 (m))).set1 (.int .i64 (e))).set2 (.int .i64 (s))
  have BB := ((B.setCell (p := ⟨w.heap.size + 2, 0, none⟩) (Nat.le_add_right w.heap.size 2) (.int .i64 (m))).setCell (p := ⟨w.heap.size + 2, 1, none⟩) (Nat.le_add_right w.heap.size 2) (.int .i64 (e))).setCell (p := ⟨w.heap.size + 2, 2, none⟩) (Nat.le_add_right w.heap.size 2) (.int .i64 (s))
  obtain ⟨r0, r1, r2, r3, r4, r5, r6⟩ := id R
  go_wp2_with fail
  clear r0 r1 r2 r3 r4 r5 r6
  generalize ((w2.setCell ⟨w.heap.size + 2, 0, none⟩ (.int .i64 (m))).setCell ⟨w.heap.size + 2, 1, none⟩ (.int .i64 (e))).setCell ⟨w.heap.size + 2, 2, none⟩ (.int .i64 (s)) = vz at *
  obtain ⟨r0, r1, r2, r3, r4, r5, r6⟩ := id RR
  exact bodyPost_ret (v := .tuple #[.agg #[.int .i64 m, .int .i64 e, .int .i64 s], .int .i64 2]) (by simp (maxDischargeDepth := 6) [results, Tryz.results135, go_sem, r1, r2, r3]) rfl ⟨rfl, BB⟩
 have C4 := fun w' => l7 m e s k t w' ev h5
 have hC : stC m e s k t = 0 := by rw [stC, ev, h5]
 rw [hC]
 clear ev hC
 generalize stM m e s k t = AA at *
 generalize stE m e s k t = EE at *
 generalize stS m e s k t = SS at *
 go_enter Tryz.func135, Tryz.ntmps135
 go_upto_region 1 with fail
 generalize ((w.alloc (.cells #[.int .i64 m, .int .i64 e, .int .i64 s] 46)).alloc (.cells #[.int .i64 k, .int .i64 t] 148)).alloc (.cells #[.int .i64 0, .int .i64 0, .int .i64 0] 46) = v at *
 have n0 : _ ∧ _ := N
 go_wp2_with fail
 refine (C1 _).mono ?_
 rintro x w1 ⟨rfl, hb⟩
 clear n0
 rw [h1]
 replace B := B.trans (hb.mono B.size)
 replace N := N.below hb
 replace E := E.below hb
 replace R := R.below hb
 clear hb
 have e0_ : _ ∧ _ := E
 go_wp2_with fail
 refine (C2 _).mono ?_
 rintro x w' ⟨rfl, rfl⟩
 rw [h2]
 clear e0_
 have n0 : _ ∧ _ := N
 have e0_ : _ ∧ _ := E
 go_wp2_with fail
 refine (C3 _).mono ?_
 rintro x w2 ⟨rfl, hb⟩
 clear n0
 clear e0_
 rw [h5]
 replace B := B.trans (hb.mono B.size)
 replace N := N.below hb
 replace E := E.below hb
 replace R := R.below hb
 clear hb
 have n0 : _ ∧ _ := N
 have e0_ : _ ∧ _ := E
 go_wp2_with fail
 refine (C4 _).mono ?_
 rintro x w3 ⟨rfl, hb⟩
 clear n0
 clear e0_
 replace B := B.trans (hb.mono B.size)
 replace N := N.below hb
 replace E := E.below hb
 replace R := R.below hb
 clear hb
 have RR := ((R.set0 (.int .i64 (AA))).set1 (.int .i64 (EE))).set2 (.int .i64 (SS))
 have BB := ((B.setCell (p := ⟨w.heap.size + 2, 0, none⟩) (Nat.le_add_right w.heap.size 2) (.int .i64 (AA))).setCell (p := ⟨w.heap.size + 2, 1, none⟩) (Nat.le_add_right w.heap.size 2) (.int .i64 (EE))).setCell (p := ⟨w.heap.size + 2, 2, none⟩) (Nat.le_add_right w.heap.size 2) (.int .i64 (SS))
 obtain ⟨r0, r1, r2, r3, r4, r5, r6⟩ := id R
 go_wp2_with fail
 clear r0 r1 r2 r3 r4 r5 r6
 generalize ((w3.setCell ⟨w.heap.size + 2, 0, none⟩ (.int .i64 (AA))).setCell ⟨w.heap.size + 2, 1, none⟩ (.int .i64 (EE))).setCell ⟨w.heap.size + 2, 2, none⟩ (.int .i64 (SS)) = vz at *
 obtain ⟨r0, r1, r2, r3, r4, r5, r6⟩ := id RR
 exact bodyPost_ret (v := .tuple #[.agg #[.int .i64 AA, .int .i64 EE, .int .i64 SS], .int .i64 0]) (by simp (maxDischargeDepth := 6) [results, Tryz.results135, go_sem, r1, r2, r3]) rfl ⟨rfl, BB⟩
end Go.Proofs.YtikbjljkakabdaaGreat
