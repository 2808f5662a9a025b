/- Plans: what the laws make of them. What the laws make of a configurati -/
import Derived.Test.YtikbjljkakabdaaGreatMB18
namespace Go.Proofs.YtikbjljkakabdaaGreat
open Go.RowKit
set_option linter.unusedVariables false
set_option maxRecDepth 100000
set_option maxHeartbeats 16000000
theorem nt (ep us : Int) (a : Option Addr) (n c : Nat) (M : Nat → SlT) (w : World) (hn : n ≤ 1048576) (h : az w a (n * 2) (aH M)) :
 Calls Tryz.prog 33 #[.agg #[.int .i64 ep, .int .i64 us, .slice a n c]] w fun e w' => e = .returned (.agg #[.int .i64 ep, .int .i64 us, .slice (some ⟨w.heap.size + 3, 0, none⟩) n n]) ∧ ax w' (w.heap.size + 3) 195 (n * 2) (n * 2) (aH M) ∧ Below w.heap.size w w' := by
 have A0 := ((Below.nw w (.cells #[.int .i64 ep, .int .i64 us, .slice a n c] 26)).alloc (by simp) (.cells #[.int .i64 0, .int .i64 0, .slice none 0 0] 64)).alloc (by simp; omega) (.cells #[.int .i64 ep, .int .i64 us, .slice none 0 0] 64)
 have z3 : (((w.alloc (.cells #[.int .i64 ep, .int .i64 us, .slice a n c] 26)).alloc (.cells #[.int .i64 0, .int .i64 0, .slice none 0 0] 64)).alloc (.cells #[.int .i64 ep, .int .i64 us, .slice none 0 0] 64)).heap.size = w.heap.size + 3 := by simp
 have C := lT a n c M _ hn (h.below A0)
 rw [z3] at C
 have r0 : (((w.alloc (.cells #[.int .i64 ep, .int .i64 us, .slice a n c] 26)).alloc (.cells #[.int .i64 0, .int .i64 0, .slice none 0 0] 64)).alloc (.cells #[.int .i64 ep, .int .i64 us, .slice none 0 0] 64)).cell? ⟨w.heap.size + 1, 0, none⟩ = some (.int .i64 0) := by simp [go_sem]
 have f0 : (((w.alloc (.cells #[.int .i64 ep, .int .i64 us, .slice a n c] 26)).alloc (.cells #[.int .i64 0, .int .i64 0, .slice none 0 0] 64)).alloc (.cells #[.int .i64 ep, .int .i64 us, .slice none 0 0] 64)).frozen? ⟨w.heap.size + 1, 0, none⟩ = false := by simp [go_sem]
 have r1 : (((w.alloc (.cells #[.int .i64 ep, .int .i64 us, .slice a n c] 26)).alloc (.cells #[.int .i64 0, .int .i64 0, .slice none 0 0] 64)).alloc (.cells #[.int .i64 ep, .int .i64 us, .slice none 0 0] 64)).cell? ⟨w.heap.size + 1, 1, none⟩ = some (.int .i64 0) := by simp [go_sem]
 have f1 : (((w.alloc (.cells #[.int .i64 ep, .int .i64 us, .slice a n c] 26)).alloc (.cells #[.int .i64 0, .int .i64 0, .slice none 0 0] 64)).alloc (.cells #[.int .i64 ep, .int .i64 us, .slice none 0 0] 64)).frozen? ⟨w.heap.size + 1, 1, none⟩ = false := by simp [go_sem]
 have r2 : (((w.alloc (.cells #[.int .i64 ep, .int .i64 us, .slice a n c] 26)).alloc (.cells #[.int .i64 0, .int .i64 0, .slice none 0 0] 64)).alloc (.cells #[.int .i64 ep, .int .i64 us, .slice none 0 0] 64)).cell? ⟨w.heap.size + 1, 2, none⟩ = some (.slice none 0 0) := by simp [go_sem]
 have f2 : (((w.alloc (.cells #[.int .i64 ep, .int .i64 us, .slice a n c] 26)).alloc (.cells #[.int .i64 0, .int .i64 0, .slice none 0 0] 64)).alloc (.cells #[.int .i64 ep, .int .i64 us, .slice none 0 0] 64)).frozen? ⟨w.heap.size + 1, 2, none⟩ = false := by simp [go_sem]
 have o0 : (((w.alloc (.cells #[.int .i64 ep, .int .i64 us, .slice a n c] 26)).alloc (.cells #[.int .i64 0, .int .i64 0, .slice none 0 0] 64)).alloc (.cells #[.int .i64 ep, .int .i64 us, .slice none 0 0] 64)).cell? ⟨w.heap.size + 1 + 1, 0, none⟩ = some (.int .i64 ep) := by simp [go_sem]
 have o1 : (((w.alloc (.cells #[.int .i64 ep, .int .i64 us, .slice a n c] 26)).alloc (.cells #[.int .i64 0, .int .i64 0, .slice none 0 0] 64)).alloc (.cells #[.int .i64 ep, .int .i64 us, .slice none 0 0] 64)).cell? ⟨w.heap.size + 1 + 1, 1, none⟩ = some (.int .i64 us) := by simp [go_sem]
 have o2 : (((w.alloc (.cells #[.int .i64 ep, .int .i64 us, .slice a n c] 26)).alloc (.cells #[.int .i64 0, .int .i64 0, .slice none 0 0] 64)).alloc (.cells #[.int .i64 ep, .int .i64 us, .slice none 0 0] 64)).cell? ⟨w.heap.size + 1 + 1, 2, none⟩ = some (.slice none 0 0) := by simp [go_sem]
 have g2 : (((w.alloc (.cells #[.int .i64 ep, .int .i64 us, .slice a n c] 26)).alloc (.cells #[.int .i64 0, .int .i64 0, .slice none 0 0] 64)).alloc (.cells #[.int .i64 ep, .int .i64 us, .slice none 0 0] 64)).frozen? ⟨w.heap.size + 1 + 1, 2, none⟩ = false := by simp [go_sem]
 clear h
 go_enter Tryz.func33, Tryz.ntmps33
 go_wp2_with fail
 refine C.mono ?_
 rintro e w1 ⟨rfl, R1, hb⟩
 have l3 := R1.lt
 have q0 := (hb.cell (p := ⟨w.heap.size + 1, 0, none⟩) (by simp)).trans r0
 have k0 := (hb.frozen (p := ⟨w.heap.size + 1, 0, none⟩) (by simp)).trans f0
 have q1 := (hb.cell (p := ⟨w.heap.size + 1, 1, none⟩) (by simp)).trans r1
 have k1 := (hb.frozen (p := ⟨w.heap.size + 1, 1, none⟩) (by simp)).trans f1
 have q2 := (hb.cell (p := ⟨w.heap.size + 1, 2, none⟩) (by simp)).trans r2
 have k2 := (hb.frozen (p := ⟨w.heap.size + 1, 2, none⟩) (by simp)).trans f2
 have p0 := (hb.cell (p := ⟨w.heap.size + 1 + 1, 0, none⟩) (by simp)).trans o0
 have p1 := (hb.cell (p := ⟨w.heap.size + 1 + 1, 1, none⟩) (by simp)).trans o1
 have p2 := (hb.cell (p := ⟨w.heap.size + 1 + 1, 2, none⟩) (by simp)).trans o2
 have j2 := (hb.frozen (p := ⟨w.heap.size + 1 + 1, 2, none⟩) (by simp)).trans g2
 have B1 := A0.trans (hb.mono (by omega))
 have RF : ax ((((w1.setCell ⟨w.heap.size + 1 + 1, 2, none⟩ (.slice (some ⟨w.heap.size + 3, 0, none⟩) n n)).setCell ⟨w.heap.size + 1, 0, none⟩ (.int .i64 ep)).setCell ⟨w.heap.size + 1, 1, none⟩ (.int .i64 us)).setCell ⟨w.heap.size + 1, 2, none⟩ (.slice (some ⟨w.heap.size + 3, 0, none⟩) n n)) (w.heap.size + 3) 195 (n * 2) (n * 2) (aH M) := (((R1.setO (by omega) _ _).setO (by omega) _ _).setO (by omega) _ _).setO (by omega) _ _
 have BF : Below w.heap.size w ((((w1.setCell ⟨w.heap.size + 1 + 1, 2, none⟩ (.slice (some ⟨w.heap.size + 3, 0, none⟩) n n)).setCell ⟨w.heap.size + 1, 0, none⟩ (.int .i64 ep)).setCell ⟨w.heap.size + 1, 1, none⟩ (.int .i64 us)).setCell ⟨w.heap.size + 1, 2, none⟩ (.slice (some ⟨w.heap.size + 3, 0, none⟩) n n)) := (((B1.setCell (by simp; omega) _).setCell (by simp) _).setCell (by simp) _).setCell (by simp) _
 have s1 : w.heap.size + 1 < w1.heap.size := by omega
 have s2 : w.heap.size + 1 + 1 < w1.heap.size := by omega
 clear hb C r0 r1 r2 o0 o1 o2 f0 f1 f2 g2 A0 z3 R1 B1
 go_wp2_with fail
 exact bodyPost_ret (v := .agg #[.int .i64 ep, .int .i64 us, .slice (some ⟨w.heap.size + 3, 0, none⟩) n n]) (by simp (maxDischargeDepth := 6) [results, Tryz.results33, go_sem, *]) rfl ⟨rfl, RF, BF⟩
theorem ko (ep us : Int) (a a' : Option Addr) (n c c' : Nat) (M : Nat → SlT) (w : World) (hn : n ≤ maxLen) (h : az w a (n * 2) (aH M)) (h' : az w a' (n * 2) (aH M)) :
 Calls Tryz.prog 52 #[.agg #[.int .i64 ep, .int .i64 us, .slice a n c], .agg #[.int .i64 ep, .int .i64 us, .slice a' n c']] w fun e w' => e = .returned (.bool true) ∧ Below w.heap.size w w' := by
 have A0 := (Below.nw w (.cells #[.int .i64 ep, .int .i64 us, .slice a n c] 64)).alloc (by simp) (.cells #[.int .i64 ep, .int .i64 us, .slice a' n c'] 64)
 have C := kp a a' n c c' M _ hn (h.below A0) (h'.below A0)
 clear h h'
 go_enter Tryz.func52, Tryz.ntmps52
 go_wp2_with fail
 refine C.mono ?_
 rintro e w1 ⟨rfl, hb⟩
 go_wp2_with fail
 go_ret
 exact ⟨rfl, A0.trans (hb.mono A0.size)⟩
theorem pr (dn dd li le pt ag ke lg s g : Int) (p : Option Addr) (m d : Nat) (PM : Nat → SlT) (w : World) (hpn : m ≤ 1048576) (hp : az w p (m * 2) (aH PM)) :
 Calls Tryz.prog 8 #[.agg #[.int .i64 dn, .int .i64 dd, .int .i64 li, .int .i64 le, .int .i64 pt, .int .i64 ag, .int .i64 ke, .int .i64 lg, .int .i64 s, .int .i64 g, .slice p m d]] w fun e w' => ∃ jx, e = .returned (.agg #[.int .i64 dn, .int .i64 dd, .int .i64 li, .int .i64 le, .int .i64 pt, .int .i64 ag, .int .i64 ke, .int .i64 lg, .int .i64 s, .int .i64 g, .slice (some ⟨jx, 0, none⟩) m m]) ∧ w.heap.size ≤ jx ∧ ax w' jx 195 (m * 2) (m * 2) (aH PM) ∧ Below w.heap.size w w' := by
 have A0 := Below.nw w (.cells #[.int .i64 dn, .int .i64 dd, .int .i64 li, .int .i64 le, .int .i64 pt, .int .i64 ag, .int .i64 ke, .int .i64 lg, .int .i64 s, .int .i64 g, .slice p m d] 28)
 have A1 := Below.nw (w.alloc (.cells #[.int .i64 dn, .int .i64 dd, .int .i64 li, .int .i64 le, .int .i64 pt, .int .i64 ag, .int .i64 ke, .int .i64 lg, .int .i64 s, .int .i64 g, .slice p m d] 28)) (.cells #[.int .i64 0, .int .i64 0, .int .i64 0, .int .i64 0, .int .i64 0, .int .i64 0, .int .i64 0, .int .i64 0, .int .i64 0, .int .i64 0, .slice none 0 0] 66)
 have A2 := Below.nw ((w.alloc (.cells #[.int .i64 dn, .int .i64 dd, .int .i64 li, .int .i64 le, .int .i64 pt, .int .i64 ag, .int .i64 ke, .int .i64 lg, .int .i64 s, .int .i64 g, .slice p m d] 28)).alloc (.cells #[.int .i64 0, .int .i64 0, .int .i64 0, .int .i64 0, .int .i64 0, .int .i64 0, .int .i64 0, .int .i64 0, .int .i64 0, .int .i64 0, .slice none 0 0] 66)) (.cells #[.int .i64 0, .int .i64 0, .int .i64 0, .int .i64 0, .int .i64 0, .int .i64 0, .int .i64 0, .int .i64 0, .int .i64 0, .int .i64 0, .slice none 0 0] 66)
 have C := ((aX.new w (.int .i64 dn) (.int .i64 dd) (.int .i64 li) (.int .i64 le) (.int .i64 pt) (.int .i64 ag) (.int .i64 ke) (.int .i64 lg) (.int .i64 s) (.int .i64 g) (.slice p m d) 28).below A1).below A2
 have R := (aX.new (w.alloc (.cells #[.int .i64 dn, .int .i64 dd, .int .i64 li, .int .i64 le, .int .i64 pt, .int .i64 ag, .int .i64 ke, .int .i64 lg, .int .i64 s, .int .i64 g, .slice p m d] 28)) (.int .i64 0) (.int .i64 0) (.int .i64 0) (.int .i64 0) (.int .i64 0) (.int .i64 0) (.int .i64 0) (.int .i64 0) (.int .i64 0) (.int .i64 0) (.slice none 0 0) 66).below A2
 have X := aX.new ((w.alloc (.cells #[.int .i64 dn, .int .i64 dd, .int .i64 li, .int .i64 le, .int .i64 pt, .int .i64 ag, .int .i64 ke, .int .i64 lg, .int .i64 s, .int .i64 g, .slice p m d] 28)).alloc (.cells #[.int .i64 0, .int .i64 0, .int .i64 0, .int .i64 0, .int .i64 0, .int .i64 0, .int .i64 0, .int .i64 0, .int .i64 0, .int .i64 0, .slice none 0 0] 66)) (.int .i64 0) (.int .i64 0) (.int .i64 0) (.int .i64 0) (.int .i64 0) (.int .i64 0) (.int .i64 0) (.int .i64 0) (.int .i64 0) (.int .i64 0) (.slice none 0 0) 66
 have B := (A0.trans (A1.mono A0.size)).trans (A2.mono (A0.trans (A1.mono A0.size)).size)
 have hj : w.heap.size + 3 ≤ (((w.alloc (.cells #[.int .i64 dn, .int .i64 dd, .int .i64 li, .int .i64 le, .int .i64 pt, .int .i64 ag, .int .i64 ke, .int .i64 lg, .int .i64 s, .int .i64 g, .slice p m d] 28)).alloc (.cells #[.int .i64 0, .int .i64 0, .int .i64 0, .int .i64 0, .int .i64 0, .int .i64 0, .int .i64 0, .int .i64 0, .int .i64 0, .int .i64 0, .slice none 0 0] 66)).alloc (.cells #[.int .i64 0, .int .i64 0, .int .i64 0, .int .i64 0, .int .i64 0, .int .i64 0, .int .i64 0, .int .i64 0, .int .i64 0, .int .i64 0, .slice none 0 0] 66)).heap.size := by simp
 simp only [World.size_alloc] at R X
 clear A0 A1 A2
 have HP : Hid (az w p (m * 2) (aH PM)) := hp
 have C1 := fun w' => lP dn dd w'
 have C2 := fun (w' : World) (h : Below w.heap.size w w') => nt s g p m d PM w' hpn (HP.out.below h)
 clear hp
 go_enter Tryz.func8, Tryz.ntmps8
 go_upto_region 2 with fail
 generalize ((w.alloc (.cells #[.int .i64 dn, .int .i64 dd, .int .i64 li, .int .i64 le, .int .i64 pt, .int .i64 ag, .int .i64 ke, .int .i64 lg, .int .i64 s, .int .i64 g, .slice p m d] 28)).alloc (.cells #[.int .i64 0, .int .i64 0, .int .i64 0, .int .i64 0, .int .i64 0, .int .i64 0, .int .i64 0, .int .i64 0, .int .i64 0, .int .i64 0, .slice none 0 0] 66)).alloc (.cells #[.int .i64 0, .int .i64 0, .int .i64 0, .int .i64 0, .int .i64 0, .int .i64 0, .int .i64 0, .int .i64 0, .int .i64 0, .int .i64 0, .slice none 0 0] 66) = v at *
 have x0 : _ ∧ _ := C
 go_wp2_with fail
 refine (C1 _).mono ?_
 clear C1
 rintro e v1 ⟨rfl, hb⟩
 clear x0
 replace B := B.trans (hb.mono B.size)
 replace C := C.below hb
 replace R := R.below hb
 replace X := X.below hb
 replace hj := Nat.le_trans hj hb.size
 clear hb
 have x0 : _ ∧ _ := C
 have u0 : _ ∧ _ := X
 go_upto_region 3 with fail
 clear x0
 clear u0
 replace X := ((X.set0 (.int .i64 dn)).set1 (.int .i64 dd))
 replace C := ((C.setO (j := w.heap.size + 2) (by omega) 0 (.int .i64 dn)).setO (j := w.heap.size + 2) (by omega) 1 (.int .i64 dd))
 replace R := ((R.setO (j := w.heap.size + 2) (by omega) 0 (.int .i64 dn)).setO (j := w.heap.size + 2) (by omega) 1 (.int .i64 dd))
 replace B := ((B.setCell (p := ⟨w.heap.size + 2, 0, none⟩) (by simp; try omega) (.int .i64 dn)).setCell (p := ⟨w.heap.size + 2, 1, none⟩) (by simp; try omega) (.int .i64 dd))
 replace hj : w.heap.size + 3 ≤ (((v1).setCell ⟨w.heap.size + 2, 0, none⟩ (.int .i64 dn)).setCell ⟨w.heap.size + 2, 1, none⟩ (.int .i64 dd)).heap.size := by simpa using hj
 generalize ((v1).setCell ⟨w.heap.size + 2, 0, none⟩ (.int .i64 dn)).setCell ⟨w.heap.size + 2, 1, none⟩ (.int .i64 dd) = w0 at *
 have x0 : _ ∧ _ := C
 have u0 : _ ∧ _ := X
 go_upto_region 4 with fail
 clear x0
 clear u0
 replace X := (X.set2 (.int .i64 li))
 replace C := (C.setO (j := w.heap.size + 2) (by omega) 2 (.int .i64 li))
 replace R := (R.setO (j := w.heap.size + 2) (by omega) 2 (.int .i64 li))
 replace B := (B.setCell (p := ⟨w.heap.size + 2, 2, none⟩) (by simp; try omega) (.int .i64 li))
 replace hj : w.heap.size + 3 ≤ ((w0).setCell ⟨w.heap.size + 2, 2, none⟩ (.int .i64 li)).heap.size := by simpa using hj
 generalize (w0).setCell ⟨w.heap.size + 2, 2, none⟩ (.int .i64 li) = w1 at *
 have x0 : _ ∧ _ := C
 have u0 : _ ∧ _ := X
 go_upto_region 5 with fail
 clear x0
 clear u0
 replace X := (X.set3 (.int .i64 le))
 replace C := (C.setO (j := w.heap.size + 2) (by omega) 3 (.int .i64 le))
 replace R := (R.setO (j := w.heap.size + 2) (by omega) 3 (.int .i64 le))
 replace B := (B.setCell (p := ⟨w.heap.size + 2, 3, none⟩) (by simp; try omega) (.int .i64 le))
 replace hj : w.heap.size + 3 ≤ ((w1).setCell ⟨w.heap.size + 2, 3, none⟩ (.int .i64 le)).heap.size := by simpa using hj
 generalize (w1).setCell ⟨w.heap.size + 2, 3, none⟩ (.int .i64 le) = w2 at *
 have x0 : _ ∧ _ := C
 have u0 : _ ∧ _ := X
 go_upto_region 6 with fail
 clear x0
 clear u0
 replace X := (X.set4 (.int .i64 pt))
 replace C := (C.setO (j := w.heap.size + 2) (by omega) 4 (.int .i64 pt))
 replace R := (R.setO (j := w.heap.size + 2) (by omega) 4 (.int .i64 pt))
 replace B := (B.setCell (p := ⟨w.heap.size + 2, 4, none⟩) (by simp; try omega) (.int .i64 pt))
 replace hj : w.heap.size + 3 ≤ ((w2).setCell ⟨w.heap.size + 2, 4, none⟩ (.int .i64 pt)).heap.size := by simpa using hj
 generalize (w2).setCell ⟨w.heap.size + 2, 4, none⟩ (.int .i64 pt) = w3 at *
 have x0 : _ ∧ _ := C
 have u0 : _ ∧ _ := X
 go_upto_region 7 with fail
 clear x0
 clear u0
 replace X := (X.set5 (.int .i64 ag))
 replace C := (C.setO (j := w.heap.size + 2) (by omega) 5 (.int .i64 ag))
 replace R := (R.setO (j := w.heap.size + 2) (by omega) 5 (.int .i64 ag))
 replace B := (B.setCell (p := ⟨w.heap.size + 2, 5, none⟩) (by simp; try omega) (.int .i64 ag))
 replace hj : w.heap.size + 3 ≤ ((w3).setCell ⟨w.heap.size + 2, 5, none⟩ (.int .i64 ag)).heap.size := by simpa using hj
 generalize (w3).setCell ⟨w.heap.size + 2, 5, none⟩ (.int .i64 ag) = w4 at *
 have x0 : _ ∧ _ := C
 have u0 : _ ∧ _ := X
 go_upto_region 8 with fail
 clear x0
 clear u0
 replace X := (X.set6 (.int .i64 ke))
 replace C := (C.setO (j := w.heap.size + 2) (by omega) 6 (.int .i64 ke))
 replace R := (R.setO (j := w.heap.size + 2) (by omega) 6 (.int .i64 ke))
 replace B := (B.setCell (p := ⟨w.heap.size + 2, 6, none⟩) (by simp; try omega) (.int .i64 ke))
 replace hj : w.heap.size + 3 ≤ ((w4).setCell ⟨w.heap.size + 2, 6, none⟩ (.int .i64 ke)).heap.size := by simpa using hj
 generalize (w4).setCell ⟨w.heap.size + 2, 6, none⟩ (.int .i64 ke) = w5 at *
 have x0 : _ ∧ _ := C
 have u0 : _ ∧ _ := X
 go_upto_region 9 with fail
 clear x0
 clear u0
 replace X := (X.set7 (.int .i64 lg))
 replace C := (C.setO (j := w.heap.size + 2) (by omega) 7 (.int .i64 lg))
 replace R := (R.setO (j := w.heap.size + 2) (by omega) 7 (.int .i64 lg))
 replace B := (B.setCell (p := ⟨w.heap.size + 2, 7, none⟩) (by simp; try omega) (.int .i64 lg))
 replace hj : w.heap.size + 3 ≤ ((w5).setCell ⟨w.heap.size + 2, 7, none⟩ (.int .i64 lg)).heap.size := by simpa using hj
 generalize (w5).setCell ⟨w.heap.size + 2, 7, none⟩ (.int .i64 lg) = w6 at *
 have x0 : _ ∧ _ := C
 go_wp2_with fail
 refine (C2 _ B).mono ?_
 clear C2
 rintro e v2 ⟨rfl, RW, hb⟩
 clear x0
 replace B := B.trans (hb.mono B.size)
 replace R := R.below hb
 replace X := X.below hb
 have hjx : w.heap.size + 3 ≤ w6.heap.size + 3 := by omega
 clear hb C
 generalize w6.heap.size + 3 = jx at *
 have u0 : _ ∧ _ := X
 go_upto_region 10 with fail
 clear u0
 replace X := (((X.set8 (.int .i64 s)).set9 (.int .i64 g)).set10 (.slice (some ⟨jx, 0, none⟩) m m))
 replace R := (((R.setO (j := w.heap.size + 2) (by omega) 8 (.int .i64 s)).setO (j := w.heap.size + 2) (by omega) 9 (.int .i64 g)).setO (j := w.heap.size + 2) (by omega) 10 (.slice (some ⟨jx, 0, none⟩) m m))
 replace B := (((B.setCell (p := ⟨w.heap.size + 2, 8, none⟩) (by simp; try omega) (.int .i64 s)).setCell (p := ⟨w.heap.size + 2, 9, none⟩) (by simp; try omega) (.int .i64 g)).setCell (p := ⟨w.heap.size + 2, 10, none⟩) (by simp; try omega) (.slice (some ⟨jx, 0, none⟩) m m))
 replace RW : ax ((((v2).setCell ⟨w.heap.size + 2, 8, none⟩ (.int .i64 s)).setCell ⟨w.heap.size + 2, 9, none⟩ (.int .i64 g)).setCell ⟨w.heap.size + 2, 10, none⟩ (.slice (some ⟨jx, 0, none⟩) m m)) jx 195 (m * 2) (m * 2) (aH PM) := by
  obtain ⟨gg, hr, hh⟩ := RW
  exact ⟨gg, ((hr.setOther (a := ⟨w.heap.size + 2, 8, none⟩) (by show jx ≠ w.heap.size + 2; omega) _).setOther (a := ⟨w.heap.size + 2, 9, none⟩) (by show jx ≠ w.heap.size + 2; omega) _).setOther (a := ⟨w.heap.size + 2, 10, none⟩) (by show jx ≠ w.heap.size + 2; omega) _, hh⟩
 generalize (((v2).setCell ⟨w.heap.size + 2, 8, none⟩ (.int .i64 s)).setCell ⟨w.heap.size + 2, 9, none⟩ (.int .i64 g)).setCell ⟨w.heap.size + 2, 10, none⟩ (.slice (some ⟨jx, 0, none⟩) m m) = v3 at *
 have R1 := (((((((((((R.set0 (.int .i64 dn)).set1 (.int .i64 dd)).set2 (.int .i64 li)).set3 (.int .i64 le)).set4 (.int .i64 pt)).set5 (.int .i64 ag)).set6 (.int .i64 ke)).set7 (.int .i64 lg)).set8 (.int .i64 s)).set9 (.int .i64 g)).set10 (.slice (some ⟨jx, 0, none⟩) m m))
 have B1 := (((((((((((B.setCell (p := ⟨w.heap.size + 1, 0, none⟩) (by simp; try omega) (.int .i64 dn)).setCell (p := ⟨w.heap.size + 1, 1, none⟩) (by simp; try omega) (.int .i64 dd)).setCell (p := ⟨w.heap.size + 1, 2, none⟩) (by simp; try omega) (.int .i64 li)).setCell (p := ⟨w.heap.size + 1, 3, none⟩) (by simp; try omega) (.int .i64 le)).setCell (p := ⟨w.heap.size + 1, 4, none⟩) (by simp; try omega) (.int .i64 pt)).setCell (p := ⟨w.heap.size + 1, 5, none⟩) (by simp; try omega) (.int .i64 ag)).setCell (p := ⟨w.heap.size + 1, 6, none⟩) (by simp; try omega) (.int .i64 ke)).setCell (p := ⟨w.heap.size + 1, 7, none⟩) (by simp; try omega) (.int .i64 lg)).setCell (p := ⟨w.heap.size + 1, 8, none⟩) (by simp; try omega) (.int .i64 s)).setCell (p := ⟨w.heap.size + 1, 9, none⟩) (by simp; try omega) (.int .i64 g)).setCell (p := ⟨w.heap.size + 1, 10, none⟩) (by simp; try omega) (.slice (some ⟨jx, 0, none⟩) m m))
 have HR : Hid (ax ((((((((((((v3).setCell ⟨w.heap.size + 1, 0, none⟩ (.int .i64 dn)).setCell ⟨w.heap.size + 1, 1, none⟩ (.int .i64 dd)).setCell ⟨w.heap.size + 1, 2, none⟩ (.int .i64 li)).setCell ⟨w.heap.size + 1, 3, none⟩ (.int .i64 le)).setCell ⟨w.heap.size + 1, 4, none⟩ (.int .i64 pt)).setCell ⟨w.heap.size + 1, 5, none⟩ (.int .i64 ag)).setCell ⟨w.heap.size + 1, 6, none⟩ (.int .i64 ke)).setCell ⟨w.heap.size + 1, 7, none⟩ (.int .i64 lg)).setCell ⟨w.heap.size + 1, 8, none⟩ (.int .i64 s)).setCell ⟨w.heap.size + 1, 9, none⟩ (.int .i64 g)).setCell ⟨w.heap.size + 1, 10, none⟩ (.slice (some ⟨jx, 0, none⟩) m m)) jx 195 (m * 2) (m * 2) (aH PM)) := by
  obtain ⟨gg, hr, hh⟩ := RW
  refine ⟨gg, ?_, hh⟩
  have hn : jx ≠ w.heap.size + 1 := by omega
  repeat (refine World.rowIs.setOther ?_ (by exact hn) _)
  exact hr
 clear RW
 have u0 : _ ∧ _ := X
 have x0 : _ ∧ _ := R
 go_wp2_with fail
 clear u0
 clear x0
 clear X R B
 generalize (((((((((((v3).setCell ⟨w.heap.size + 1, 0, none⟩ (.int .i64 dn)).setCell ⟨w.heap.size + 1, 1, none⟩ (.int .i64 dd)).setCell ⟨w.heap.size + 1, 2, none⟩ (.int .i64 li)).setCell ⟨w.heap.size + 1, 3, none⟩ (.int .i64 le)).setCell ⟨w.heap.size + 1, 4, none⟩ (.int .i64 pt)).setCell ⟨w.heap.size + 1, 5, none⟩ (.int .i64 ag)).setCell ⟨w.heap.size + 1, 6, none⟩ (.int .i64 ke)).setCell ⟨w.heap.size + 1, 7, none⟩ (.int .i64 lg)).setCell ⟨w.heap.size + 1, 8, none⟩ (.int .i64 s)).setCell ⟨w.heap.size + 1, 9, none⟩ (.int .i64 g)).setCell ⟨w.heap.size + 1, 10, none⟩ (.slice (some ⟨jx, 0, none⟩) m m) = v4 at *
 have x0 : _ ∧ _ := R1
 exact bodyPost_ret (v := (.agg #[.int .i64 dn, .int .i64 dd, .int .i64 li, .int .i64 le, .int .i64 pt, .int .i64 ag, .int .i64 ke, .int .i64 lg, .int .i64 s, .int .i64 g, .slice (some ⟨jx, 0, none⟩) m m])) (by simp (maxDischargeDepth := 6) [results, Tryz.results8, go_sem, *]) rfl ⟨jx, rfl, by omega, HR.out, B1⟩
theorem qL (dn dd li le pt ag ke lg s g : Int) (p : Option Addr) (m d : Nat) (PM : Nat → SlT) (Z : Int) (w : World) (hm : m ≤ maxLen) (h0 : 0 ≤ Z) (h1 : Z ≤ 1048576) :
 Calls Tryz.prog 5 #[.agg #[.int .i64 dn, .int .i64 dd, .int .i64 li, .int .i64 le, .int .i64 pt, .int .i64 ag, .int .i64 ke, .int .i64 lg, .int .i64 s, .int .i64 g, .slice p m d], .int .i64 Z] w fun e w' => ∃ L : Int, e = .returned (.int .i64 L) ∧ (0 ≤ L → m ≤ 1048576 ∧ L ≤ 1048576) ∧ Below w.heap.size w w' := by
 have B := Below.nw w (.cells #[.int .i64 dn, .int .i64 dd, .int .i64 li, .int .i64 le, .int .i64 pt, .int .i64 ag, .int .i64 ke, .int .i64 lg, .int .i64 s, .int .i64 g, .slice p m d] 28)
 have C := aX.new w (.int .i64 dn) (.int .i64 dd) (.int .i64 li) (.int .i64 le) (.int .i64 pt) (.int .i64 ag) (.int .i64 ke) (.int .i64 lg) (.int .i64 s) (.int .i64 g) (.slice p m d) 28
 have C1 := fun w' => pn s g p m d Z w' hm h0 h1
 go_enter Tryz.func5, Tryz.ntmps5
 go_upto_region 1 with fail
 generalize w.alloc (.cells #[.int .i64 dn, .int .i64 dd, .int .i64 li, .int .i64 le, .int .i64 pt, .int .i64 ag, .int .i64 ke, .int .i64 lg, .int .i64 s, .int .i64 g, .slice p m d] 28) = v at *
 have x0 : _ ∧ _ := C
 go_wp2_with fail
 refine (C1 _).mono ?_
 rintro e v1 ⟨L, rfl, hL, hb⟩
 clear x0
 replace B := B.trans (hb.mono B.size)
 clear hb C C1
 by_cases hz : L < 0
 ·go_wp2_with fail
  go_ret
  exact ⟨-1, rfl, fun h => absurd h (by decide), B⟩
 ·have HL : Hid (0 ≤ L → m ≤ 1048576 ∧ L ≤ 1048576) := hL
  clear hL
  go_wp2_with fail
  go_ret
  exact ⟨L, rfl, HL.out, B⟩
theorem mg (dn dd li le pt ag ke lg s g : Int) (p : Option Addr) (m d : Nat) (PM : Nat → SlT) (p' : Option Addr) (d' : Nat) (w : World) (hm : m ≤ maxLen) (h : az w p (m * 2) (aH PM)) (h' : az w p' (m * 2) (aH PM)) :
 Calls Tryz.prog 13 #[.agg #[.int .i64 dn, .int .i64 dd, .int .i64 li, .int .i64 le, .int .i64 pt, .int .i64 ag, .int .i64 ke, .int .i64 lg, .int .i64 s, .int .i64 g, .slice p m d], .agg #[.int .i64 dn, .int .i64 dd, .int .i64 li, .int .i64 le, .int .i64 pt, .int .i64 ag, .int .i64 ke, .int .i64 lg, .int .i64 s, .int .i64 g, .slice p' m d']] w fun e w' => e = .returned (.bool true) ∧ Below w.heap.size w w' := by
 have A0 := Below.nw w (.cells #[.int .i64 dn, .int .i64 dd, .int .i64 li, .int .i64 le, .int .i64 pt, .int .i64 ag, .int .i64 ke, .int .i64 lg, .int .i64 s, .int .i64 g, .slice p m d] 66)
 have A1 := Below.nw (w.alloc (.cells #[.int .i64 dn, .int .i64 dd, .int .i64 li, .int .i64 le, .int .i64 pt, .int .i64 ag, .int .i64 ke, .int .i64 lg, .int .i64 s, .int .i64 g, .slice p m d] 66)) (.cells #[.int .i64 dn, .int .i64 dd, .int .i64 li, .int .i64 le, .int .i64 pt, .int .i64 ag, .int .i64 ke, .int .i64 lg, .int .i64 s, .int .i64 g, .slice p' m d'] 66)
 have C := (aX.new w (.int .i64 dn) (.int .i64 dd) (.int .i64 li) (.int .i64 le) (.int .i64 pt) (.int .i64 ag) (.int .i64 ke) (.int .i64 lg) (.int .i64 s) (.int .i64 g) (.slice p m d) 66).below A1
 have X := aX.new (w.alloc (.cells #[.int .i64 dn, .int .i64 dd, .int .i64 li, .int .i64 le, .int .i64 pt, .int .i64 ag, .int .i64 ke, .int .i64 lg, .int .i64 s, .int .i64 g, .slice p m d] 66)) (.int .i64 dn) (.int .i64 dd) (.int .i64 li) (.int .i64 le) (.int .i64 pt) (.int .i64 ag) (.int .i64 ke) (.int .i64 lg) (.int .i64 s) (.int .i64 g) (.slice p' m d') 66
 have B := A0.trans (A1.mono A0.size)
 simp only [World.size_alloc] at X
 clear A0 A1
 have C1 := fun w' => iO dn dd w'
 have C2 := fun (w' : World) (hb : Below w.heap.size w w') => ko s g p p' m d d' PM w' hm (h.below hb) (h'.below hb)
 clear h h'
 go_enter Tryz.func13, Tryz.ntmps13
 go_upto_region 1 with fail
 generalize (w.alloc (.cells #[.int .i64 dn, .int .i64 dd, .int .i64 li, .int .i64 le, .int .i64 pt, .int .i64 ag, .int .i64 ke, .int .i64 lg, .int .i64 s, .int .i64 g, .slice p m d] 66)).alloc (.cells #[.int .i64 dn, .int .i64 dd, .int .i64 li, .int .i64 le, .int .i64 pt, .int .i64 ag, .int .i64 ke, .int .i64 lg, .int .i64 s, .int .i64 g, .slice p' m d'] 66) = v at *
 have x0 : _ ∧ _ := C
 have u0 : _ ∧ _ := X
 go_wp2_with fail
 refine (C1 _).mono ?_
 rintro e v1 ⟨rfl, hb⟩
 clear x0
 clear u0
 replace B := B.trans (hb.mono B.size)
 replace C := C.below hb
 replace X := X.below hb
 clear hb C1
 have x0 : _ ∧ _ := C
 have u0 : _ ∧ _ := X
 have e1 : (li != li) = false := by simp
 have e2 : (le != le) = false := by simp
 have e3 : (pt != pt) = false := by simp
 have e4 : (ag != ag) = false := by simp
 have e5 : (ke != ke) = false := by simp
 have e6 : (lg != lg) = false := by simp
 go_wp2_with fail
 refine (C2 _ B).mono ?_
 rintro e v2 ⟨rfl, hb⟩
 clear x0
 clear u0
 replace B := B.trans (hb.mono B.size)
 clear hb C X C2
 go_wp2_with fail
 go_ret
 exact ⟨rfl, B⟩
structure CfX where
 dn : Int
 dd : Int
 li : Int
 le : Int
 pt : Int
 ag : Int
 ke : Int
 lg : Int
 s : Int
 g : Int
 PM : Nat → SlT
 m : Nat
def cfV (y : CfX) (p : Option Addr) (d : Nat) : Array Value :=
 #[.int .i64 y.dn, .int .i64 y.dd, .int .i64 y.li, .int .i64 y.le, .int .i64 y.pt, .int .i64 y.ag, .int .i64 y.ke, .int .i64 y.lg, .int .i64 y.s, .int .i64 y.g, .slice p y.m d]
def CfS (w : World) (A : Array Value) (y : CfX) : Prop := ∃ p d, A = cfV y p d ∧ y.m ≤ maxLen ∧ RwO w p y.m d 2 (aH y.PM)
theorem CfS.below {w w' : World} {A : Array Value} {y : CfX} (h : CfS w A y) (hb : Below w.heap.size w w') : CfS w' A y := by
 obtain ⟨p, d, e, hl, h1⟩ := h
 exact ⟨p, d, e, hl, h1.below hb⟩
theorem CfS.size {w : World} {A : Array Value} {y : CfX} (h : CfS w A y) : A.size = 11 := by
 obtain ⟨p, d, e, _⟩ := h
 rw [e]; rfl
theorem CfS.one {w : World} {A : Array Value} {y : CfX} (h : CfS w A y) : ∀ u ∈ A.toList, u.oneCell' = true := by
 obtain ⟨p, d, e, _⟩ := h
 rw [e]
 intro u hu
 simp only [cfV, List.mem_cons, List.not_mem_nil, or_false] at hu
 rcases hu with h | h | h | h | h | h | h | h | h | h | h <;> (subst h; rfl)
def CfO (w : World) (l u : Nat) (A : Array Value) (y : CfX) : Prop := ∃ p d, A = cfV y p d ∧ y.m ≤ 1048576 ∧ Rwo w l u 195 2 p y.m d (aH y.PM)
theorem CfO.below {w w' : World} {l u : Nat} {A : Array Value} {y : CfX} (h : CfO w l u A y) (hb : Below w.heap.size w w') : CfO w' l u A y := by
 obtain ⟨p, d, e, hl, h1⟩ := h
 exact ⟨p, d, e, hl, h1.below hb⟩
theorem CfO.btw {w w' : World} {l u l' u' : Nat} {A : Array Value} {y : CfX} (h : CfO w l u A y) (hb : Btw l' u' w w') (ho : u ≤ l' ∨ u' ≤ l) : CfO w' l u A y := by
 obtain ⟨p, d, e, hl, h1⟩ := h
 exact ⟨p, d, e, hl, h1.btw hb ho⟩
theorem CfO.src {w : World} {l u : Nat} {A : Array Value} {y : CfX} (h : CfO w l u A y) : CfS w A y := by
 obtain ⟨p, d, e, hl, h1⟩ := h
 exact ⟨p, d, e, by unfold maxLen; omega, h1.rw⟩
theorem CfO.size {w : World} {l u : Nat} {A : Array Value} {y : CfX} (h : CfO w l u A y) : A.size = 11 := h.src.size
theorem CfO.one {w : World} {l u : Nat} {A : Array Value} {y : CfX} (h : CfO w l u A y) : ∀ v ∈ A.toList, v.oneCell' = true := h.src.one
theorem r9 (A A' : Array Value) (y : CfX) (w : World) (h : CfS w A y) (h' : CfS w A' y) :
 Calls Tryz.prog 13 #[.agg A, .agg A'] w fun e w' => e = .returned (.bool true) ∧ Below w.heap.size w w' := by
 obtain ⟨p, d, rfl, hl, h1⟩ := h
 obtain ⟨p', d', rfl, hl', h1'⟩ := h'
 exact mg y.dn y.dd y.li y.le y.pt y.ag y.ke y.lg y.s y.g p y.m d y.PM p' d' w hl h1.src h1'.src
def dI (y : CfX) : Bool := cfB y.dn y.dd y.li y.le y.pt y.ag y.ke y.lg y.s y.g y.PM y.m
theorem bJ (A : Array Value) (y : CfX) (w : World) (h : CfS w A y) :
 Calls Tryz.prog 68 #[.agg A] w fun e w' => e = .returned (.bool (dI y)) ∧ Below w.heap.size w w' := by
 obtain ⟨p, d, rfl, hl, h1⟩ := h
 exact gZ y.dn y.dd y.li y.le y.pt y.ag y.ke y.lg y.s y.g p y.m d y.PM w hl h1.src
theorem gi (a : Option Addr) (n c base : Nat) (q0 : Int) (xs : List Value) (w : World) (hn : n ≤ 1048576) (hq : 0 < q0) (hq1 : q0 ≤ 1073741824) (h : w.ownsRow base 195 2 (.slice a n c) n xs) :
 Calls Tryz.prog 98 #[.slice a n c, .int .i64 q0] w fun e w' => e = .returned (.int .i64 (q0 + (n : Int) * 2)) ∧ w.grownBy w' (Value.slice a n c).ownBlock := by
 rcases h.2 with ⟨he, h0⟩ | ⟨g, cap, cur, he, _⟩
 ·simp at he
  obtain ⟨rfl, rfl, rfl⟩ := he
  exact (gj none 0 q0 w).mono fun e w' ⟨h1, h2⟩ => ⟨by rw [h1]; simp, h2 ▸ fJ (Below.refl _ _)⟩
 ·simp at he
  obtain ⟨rfl, rfl⟩ := he
  obtain ⟨h1, h2, _, h3⟩ := d9 (eC q0) h
  exact (gT g (c * 2) n c q0 w hn hq hq1 (Nat.mul_le_mul_right _ h2) h3).mono fun e w' ⟨r1, _, r3⟩ => ⟨r1, r3.grK⟩
theorem mE (s g : Int) (a : Option Addr) (n c base : Nat) (q0 : Int) (xs : List Value) (w : World) (hn : n ≤ 1048576) (hq : 0 < q0) (hq1 : q0 ≤ 1073741824) (h : w.ownsRow base 195 2 (.slice a n c) n xs) :
 Calls Tryz.prog 53 #[.agg #[.int .i64 s, .int .i64 g, .slice a n c], .int .i64 q0] w fun e w' => e = .returned (.int .i64 (q0 + (n : Int) * 2)) ∧ w.grownBy w' (Value.slice a n c).ownBlock := by
 have A0 := Below.nw w (.cells #[.int .i64 s, .int .i64 g, .slice a n c] 64)
 have C := gi a n c base q0 xs _ hn hq hq1 (World.ownsRow.alloc h (.cells #[.int .i64 s, .int .i64 g, .slice a n c] 64))
 clear h
 go_enter Tryz.func53, Tryz.ntmps53
 go_wp2_with fail
 refine C.mono ?_
 rintro e w1 ⟨rfl, hg⟩
 have G := pV A0 hg
 go_wp2_with fail
 go_ret
 exact ⟨rfl, G⟩
attribute [-go_sem] loadCells in
theorem qm (A : Array Value) (y : CfX) (q : Int) (l u : Nat) (w : World) (h : CfO w l u A y) (hq : 0 < q) (hq1 : q ≤ 1048576) :
 Calls Tryz.prog 14 #[.agg A, .int .i64 q] w fun e w' => e = .returned (.int .i64 (q + (y.m : Int) * 2)) ∧ y.m ≤ 1048576 ∧ Btw l u w w' := by
 obtain ⟨p, d, rfl, hl, r1⟩ := h
 have B := Below.nw w (.cells (cfV y p d) 66)
 have N := Bo.new w (cfV y p d) 66
 have l1 : ∀ g, (Value.slice p y.m d).ownBlock = some g → l ≤ g ∧ g < u ∧ g < w.heap.size := fun g hg => r1.lt hg
 have p1 := r1.below B
 clear r1
 have T0 : Btw l u w _ := Btw.ofBelow B
 go_enter Tryz.func14, Tryz.ntmps14
 go_upto_region 1 with fail
 generalize w.alloc (.cells (cfV y p d) 66) = v at *
 have hL : (loadCells ⟨w.heap.size, 8, none⟩ 3).run Tryz.prog v = .ok #[.int .i64 y.s, .int .i64 y.g, .slice p y.m d] v := N.loadAt (P := Tryz.prog) 8 3 (show 8 + 3 ≤ 11 by decide)
 go_wp2_with (rw [hL])
 refine (mE y.s y.g p y.m d l q _ v hl hq (by omega) p1.1).mono ?_
 rintro e v1 ⟨rfl, g1⟩
 clear hL p1
 replace T0 := T0.trans (Btw.ofGrown g1 fun g e => ⟨(l1 g e).1, (l1 g e).2.1⟩)
 clear g1 B N
 go_wp2_with fail
 go_ret
 exact ⟨rfl, hl, T0⟩
end Go.Proofs.YtikbjljkakabdaaGreat
