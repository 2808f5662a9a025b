/- What the laws make of a configuration. -/
import Derived.Test.YtddijpjgkifngaaGreatMN20
namespace Go.Proofs.YtddijpjgkifngaaGreat
open Go.RowKit
set_option linter.unusedVariables false
set_option maxRecDepth 100000
set_option maxHeartbeats 16000000
theorem ji (dn dd li le pt ag ke lg s g : Int) (p : Option Addr) (m d : Nat) (PM : Nat → SlT) (w : World) (hpn : m ≤ 1048576) (hp : ae w p (m * 2) (ak PM)) :
 Calls Tryz.prog 15 #[.agg #[.int .i64 dn, .int .i64 dd, .int .i64 li, .int .i64 le, .int .i64 pt, .int .i64 ag, .int .i64 ke, .int .i64 lg, .int .i64 s, .int .i64 g, .slice p m d]] w fun e w' => ∃ jx, e = .returned (.agg #[.int .i64 dn, .int .i64 dd, .int .i64 li, .int .i64 le, .int .i64 pt, .int .i64 ag, .int .i64 ke, .int .i64 lg, .int .i64 s, .int .i64 g, .slice (some ⟨jx, 0, none⟩) m m]) ∧ w.heap.size ≤ jx ∧ ao w' jx 173 (m * 2) (m * 2) (ak PM) ∧ Below w.heap.size w w' := by
 have A0 := Below.nw w (.cells #[.int .i64 dn, .int .i64 dd, .int .i64 li, .int .i64 le, .int .i64 pt, .int .i64 ag, .int .i64 ke, .int .i64 lg, .int .i64 s, .int .i64 g, .slice p m d] 28)
 have A1 := Below.nw (w.alloc (.cells #[.int .i64 dn, .int .i64 dd, .int .i64 li, .int .i64 le, .int .i64 pt, .int .i64 ag, .int .i64 ke, .int .i64 lg, .int .i64 s, .int .i64 g, .slice p m d] 28)) (.cells #[.int .i64 0, .int .i64 0, .int .i64 0, .int .i64 0, .int .i64 0, .int .i64 0, .int .i64 0, .int .i64 0, .int .i64 0, .int .i64 0, .slice none 0 0] 45)
 have A2 := Below.nw ((w.alloc (.cells #[.int .i64 dn, .int .i64 dd, .int .i64 li, .int .i64 le, .int .i64 pt, .int .i64 ag, .int .i64 ke, .int .i64 lg, .int .i64 s, .int .i64 g, .slice p m d] 28)).alloc (.cells #[.int .i64 0, .int .i64 0, .int .i64 0, .int .i64 0, .int .i64 0, .int .i64 0, .int .i64 0, .int .i64 0, .int .i64 0, .int .i64 0, .slice none 0 0] 45)) (.cells #[.int .i64 0, .int .i64 0, .int .i64 0, .int .i64 0, .int .i64 0, .int .i64 0, .int .i64 0, .int .i64 0, .int .i64 0, .int .i64 0, .slice none 0 0] 45)
 have C := ((aB.new w (.int .i64 dn) (.int .i64 dd) (.int .i64 li) (.int .i64 le) (.int .i64 pt) (.int .i64 ag) (.int .i64 ke) (.int .i64 lg) (.int .i64 s) (.int .i64 g) (.slice p m d) 28).below A1).below A2
 have R := (aB.new (w.alloc (.cells #[.int .i64 dn, .int .i64 dd, .int .i64 li, .int .i64 le, .int .i64 pt, .int .i64 ag, .int .i64 ke, .int .i64 lg, .int .i64 s, .int .i64 g, .slice p m d] 28)) (.int .i64 0) (.int .i64 0) (.int .i64 0) (.int .i64 0) (.int .i64 0) (.int .i64 0) (.int .i64 0) (.int .i64 0) (.int .i64 0) (.int .i64 0) (.slice none 0 0) 45).below A2
 have X := aB.new ((w.alloc (.cells #[.int .i64 dn, .int .i64 dd, .int .i64 li, .int .i64 le, .int .i64 pt, .int .i64 ag, .int .i64 ke, .int .i64 lg, .int .i64 s, .int .i64 g, .slice p m d] 28)).alloc (.cells #[.int .i64 0, .int .i64 0, .int .i64 0, .int .i64 0, .int .i64 0, .int .i64 0, .int .i64 0, .int .i64 0, .int .i64 0, .int .i64 0, .slice none 0 0] 45)) (.int .i64 0) (.int .i64 0) (.int .i64 0) (.int .i64 0) (.int .i64 0) (.int .i64 0) (.int .i64 0) (.int .i64 0) (.int .i64 0) (.int .i64 0) (.slice none 0 0) 45
 have B := (A0.trans (A1.mono A0.size)).trans (A2.mono (A0.trans (A1.mono A0.size)).size)
 have hj : w.heap.size + 3 ≤ (((w.alloc (.cells #[.int .i64 dn, .int .i64 dd, .int .i64 li, .int .i64 le, .int .i64 pt, .int .i64 ag, .int .i64 ke, .int .i64 lg, .int .i64 s, .int .i64 g, .slice p m d] 28)).alloc (.cells #[.int .i64 0, .int .i64 0, .int .i64 0, .int .i64 0, .int .i64 0, .int .i64 0, .int .i64 0, .int .i64 0, .int .i64 0, .int .i64 0, .slice none 0 0] 45)).alloc (.cells #[.int .i64 0, .int .i64 0, .int .i64 0, .int .i64 0, .int .i64 0, .int .i64 0, .int .i64 0, .int .i64 0, .int .i64 0, .int .i64 0, .slice none 0 0] 45)).heap.size := by simp
 simp only [World.size_alloc] at R X
 clear A0 A1 A2
 have HP : Hid (ae w p (m * 2) (ak PM)) := hp
 have C1 := fun w' => gF dn dd w'
 have C2 := fun (w' : World) (h : Below w.heap.size w w') => ix s g p m d PM w' hpn (HP.out.below h)
 clear hp
 go_enter Tryz.func15, Tryz.ntmps15
 go_upto_region 2 with fail
 generalize ((w.alloc (.cells #[.int .i64 dn, .int .i64 dd, .int .i64 li, .int .i64 le, .int .i64 pt, .int .i64 ag, .int .i64 ke, .int .i64 lg, .int .i64 s, .int .i64 g, .slice p m d] 28)).alloc (.cells #[.int .i64 0, .int .i64 0, .int .i64 0, .int .i64 0, .int .i64 0, .int .i64 0, .int .i64 0, .int .i64 0, .int .i64 0, .int .i64 0, .slice none 0 0] 45)).alloc (.cells #[.int .i64 0, .int .i64 0, .int .i64 0, .int .i64 0, .int .i64 0, .int .i64 0, .int .i64 0, .int .i64 0, .int .i64 0, .int .i64 0, .slice none 0 0] 45) = v at *
 have x0 : _ ∧ _ := C
 go_wp2_with fail
 refine (C1 _).mono ?_
 clear C1
 rintro e v1 ⟨rfl, hb⟩
 clear x0
 replace B := B.trans (hb.mono B.size)
 replace C := C.below hb
 replace R := R.below hb
 replace X := X.below hb
 replace hj := Nat.le_trans hj hb.size
 clear hb
 have x0 : _ ∧ _ := C
 have u0 : _ ∧ _ := X
 go_upto_region 3 with fail
 clear x0
 clear u0
 replace X := ((X.set0 (.int .i64 dn)).set1 (.int .i64 dd))
 replace C := ((C.setO (j := w.heap.size + 2) (by omega) 0 (.int .i64 dn)).setO (j := w.heap.size + 2) (by omega) 1 (.int .i64 dd))
 replace R := ((R.setO (j := w.heap.size + 2) (by omega) 0 (.int .i64 dn)).setO (j := w.heap.size + 2) (by omega) 1 (.int .i64 dd))
 replace B := ((B.setCell (p := ⟨w.heap.size + 2, 0, none⟩) (by simp; try omega) (.int .i64 dn)).setCell (p := ⟨w.heap.size + 2, 1, none⟩) (by simp; try omega) (.int .i64 dd))
 replace hj : w.heap.size + 3 ≤ (((v1).setCell ⟨w.heap.size + 2, 0, none⟩ (.int .i64 dn)).setCell ⟨w.heap.size + 2, 1, none⟩ (.int .i64 dd)).heap.size := by simpa using hj
 generalize ((v1).setCell ⟨w.heap.size + 2, 0, none⟩ (.int .i64 dn)).setCell ⟨w.heap.size + 2, 1, none⟩ (.int .i64 dd) = w0 at *
 have x0 : _ ∧ _ := C
 have u0 : _ ∧ _ := X
 go_upto_region 4 with fail
 clear x0
 clear u0
 replace X := (X.set2 (.int .i64 li))
 replace C := (C.setO (j := w.heap.size + 2) (by omega) 2 (.int .i64 li))
 replace R := (R.setO (j := w.heap.size + 2) (by omega) 2 (.int .i64 li))
 replace B := (B.setCell (p := ⟨w.heap.size + 2, 2, none⟩) (by simp; try omega) (.int .i64 li))
 replace hj : w.heap.size + 3 ≤ ((w0).setCell ⟨w.heap.size + 2, 2, none⟩ (.int .i64 li)).heap.size := by simpa using hj
 generalize (w0).setCell ⟨w.heap.size + 2, 2, none⟩ (.int .i64 li) = w1 at *
 have x0 : _ ∧ _ := C
 have u0 : _ ∧ _ := X
 go_upto_region 5 with fail
 clear x0
 clear u0
 replace X := (X.set3 (.int .i64 le))
 replace C := (C.setO (j := w.heap.size + 2) (by omega) 3 (.int .i64 le))
 replace R := (R.setO (j := w.heap.size + 2) (by omega) 3 (.int .i64 le))
 replace B := (B.setCell (p := ⟨w.heap.size + 2, 3, none⟩) (by simp; try omega) (.int .i64 le))
 replace hj : w.heap.size + 3 ≤ ((w1).setCell ⟨w.heap.size + 2, 3, none⟩ (.int .i64 le)).heap.size := by simpa using hj
 generalize (w1).setCell ⟨w.heap.size + 2, 3, none⟩ (.int .i64 le) = w2 at *
 have x0 : _ ∧ _ := C
 have u0 : _ ∧ _ := X
 go_upto_region 6 with fail
 clear x0
 clear u0
 replace X := (X.set4 (.int .i64 pt))
 replace C := (C.setO (j := w.heap.size + 2) (by omega) 4 (.int .i64 pt))
 replace R := (R.setO (j := w.heap.size + 2) (by omega) 4 (.int .i64 pt))
 replace B := (B.setCell (p := ⟨w.heap.size + 2, 4, none⟩) (by simp; try omega) (.int .i64 pt))
 replace hj : w.heap.size + 3 ≤ ((w2).setCell ⟨w.heap.size + 2, 4, none⟩ (.int .i64 pt)).heap.size := by simpa using hj
 generalize (w2).setCell ⟨w.heap.size + 2, 4, none⟩ (.int .i64 pt) = w3 at *
 have x0 : _ ∧ _ := C
 have u0 : _ ∧ _ := X
 go_upto_region 7 with fail
 clear x0
 clear u0
 replace X := (X.set5 (.int .i64 ag))
 replace C := (C.setO (j := w.heap.size + 2) (by omega) 5 (.int .i64 ag))
 replace R := (R.setO (j := w.heap.size + 2) (by omega) 5 (.int .i64 ag))
 replace B := (B.setCell (p := ⟨w.heap.size + 2, 5, none⟩) (by simp; try omega) (.int .i64 ag))
 replace hj : w.heap.size + 3 ≤ ((w3).setCell ⟨w.heap.size + 2, 5, none⟩ (.int .i64 ag)).heap.size := by simpa using hj
 generalize (w3).setCell ⟨w.heap.size + 2, 5, none⟩ (.int .i64 ag) = w4 at *
 have x0 : _ ∧ _ := C
 have u0 : _ ∧ _ := X
 go_upto_region 8 with fail
 clear x0
 clear u0
 replace X := (X.set6 (.int .i64 ke))
 replace C := (C.setO (j := w.heap.size + 2) (by omega) 6 (.int .i64 ke))
 replace R := (R.setO (j := w.heap.size + 2) (by omega) 6 (.int .i64 ke))
 replace B := (B.setCell (p := ⟨w.heap.size + 2, 6, none⟩) (by simp; try omega) (.int .i64 ke))
 replace hj : w.heap.size + 3 ≤ ((w4).setCell ⟨w.heap.size + 2, 6, none⟩ (.int .i64 ke)).heap.size := by simpa using hj
 generalize (w4).setCell ⟨w.heap.size + 2, 6, none⟩ (.int .i64 ke) = w5 at *
 have x0 : _ ∧ _ := C
 have u0 : _ ∧ _ := X
 go_upto_region 9 with fail
 clear x0
 clear u0
 replace X := (X.set7 (.int .i64 lg))
 replace C := (C.setO (j := w.heap.size + 2) (by omega) 7 (.int .i64 lg))
 replace R := (R.setO (j := w.heap.size + 2) (by omega) 7 (.int .i64 lg))
 replace B := (B.setCell (p := ⟨w.heap.size + 2, 7, none⟩) (by simp; try omega) (.int .i64 lg))
 replace hj : w.heap.size + 3 ≤ ((w5).setCell ⟨w.heap.size + 2, 7, none⟩ (.int .i64 lg)).heap.size := by simpa using hj
 generalize (w5).setCell ⟨w.heap.size + 2, 7, none⟩ (.int .i64 lg) = w6 at *
 have x0 : _ ∧ _ := C
 go_wp2_with fail
 refine (C2 _ B).mono ?_
 clear C2
 rintro e v2 ⟨rfl, RW, hb⟩
 clear x0
 replace B := B.trans (hb.mono B.size)
 replace R := R.below hb
 replace X := X.below hb
 have hjx : w.heap.size + 3 ≤ w6.heap.size + 3 := by omega
 clear hb C
 generalize w6.heap.size + 3 = jx at *
 have u0 : _ ∧ _ := X
 go_upto_region 10 with fail
 clear u0
 replace X := (((X.set8 (.int .i64 s)).set9 (.int .i64 g)).set10 (.slice (some ⟨jx, 0, none⟩) m m))
 replace R := (((R.setO (j := w.heap.size + 2) (by omega) 8 (.int .i64 s)).setO (j := w.heap.size + 2) (by omega) 9 (.int .i64 g)).setO (j := w.heap.size + 2) (by omega) 10 (.slice (some ⟨jx, 0, none⟩) m m))
 replace B := (((B.setCell (p := ⟨w.heap.size + 2, 8, none⟩) (by simp; try omega) (.int .i64 s)).setCell (p := ⟨w.heap.size + 2, 9, none⟩) (by simp; try omega) (.int .i64 g)).setCell (p := ⟨w.heap.size + 2, 10, none⟩) (by simp; try omega) (.slice (some ⟨jx, 0, none⟩) m m))
 replace RW : ao ((((v2).setCell ⟨w.heap.size + 2, 8, none⟩ (.int .i64 s)).setCell ⟨w.heap.size + 2, 9, none⟩ (.int .i64 g)).setCell ⟨w.heap.size + 2, 10, none⟩ (.slice (some ⟨jx, 0, none⟩) m m)) jx 173 (m * 2) (m * 2) (ak PM) := by
  obtain ⟨gg, hr, hh⟩ := RW
  exact ⟨gg, ((hr.setOther (a := ⟨w.heap.size + 2, 8, none⟩) (by show jx ≠ w.heap.size + 2; omega) _).setOther (a := ⟨w.heap.size + 2, 9, none⟩) (by show jx ≠ w.heap.size + 2; omega) _).setOther (a := ⟨w.heap.size + 2, 10, none⟩) (by show jx ≠ w.heap.size + 2; omega) _, hh⟩
 generalize (((v2).setCell ⟨w.heap.size + 2, 8, none⟩ (.int .i64 s)).setCell ⟨w.heap.size + 2, 9, none⟩ (.int .i64 g)).setCell ⟨w.heap.size + 2, 10, none⟩ (.slice (some ⟨jx, 0, none⟩) m m) = v3 at *
 have R1 := (((((((((((R.set0 (.int .i64 dn)).set1 (.int .i64 dd)).set2 (.int .i64 li)).set3 (.int .i64 le)).set4 (.int .i64 pt)).set5 (.int .i64 ag)).set6 (.int .i64 ke)).set7 (.int .i64 lg)).set8 (.int .i64 s)).set9 (.int .i64 g)).set10 (.slice (some ⟨jx, 0, none⟩) m m))
 have B1 := (((((((((((B.setCell (p := ⟨w.heap.size + 1, 0, none⟩) (by simp; try omega) (.int .i64 dn)).setCell (p := ⟨w.heap.size + 1, 1, none⟩) (by simp; try omega) (.int .i64 dd)).setCell (p := ⟨w.heap.size + 1, 2, none⟩) (by simp; try omega) (.int .i64 li)).setCell (p := ⟨w.heap.size + 1, 3, none⟩) (by simp; try omega) (.int .i64 le)).setCell (p := ⟨w.heap.size + 1, 4, none⟩) (by simp; try omega) (.int .i64 pt)).setCell (p := ⟨w.heap.size + 1, 5, none⟩) (by simp; try omega) (.int .i64 ag)).setCell (p := ⟨w.heap.size + 1, 6, none⟩) (by simp; try omega) (.int .i64 ke)).setCell (p := ⟨w.heap.size + 1, 7, none⟩) (by simp; try omega) (.int .i64 lg)).setCell (p := ⟨w.heap.size + 1, 8, none⟩) (by simp; try omega) (.int .i64 s)).setCell (p := ⟨w.heap.size + 1, 9, none⟩) (by simp; try omega) (.int .i64 g)).setCell (p := ⟨w.heap.size + 1, 10, none⟩) (by simp; try omega) (.slice (some ⟨jx, 0, none⟩) m m))
 have HR : Hid (ao ((((((((((((v3).setCell ⟨w.heap.size + 1, 0, none⟩ (.int .i64 dn)).setCell ⟨w.heap.size + 1, 1, none⟩ (.int .i64 dd)).setCell ⟨w.heap.size + 1, 2, none⟩ (.int .i64 li)).setCell ⟨w.heap.size + 1, 3, none⟩ (.int .i64 le)).setCell ⟨w.heap.size + 1, 4, none⟩ (.int .i64 pt)).setCell ⟨w.heap.size + 1, 5, none⟩ (.int .i64 ag)).setCell ⟨w.heap.size + 1, 6, none⟩ (.int .i64 ke)).setCell ⟨w.heap.size + 1, 7, none⟩ (.int .i64 lg)).setCell ⟨w.heap.size + 1, 8, none⟩ (.int .i64 s)).setCell ⟨w.heap.size + 1, 9, none⟩ (.int .i64 g)).setCell ⟨w.heap.size + 1, 10, none⟩ (.slice (some ⟨jx, 0, none⟩) m m)) jx 173 (m * 2) (m * 2) (ak PM)) := by
  obtain ⟨gg, hr, hh⟩ := RW
  refine ⟨gg, ?_, hh⟩
  have hn : jx ≠ w.heap.size + 1 := by omega
  repeat (refine World.rowIs.setOther ?_ (by exact hn) _)
  exact hr
 clear RW
 have u0 : _ ∧ _ := X
 have x0 : _ ∧ _ := R
 go_wp2_with fail
 clear u0
 clear x0
 clear X R B
 generalize (((((((((((v3).setCell ⟨w.heap.size + 1, 0, none⟩ (.int .i64 dn)).setCell ⟨w.heap.size + 1, 1, none⟩ (.int .i64 dd)).setCell ⟨w.heap.size + 1, 2, none⟩ (.int .i64 li)).setCell ⟨w.heap.size + 1, 3, none⟩ (.int .i64 le)).setCell ⟨w.heap.size + 1, 4, none⟩ (.int .i64 pt)).setCell ⟨w.heap.size + 1, 5, none⟩ (.int .i64 ag)).setCell ⟨w.heap.size + 1, 6, none⟩ (.int .i64 ke)).setCell ⟨w.heap.size + 1, 7, none⟩ (.int .i64 lg)).setCell ⟨w.heap.size + 1, 8, none⟩ (.int .i64 s)).setCell ⟨w.heap.size + 1, 9, none⟩ (.int .i64 g)).setCell ⟨w.heap.size + 1, 10, none⟩ (.slice (some ⟨jx, 0, none⟩) m m) = v4 at *
 have x0 : _ ∧ _ := R1
 exact bodyPost_ret (v := (.agg #[.int .i64 dn, .int .i64 dd, .int .i64 li, .int .i64 le, .int .i64 pt, .int .i64 ag, .int .i64 ke, .int .i64 lg, .int .i64 s, .int .i64 g, .slice (some ⟨jx, 0, none⟩) m m])) (by simp (maxDischargeDepth := 6) [results, Tryz.results15, go_sem, *]) rfl ⟨jx, rfl, by omega, HR.out, B1⟩
end Go.Proofs.YtddijpjgkifngaaGreat
