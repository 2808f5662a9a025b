/- NodeRead and NodeTrue (the specification), over arrays of cells. -/
import Derived.Test.YtiecdkmnjdpgfaaGreatM35
namespace Go.Proofs.YtiecdkmnjdpgfaaGreat
open Go.RowKit
set_option linter.unusedVariables false
def readX (y : CfX) (x : NdX) (ct : Int) : NdX × Int × Bool × Int := match staI y x ct == 0 with
  | false => (match staI y x ct == 1 with | true => (zX 0 0 0 0 0 0, 0, false, 1) | false => (x, 0, false, 2))
  | true => match arC x.hs x.ls (nowC y x ct == 0) (nowL y x ct) (nowH y x ct) != 0 with
    | true => (x, 0, false, 8)
    | false => ({ x with hs := arH x.hs x.ls (nowC y x ct == 0) (nowL y x ct) (nowH y x ct), ls := arL x.hs x.ls (nowC y x ct == 0) (nowL y x ct) (nowH y x ct) }, arX x.hs x.ls (nowC y x ct == 0) (nowL y x ct) (nowH y x ct), arD x.hs x.ls (nowC y x ct == 0) (nowL y x ct) (nowH y x ct), 0)
attribute [-go_sem] loadCells storeCells in
set_option maxRecDepth 100000 in
set_option maxHeartbeats 8000000 in
theorem specReadX (AC AN : Array Value) (y : CfX) (x : NdX) (ct : Int) (w : World) (HC : CfS w AC y) (HN : NdS w AN x) :
    Calls Tryz.prog 26 #[.agg AC, .agg AN, .int .i64 ct] w fun e w' => ∃ R, e = .returned (.tuple #[.agg R, .int .i64 (readX y x ct).2.1, .bool (readX y x ct).2.2.1, .int .i64 (readX y x ct).2.2.2]) ∧ NdO w' w.heap.size w'.heap.size R (readX y x ct).1 ∧ Below w.heap.size w w' := by
  rcases sta_cases y x ct with hst0 | ⟨hst0, hok⟩ | ⟨hst0, hok⟩
  · skip
    have hF : readX y x ct = (zX 0 0 0 0 0 0, 0, false, 1) := by unfold readX; simp only [hst0, Int.reduceBEq]
    rw [hF]
    clear hF
    have CST := fun (v : World) (h : Below w.heap.size w v) => specStartX AC AN y x ct v (HC.below h) (HN.below h)
    have CNO := fun (v : World) (h : Below w.heap.size w v) => specNowX AC AN y x ct v (HC.below h) (HN.below h)
    have CAR := fun v => specAppRead_any x.hs x.ls (nowC y x ct == 0) (nowL y x ct) (nowH y x ct) v
    have CBB := fun (v : World) (h : Below w.heap.size w v) => specBackX_bad AN x v (HN.below h)
    have CBA := fun (hs : x.na ≤ 16 ∧ x.np ≤ 8 ∧ x.nh ≤ 16) (v : World) (h : Below w.heap.size w v) => specBackX_any AN x 2 v (HN.below h) (by decide) hs
    have CCP := fun (hs : x.na ≤ 16 ∧ x.np ≤ 8 ∧ x.nh ≤ 16) (v : World) (h : Below w.heap.size w v) => specCopyX AN x v (HN.below h) hs
    obtain ⟨p, d, rfl, -, -⟩ := HC
    obtain ⟨aa, ac, pa, pc, ha, hc, rfl, -, -, -, -⟩ := HN
    have A0 := Below.nw w (.cells (cfV y p d) 67)
    have A1 := Below.nw (w.alloc (.cells (cfV y p d) 67)) (.cells (ndV x aa ac pa pc ha hc) 57)
    have A2 := Below.nw (((w.alloc (.cells (cfV y p d) 67))).alloc (.cells (ndV x aa ac pa pc ha hc) 57)) (.cells #[.int .i64 0, .int .i64 0, .int .i64 0, .int .i64 0, .bool false, .int .i64 0, .int .i64 0, .int .i64 0, .int .i64 0, .int .i64 0, .slice none 0 0, .slice none 0 0, .bool false, .int .i64 0, .slice none 0 0, .int .i64 0] 57)
    have C := ((Bo.new w (cfV y p d) 67).below A1).below A2
    have N := (Bo.new (w.alloc (.cells (cfV y p d) 67)) (ndV x aa ac pa pc ha hc) 57).below A2
    have R := Bo.new (((w.alloc (.cells (cfV y p d) 67))).alloc (.cells (ndV x aa ac pa pc ha hc) 57)) #[.int .i64 0, .int .i64 0, .int .i64 0, .int .i64 0, .bool false, .int .i64 0, .int .i64 0, .int .i64 0, .int .i64 0, .int .i64 0, .slice none 0 0, .slice none 0 0, .bool false, .int .i64 0, .slice none 0 0, .int .i64 0] 57
    have B := A0
    replace B := B.trans (A1.mono B.size)
    replace B := B.trans (A2.mono B.size)
    simp only [World.size_alloc] at N R
    clear A0 A1 A2
    go_enter Tryz.func26, Tryz.ntmps26
    go_upto_region 1 with fail
    generalize ((((w.alloc (.cells (cfV y p d) 67))).alloc (.cells (ndV x aa ac pa pc ha hc) 57))).alloc (.cells #[.int .i64 0, .int .i64 0, .int .i64 0, .int .i64 0, .bool false, .int .i64 0, .int .i64 0, .int .i64 0, .int .i64 0, .int .i64 0, .slice none 0 0, .slice none 0 0, .bool false, .int .i64 0, .slice none 0 0, .int .i64 0] 57) = v0 at *
    have hL0 := C.load (P := Tryz.prog) (show ((cfV y p d) : Array Value).size = 11 from rfl)
    have hL1 := N.load (P := Tryz.prog) (show ((ndV x aa ac pa pc ha hc) : Array Value).size = 16 from rfl)
    go_wp2_with (first | rw [hL0] | rw [hL1])
    refine (CST v0 B).mono ?_
    rintro e v1 ⟨rfl, hb⟩
    clear hL0 hL1
    rw [hst0]
    replace B := B.trans (hb.mono B.size)
    replace C := C.below hb
    replace N := N.below hb
    replace R := R.below hb
    clear hb
    have hL0 := N.load (P := Tryz.prog) (show ((ndV x aa ac pa pc ha hc) : Array Value).size = 16 from rfl)
    go_wp2_with (rw [hL0])
    refine (CBB v1 B).mono ?_
    rintro e v2 ⟨U, rfl, OU, hb⟩
    clear hL0
    have q1C : w.heap.size < v1.heap.size := C.1
    have q1N : w.heap.size + 1 < v1.heap.size := N.1
    have q1R : w.heap.size + 2 < v1.heap.size := R.1
    have q1 : w.heap.size ≤ v1.heap.size := B.size
    have zv2 : v1.heap.size ≤ v2.heap.size := hb.size
    replace B := B.trans (hb.mono B.size)
    replace C := C.below hb
    replace N := N.below hb
    replace R := R.below hb
    clear hb
    have hU := OU.size
    have hUl : 0 + U.toList.length ≤ 16 := by simp [hU]
    have hst := Bo.store (P := Tryz.prog) (b := 0) (U.toList) 0 0 R rfl hUl OU.one
    have hb : Btw (w.heap.size + 2) (w.heap.size + 2 + 1) v2 _ := putA_btw (U.toList) v2 0 (w.heap.size + 2)
    have B1 := putA_below (k := w.heap.size + 2) (U.toList) w v2 0 B (by omega)
    have N1 := R.putW (U := U) hU
    go_wp2_with (rw [hst])
    clear hst  R B
    replace C := C.btw hb (by omega)
    replace N := N.btw hb (by omega)
    replace OU := OU.btw hb (by omega)
    have zv3 := hb.2.2.2.1
    clear hb
    generalize putA v2 (w.heap.size + 2) 0 (U.toList) = v3 at *
    have B := B1
    have R := N1
    clear B1 N1
    have hL0 := R.load (P := Tryz.prog) hU
    exact bodyPost_ret (v := .tuple #[.agg U, .int .i64 0, .bool false, .int .i64 1]) (by simp [results, Tryz.results26, go_sem]; rw [hL0]; rfl) rfl ⟨_, rfl, OU.low (by omega), B⟩
  · skip
    have hsh := okX_short hok
    clear hok
    have hF : readX y x ct = (x, 0, false, 2) := by unfold readX; simp only [hst0, Int.reduceBEq]
    rw [hF]
    clear hF
    have CST := fun (v : World) (h : Below w.heap.size w v) => specStartX AC AN y x ct v (HC.below h) (HN.below h)
    have CNO := fun (v : World) (h : Below w.heap.size w v) => specNowX AC AN y x ct v (HC.below h) (HN.below h)
    have CAR := fun v => specAppRead_any x.hs x.ls (nowC y x ct == 0) (nowL y x ct) (nowH y x ct) v
    have CBB := fun (v : World) (h : Below w.heap.size w v) => specBackX_bad AN x v (HN.below h)
    have CBA := fun (hs : x.na ≤ 16 ∧ x.np ≤ 8 ∧ x.nh ≤ 16) (v : World) (h : Below w.heap.size w v) => specBackX_any AN x 2 v (HN.below h) (by decide) hs
    have CCP := fun (hs : x.na ≤ 16 ∧ x.np ≤ 8 ∧ x.nh ≤ 16) (v : World) (h : Below w.heap.size w v) => specCopyX AN x v (HN.below h) hs
    obtain ⟨p, d, rfl, -, -⟩ := HC
    obtain ⟨aa, ac, pa, pc, ha, hc, rfl, -, -, -, -⟩ := HN
    have A0 := Below.nw w (.cells (cfV y p d) 67)
    have A1 := Below.nw (w.alloc (.cells (cfV y p d) 67)) (.cells (ndV x aa ac pa pc ha hc) 57)
    have A2 := Below.nw (((w.alloc (.cells (cfV y p d) 67))).alloc (.cells (ndV x aa ac pa pc ha hc) 57)) (.cells #[.int .i64 0, .int .i64 0, .int .i64 0, .int .i64 0, .bool false, .int .i64 0, .int .i64 0, .int .i64 0, .int .i64 0, .int .i64 0, .slice none 0 0, .slice none 0 0, .bool false, .int .i64 0, .slice none 0 0, .int .i64 0] 57)
    have C := ((Bo.new w (cfV y p d) 67).below A1).below A2
    have N := (Bo.new (w.alloc (.cells (cfV y p d) 67)) (ndV x aa ac pa pc ha hc) 57).below A2
    have R := Bo.new (((w.alloc (.cells (cfV y p d) 67))).alloc (.cells (ndV x aa ac pa pc ha hc) 57)) #[.int .i64 0, .int .i64 0, .int .i64 0, .int .i64 0, .bool false, .int .i64 0, .int .i64 0, .int .i64 0, .int .i64 0, .int .i64 0, .slice none 0 0, .slice none 0 0, .bool false, .int .i64 0, .slice none 0 0, .int .i64 0] 57
    have B := A0
    replace B := B.trans (A1.mono B.size)
    replace B := B.trans (A2.mono B.size)
    simp only [World.size_alloc] at N R
    clear A0 A1 A2
    go_enter Tryz.func26, Tryz.ntmps26
    go_upto_region 1 with fail
    generalize ((((w.alloc (.cells (cfV y p d) 67))).alloc (.cells (ndV x aa ac pa pc ha hc) 57))).alloc (.cells #[.int .i64 0, .int .i64 0, .int .i64 0, .int .i64 0, .bool false, .int .i64 0, .int .i64 0, .int .i64 0, .int .i64 0, .int .i64 0, .slice none 0 0, .slice none 0 0, .bool false, .int .i64 0, .slice none 0 0, .int .i64 0] 57) = v0 at *
    have hL0 := C.load (P := Tryz.prog) (show ((cfV y p d) : Array Value).size = 11 from rfl)
    have hL1 := N.load (P := Tryz.prog) (show ((ndV x aa ac pa pc ha hc) : Array Value).size = 16 from rfl)
    go_wp2_with (first | rw [hL0] | rw [hL1])
    refine (CST v0 B).mono ?_
    rintro e v1 ⟨rfl, hb⟩
    clear hL0 hL1
    rw [hst0]
    replace B := B.trans (hb.mono B.size)
    replace C := C.below hb
    replace N := N.below hb
    replace R := R.below hb
    clear hb
    have hL0 := N.load (P := Tryz.prog) (show ((ndV x aa ac pa pc ha hc) : Array Value).size = 16 from rfl)
    go_wp2_with (rw [hL0])
    refine (CBA hsh v1 B).mono ?_
    rintro e v2 ⟨U, rfl, OU, hb⟩
    clear hL0
    have q1C : w.heap.size < v1.heap.size := C.1
    have q1N : w.heap.size + 1 < v1.heap.size := N.1
    have q1R : w.heap.size + 2 < v1.heap.size := R.1
    have q1 : w.heap.size ≤ v1.heap.size := B.size
    have zv2 : v1.heap.size ≤ v2.heap.size := hb.size
    replace B := B.trans (hb.mono B.size)
    replace C := C.below hb
    replace N := N.below hb
    replace R := R.below hb
    clear hb
    have hU := OU.size
    have hUl : 0 + U.toList.length ≤ 16 := by simp [hU]
    have hst := Bo.store (P := Tryz.prog) (b := 0) (U.toList) 0 0 R rfl hUl OU.one
    have hb : Btw (w.heap.size + 2) (w.heap.size + 2 + 1) v2 _ := putA_btw (U.toList) v2 0 (w.heap.size + 2)
    have B1 := putA_below (k := w.heap.size + 2) (U.toList) w v2 0 B (by omega)
    have N1 := R.putW (U := U) hU
    go_wp2_with (rw [hst])
    clear hst  R B
    replace C := C.btw hb (by omega)
    replace N := N.btw hb (by omega)
    replace OU := OU.btw hb (by omega)
    have zv3 := hb.2.2.2.1
    clear hb
    generalize putA v2 (w.heap.size + 2) 0 (U.toList) = v3 at *
    have B := B1
    have R := N1
    clear B1 N1
    have hL0 := R.load (P := Tryz.prog) hU
    exact bodyPost_ret (v := .tuple #[.agg U, .int .i64 0, .bool false, .int .i64 2]) (by simp [results, Tryz.results26, go_sem]; rw [hL0]; rfl) rfl ⟨_, rfl, OU.low (by omega), B⟩
  have hsh := okX_short hok
  clear hok
  cases h4 : arC x.hs x.ls (nowC y x ct == 0) (nowL y x ct) (nowH y x ct) != 0
  · skip
    have hF : readX y x ct = ({ x with hs := arH x.hs x.ls (nowC y x ct == 0) (nowL y x ct) (nowH y x ct), ls := arL x.hs x.ls (nowC y x ct == 0) (nowL y x ct) (nowH y x ct) }, arX x.hs x.ls (nowC y x ct == 0) (nowL y x ct) (nowH y x ct), arD x.hs x.ls (nowC y x ct == 0) (nowL y x ct) (nowH y x ct), 0) := by unfold readX; simp only [hst0, Int.reduceBEq, h4]
    rw [hF]
    clear hF
    have CST := fun (v : World) (h : Below w.heap.size w v) => specStartX AC AN y x ct v (HC.below h) (HN.below h)
    have CNO := fun (v : World) (h : Below w.heap.size w v) => specNowX AC AN y x ct v (HC.below h) (HN.below h)
    have CAR := fun v => specAppRead_any x.hs x.ls (nowC y x ct == 0) (nowL y x ct) (nowH y x ct) v
    have CBB := fun (v : World) (h : Below w.heap.size w v) => specBackX_bad AN x v (HN.below h)
    have CBA := fun (hs : x.na ≤ 16 ∧ x.np ≤ 8 ∧ x.nh ≤ 16) (v : World) (h : Below w.heap.size w v) => specBackX_any AN x 2 v (HN.below h) (by decide) hs
    have CCP := fun (hs : x.na ≤ 16 ∧ x.np ≤ 8 ∧ x.nh ≤ 16) (v : World) (h : Below w.heap.size w v) => specCopyX AN x v (HN.below h) hs
    obtain ⟨p, d, rfl, -, -⟩ := HC
    obtain ⟨aa, ac, pa, pc, ha, hc, rfl, -, -, -, -⟩ := HN
    have A0 := Below.nw w (.cells (cfV y p d) 67)
    have A1 := Below.nw (w.alloc (.cells (cfV y p d) 67)) (.cells (ndV x aa ac pa pc ha hc) 57)
    have A2 := Below.nw (((w.alloc (.cells (cfV y p d) 67))).alloc (.cells (ndV x aa ac pa pc ha hc) 57)) (.cells #[.int .i64 0, .int .i64 0, .int .i64 0, .int .i64 0, .bool false, .int .i64 0, .int .i64 0, .int .i64 0, .int .i64 0, .int .i64 0, .slice none 0 0, .slice none 0 0, .bool false, .int .i64 0, .slice none 0 0, .int .i64 0] 57)
    have C := ((Bo.new w (cfV y p d) 67).below A1).below A2
    have N := (Bo.new (w.alloc (.cells (cfV y p d) 67)) (ndV x aa ac pa pc ha hc) 57).below A2
    have R := Bo.new (((w.alloc (.cells (cfV y p d) 67))).alloc (.cells (ndV x aa ac pa pc ha hc) 57)) #[.int .i64 0, .int .i64 0, .int .i64 0, .int .i64 0, .bool false, .int .i64 0, .int .i64 0, .int .i64 0, .int .i64 0, .int .i64 0, .slice none 0 0, .slice none 0 0, .bool false, .int .i64 0, .slice none 0 0, .int .i64 0] 57
    have B := A0
    replace B := B.trans (A1.mono B.size)
    replace B := B.trans (A2.mono B.size)
    simp only [World.size_alloc] at N R
    clear A0 A1 A2
    go_enter Tryz.func26, Tryz.ntmps26
    go_upto_region 1 with fail
    generalize ((((w.alloc (.cells (cfV y p d) 67))).alloc (.cells (ndV x aa ac pa pc ha hc) 57))).alloc (.cells #[.int .i64 0, .int .i64 0, .int .i64 0, .int .i64 0, .bool false, .int .i64 0, .int .i64 0, .int .i64 0, .int .i64 0, .int .i64 0, .slice none 0 0, .slice none 0 0, .bool false, .int .i64 0, .slice none 0 0, .int .i64 0] 57) = v0 at *
    have hL0 := C.load (P := Tryz.prog) (show ((cfV y p d) : Array Value).size = 11 from rfl)
    have hL1 := N.load (P := Tryz.prog) (show ((ndV x aa ac pa pc ha hc) : Array Value).size = 16 from rfl)
    go_wp2_with (first | rw [hL0] | rw [hL1])
    refine (CST v0 B).mono ?_
    rintro e v1 ⟨rfl, hb⟩
    clear hL0 hL1
    rw [hst0]
    replace B := B.trans (hb.mono B.size)
    replace C := C.below hb
    replace N := N.below hb
    replace R := R.below hb
    clear hb
    have hL0 := C.load (P := Tryz.prog) (show ((cfV y p d) : Array Value).size = 11 from rfl)
    have hL1 := N.load (P := Tryz.prog) (show ((ndV x aa ac pa pc ha hc) : Array Value).size = 16 from rfl)
    go_wp2_with (first | rw [hL0] | rw [hL1])
    refine (CNO v1 B).mono ?_
    rintro e v2 ⟨rfl, hb⟩
    clear hL0 hL1
    replace B := B.trans (hb.mono B.size)
    replace C := C.below hb
    replace N := N.below hb
    replace R := R.below hb
    clear hb
    have hst := storeNew (P := Tryz.prog) v2 (#[.int .i64 0, .int .i64 0]) (#[.int .i64 (nowL y x ct), .int .i64 (nowH y x ct)]) 47 rfl (List.forall_mem_cons.2 ⟨rfl, (List.forall_mem_cons.2 ⟨rfl, fun _ h => nomatch h⟩)⟩)
    have gQC : w.heap.size < v2.heap.size := C.1
    have gQN : w.heap.size + 1 < v2.heap.size := N.1
    have gQR : w.heap.size + 2 < v2.heap.size := R.1
    have hb := Below.nw v2 (.cells #[.int .i64 (nowL y x ct), .int .i64 (nowH y x ct)] 47)
    have Q := Bo.new v2 #[.int .i64 (nowL y x ct), .int .i64 (nowH y x ct)] 47
    go_upto_region 5 with (rw [hst])
    clear hst
    replace B := B.trans (hb.mono B.size)
    replace C := C.below hb
    replace N := N.below hb
    replace R := R.below hb
    clear hb
    generalize v2.alloc (.cells #[.int .i64 (nowL y x ct), .int .i64 (nowH y x ct)] 47) = v3 at *
    generalize v2.heap.size = kQ at *
    have hL0 : (loadCells ⟨w.heap.size + 1, 12, none⟩ 2).run Tryz.prog v3 = .ok #[.bool x.hs, .int .i64 x.ls] v3 := N.loadAt (P := Tryz.prog) 12 2 (show 12 + 2 ≤ 16 by decide)
    have hL1 := Q.load (P := Tryz.prog) (show (#[.int .i64 (nowL y x ct), .int .i64 (nowH y x ct)] : Array Value).size = 2 from rfl)
    go_wp2_with (first | rw [hL0] | rw [hL1])
    refine (CAR v3).mono ?_
    rintro e v4 ⟨rfl, hb⟩
    clear hL0 hL1
    replace B := B.trans (hb.mono B.size)
    replace C := C.below hb
    replace N := N.below hb
    replace R := R.below hb
    replace Q := Q.below hb
    clear hb
    have hst := storeNew (P := Tryz.prog) v4 (#[.bool false, .int .i64 0]) (#[.bool (arH x.hs x.ls (nowC y x ct == 0) (nowL y x ct) (nowH y x ct)), .int .i64 (arL x.hs x.ls (nowC y x ct == 0) (nowL y x ct) (nowH y x ct))]) 54 rfl (List.forall_mem_cons.2 ⟨rfl, (List.forall_mem_cons.2 ⟨rfl, fun _ h => nomatch h⟩)⟩)
    have gPC : w.heap.size < v4.heap.size := C.1
    have gPN : w.heap.size + 1 < v4.heap.size := N.1
    have gPR : w.heap.size + 2 < v4.heap.size := R.1
    have gPQ : kQ < v4.heap.size := Q.1
    have hb := Below.nw v4 (.cells #[.bool (arH x.hs x.ls (nowC y x ct == 0) (nowL y x ct) (nowH y x ct)), .int .i64 (arL x.hs x.ls (nowC y x ct == 0) (nowL y x ct) (nowH y x ct))] 54)
    have P := Bo.new v4 #[.bool (arH x.hs x.ls (nowC y x ct == 0) (nowL y x ct) (nowH y x ct)), .int .i64 (arL x.hs x.ls (nowC y x ct == 0) (nowL y x ct) (nowH y x ct))] 54
    go_upto_region 6 with (rw [hst])
    clear hst
    replace B := B.trans (hb.mono B.size)
    replace C := C.below hb
    replace N := N.below hb
    replace R := R.below hb
    replace Q := Q.below hb
    clear hb
    generalize v4.alloc (.cells #[.bool (arH x.hs x.ls (nowC y x ct == 0) (nowL y x ct) (nowH y x ct)), .int .i64 (arL x.hs x.ls (nowC y x ct == 0) (nowL y x ct) (nowH y x ct))] 54) = v5 at *
    generalize v4.heap.size = kP at *
    have hL0 := N.load (P := Tryz.prog) (show ((ndV x aa ac pa pc ha hc) : Array Value).size = 16 from rfl)
    go_wp2_with (rw [hL0])
    refine (CCP hsh v5 B).mono ?_
    rintro e v6 ⟨U, rfl, OU, hb⟩
    clear hL0
    have q1C : w.heap.size < v5.heap.size := C.1
    have q1N : w.heap.size + 1 < v5.heap.size := N.1
    have q1R : w.heap.size + 2 < v5.heap.size := R.1
    have q1Q : kQ < v5.heap.size := Q.1
    have q1P : kP < v5.heap.size := P.1
    have q1 : w.heap.size ≤ v5.heap.size := B.size
    have zv6 : v5.heap.size ≤ v6.heap.size := hb.size
    replace B := B.trans (hb.mono B.size)
    replace C := C.below hb
    replace N := N.below hb
    replace R := R.below hb
    replace Q := Q.below hb
    replace P := P.below hb
    clear hb
    have hU := OU.size
    have hst := storeNew (P := Tryz.prog) v6 (#[.int .i64 0, .int .i64 0, .int .i64 0, .int .i64 0, .bool false, .int .i64 0, .int .i64 0, .int .i64 0, .int .i64 0, .int .i64 0, .slice none 0 0, .slice none 0 0, .bool false, .int .i64 0, .slice none 0 0, .int .i64 0]) U 57 (by rw [hU]; rfl) OU.one
    have gOC : w.heap.size < v6.heap.size := C.1
    have gON : w.heap.size + 1 < v6.heap.size := N.1
    have gOR : w.heap.size + 2 < v6.heap.size := R.1
    have gOQ : kQ < v6.heap.size := Q.1
    have gOP : kP < v6.heap.size := P.1
    have gOOU : v6.heap.size ≤ v6.heap.size := by omega
    have hb := Below.nw v6 (.cells U 57)
    have O := Bo.new v6 U 57
    go_upto_region 7 with (rw [hst])
    clear hst
    replace B := B.trans (hb.mono B.size)
    replace C := C.below hb
    replace N := N.below hb
    replace R := R.below hb
    replace Q := Q.below hb
    replace P := P.below hb
    replace OU := OU.below hb
    clear hb
    generalize v6.alloc (.cells U 57) = v7 at *
    generalize v6.heap.size = kO at *
    have zv7 : kO ≤ v7.heap.size := Nat.le_of_lt O.1
    obtain ⟨a1, c1, a2, c2, a3, c3, rfl, hbn, P1, P2, P3⟩ := OU
    clear hU
    have hL0 := P.load (P := Tryz.prog) (show (#[.bool (arH x.hs x.ls (nowC y x ct == 0) (nowL y x ct) (nowH y x ct)), .int .i64 (arL x.hs x.ls (nowC y x ct == 0) (nowL y x ct) (nowH y x ct))] : Array Value).size = 2 from rfl)
    have hst := Bo.store (P := Tryz.prog) (b := 12) ([.bool (arH x.hs x.ls (nowC y x ct == 0) (nowL y x ct) (nowH y x ct)), .int .i64 (arL x.hs x.ls (nowC y x ct == 0) (nowL y x ct) (nowH y x ct))]) 12 0 O rfl (show 12 + 2 ≤ 16 by decide) (List.forall_mem_cons.2 ⟨rfl, (List.forall_mem_cons.2 ⟨rfl, fun _ h => nomatch h⟩)⟩)
    have hb : Btw (kO) (kO + 1) v7 _ := putA_btw ([.bool (arH x.hs x.ls (nowC y x ct == 0) (nowL y x ct) (nowH y x ct)), .int .i64 (arL x.hs x.ls (nowC y x ct == 0) (nowL y x ct) (nowH y x ct))]) v7 12 (kO)
    have B1 := putA_below (k := kO) ([.bool (arH x.hs x.ls (nowC y x ct == 0) (nowL y x ct) (nowH y x ct)), .int .i64 (arL x.hs x.ls (nowC y x ct == 0) (nowL y x ct) (nowH y x ct))]) w v7 12 B (by omega)
    have N1 : Bo (putA v7 (kO) 12 ([.bool (arH x.hs x.ls (nowC y x ct == 0) (nowL y x ct) (nowH y x ct)), .int .i64 (arL x.hs x.ls (nowC y x ct == 0) (nowL y x ct) (nowH y x ct))])) (kO) ((ndV { x with hs := arH x.hs x.ls (nowC y x ct == 0) (nowL y x ct) (nowH y x ct), ls := arL x.hs x.ls (nowC y x ct == 0) (nowL y x ct) (nowH y x ct) } a1 c1 a2 c2 a3 c3)) := Bo.put ([.bool (arH x.hs x.ls (nowC y x ct == 0) (nowL y x ct) (nowH y x ct)), .int .i64 (arL x.hs x.ls (nowC y x ct == 0) (nowL y x ct) (nowH y x ct))]) 12 O
    go_upto_region 10 with (first | rw [hL0] | rw [hst])
    clear hst hL0 O B
    replace C := C.btw hb (by omega)
    replace N := N.btw hb (by omega)
    replace R := R.btw hb (by omega)
    replace Q := Q.btw hb (by omega)
    replace P := P.btw hb (by omega)
    replace P1 := P1.btw hb (by omega)
    replace P2 := P2.btw hb (by omega)
    replace P3 := P3.btw hb (by omega)
    have zv8 := hb.2.2.2.1
    clear hb
    generalize putA v7 (kO) 12 ([.bool (arH x.hs x.ls (nowC y x ct == 0) (nowL y x ct) (nowH y x ct)), .int .i64 (arL x.hs x.ls (nowC y x ct == 0) (nowL y x ct) (nowH y x ct))]) = v8 at *
    have B := B1
    have O := N1
    clear B1 N1
    have hU : (ndV { x with hs := arH x.hs x.ls (nowC y x ct == 0) (nowL y x ct) (nowH y x ct), ls := arL x.hs x.ls (nowC y x ct == 0) (nowL y x ct) (nowH y x ct) } a1 c1 a2 c2 a3 c3).size = 16 := rfl
    have hUl : 0 + (ndV { x with hs := arH x.hs x.ls (nowC y x ct == 0) (nowL y x ct) (nowH y x ct), ls := arL x.hs x.ls (nowC y x ct == 0) (nowL y x ct) (nowH y x ct) } a1 c1 a2 c2 a3 c3).toList.length ≤ 16 := by simp [hU]
    have hL0 := O.load (P := Tryz.prog) (show ((ndV { x with hs := arH x.hs x.ls (nowC y x ct == 0) (nowL y x ct) (nowH y x ct), ls := arL x.hs x.ls (nowC y x ct == 0) (nowL y x ct) (nowH y x ct) } a1 c1 a2 c2 a3 c3) : Array Value).size = 16 from rfl)
    have hst := Bo.store (P := Tryz.prog) (b := 0) ((ndV { x with hs := arH x.hs x.ls (nowC y x ct == 0) (nowL y x ct) (nowH y x ct), ls := arL x.hs x.ls (nowC y x ct == 0) (nowL y x ct) (nowH y x ct) } a1 c1 a2 c2 a3 c3).toList) 0 0 R rfl hUl (ndV_one _ _ _ _ _ _ _)
    have hb : Btw (w.heap.size + 2) (w.heap.size + 2 + 1) v8 _ := putA_btw ((ndV { x with hs := arH x.hs x.ls (nowC y x ct == 0) (nowL y x ct) (nowH y x ct), ls := arL x.hs x.ls (nowC y x ct == 0) (nowL y x ct) (nowH y x ct) } a1 c1 a2 c2 a3 c3).toList) v8 0 (w.heap.size + 2)
    have B1 := putA_below (k := w.heap.size + 2) ((ndV { x with hs := arH x.hs x.ls (nowC y x ct == 0) (nowL y x ct) (nowH y x ct), ls := arL x.hs x.ls (nowC y x ct == 0) (nowL y x ct) (nowH y x ct) } a1 c1 a2 c2 a3 c3).toList) w v8 0 B (by omega)
    have N1 := R.putW (U := (ndV { x with hs := arH x.hs x.ls (nowC y x ct == 0) (nowL y x ct) (nowH y x ct), ls := arL x.hs x.ls (nowC y x ct == 0) (nowL y x ct) (nowH y x ct) } a1 c1 a2 c2 a3 c3)) hU
    go_wp2_with (first | rw [hL0] | rw [hst])
    clear hst hL0 R B
    replace C := C.btw hb (by omega)
    replace N := N.btw hb (by omega)
    replace Q := Q.btw hb (by omega)
    replace P := P.btw hb (by omega)
    replace O := O.btw hb (by omega)
    replace P1 := P1.btw hb (by omega)
    replace P2 := P2.btw hb (by omega)
    replace P3 := P3.btw hb (by omega)
    have zv9 := hb.2.2.2.1
    clear hb
    generalize putA v8 (w.heap.size + 2) 0 ((ndV { x with hs := arH x.hs x.ls (nowC y x ct == 0) (nowL y x ct) (nowH y x ct), ls := arL x.hs x.ls (nowC y x ct == 0) (nowL y x ct) (nowH y x ct) } a1 c1 a2 c2 a3 c3).toList) = v9 at *
    have B := B1
    have R := N1
    clear B1 N1
    have hL0 := R.load (P := Tryz.prog) hU
    exact bodyPost_ret (v := .tuple #[.agg (ndV { x with hs := arH x.hs x.ls (nowC y x ct == 0) (nowL y x ct) (nowH y x ct), ls := arL x.hs x.ls (nowC y x ct == 0) (nowL y x ct) (nowH y x ct) } a1 c1 a2 c2 a3 c3), .int .i64 (arX x.hs x.ls (nowC y x ct == 0) (nowL y x ct) (nowH y x ct)), .bool (arD x.hs x.ls (nowC y x ct == 0) (nowL y x ct) (nowH y x ct)), .int .i64 0]) (by simp [results, Tryz.results26, go_sem]; rw [hL0]; rfl) rfl ⟨_, rfl, ⟨a1, c1, a2, c2, a3, c3, rfl, hbn, P1.low (by omega), P2.low (by omega), P3.low (by omega)⟩, B⟩
  · skip
    have hF : readX y x ct = (x, 0, false, 8) := by unfold readX; simp only [hst0, Int.reduceBEq, h4]
    rw [hF]
    clear hF
    have CST := fun (v : World) (h : Below w.heap.size w v) => specStartX AC AN y x ct v (HC.below h) (HN.below h)
    have CNO := fun (v : World) (h : Below w.heap.size w v) => specNowX AC AN y x ct v (HC.below h) (HN.below h)
    have CAR := fun v => specAppRead_any x.hs x.ls (nowC y x ct == 0) (nowL y x ct) (nowH y x ct) v
    have CBB := fun (v : World) (h : Below w.heap.size w v) => specBackX_bad AN x v (HN.below h)
    have CBA := fun (hs : x.na ≤ 16 ∧ x.np ≤ 8 ∧ x.nh ≤ 16) (v : World) (h : Below w.heap.size w v) => specBackX_any AN x 2 v (HN.below h) (by decide) hs
    have CCP := fun (hs : x.na ≤ 16 ∧ x.np ≤ 8 ∧ x.nh ≤ 16) (v : World) (h : Below w.heap.size w v) => specCopyX AN x v (HN.below h) hs
    obtain ⟨p, d, rfl, -, -⟩ := HC
    obtain ⟨aa, ac, pa, pc, ha, hc, rfl, -, -, -, -⟩ := HN
    have A0 := Below.nw w (.cells (cfV y p d) 67)
    have A1 := Below.nw (w.alloc (.cells (cfV y p d) 67)) (.cells (ndV x aa ac pa pc ha hc) 57)
    have A2 := Below.nw (((w.alloc (.cells (cfV y p d) 67))).alloc (.cells (ndV x aa ac pa pc ha hc) 57)) (.cells #[.int .i64 0, .int .i64 0, .int .i64 0, .int .i64 0, .bool false, .int .i64 0, .int .i64 0, .int .i64 0, .int .i64 0, .int .i64 0, .slice none 0 0, .slice none 0 0, .bool false, .int .i64 0, .slice none 0 0, .int .i64 0] 57)
    have C := ((Bo.new w (cfV y p d) 67).below A1).below A2
    have N := (Bo.new (w.alloc (.cells (cfV y p d) 67)) (ndV x aa ac pa pc ha hc) 57).below A2
    have R := Bo.new (((w.alloc (.cells (cfV y p d) 67))).alloc (.cells (ndV x aa ac pa pc ha hc) 57)) #[.int .i64 0, .int .i64 0, .int .i64 0, .int .i64 0, .bool false, .int .i64 0, .int .i64 0, .int .i64 0, .int .i64 0, .int .i64 0, .slice none 0 0, .slice none 0 0, .bool false, .int .i64 0, .slice none 0 0, .int .i64 0] 57
    have B := A0
    replace B := B.trans (A1.mono B.size)
    replace B := B.trans (A2.mono B.size)
    simp only [World.size_alloc] at N R
    clear A0 A1 A2
    go_enter Tryz.func26, Tryz.ntmps26
    go_upto_region 1 with fail
    generalize ((((w.alloc (.cells (cfV y p d) 67))).alloc (.cells (ndV x aa ac pa pc ha hc) 57))).alloc (.cells #[.int .i64 0, .int .i64 0, .int .i64 0, .int .i64 0, .bool false, .int .i64 0, .int .i64 0, .int .i64 0, .int .i64 0, .int .i64 0, .slice none 0 0, .slice none 0 0, .bool false, .int .i64 0, .slice none 0 0, .int .i64 0] 57) = v0 at *
    have hL0 := C.load (P := Tryz.prog) (show ((cfV y p d) : Array Value).size = 11 from rfl)
    have hL1 := N.load (P := Tryz.prog) (show ((ndV x aa ac pa pc ha hc) : Array Value).size = 16 from rfl)
    go_wp2_with (first | rw [hL0] | rw [hL1])
    refine (CST v0 B).mono ?_
    rintro e v1 ⟨rfl, hb⟩
    clear hL0 hL1
    rw [hst0]
    replace B := B.trans (hb.mono B.size)
    replace C := C.below hb
    replace N := N.below hb
    replace R := R.below hb
    clear hb
    have hL0 := C.load (P := Tryz.prog) (show ((cfV y p d) : Array Value).size = 11 from rfl)
    have hL1 := N.load (P := Tryz.prog) (show ((ndV x aa ac pa pc ha hc) : Array Value).size = 16 from rfl)
    go_wp2_with (first | rw [hL0] | rw [hL1])
    refine (CNO v1 B).mono ?_
    rintro e v2 ⟨rfl, hb⟩
    clear hL0 hL1
    replace B := B.trans (hb.mono B.size)
    replace C := C.below hb
    replace N := N.below hb
    replace R := R.below hb
    clear hb
    have hst := storeNew (P := Tryz.prog) v2 (#[.int .i64 0, .int .i64 0]) (#[.int .i64 (nowL y x ct), .int .i64 (nowH y x ct)]) 47 rfl (List.forall_mem_cons.2 ⟨rfl, (List.forall_mem_cons.2 ⟨rfl, fun _ h => nomatch h⟩)⟩)
    have gQC : w.heap.size < v2.heap.size := C.1
    have gQN : w.heap.size + 1 < v2.heap.size := N.1
    have gQR : w.heap.size + 2 < v2.heap.size := R.1
    have hb := Below.nw v2 (.cells #[.int .i64 (nowL y x ct), .int .i64 (nowH y x ct)] 47)
    have Q := Bo.new v2 #[.int .i64 (nowL y x ct), .int .i64 (nowH y x ct)] 47
    go_upto_region 5 with (rw [hst])
    clear hst
    replace B := B.trans (hb.mono B.size)
    replace C := C.below hb
    replace N := N.below hb
    replace R := R.below hb
    clear hb
    generalize v2.alloc (.cells #[.int .i64 (nowL y x ct), .int .i64 (nowH y x ct)] 47) = v3 at *
    generalize v2.heap.size = kQ at *
    have hL0 : (loadCells ⟨w.heap.size + 1, 12, none⟩ 2).run Tryz.prog v3 = .ok #[.bool x.hs, .int .i64 x.ls] v3 := N.loadAt (P := Tryz.prog) 12 2 (show 12 + 2 ≤ 16 by decide)
    have hL1 := Q.load (P := Tryz.prog) (show (#[.int .i64 (nowL y x ct), .int .i64 (nowH y x ct)] : Array Value).size = 2 from rfl)
    go_wp2_with (first | rw [hL0] | rw [hL1])
    refine (CAR v3).mono ?_
    rintro e v4 ⟨rfl, hb⟩
    clear hL0 hL1
    replace B := B.trans (hb.mono B.size)
    replace C := C.below hb
    replace N := N.below hb
    replace R := R.below hb
    replace Q := Q.below hb
    clear hb
    have hst := storeNew (P := Tryz.prog) v4 (#[.bool false, .int .i64 0]) (#[.bool (arH x.hs x.ls (nowC y x ct == 0) (nowL y x ct) (nowH y x ct)), .int .i64 (arL x.hs x.ls (nowC y x ct == 0) (nowL y x ct) (nowH y x ct))]) 54 rfl (List.forall_mem_cons.2 ⟨rfl, (List.forall_mem_cons.2 ⟨rfl, fun _ h => nomatch h⟩)⟩)
    have gPC : w.heap.size < v4.heap.size := C.1
    have gPN : w.heap.size + 1 < v4.heap.size := N.1
    have gPR : w.heap.size + 2 < v4.heap.size := R.1
    have gPQ : kQ < v4.heap.size := Q.1
    have hb := Below.nw v4 (.cells #[.bool (arH x.hs x.ls (nowC y x ct == 0) (nowL y x ct) (nowH y x ct)), .int .i64 (arL x.hs x.ls (nowC y x ct == 0) (nowL y x ct) (nowH y x ct))] 54)
    have P := Bo.new v4 #[.bool (arH x.hs x.ls (nowC y x ct == 0) (nowL y x ct) (nowH y x ct)), .int .i64 (arL x.hs x.ls (nowC y x ct == 0) (nowL y x ct) (nowH y x ct))] 54
    go_upto_region 6 with (rw [hst])
    clear hst
    replace B := B.trans (hb.mono B.size)
    replace C := C.below hb
    replace N := N.below hb
    replace R := R.below hb
    replace Q := Q.below hb
    clear hb
    generalize v4.alloc (.cells #[.bool (arH x.hs x.ls (nowC y x ct == 0) (nowL y x ct) (nowH y x ct)), .int .i64 (arL x.hs x.ls (nowC y x ct == 0) (nowL y x ct) (nowH y x ct))] 54) = v5 at *
    generalize v4.heap.size = kP at *
    have hL0 := N.load (P := Tryz.prog) (show ((ndV x aa ac pa pc ha hc) : Array Value).size = 16 from rfl)
    go_wp2_with (rw [hL0])
    refine (CCP hsh v5 B).mono ?_
    rintro e v6 ⟨U, rfl, OU, hb⟩
    clear hL0
    have q1C : w.heap.size < v5.heap.size := C.1
    have q1N : w.heap.size + 1 < v5.heap.size := N.1
    have q1R : w.heap.size + 2 < v5.heap.size := R.1
    have q1Q : kQ < v5.heap.size := Q.1
    have q1P : kP < v5.heap.size := P.1
    have q1 : w.heap.size ≤ v5.heap.size := B.size
    have zv6 : v5.heap.size ≤ v6.heap.size := hb.size
    replace B := B.trans (hb.mono B.size)
    replace C := C.below hb
    replace N := N.below hb
    replace R := R.below hb
    replace Q := Q.below hb
    replace P := P.below hb
    clear hb
    have hU := OU.size
    have hst := storeNew (P := Tryz.prog) v6 (#[.int .i64 0, .int .i64 0, .int .i64 0, .int .i64 0, .bool false, .int .i64 0, .int .i64 0, .int .i64 0, .int .i64 0, .int .i64 0, .slice none 0 0, .slice none 0 0, .bool false, .int .i64 0, .slice none 0 0, .int .i64 0]) U 57 (by rw [hU]; rfl) OU.one
    have gOC : w.heap.size < v6.heap.size := C.1
    have gON : w.heap.size + 1 < v6.heap.size := N.1
    have gOR : w.heap.size + 2 < v6.heap.size := R.1
    have gOQ : kQ < v6.heap.size := Q.1
    have gOP : kP < v6.heap.size := P.1
    have gOOU : v6.heap.size ≤ v6.heap.size := by omega
    have hb := Below.nw v6 (.cells U 57)
    have O := Bo.new v6 U 57
    go_upto_region 7 with (rw [hst])
    clear hst
    replace B := B.trans (hb.mono B.size)
    replace C := C.below hb
    replace N := N.below hb
    replace R := R.below hb
    replace Q := Q.below hb
    replace P := P.below hb
    replace OU := OU.below hb
    clear hb
    generalize v6.alloc (.cells U 57) = v7 at *
    generalize v6.heap.size = kO at *
    have zv7 : kO ≤ v7.heap.size := Nat.le_of_lt O.1
    obtain ⟨a1, c1, a2, c2, a3, c3, rfl, hbn, P1, P2, P3⟩ := OU
    clear hU
    have hU : (ndV x a1 c1 a2 c2 a3 c3).size = 16 := rfl
    have hUl : 0 + (ndV x a1 c1 a2 c2 a3 c3).toList.length ≤ 16 := by simp [hU]
    have hL0 := O.load (P := Tryz.prog) (show ((ndV x a1 c1 a2 c2 a3 c3) : Array Value).size = 16 from rfl)
    have hst := Bo.store (P := Tryz.prog) (b := 0) ((ndV x a1 c1 a2 c2 a3 c3).toList) 0 0 R rfl hUl (ndV_one _ _ _ _ _ _ _)
    have hb : Btw (w.heap.size + 2) (w.heap.size + 2 + 1) v7 _ := putA_btw ((ndV x a1 c1 a2 c2 a3 c3).toList) v7 0 (w.heap.size + 2)
    have B1 := putA_below (k := w.heap.size + 2) ((ndV x a1 c1 a2 c2 a3 c3).toList) w v7 0 B (by omega)
    have N1 := R.putW (U := (ndV x a1 c1 a2 c2 a3 c3)) hU
    go_wp2_with (first | rw [hL0] | rw [hst])
    clear hst hL0 R B
    replace C := C.btw hb (by omega)
    replace N := N.btw hb (by omega)
    replace Q := Q.btw hb (by omega)
    replace P := P.btw hb (by omega)
    replace O := O.btw hb (by omega)
    replace P1 := P1.btw hb (by omega)
    replace P2 := P2.btw hb (by omega)
    replace P3 := P3.btw hb (by omega)
    have zv8 := hb.2.2.2.1
    clear hb
    generalize putA v7 (w.heap.size + 2) 0 ((ndV x a1 c1 a2 c2 a3 c3).toList) = v8 at *
    have B := B1
    have R := N1
    clear B1 N1
    have hL0 := R.load (P := Tryz.prog) hU
    exact bodyPost_ret (v := .tuple #[.agg (ndV x a1 c1 a2 c2 a3 c3), .int .i64 0, .bool false, .int .i64 8]) (by simp [results, Tryz.results26, go_sem]; rw [hL0]; rfl) rfl ⟨_, rfl, ⟨a1, c1, a2, c2, a3, c3, rfl, hbn, P1.low (by omega), P2.low (by omega), P3.low (by omega)⟩, B⟩
end Go.Proofs.YtiecdkmnjdpgfaaGreat
