/- A node that is told an interval (the specification), over arrays of cells. -/
import Derived.Test.YtfhappkeipcemaaGreatM38
import Derived.Test.YtfhappkeipcemaaGreatM41
import Derived.Test.YtfhappkeipcemaaGreatM51
namespace Go.Proofs.YtfhappkeipcemaaGreat
open Go.RowKit
set_option linter.unusedVariables false
def fxI (y : CfX) (x : NdX) (ct ia ib : Int) : Int := match okI ia ib with | true => staI y x ct | false => 1
def fixX (y : CfX) (x : NdX) (ct ia ib : Int) : NdX × Int := match fxI y x ct ia ib == 0 with
  | false => (match fxI y x ct ia ib == 1 with | true => (zX 0 0 0 0 0 0, 1) | false => (x, 2))
  | true => match nwC x.kn x.lo x.hi x.la y.dn y.dd ct ia ib == 4 with
    | true => (x, 10)
    | false => match nwC x.kn x.lo x.hi x.la y.dn y.dd ct ia ib == 5 with
      | true => (x, 3)
      | false => ({ x with kn := nwK x.kn x.lo x.hi x.la y.dn y.dd ct ia ib, lo := nwLo x.kn x.lo x.hi x.la y.dn y.dd ct ia ib, hi := nwH x.kn x.lo x.hi x.la y.dn y.dd ct ia ib, la := nwA x.kn x.lo x.hi x.la y.dn y.dd ct ia ib, mo := stM x.mo x.ep x.si 3 ct, ep := stE x.mo x.ep x.si 3 ct, si := stS x.mo x.ep x.si 3 ct }, 0)
attribute [-go_sem] loadCells storeCells in
set_option maxRecDepth 100000 in
set_option maxHeartbeats 8000000 in
theorem specFixX (AC AN : Array Value) (y : CfX) (x : NdX) (ct ia ib : Int) (w : World) (HC : CfS w AC y) (HN : NdS w AN x) :
    Calls Tryz.prog 19 #[.agg AC, .agg AN, .int .i64 ct, .agg #[.int .i64 ia, .int .i64 ib]] w fun e w' => ∃ R, e = .returned (.tuple #[.agg R, .int .i64 (fixX y x ct ia ib).2]) ∧ NdO w' w.heap.size w'.heap.size R (fixX y x ct ia ib).1 ∧ Below w.heap.size w w' := by
  cases hiv : okI ia ib
  · skip
    have hfx : fxI y x ct ia ib = 1 := by unfold fxI; rw [hiv]
    have hF : fixX y x ct ia ib = (zX 0 0 0 0 0 0, 1) := by unfold fixX; simp only [hfx, Int.reduceBEq]
    rw [hF]
    clear hF hfx
    have CST := fun (v : World) (h : Below w.heap.size w v) => specStartX AC AN y x ct v (HC.below h) (HN.below h)
    have CIV := fun v => specIvalOk_any ia ib v
    have CNW := fun v => specNarrow_any x.kn x.lo x.hi x.la y.dn y.dd ct ia ib v
    have CBB := fun (v : World) (h : Below w.heap.size w v) => specBackX_bad AN x v (HN.below h)
    have CBA := fun (hs : x.na ≤ 16 ∧ x.np ≤ 8 ∧ x.nh ≤ 16) (v : World) (h : Below w.heap.size w v) => specBackX_any AN x 2 v (HN.below h) (by decide) hs
    have CCP := fun (hs : x.na ≤ 16 ∧ x.np ≤ 8 ∧ x.nh ≤ 16) (v : World) (h : Below w.heap.size w v) => specCopyX AN x v (HN.below h) hs
    have CLV := fun (v : World) (h : Below w.heap.size w v) => specLiveX AN x 3 ct v (HN.below h)
    obtain ⟨p, d, rfl, -, -⟩ := HC
    obtain ⟨aa, ac, pa, pc, ha, hc, rfl, -, -, -, -⟩ := HN
    have A0 := Below.nw w (.cells (cfV y p d) 54)
    have A1 := Below.nw (w.alloc (.cells (cfV y p d) 54)) (.cells (ndV x aa ac pa pc ha hc) 66)
    have A2 := Below.nw (((w.alloc (.cells (cfV y p d) 54))).alloc (.cells (ndV x aa ac pa pc ha hc) 66)) (.cells #[.int .i64 ia, .int .i64 ib] 46)
    have A3 := Below.nw (((((w.alloc (.cells (cfV y p d) 54))).alloc (.cells (ndV x aa ac pa pc ha hc) 66))).alloc (.cells #[.int .i64 ia, .int .i64 ib] 46)) (.cells #[.int .i64 0, .int .i64 0, .int .i64 0, .int .i64 0, .bool false, .int .i64 0, .int .i64 0, .int .i64 0, .int .i64 0, .int .i64 0, .slice none 0 0, .slice none 0 0, .bool false, .int .i64 0, .slice none 0 0, .int .i64 0] 66)
    have C := (((Bo.new w (cfV y p d) 54).below A1).below A2).below A3
    have N := ((Bo.new (w.alloc (.cells (cfV y p d) 54)) (ndV x aa ac pa pc ha hc) 66).below A2).below A3
    have I := (Bo.new (((w.alloc (.cells (cfV y p d) 54))).alloc (.cells (ndV x aa ac pa pc ha hc) 66)) #[.int .i64 ia, .int .i64 ib] 46).below A3
    have R := Bo.new (((((w.alloc (.cells (cfV y p d) 54))).alloc (.cells (ndV x aa ac pa pc ha hc) 66))).alloc (.cells #[.int .i64 ia, .int .i64 ib] 46)) #[.int .i64 0, .int .i64 0, .int .i64 0, .int .i64 0, .bool false, .int .i64 0, .int .i64 0, .int .i64 0, .int .i64 0, .int .i64 0, .slice none 0 0, .slice none 0 0, .bool false, .int .i64 0, .slice none 0 0, .int .i64 0] 66
    have B := A0
    replace B := B.trans (A1.mono B.size)
    replace B := B.trans (A2.mono B.size)
    replace B := B.trans (A3.mono B.size)
    simp only [World.size_alloc] at N I R
    clear A0 A1 A2 A3
    go_enter Tryz.func19, Tryz.ntmps19
    go_upto_region 1 with fail
    generalize ((((((w.alloc (.cells (cfV y p d) 54))).alloc (.cells (ndV x aa ac pa pc ha hc) 66))).alloc (.cells #[.int .i64 ia, .int .i64 ib] 46))).alloc (.cells #[.int .i64 0, .int .i64 0, .int .i64 0, .int .i64 0, .bool false, .int .i64 0, .int .i64 0, .int .i64 0, .int .i64 0, .int .i64 0, .slice none 0 0, .slice none 0 0, .bool false, .int .i64 0, .slice none 0 0, .int .i64 0] 66) = v0 at *
    have hL0 := C.load (P := Tryz.prog) (show ((cfV y p d) : Array Value).size = 11 from rfl)
    have hL1 := N.load (P := Tryz.prog) (show ((ndV x aa ac pa pc ha hc) : Array Value).size = 16 from rfl)
    go_wp2_with (first | rw [hL0] | rw [hL1])
    refine (CST v0 B).mono ?_
    rintro e v1 ⟨rfl, hb⟩
    clear hL0 hL1
    replace B := B.trans (hb.mono B.size)
    replace C := C.below hb
    replace N := N.below hb
    replace I := I.below hb
    replace R := R.below hb
    clear hb
    have hL0 := I.load (P := Tryz.prog) (show (#[.int .i64 ia, .int .i64 ib] : Array Value).size = 2 from rfl)
    go_wp2_with (rw [hL0])
    refine (CIV v1).mono ?_
    rintro e v2 ⟨rfl, hb⟩
    clear hL0
    rw [hiv]
    replace B := B.trans (hb.mono B.size)
    replace C := C.below hb
    replace N := N.below hb
    replace I := I.below hb
    replace R := R.below hb
    clear hb
    have hL0 := N.load (P := Tryz.prog) (show ((ndV x aa ac pa pc ha hc) : Array Value).size = 16 from rfl)
    go_wp2_with (rw [hL0])
    refine (CBB v2 B).mono ?_
    rintro e v3 ⟨U, rfl, OU, hb⟩
    clear hL0
    have q1C : w.heap.size < v2.heap.size := C.1
    have q1N : w.heap.size + 1 < v2.heap.size := N.1
    have q1I : w.heap.size + 2 < v2.heap.size := I.1
    have q1R : w.heap.size + 3 < v2.heap.size := R.1
    have q1 : w.heap.size ≤ v2.heap.size := B.size
    have zv3 : v2.heap.size ≤ v3.heap.size := hb.size
    replace B := B.trans (hb.mono B.size)
    replace C := C.below hb
    replace N := N.below hb
    replace I := I.below hb
    replace R := R.below hb
    clear hb
    have hU := OU.size
    have hUl : 0 + U.toList.length ≤ 16 := by simp [hU]
    have hst := Bo.store (P := Tryz.prog) (b := 0) (U.toList) 0 0 R rfl hUl OU.one
    have hb : Btw (w.heap.size + 3) (w.heap.size + 3 + 1) v3 _ := putA_btw (U.toList) v3 0 (w.heap.size + 3)
    have B1 := putA_below (k := w.heap.size + 3) (U.toList) w v3 0 B (by omega)
    have N1 := R.putW (U := U) hU
    go_wp2_with (rw [hst])
    clear hst  R B
    replace C := C.btw hb (by omega)
    replace N := N.btw hb (by omega)
    replace I := I.btw hb (by omega)
    replace OU := OU.btw hb (by omega)
    have zv4 := hb.2.2.2.1
    clear hb
    generalize putA v3 (w.heap.size + 3) 0 (U.toList) = v4 at *
    have B := B1
    have R := N1
    clear B1 N1
    have hL0 := R.load (P := Tryz.prog) hU
    exact bodyPost_ret (v := .tuple #[.agg U, .int .i64 1]) (by simp [results, Tryz.results19, go_sem]; rw [hL0]; rfl) rfl ⟨_, rfl, OU.low (by omega), B⟩
  have hfx : fxI y x ct ia ib = staI y x ct := by unfold fxI; rw [hiv]
  rcases sta_cases y x ct with hst0 | ⟨hst0, hok⟩ | ⟨hst0, hok⟩
  · skip
    rw [hst0] at hfx
    have hF : fixX y x ct ia ib = (zX 0 0 0 0 0 0, 1) := by unfold fixX; simp only [hfx, Int.reduceBEq]
    rw [hF]
    clear hF hfx
    have CST := fun (v : World) (h : Below w.heap.size w v) => specStartX AC AN y x ct v (HC.below h) (HN.below h)
    have CIV := fun v => specIvalOk_any ia ib v
    have CNW := fun v => specNarrow_any x.kn x.lo x.hi x.la y.dn y.dd ct ia ib v
    have CBB := fun (v : World) (h : Below w.heap.size w v) => specBackX_bad AN x v (HN.below h)
    have CBA := fun (hs : x.na ≤ 16 ∧ x.np ≤ 8 ∧ x.nh ≤ 16) (v : World) (h : Below w.heap.size w v) => specBackX_any AN x 2 v (HN.below h) (by decide) hs
    have CCP := fun (hs : x.na ≤ 16 ∧ x.np ≤ 8 ∧ x.nh ≤ 16) (v : World) (h : Below w.heap.size w v) => specCopyX AN x v (HN.below h) hs
    have CLV := fun (v : World) (h : Below w.heap.size w v) => specLiveX AN x 3 ct v (HN.below h)
    obtain ⟨p, d, rfl, -, -⟩ := HC
    obtain ⟨aa, ac, pa, pc, ha, hc, rfl, -, -, -, -⟩ := HN
    have A0 := Below.nw w (.cells (cfV y p d) 54)
    have A1 := Below.nw (w.alloc (.cells (cfV y p d) 54)) (.cells (ndV x aa ac pa pc ha hc) 66)
    have A2 := Below.nw (((w.alloc (.cells (cfV y p d) 54))).alloc (.cells (ndV x aa ac pa pc ha hc) 66)) (.cells #[.int .i64 ia, .int .i64 ib] 46)
    have A3 := Below.nw (((((w.alloc (.cells (cfV y p d) 54))).alloc (.cells (ndV x aa ac pa pc ha hc) 66))).alloc (.cells #[.int .i64 ia, .int .i64 ib] 46)) (.cells #[.int .i64 0, .int .i64 0, .int .i64 0, .int .i64 0, .bool false, .int .i64 0, .int .i64 0, .int .i64 0, .int .i64 0, .int .i64 0, .slice none 0 0, .slice none 0 0, .bool false, .int .i64 0, .slice none 0 0, .int .i64 0] 66)
    have C := (((Bo.new w (cfV y p d) 54).below A1).below A2).below A3
    have N := ((Bo.new (w.alloc (.cells (cfV y p d) 54)) (ndV x aa ac pa pc ha hc) 66).below A2).below A3
    have I := (Bo.new (((w.alloc (.cells (cfV y p d) 54))).alloc (.cells (ndV x aa ac pa pc ha hc) 66)) #[.int .i64 ia, .int .i64 ib] 46).below A3
    have R := Bo.new (((((w.alloc (.cells (cfV y p d) 54))).alloc (.cells (ndV x aa ac pa pc ha hc) 66))).alloc (.cells #[.int .i64 ia, .int .i64 ib] 46)) #[.int .i64 0, .int .i64 0, .int .i64 0, .int .i64 0, .bool false, .int .i64 0, .int .i64 0, .int .i64 0, .int .i64 0, .int .i64 0, .slice none 0 0, .slice none 0 0, .bool false, .int .i64 0, .slice none 0 0, .int .i64 0] 66
    have B := A0
    replace B := B.trans (A1.mono B.size)
    replace B := B.trans (A2.mono B.size)
    replace B := B.trans (A3.mono B.size)
    simp only [World.size_alloc] at N I R
    clear A0 A1 A2 A3
    go_enter Tryz.func19, Tryz.ntmps19
    go_upto_region 1 with fail
    generalize ((((((w.alloc (.cells (cfV y p d) 54))).alloc (.cells (ndV x aa ac pa pc ha hc) 66))).alloc (.cells #[.int .i64 ia, .int .i64 ib] 46))).alloc (.cells #[.int .i64 0, .int .i64 0, .int .i64 0, .int .i64 0, .bool false, .int .i64 0, .int .i64 0, .int .i64 0, .int .i64 0, .int .i64 0, .slice none 0 0, .slice none 0 0, .bool false, .int .i64 0, .slice none 0 0, .int .i64 0] 66) = v0 at *
    have hL0 := C.load (P := Tryz.prog) (show ((cfV y p d) : Array Value).size = 11 from rfl)
    have hL1 := N.load (P := Tryz.prog) (show ((ndV x aa ac pa pc ha hc) : Array Value).size = 16 from rfl)
    go_wp2_with (first | rw [hL0] | rw [hL1])
    refine (CST v0 B).mono ?_
    rintro e v1 ⟨rfl, hb⟩
    clear hL0 hL1
    replace B := B.trans (hb.mono B.size)
    replace C := C.below hb
    replace N := N.below hb
    replace I := I.below hb
    replace R := R.below hb
    clear hb
    rw [hst0]
    have hL0 := I.load (P := Tryz.prog) (show (#[.int .i64 ia, .int .i64 ib] : Array Value).size = 2 from rfl)
    go_wp2_with (rw [hL0])
    refine (CIV v1).mono ?_
    rintro e v2 ⟨rfl, hb⟩
    clear hL0
    rw [hiv]
    replace B := B.trans (hb.mono B.size)
    replace C := C.below hb
    replace N := N.below hb
    replace I := I.below hb
    replace R := R.below hb
    clear hb
    have hL0 := N.load (P := Tryz.prog) (show ((ndV x aa ac pa pc ha hc) : Array Value).size = 16 from rfl)
    go_wp2_with (rw [hL0])
    refine (CBB v2 B).mono ?_
    rintro e v3 ⟨U, rfl, OU, hb⟩
    clear hL0
    have q1C : w.heap.size < v2.heap.size := C.1
    have q1N : w.heap.size + 1 < v2.heap.size := N.1
    have q1I : w.heap.size + 2 < v2.heap.size := I.1
    have q1R : w.heap.size + 3 < v2.heap.size := R.1
    have q1 : w.heap.size ≤ v2.heap.size := B.size
    have zv3 : v2.heap.size ≤ v3.heap.size := hb.size
    replace B := B.trans (hb.mono B.size)
    replace C := C.below hb
    replace N := N.below hb
    replace I := I.below hb
    replace R := R.below hb
    clear hb
    have hU := OU.size
    have hUl : 0 + U.toList.length ≤ 16 := by simp [hU]
    have hst := Bo.store (P := Tryz.prog) (b := 0) (U.toList) 0 0 R rfl hUl OU.one
    have hb : Btw (w.heap.size + 3) (w.heap.size + 3 + 1) v3 _ := putA_btw (U.toList) v3 0 (w.heap.size + 3)
    have B1 := putA_below (k := w.heap.size + 3) (U.toList) w v3 0 B (by omega)
    have N1 := R.putW (U := U) hU
    go_wp2_with (rw [hst])
    clear hst  R B
    replace C := C.btw hb (by omega)
    replace N := N.btw hb (by omega)
    replace I := I.btw hb (by omega)
    replace OU := OU.btw hb (by omega)
    have zv4 := hb.2.2.2.1
    clear hb
    generalize putA v3 (w.heap.size + 3) 0 (U.toList) = v4 at *
    have B := B1
    have R := N1
    clear B1 N1
    have hL0 := R.load (P := Tryz.prog) hU
    exact bodyPost_ret (v := .tuple #[.agg U, .int .i64 1]) (by simp [results, Tryz.results19, go_sem]; rw [hL0]; rfl) rfl ⟨_, rfl, OU.low (by omega), B⟩
  · skip
    rw [hst0] at hfx
    have hsh := okX_short hok
    clear hok
    have hF : fixX y x ct ia ib = (x, 2) := by unfold fixX; simp only [hfx, Int.reduceBEq]
    rw [hF]
    clear hF hfx
    have CST := fun (v : World) (h : Below w.heap.size w v) => specStartX AC AN y x ct v (HC.below h) (HN.below h)
    have CIV := fun v => specIvalOk_any ia ib v
    have CNW := fun v => specNarrow_any x.kn x.lo x.hi x.la y.dn y.dd ct ia ib v
    have CBB := fun (v : World) (h : Below w.heap.size w v) => specBackX_bad AN x v (HN.below h)
    have CBA := fun (hs : x.na ≤ 16 ∧ x.np ≤ 8 ∧ x.nh ≤ 16) (v : World) (h : Below w.heap.size w v) => specBackX_any AN x 2 v (HN.below h) (by decide) hs
    have CCP := fun (hs : x.na ≤ 16 ∧ x.np ≤ 8 ∧ x.nh ≤ 16) (v : World) (h : Below w.heap.size w v) => specCopyX AN x v (HN.below h) hs
    have CLV := fun (v : World) (h : Below w.heap.size w v) => specLiveX AN x 3 ct v (HN.below h)
    obtain ⟨p, d, rfl, -, -⟩ := HC
    obtain ⟨aa, ac, pa, pc, ha, hc, rfl, -, -, -, -⟩ := HN
    have A0 := Below.nw w (.cells (cfV y p d) 54)
    have A1 := Below.nw (w.alloc (.cells (cfV y p d) 54)) (.cells (ndV x aa ac pa pc ha hc) 66)
    have A2 := Below.nw (((w.alloc (.cells (cfV y p d) 54))).alloc (.cells (ndV x aa ac pa pc ha hc) 66)) (.cells #[.int .i64 ia, .int .i64 ib] 46)
    have A3 := Below.nw (((((w.alloc (.cells (cfV y p d) 54))).alloc (.cells (ndV x aa ac pa pc ha hc) 66))).alloc (.cells #[.int .i64 ia, .int .i64 ib] 46)) (.cells #[.int .i64 0, .int .i64 0, .int .i64 0, .int .i64 0, .bool false, .int .i64 0, .int .i64 0, .int .i64 0, .int .i64 0, .int .i64 0, .slice none 0 0, .slice none 0 0, .bool false, .int .i64 0, .slice none 0 0, .int .i64 0] 66)
    have C := (((Bo.new w (cfV y p d) 54).below A1).below A2).below A3
    have N := ((Bo.new (w.alloc (.cells (cfV y p d) 54)) (ndV x aa ac pa pc ha hc) 66).below A2).below A3
    have I := (Bo.new (((w.alloc (.cells (cfV y p d) 54))).alloc (.cells (ndV x aa ac pa pc ha hc) 66)) #[.int .i64 ia, .int .i64 ib] 46).below A3
    have R := Bo.new (((((w.alloc (.cells (cfV y p d) 54))).alloc (.cells (ndV x aa ac pa pc ha hc) 66))).alloc (.cells #[.int .i64 ia, .int .i64 ib] 46)) #[.int .i64 0, .int .i64 0, .int .i64 0, .int .i64 0, .bool false, .int .i64 0, .int .i64 0, .int .i64 0, .int .i64 0, .int .i64 0, .slice none 0 0, .slice none 0 0, .bool false, .int .i64 0, .slice none 0 0, .int .i64 0] 66
    have B := A0
    replace B := B.trans (A1.mono B.size)
    replace B := B.trans (A2.mono B.size)
    replace B := B.trans (A3.mono B.size)
    simp only [World.size_alloc] at N I R
    clear A0 A1 A2 A3
    go_enter Tryz.func19, Tryz.ntmps19
    go_upto_region 1 with fail
    generalize ((((((w.alloc (.cells (cfV y p d) 54))).alloc (.cells (ndV x aa ac pa pc ha hc) 66))).alloc (.cells #[.int .i64 ia, .int .i64 ib] 46))).alloc (.cells #[.int .i64 0, .int .i64 0, .int .i64 0, .int .i64 0, .bool false, .int .i64 0, .int .i64 0, .int .i64 0, .int .i64 0, .int .i64 0, .slice none 0 0, .slice none 0 0, .bool false, .int .i64 0, .slice none 0 0, .int .i64 0] 66) = v0 at *
    have hL0 := C.load (P := Tryz.prog) (show ((cfV y p d) : Array Value).size = 11 from rfl)
    have hL1 := N.load (P := Tryz.prog) (show ((ndV x aa ac pa pc ha hc) : Array Value).size = 16 from rfl)
    go_wp2_with (first | rw [hL0] | rw [hL1])
    refine (CST v0 B).mono ?_
    rintro e v1 ⟨rfl, hb⟩
    clear hL0 hL1
    replace B := B.trans (hb.mono B.size)
    replace C := C.below hb
    replace N := N.below hb
    replace I := I.below hb
    replace R := R.below hb
    clear hb
    rw [hst0]
    have hL0 := I.load (P := Tryz.prog) (show (#[.int .i64 ia, .int .i64 ib] : Array Value).size = 2 from rfl)
    go_wp2_with (rw [hL0])
    refine (CIV v1).mono ?_
    rintro e v2 ⟨rfl, hb⟩
    clear hL0
    rw [hiv]
    replace B := B.trans (hb.mono B.size)
    replace C := C.below hb
    replace N := N.below hb
    replace I := I.below hb
    replace R := R.below hb
    clear hb
    have hL0 := N.load (P := Tryz.prog) (show ((ndV x aa ac pa pc ha hc) : Array Value).size = 16 from rfl)
    go_wp2_with (rw [hL0])
    refine (CBA hsh v2 B).mono ?_
    rintro e v3 ⟨U, rfl, OU, hb⟩
    clear hL0
    have q1C : w.heap.size < v2.heap.size := C.1
    have q1N : w.heap.size + 1 < v2.heap.size := N.1
    have q1I : w.heap.size + 2 < v2.heap.size := I.1
    have q1R : w.heap.size + 3 < v2.heap.size := R.1
    have q1 : w.heap.size ≤ v2.heap.size := B.size
    have zv3 : v2.heap.size ≤ v3.heap.size := hb.size
    replace B := B.trans (hb.mono B.size)
    replace C := C.below hb
    replace N := N.below hb
    replace I := I.below hb
    replace R := R.below hb
    clear hb
    have hU := OU.size
    have hUl : 0 + U.toList.length ≤ 16 := by simp [hU]
    have hst := Bo.store (P := Tryz.prog) (b := 0) (U.toList) 0 0 R rfl hUl OU.one
    have hb : Btw (w.heap.size + 3) (w.heap.size + 3 + 1) v3 _ := putA_btw (U.toList) v3 0 (w.heap.size + 3)
    have B1 := putA_below (k := w.heap.size + 3) (U.toList) w v3 0 B (by omega)
    have N1 := R.putW (U := U) hU
    go_wp2_with (rw [hst])
    clear hst  R B
    replace C := C.btw hb (by omega)
    replace N := N.btw hb (by omega)
    replace I := I.btw hb (by omega)
    replace OU := OU.btw hb (by omega)
    have zv4 := hb.2.2.2.1
    clear hb
    generalize putA v3 (w.heap.size + 3) 0 (U.toList) = v4 at *
    have B := B1
    have R := N1
    clear B1 N1
    have hL0 := R.load (P := Tryz.prog) hU
    exact bodyPost_ret (v := .tuple #[.agg U, .int .i64 2]) (by simp [results, Tryz.results19, go_sem]; rw [hL0]; rfl) rfl ⟨_, rfl, OU.low (by omega), B⟩
  rw [hst0] at hfx
  have hsh := okX_short hok
  clear hok
  cases h4 : nwC x.kn x.lo x.hi x.la y.dn y.dd ct ia ib == 4
  · cases h5 : nwC x.kn x.lo x.hi x.la y.dn y.dd ct ia ib == 5
    · skip
      have hF : fixX y x ct ia ib = ({ x with kn := nwK x.kn x.lo x.hi x.la y.dn y.dd ct ia ib, lo := nwLo x.kn x.lo x.hi x.la y.dn y.dd ct ia ib, hi := nwH x.kn x.lo x.hi x.la y.dn y.dd ct ia ib, la := nwA x.kn x.lo x.hi x.la y.dn y.dd ct ia ib, mo := stM x.mo x.ep x.si 3 ct, ep := stE x.mo x.ep x.si 3 ct, si := stS x.mo x.ep x.si 3 ct }, 0) := by unfold fixX; simp only [hfx, Int.reduceBEq, h4, h5]
      rw [hF]
      clear hF hfx
      have CST := fun (v : World) (h : Below w.heap.size w v) => specStartX AC AN y x ct v (HC.below h) (HN.below h)
      have CIV := fun v => specIvalOk_any ia ib v
      have CNW := fun v => specNarrow_any x.kn x.lo x.hi x.la y.dn y.dd ct ia ib v
      have CBB := fun (v : World) (h : Below w.heap.size w v) => specBackX_bad AN x v (HN.below h)
      have CBA := fun (hs : x.na ≤ 16 ∧ x.np ≤ 8 ∧ x.nh ≤ 16) (v : World) (h : Below w.heap.size w v) => specBackX_any AN x 2 v (HN.below h) (by decide) hs
      have CCP := fun (hs : x.na ≤ 16 ∧ x.np ≤ 8 ∧ x.nh ≤ 16) (v : World) (h : Below w.heap.size w v) => specCopyX AN x v (HN.below h) hs
      have CLV := fun (v : World) (h : Below w.heap.size w v) => specLiveX AN x 3 ct v (HN.below h)
      obtain ⟨p, d, rfl, -, -⟩ := HC
      obtain ⟨aa, ac, pa, pc, ha, hc, rfl, -, -, -, -⟩ := HN
      have A0 := Below.nw w (.cells (cfV y p d) 54)
      have A1 := Below.nw (w.alloc (.cells (cfV y p d) 54)) (.cells (ndV x aa ac pa pc ha hc) 66)
      have A2 := Below.nw (((w.alloc (.cells (cfV y p d) 54))).alloc (.cells (ndV x aa ac pa pc ha hc) 66)) (.cells #[.int .i64 ia, .int .i64 ib] 46)
      have A3 := Below.nw (((((w.alloc (.cells (cfV y p d) 54))).alloc (.cells (ndV x aa ac pa pc ha hc) 66))).alloc (.cells #[.int .i64 ia, .int .i64 ib] 46)) (.cells #[.int .i64 0, .int .i64 0, .int .i64 0, .int .i64 0, .bool false, .int .i64 0, .int .i64 0, .int .i64 0, .int .i64 0, .int .i64 0, .slice none 0 0, .slice none 0 0, .bool false, .int .i64 0, .slice none 0 0, .int .i64 0] 66)
      have C := (((Bo.new w (cfV y p d) 54).below A1).below A2).below A3
      have N := ((Bo.new (w.alloc (.cells (cfV y p d) 54)) (ndV x aa ac pa pc ha hc) 66).below A2).below A3
      have I := (Bo.new (((w.alloc (.cells (cfV y p d) 54))).alloc (.cells (ndV x aa ac pa pc ha hc) 66)) #[.int .i64 ia, .int .i64 ib] 46).below A3
      have R := Bo.new (((((w.alloc (.cells (cfV y p d) 54))).alloc (.cells (ndV x aa ac pa pc ha hc) 66))).alloc (.cells #[.int .i64 ia, .int .i64 ib] 46)) #[.int .i64 0, .int .i64 0, .int .i64 0, .int .i64 0, .bool false, .int .i64 0, .int .i64 0, .int .i64 0, .int .i64 0, .int .i64 0, .slice none 0 0, .slice none 0 0, .bool false, .int .i64 0, .slice none 0 0, .int .i64 0] 66
      have B := A0
      replace B := B.trans (A1.mono B.size)
      replace B := B.trans (A2.mono B.size)
      replace B := B.trans (A3.mono B.size)
      simp only [World.size_alloc] at N I R
      clear A0 A1 A2 A3
      go_enter Tryz.func19, Tryz.ntmps19
      go_upto_region 1 with fail
      generalize ((((((w.alloc (.cells (cfV y p d) 54))).alloc (.cells (ndV x aa ac pa pc ha hc) 66))).alloc (.cells #[.int .i64 ia, .int .i64 ib] 46))).alloc (.cells #[.int .i64 0, .int .i64 0, .int .i64 0, .int .i64 0, .bool false, .int .i64 0, .int .i64 0, .int .i64 0, .int .i64 0, .int .i64 0, .slice none 0 0, .slice none 0 0, .bool false, .int .i64 0, .slice none 0 0, .int .i64 0] 66) = v0 at *
      have hL0 := C.load (P := Tryz.prog) (show ((cfV y p d) : Array Value).size = 11 from rfl)
      have hL1 := N.load (P := Tryz.prog) (show ((ndV x aa ac pa pc ha hc) : Array Value).size = 16 from rfl)
      go_wp2_with (first | rw [hL0] | rw [hL1])
      refine (CST v0 B).mono ?_
      rintro e v1 ⟨rfl, hb⟩
      clear hL0 hL1
      replace B := B.trans (hb.mono B.size)
      replace C := C.below hb
      replace N := N.below hb
      replace I := I.below hb
      replace R := R.below hb
      clear hb
      rw [hst0]
      have hL0 := I.load (P := Tryz.prog) (show (#[.int .i64 ia, .int .i64 ib] : Array Value).size = 2 from rfl)
      go_wp2_with (rw [hL0])
      refine (CIV v1).mono ?_
      rintro e v2 ⟨rfl, hb⟩
      clear hL0
      rw [hiv]
      replace B := B.trans (hb.mono B.size)
      replace C := C.below hb
      replace N := N.below hb
      replace I := I.below hb
      replace R := R.below hb
      clear hb
      have hL0 : (loadCells ⟨w.heap.size + 1, 4, none⟩ 4).run Tryz.prog v2 = .ok #[.bool x.kn, .int .i64 x.lo, .int .i64 x.hi, .int .i64 x.la] v2 := N.loadAt (P := Tryz.prog) 4 4 (show 4 + 4 ≤ 16 by decide)
      have hL1 : (loadCells ⟨w.heap.size, 0, none⟩ 2).run Tryz.prog v2 = .ok #[.int .i64 y.dn, .int .i64 y.dd] v2 := C.loadAt (P := Tryz.prog) 0 2 (show 0 + 2 ≤ 11 by decide)
      have hL2 := I.load (P := Tryz.prog) (show (#[.int .i64 ia, .int .i64 ib] : Array Value).size = 2 from rfl)
      go_wp2_with (first | rw [hL0] | rw [hL1] | rw [hL2])
      refine (CNW v2).mono ?_
      rintro e v3 ⟨rfl, hb⟩
      clear hL0 hL1 hL2
      replace B := B.trans (hb.mono B.size)
      replace C := C.below hb
      replace N := N.below hb
      replace I := I.below hb
      replace R := R.below hb
      clear hb
      have hst := storeNew (P := Tryz.prog) v3 (#[.bool false, .int .i64 0, .int .i64 0, .int .i64 0]) (#[.bool (nwK x.kn x.lo x.hi x.la y.dn y.dd ct ia ib), .int .i64 (nwLo x.kn x.lo x.hi x.la y.dn y.dd ct ia ib), .int .i64 (nwH x.kn x.lo x.hi x.la y.dn y.dd ct ia ib), .int .i64 (nwA x.kn x.lo x.hi x.la y.dn y.dd ct ia ib)]) 58 rfl (List.forall_mem_cons.2 ⟨rfl, (List.forall_mem_cons.2 ⟨rfl, (List.forall_mem_cons.2 ⟨rfl, (List.forall_mem_cons.2 ⟨rfl, fun _ h => nomatch h⟩)⟩)⟩)⟩)
      have gQC : w.heap.size < v3.heap.size := C.1
      have gQN : w.heap.size + 1 < v3.heap.size := N.1
      have gQI : w.heap.size + 2 < v3.heap.size := I.1
      have gQR : w.heap.size + 3 < v3.heap.size := R.1
      have hb := Below.nw v3 (.cells #[.bool (nwK x.kn x.lo x.hi x.la y.dn y.dd ct ia ib), .int .i64 (nwLo x.kn x.lo x.hi x.la y.dn y.dd ct ia ib), .int .i64 (nwH x.kn x.lo x.hi x.la y.dn y.dd ct ia ib), .int .i64 (nwA x.kn x.lo x.hi x.la y.dn y.dd ct ia ib)] 58)
      have Q := Bo.new v3 #[.bool (nwK x.kn x.lo x.hi x.la y.dn y.dd ct ia ib), .int .i64 (nwLo x.kn x.lo x.hi x.la y.dn y.dd ct ia ib), .int .i64 (nwH x.kn x.lo x.hi x.la y.dn y.dd ct ia ib), .int .i64 (nwA x.kn x.lo x.hi x.la y.dn y.dd ct ia ib)] 58
      go_upto_region 7 with (rw [hst])
      clear hst
      replace B := B.trans (hb.mono B.size)
      replace C := C.below hb
      replace N := N.below hb
      replace I := I.below hb
      replace R := R.below hb
      clear hb
      generalize v3.alloc (.cells #[.bool (nwK x.kn x.lo x.hi x.la y.dn y.dd ct ia ib), .int .i64 (nwLo x.kn x.lo x.hi x.la y.dn y.dd ct ia ib), .int .i64 (nwH x.kn x.lo x.hi x.la y.dn y.dd ct ia ib), .int .i64 (nwA x.kn x.lo x.hi x.la y.dn y.dd ct ia ib)] 58) = v4 at *
      generalize v3.heap.size = kQ at *
      have hL0 := N.load (P := Tryz.prog) (show ((ndV x aa ac pa pc ha hc) : Array Value).size = 16 from rfl)
      go_wp2_with (rw [hL0])
      refine (CCP hsh v4 B).mono ?_
      rintro e v5 ⟨U, rfl, OU, hb⟩
      clear hL0
      have q1C : w.heap.size < v4.heap.size := C.1
      have q1N : w.heap.size + 1 < v4.heap.size := N.1
      have q1I : w.heap.size + 2 < v4.heap.size := I.1
      have q1R : w.heap.size + 3 < v4.heap.size := R.1
      have q1Q : kQ < v4.heap.size := Q.1
      have q1 : w.heap.size ≤ v4.heap.size := B.size
      have zv5 : v4.heap.size ≤ v5.heap.size := hb.size
      replace B := B.trans (hb.mono B.size)
      replace C := C.below hb
      replace N := N.below hb
      replace I := I.below hb
      replace R := R.below hb
      replace Q := Q.below hb
      clear hb
      have hU := OU.size
      have hst := storeNew (P := Tryz.prog) v5 (#[.int .i64 0, .int .i64 0, .int .i64 0, .int .i64 0, .bool false, .int .i64 0, .int .i64 0, .int .i64 0, .int .i64 0, .int .i64 0, .slice none 0 0, .slice none 0 0, .bool false, .int .i64 0, .slice none 0 0, .int .i64 0]) U 66 (by rw [hU]; rfl) OU.one
      have gOC : w.heap.size < v5.heap.size := C.1
      have gON : w.heap.size + 1 < v5.heap.size := N.1
      have gOI : w.heap.size + 2 < v5.heap.size := I.1
      have gOR : w.heap.size + 3 < v5.heap.size := R.1
      have gOQ : kQ < v5.heap.size := Q.1
      have gOOU : v5.heap.size ≤ v5.heap.size := by omega
      have hb := Below.nw v5 (.cells U 66)
      have O := Bo.new v5 U 66
      go_upto_region 13 with (rw [hst])
      clear hst
      replace B := B.trans (hb.mono B.size)
      replace C := C.below hb
      replace N := N.below hb
      replace I := I.below hb
      replace R := R.below hb
      replace Q := Q.below hb
      replace OU := OU.below hb
      clear hb
      generalize v5.alloc (.cells U 66) = v6 at *
      generalize v5.heap.size = kO at *
      have zv6 : kO ≤ v6.heap.size := Nat.le_of_lt O.1
      obtain ⟨a1, c1, a2, c2, a3, c3, rfl, hbn, P1, P2, P3⟩ := OU
      clear hU
      have hL0 := Q.load (P := Tryz.prog) (show (#[.bool (nwK x.kn x.lo x.hi x.la y.dn y.dd ct ia ib), .int .i64 (nwLo x.kn x.lo x.hi x.la y.dn y.dd ct ia ib), .int .i64 (nwH x.kn x.lo x.hi x.la y.dn y.dd ct ia ib), .int .i64 (nwA x.kn x.lo x.hi x.la y.dn y.dd ct ia ib)] : Array Value).size = 4 from rfl)
      have hst := Bo.store (P := Tryz.prog) (b := 4) ([.bool (nwK x.kn x.lo x.hi x.la y.dn y.dd ct ia ib), .int .i64 (nwLo x.kn x.lo x.hi x.la y.dn y.dd ct ia ib), .int .i64 (nwH x.kn x.lo x.hi x.la y.dn y.dd ct ia ib), .int .i64 (nwA x.kn x.lo x.hi x.la y.dn y.dd ct ia ib)]) 4 0 O rfl (show 4 + 4 ≤ 16 by decide) (List.forall_mem_cons.2 ⟨rfl, (List.forall_mem_cons.2 ⟨rfl, (List.forall_mem_cons.2 ⟨rfl, (List.forall_mem_cons.2 ⟨rfl, fun _ h => nomatch h⟩)⟩)⟩)⟩)
      have hb : Btw (kO) (kO + 1) v6 _ := putA_btw ([.bool (nwK x.kn x.lo x.hi x.la y.dn y.dd ct ia ib), .int .i64 (nwLo x.kn x.lo x.hi x.la y.dn y.dd ct ia ib), .int .i64 (nwH x.kn x.lo x.hi x.la y.dn y.dd ct ia ib), .int .i64 (nwA x.kn x.lo x.hi x.la y.dn y.dd ct ia ib)]) v6 4 (kO)
      have B1 := putA_below (k := kO) ([.bool (nwK x.kn x.lo x.hi x.la y.dn y.dd ct ia ib), .int .i64 (nwLo x.kn x.lo x.hi x.la y.dn y.dd ct ia ib), .int .i64 (nwH x.kn x.lo x.hi x.la y.dn y.dd ct ia ib), .int .i64 (nwA x.kn x.lo x.hi x.la y.dn y.dd ct ia ib)]) w v6 4 B (by omega)
      have N1 : Bo (putA v6 (kO) 4 ([.bool (nwK x.kn x.lo x.hi x.la y.dn y.dd ct ia ib), .int .i64 (nwLo x.kn x.lo x.hi x.la y.dn y.dd ct ia ib), .int .i64 (nwH x.kn x.lo x.hi x.la y.dn y.dd ct ia ib), .int .i64 (nwA x.kn x.lo x.hi x.la y.dn y.dd ct ia ib)])) (kO) ((ndV { x with kn := nwK x.kn x.lo x.hi x.la y.dn y.dd ct ia ib, lo := nwLo x.kn x.lo x.hi x.la y.dn y.dd ct ia ib, hi := nwH x.kn x.lo x.hi x.la y.dn y.dd ct ia ib, la := nwA x.kn x.lo x.hi x.la y.dn y.dd ct ia ib } a1 c1 a2 c2 a3 c3)) := Bo.put ([.bool (nwK x.kn x.lo x.hi x.la y.dn y.dd ct ia ib), .int .i64 (nwLo x.kn x.lo x.hi x.la y.dn y.dd ct ia ib), .int .i64 (nwH x.kn x.lo x.hi x.la y.dn y.dd ct ia ib), .int .i64 (nwA x.kn x.lo x.hi x.la y.dn y.dd ct ia ib)]) 4 O
      go_upto_region 14 with (first | rw [hL0] | rw [hst])
      clear hst hL0 O B
      replace C := C.btw hb (by omega)
      replace N := N.btw hb (by omega)
      replace I := I.btw hb (by omega)
      replace R := R.btw hb (by omega)
      replace Q := Q.btw hb (by omega)
      replace P1 := P1.btw hb (by omega)
      replace P2 := P2.btw hb (by omega)
      replace P3 := P3.btw hb (by omega)
      have zv7 := hb.2.2.2.1
      clear hb
      generalize putA v6 (kO) 4 ([.bool (nwK x.kn x.lo x.hi x.la y.dn y.dd ct ia ib), .int .i64 (nwLo x.kn x.lo x.hi x.la y.dn y.dd ct ia ib), .int .i64 (nwH x.kn x.lo x.hi x.la y.dn y.dd ct ia ib), .int .i64 (nwA x.kn x.lo x.hi x.la y.dn y.dd ct ia ib)]) = v7 at *
      have B := B1
      have O := N1
      clear B1 N1
      have hL0 := N.load (P := Tryz.prog) (show ((ndV x aa ac pa pc ha hc) : Array Value).size = 16 from rfl)
      go_wp2_with (rw [hL0])
      refine (CLV v7 B).mono ?_
      rintro e v8 ⟨rfl, hb⟩
      clear hL0
      have zv8 : v7.heap.size ≤ v8.heap.size := hb.size
      replace B := B.trans (hb.mono B.size)
      replace C := C.below hb
      replace N := N.below hb
      replace I := I.below hb
      replace R := R.below hb
      replace Q := Q.below hb
      replace O := O.below hb
      replace P1 := P1.below hb
      replace P2 := P2.below hb
      replace P3 := P3.below hb
      clear hb
      have hst := Bo.store (P := Tryz.prog) (b := 1) ([.int .i64 (stM x.mo x.ep x.si 3 ct), .int .i64 (stE x.mo x.ep x.si 3 ct), .int .i64 (stS x.mo x.ep x.si 3 ct)]) 1 0 O rfl (show 1 + 3 ≤ 16 by decide) (List.forall_mem_cons.2 ⟨rfl, (List.forall_mem_cons.2 ⟨rfl, (List.forall_mem_cons.2 ⟨rfl, fun _ h => nomatch h⟩)⟩)⟩)
      have hb : Btw (kO) (kO + 1) v8 _ := putA_btw ([.int .i64 (stM x.mo x.ep x.si 3 ct), .int .i64 (stE x.mo x.ep x.si 3 ct), .int .i64 (stS x.mo x.ep x.si 3 ct)]) v8 1 (kO)
      have B1 := putA_below (k := kO) ([.int .i64 (stM x.mo x.ep x.si 3 ct), .int .i64 (stE x.mo x.ep x.si 3 ct), .int .i64 (stS x.mo x.ep x.si 3 ct)]) w v8 1 B (by omega)
      have N1 : Bo (putA v8 (kO) 1 ([.int .i64 (stM x.mo x.ep x.si 3 ct), .int .i64 (stE x.mo x.ep x.si 3 ct), .int .i64 (stS x.mo x.ep x.si 3 ct)])) (kO) ((ndV { x with kn := nwK x.kn x.lo x.hi x.la y.dn y.dd ct ia ib, lo := nwLo x.kn x.lo x.hi x.la y.dn y.dd ct ia ib, hi := nwH x.kn x.lo x.hi x.la y.dn y.dd ct ia ib, la := nwA x.kn x.lo x.hi x.la y.dn y.dd ct ia ib, mo := stM x.mo x.ep x.si 3 ct, ep := stE x.mo x.ep x.si 3 ct, si := stS x.mo x.ep x.si 3 ct } a1 c1 a2 c2 a3 c3)) := Bo.put ([.int .i64 (stM x.mo x.ep x.si 3 ct), .int .i64 (stE x.mo x.ep x.si 3 ct), .int .i64 (stS x.mo x.ep x.si 3 ct)]) 1 O
      go_upto_region 15 with (rw [hst])
      clear hst  O B
      replace C := C.btw hb (by omega)
      replace N := N.btw hb (by omega)
      replace I := I.btw hb (by omega)
      replace R := R.btw hb (by omega)
      replace Q := Q.btw hb (by omega)
      replace P1 := P1.btw hb (by omega)
      replace P2 := P2.btw hb (by omega)
      replace P3 := P3.btw hb (by omega)
      have zv9 := hb.2.2.2.1
      clear hb
      generalize putA v8 (kO) 1 ([.int .i64 (stM x.mo x.ep x.si 3 ct), .int .i64 (stE x.mo x.ep x.si 3 ct), .int .i64 (stS x.mo x.ep x.si 3 ct)]) = v9 at *
      have B := B1
      have O := N1
      clear B1 N1
      have hU : (ndV { x with kn := nwK x.kn x.lo x.hi x.la y.dn y.dd ct ia ib, lo := nwLo x.kn x.lo x.hi x.la y.dn y.dd ct ia ib, hi := nwH x.kn x.lo x.hi x.la y.dn y.dd ct ia ib, la := nwA x.kn x.lo x.hi x.la y.dn y.dd ct ia ib, mo := stM x.mo x.ep x.si 3 ct, ep := stE x.mo x.ep x.si 3 ct, si := stS x.mo x.ep x.si 3 ct } a1 c1 a2 c2 a3 c3).size = 16 := rfl
      have hUl : 0 + (ndV { x with kn := nwK x.kn x.lo x.hi x.la y.dn y.dd ct ia ib, lo := nwLo x.kn x.lo x.hi x.la y.dn y.dd ct ia ib, hi := nwH x.kn x.lo x.hi x.la y.dn y.dd ct ia ib, la := nwA x.kn x.lo x.hi x.la y.dn y.dd ct ia ib, mo := stM x.mo x.ep x.si 3 ct, ep := stE x.mo x.ep x.si 3 ct, si := stS x.mo x.ep x.si 3 ct } a1 c1 a2 c2 a3 c3).toList.length ≤ 16 := by simp [hU]
      have hL0 := O.load (P := Tryz.prog) (show ((ndV { x with kn := nwK x.kn x.lo x.hi x.la y.dn y.dd ct ia ib, lo := nwLo x.kn x.lo x.hi x.la y.dn y.dd ct ia ib, hi := nwH x.kn x.lo x.hi x.la y.dn y.dd ct ia ib, la := nwA x.kn x.lo x.hi x.la y.dn y.dd ct ia ib, mo := stM x.mo x.ep x.si 3 ct, ep := stE x.mo x.ep x.si 3 ct, si := stS x.mo x.ep x.si 3 ct } a1 c1 a2 c2 a3 c3) : Array Value).size = 16 from rfl)
      have hst := Bo.store (P := Tryz.prog) (b := 0) ((ndV { x with kn := nwK x.kn x.lo x.hi x.la y.dn y.dd ct ia ib, lo := nwLo x.kn x.lo x.hi x.la y.dn y.dd ct ia ib, hi := nwH x.kn x.lo x.hi x.la y.dn y.dd ct ia ib, la := nwA x.kn x.lo x.hi x.la y.dn y.dd ct ia ib, mo := stM x.mo x.ep x.si 3 ct, ep := stE x.mo x.ep x.si 3 ct, si := stS x.mo x.ep x.si 3 ct } a1 c1 a2 c2 a3 c3).toList) 0 0 R rfl hUl (ndV_one _ _ _ _ _ _ _)
      have hb : Btw (w.heap.size + 3) (w.heap.size + 3 + 1) v9 _ := putA_btw ((ndV { x with kn := nwK x.kn x.lo x.hi x.la y.dn y.dd ct ia ib, lo := nwLo x.kn x.lo x.hi x.la y.dn y.dd ct ia ib, hi := nwH x.kn x.lo x.hi x.la y.dn y.dd ct ia ib, la := nwA x.kn x.lo x.hi x.la y.dn y.dd ct ia ib, mo := stM x.mo x.ep x.si 3 ct, ep := stE x.mo x.ep x.si 3 ct, si := stS x.mo x.ep x.si 3 ct } a1 c1 a2 c2 a3 c3).toList) v9 0 (w.heap.size + 3)
      have B1 := putA_below (k := w.heap.size + 3) ((ndV { x with kn := nwK x.kn x.lo x.hi x.la y.dn y.dd ct ia ib, lo := nwLo x.kn x.lo x.hi x.la y.dn y.dd ct ia ib, hi := nwH x.kn x.lo x.hi x.la y.dn y.dd ct ia ib, la := nwA x.kn x.lo x.hi x.la y.dn y.dd ct ia ib, mo := stM x.mo x.ep x.si 3 ct, ep := stE x.mo x.ep x.si 3 ct, si := stS x.mo x.ep x.si 3 ct } a1 c1 a2 c2 a3 c3).toList) w v9 0 B (by omega)
      have N1 := R.putW (U := (ndV { x with kn := nwK x.kn x.lo x.hi x.la y.dn y.dd ct ia ib, lo := nwLo x.kn x.lo x.hi x.la y.dn y.dd ct ia ib, hi := nwH x.kn x.lo x.hi x.la y.dn y.dd ct ia ib, la := nwA x.kn x.lo x.hi x.la y.dn y.dd ct ia ib, mo := stM x.mo x.ep x.si 3 ct, ep := stE x.mo x.ep x.si 3 ct, si := stS x.mo x.ep x.si 3 ct } a1 c1 a2 c2 a3 c3)) hU
      go_wp2_with (first | rw [hL0] | rw [hst])
      clear hst hL0 R B
      replace C := C.btw hb (by omega)
      replace N := N.btw hb (by omega)
      replace I := I.btw hb (by omega)
      replace Q := Q.btw hb (by omega)
      replace O := O.btw hb (by omega)
      replace P1 := P1.btw hb (by omega)
      replace P2 := P2.btw hb (by omega)
      replace P3 := P3.btw hb (by omega)
      have zv10 := hb.2.2.2.1
      clear hb
      generalize putA v9 (w.heap.size + 3) 0 ((ndV { x with kn := nwK x.kn x.lo x.hi x.la y.dn y.dd ct ia ib, lo := nwLo x.kn x.lo x.hi x.la y.dn y.dd ct ia ib, hi := nwH x.kn x.lo x.hi x.la y.dn y.dd ct ia ib, la := nwA x.kn x.lo x.hi x.la y.dn y.dd ct ia ib, mo := stM x.mo x.ep x.si 3 ct, ep := stE x.mo x.ep x.si 3 ct, si := stS x.mo x.ep x.si 3 ct } a1 c1 a2 c2 a3 c3).toList) = v10 at *
      have B := B1
      have R := N1
      clear B1 N1
      have hL0 := R.load (P := Tryz.prog) hU
      exact bodyPost_ret (v := .tuple #[.agg (ndV { x with kn := nwK x.kn x.lo x.hi x.la y.dn y.dd ct ia ib, lo := nwLo x.kn x.lo x.hi x.la y.dn y.dd ct ia ib, hi := nwH x.kn x.lo x.hi x.la y.dn y.dd ct ia ib, la := nwA x.kn x.lo x.hi x.la y.dn y.dd ct ia ib, mo := stM x.mo x.ep x.si 3 ct, ep := stE x.mo x.ep x.si 3 ct, si := stS x.mo x.ep x.si 3 ct } a1 c1 a2 c2 a3 c3), .int .i64 0]) (by simp [results, Tryz.results19, go_sem]; rw [hL0]; rfl) rfl ⟨_, rfl, ⟨a1, c1, a2, c2, a3, c3, rfl, hbn, P1.low (by omega), P2.low (by omega), P3.low (by omega)⟩, B⟩
    · skip
      have hF : fixX y x ct ia ib = (x, 3) := by unfold fixX; simp only [hfx, Int.reduceBEq, h4, h5]
      rw [hF]
      clear hF hfx
      have CST := fun (v : World) (h : Below w.heap.size w v) => specStartX AC AN y x ct v (HC.below h) (HN.below h)
      have CIV := fun v => specIvalOk_any ia ib v
      have CNW := fun v => specNarrow_any x.kn x.lo x.hi x.la y.dn y.dd ct ia ib v
      have CBB := fun (v : World) (h : Below w.heap.size w v) => specBackX_bad AN x v (HN.below h)
      have CBA := fun (hs : x.na ≤ 16 ∧ x.np ≤ 8 ∧ x.nh ≤ 16) (v : World) (h : Below w.heap.size w v) => specBackX_any AN x 2 v (HN.below h) (by decide) hs
      have CCP := fun (hs : x.na ≤ 16 ∧ x.np ≤ 8 ∧ x.nh ≤ 16) (v : World) (h : Below w.heap.size w v) => specCopyX AN x v (HN.below h) hs
      have CLV := fun (v : World) (h : Below w.heap.size w v) => specLiveX AN x 3 ct v (HN.below h)
      obtain ⟨p, d, rfl, -, -⟩ := HC
      obtain ⟨aa, ac, pa, pc, ha, hc, rfl, -, -, -, -⟩ := HN
      have A0 := Below.nw w (.cells (cfV y p d) 54)
      have A1 := Below.nw (w.alloc (.cells (cfV y p d) 54)) (.cells (ndV x aa ac pa pc ha hc) 66)
      have A2 := Below.nw (((w.alloc (.cells (cfV y p d) 54))).alloc (.cells (ndV x aa ac pa pc ha hc) 66)) (.cells #[.int .i64 ia, .int .i64 ib] 46)
      have A3 := Below.nw (((((w.alloc (.cells (cfV y p d) 54))).alloc (.cells (ndV x aa ac pa pc ha hc) 66))).alloc (.cells #[.int .i64 ia, .int .i64 ib] 46)) (.cells #[.int .i64 0, .int .i64 0, .int .i64 0, .int .i64 0, .bool false, .int .i64 0, .int .i64 0, .int .i64 0, .int .i64 0, .int .i64 0, .slice none 0 0, .slice none 0 0, .bool false, .int .i64 0, .slice none 0 0, .int .i64 0] 66)
      have C := (((Bo.new w (cfV y p d) 54).below A1).below A2).below A3
      have N := ((Bo.new (w.alloc (.cells (cfV y p d) 54)) (ndV x aa ac pa pc ha hc) 66).below A2).below A3
      have I := (Bo.new (((w.alloc (.cells (cfV y p d) 54))).alloc (.cells (ndV x aa ac pa pc ha hc) 66)) #[.int .i64 ia, .int .i64 ib] 46).below A3
      have R := Bo.new (((((w.alloc (.cells (cfV y p d) 54))).alloc (.cells (ndV x aa ac pa pc ha hc) 66))).alloc (.cells #[.int .i64 ia, .int .i64 ib] 46)) #[.int .i64 0, .int .i64 0, .int .i64 0, .int .i64 0, .bool false, .int .i64 0, .int .i64 0, .int .i64 0, .int .i64 0, .int .i64 0, .slice none 0 0, .slice none 0 0, .bool false, .int .i64 0, .slice none 0 0, .int .i64 0] 66
      have B := A0
      replace B := B.trans (A1.mono B.size)
      replace B := B.trans (A2.mono B.size)
      replace B := B.trans (A3.mono B.size)
      simp only [World.size_alloc] at N I R
      clear A0 A1 A2 A3
      go_enter Tryz.func19, Tryz.ntmps19
      go_upto_region 1 with fail
      generalize ((((((w.alloc (.cells (cfV y p d) 54))).alloc (.cells (ndV x aa ac pa pc ha hc) 66))).alloc (.cells #[.int .i64 ia, .int .i64 ib] 46))).alloc (.cells #[.int .i64 0, .int .i64 0, .int .i64 0, .int .i64 0, .bool false, .int .i64 0, .int .i64 0, .int .i64 0, .int .i64 0, .int .i64 0, .slice none 0 0, .slice none 0 0, .bool false, .int .i64 0, .slice none 0 0, .int .i64 0] 66) = v0 at *
      have hL0 := C.load (P := Tryz.prog) (show ((cfV y p d) : Array Value).size = 11 from rfl)
      have hL1 := N.load (P := Tryz.prog) (show ((ndV x aa ac pa pc ha hc) : Array Value).size = 16 from rfl)
      go_wp2_with (first | rw [hL0] | rw [hL1])
      refine (CST v0 B).mono ?_
      rintro e v1 ⟨rfl, hb⟩
      clear hL0 hL1
      replace B := B.trans (hb.mono B.size)
      replace C := C.below hb
      replace N := N.below hb
      replace I := I.below hb
      replace R := R.below hb
      clear hb
      rw [hst0]
      have hL0 := I.load (P := Tryz.prog) (show (#[.int .i64 ia, .int .i64 ib] : Array Value).size = 2 from rfl)
      go_wp2_with (rw [hL0])
      refine (CIV v1).mono ?_
      rintro e v2 ⟨rfl, hb⟩
      clear hL0
      rw [hiv]
      replace B := B.trans (hb.mono B.size)
      replace C := C.below hb
      replace N := N.below hb
      replace I := I.below hb
      replace R := R.below hb
      clear hb
      have hL0 : (loadCells ⟨w.heap.size + 1, 4, none⟩ 4).run Tryz.prog v2 = .ok #[.bool x.kn, .int .i64 x.lo, .int .i64 x.hi, .int .i64 x.la] v2 := N.loadAt (P := Tryz.prog) 4 4 (show 4 + 4 ≤ 16 by decide)
      have hL1 : (loadCells ⟨w.heap.size, 0, none⟩ 2).run Tryz.prog v2 = .ok #[.int .i64 y.dn, .int .i64 y.dd] v2 := C.loadAt (P := Tryz.prog) 0 2 (show 0 + 2 ≤ 11 by decide)
      have hL2 := I.load (P := Tryz.prog) (show (#[.int .i64 ia, .int .i64 ib] : Array Value).size = 2 from rfl)
      go_wp2_with (first | rw [hL0] | rw [hL1] | rw [hL2])
      refine (CNW v2).mono ?_
      rintro e v3 ⟨rfl, hb⟩
      clear hL0 hL1 hL2
      replace B := B.trans (hb.mono B.size)
      replace C := C.below hb
      replace N := N.below hb
      replace I := I.below hb
      replace R := R.below hb
      clear hb
      have hst := storeNew (P := Tryz.prog) v3 (#[.bool false, .int .i64 0, .int .i64 0, .int .i64 0]) (#[.bool (nwK x.kn x.lo x.hi x.la y.dn y.dd ct ia ib), .int .i64 (nwLo x.kn x.lo x.hi x.la y.dn y.dd ct ia ib), .int .i64 (nwH x.kn x.lo x.hi x.la y.dn y.dd ct ia ib), .int .i64 (nwA x.kn x.lo x.hi x.la y.dn y.dd ct ia ib)]) 58 rfl (List.forall_mem_cons.2 ⟨rfl, (List.forall_mem_cons.2 ⟨rfl, (List.forall_mem_cons.2 ⟨rfl, (List.forall_mem_cons.2 ⟨rfl, fun _ h => nomatch h⟩)⟩)⟩)⟩)
      have gQC : w.heap.size < v3.heap.size := C.1
      have gQN : w.heap.size + 1 < v3.heap.size := N.1
      have gQI : w.heap.size + 2 < v3.heap.size := I.1
      have gQR : w.heap.size + 3 < v3.heap.size := R.1
      have hb := Below.nw v3 (.cells #[.bool (nwK x.kn x.lo x.hi x.la y.dn y.dd ct ia ib), .int .i64 (nwLo x.kn x.lo x.hi x.la y.dn y.dd ct ia ib), .int .i64 (nwH x.kn x.lo x.hi x.la y.dn y.dd ct ia ib), .int .i64 (nwA x.kn x.lo x.hi x.la y.dn y.dd ct ia ib)] 58)
      have Q := Bo.new v3 #[.bool (nwK x.kn x.lo x.hi x.la y.dn y.dd ct ia ib), .int .i64 (nwLo x.kn x.lo x.hi x.la y.dn y.dd ct ia ib), .int .i64 (nwH x.kn x.lo x.hi x.la y.dn y.dd ct ia ib), .int .i64 (nwA x.kn x.lo x.hi x.la y.dn y.dd ct ia ib)] 58
      go_upto_region 7 with (rw [hst])
      clear hst
      replace B := B.trans (hb.mono B.size)
      replace C := C.below hb
      replace N := N.below hb
      replace I := I.below hb
      replace R := R.below hb
      clear hb
      generalize v3.alloc (.cells #[.bool (nwK x.kn x.lo x.hi x.la y.dn y.dd ct ia ib), .int .i64 (nwLo x.kn x.lo x.hi x.la y.dn y.dd ct ia ib), .int .i64 (nwH x.kn x.lo x.hi x.la y.dn y.dd ct ia ib), .int .i64 (nwA x.kn x.lo x.hi x.la y.dn y.dd ct ia ib)] 58) = v4 at *
      generalize v3.heap.size = kQ at *
      have hL0 := N.load (P := Tryz.prog) (show ((ndV x aa ac pa pc ha hc) : Array Value).size = 16 from rfl)
      go_wp2_with (rw [hL0])
      refine (CCP hsh v4 B).mono ?_
      rintro e v5 ⟨U, rfl, OU, hb⟩
      clear hL0
      have q1C : w.heap.size < v4.heap.size := C.1
      have q1N : w.heap.size + 1 < v4.heap.size := N.1
      have q1I : w.heap.size + 2 < v4.heap.size := I.1
      have q1R : w.heap.size + 3 < v4.heap.size := R.1
      have q1Q : kQ < v4.heap.size := Q.1
      have q1 : w.heap.size ≤ v4.heap.size := B.size
      have zv5 : v4.heap.size ≤ v5.heap.size := hb.size
      replace B := B.trans (hb.mono B.size)
      replace C := C.below hb
      replace N := N.below hb
      replace I := I.below hb
      replace R := R.below hb
      replace Q := Q.below hb
      clear hb
      have hU := OU.size
      have hUl : 0 + U.toList.length ≤ 16 := by simp [hU]
      have hst := Bo.store (P := Tryz.prog) (b := 0) (U.toList) 0 0 R rfl hUl OU.one
      have hb : Btw (w.heap.size + 3) (w.heap.size + 3 + 1) v5 _ := putA_btw (U.toList) v5 0 (w.heap.size + 3)
      have B1 := putA_below (k := w.heap.size + 3) (U.toList) w v5 0 B (by omega)
      have N1 := R.putW (U := U) hU
      go_wp2_with (rw [hst])
      clear hst  R B
      replace C := C.btw hb (by omega)
      replace N := N.btw hb (by omega)
      replace I := I.btw hb (by omega)
      replace Q := Q.btw hb (by omega)
      replace OU := OU.btw hb (by omega)
      have zv6 := hb.2.2.2.1
      clear hb
      generalize putA v5 (w.heap.size + 3) 0 (U.toList) = v6 at *
      have B := B1
      have R := N1
      clear B1 N1
      have hL0 := R.load (P := Tryz.prog) hU
      exact bodyPost_ret (v := .tuple #[.agg U, .int .i64 3]) (by simp [results, Tryz.results19, go_sem]; rw [hL0]; rfl) rfl ⟨_, rfl, OU.low (by omega), B⟩
  · skip
    have hF : fixX y x ct ia ib = (x, 10) := by unfold fixX; simp only [hfx, Int.reduceBEq, h4]
    rw [hF]
    clear hF hfx
    have CST := fun (v : World) (h : Below w.heap.size w v) => specStartX AC AN y x ct v (HC.below h) (HN.below h)
    have CIV := fun v => specIvalOk_any ia ib v
    have CNW := fun v => specNarrow_any x.kn x.lo x.hi x.la y.dn y.dd ct ia ib v
    have CBB := fun (v : World) (h : Below w.heap.size w v) => specBackX_bad AN x v (HN.below h)
    have CBA := fun (hs : x.na ≤ 16 ∧ x.np ≤ 8 ∧ x.nh ≤ 16) (v : World) (h : Below w.heap.size w v) => specBackX_any AN x 2 v (HN.below h) (by decide) hs
    have CCP := fun (hs : x.na ≤ 16 ∧ x.np ≤ 8 ∧ x.nh ≤ 16) (v : World) (h : Below w.heap.size w v) => specCopyX AN x v (HN.below h) hs
    have CLV := fun (v : World) (h : Below w.heap.size w v) => specLiveX AN x 3 ct v (HN.below h)
    obtain ⟨p, d, rfl, -, -⟩ := HC
    obtain ⟨aa, ac, pa, pc, ha, hc, rfl, -, -, -, -⟩ := HN
    have A0 := Below.nw w (.cells (cfV y p d) 54)
    have A1 := Below.nw (w.alloc (.cells (cfV y p d) 54)) (.cells (ndV x aa ac pa pc ha hc) 66)
    have A2 := Below.nw (((w.alloc (.cells (cfV y p d) 54))).alloc (.cells (ndV x aa ac pa pc ha hc) 66)) (.cells #[.int .i64 ia, .int .i64 ib] 46)
    have A3 := Below.nw (((((w.alloc (.cells (cfV y p d) 54))).alloc (.cells (ndV x aa ac pa pc ha hc) 66))).alloc (.cells #[.int .i64 ia, .int .i64 ib] 46)) (.cells #[.int .i64 0, .int .i64 0, .int .i64 0, .int .i64 0, .bool false, .int .i64 0, .int .i64 0, .int .i64 0, .int .i64 0, .int .i64 0, .slice none 0 0, .slice none 0 0, .bool false, .int .i64 0, .slice none 0 0, .int .i64 0] 66)
    have C := (((Bo.new w (cfV y p d) 54).below A1).below A2).below A3
    have N := ((Bo.new (w.alloc (.cells (cfV y p d) 54)) (ndV x aa ac pa pc ha hc) 66).below A2).below A3
    have I := (Bo.new (((w.alloc (.cells (cfV y p d) 54))).alloc (.cells (ndV x aa ac pa pc ha hc) 66)) #[.int .i64 ia, .int .i64 ib] 46).below A3
    have R := Bo.new (((((w.alloc (.cells (cfV y p d) 54))).alloc (.cells (ndV x aa ac pa pc ha hc) 66))).alloc (.cells #[.int .i64 ia, .int .i64 ib] 46)) #[.int .i64 0, .int .i64 0, .int .i64 0, .int .i64 0, .bool false, .int .i64 0, .int .i64 0, .int .i64 0, .int .i64 0, .int .i64 0, .slice none 0 0, .slice none 0 0, .bool false, .int .i64 0, .slice none 0 0, .int .i64 0] 66
    have B := A0
    replace B := B.trans (A1.mono B.size)
    replace B := B.trans (A2.mono B.size)
    replace B := B.trans (A3.mono B.size)
    simp only [World.size_alloc] at N I R
    clear A0 A1 A2 A3
    go_enter Tryz.func19, Tryz.ntmps19
    go_upto_region 1 with fail
    generalize ((((((w.alloc (.cells (cfV y p d) 54))).alloc (.cells (ndV x aa ac pa pc ha hc) 66))).alloc (.cells #[.int .i64 ia, .int .i64 ib] 46))).alloc (.cells #[.int .i64 0, .int .i64 0, .int .i64 0, .int .i64 0, .bool false, .int .i64 0, .int .i64 0, .int .i64 0, .int .i64 0, .int .i64 0, .slice none 0 0, .slice none 0 0, .bool false, .int .i64 0, .slice none 0 0, .int .i64 0] 66) = v0 at *
    have hL0 := C.load (P := Tryz.prog) (show ((cfV y p d) : Array Value).size = 11 from rfl)
    have hL1 := N.load (P := Tryz.prog) (show ((ndV x aa ac pa pc ha hc) : Array Value).size = 16 from rfl)
    go_wp2_with (first | rw [hL0] | rw [hL1])
    refine (CST v0 B).mono ?_
    rintro e v1 ⟨rfl, hb⟩
    clear hL0 hL1
    replace B := B.trans (hb.mono B.size)
    replace C := C.below hb
    replace N := N.below hb
    replace I := I.below hb
    replace R := R.below hb
    clear hb
    rw [hst0]
    have hL0 := I.load (P := Tryz.prog) (show (#[.int .i64 ia, .int .i64 ib] : Array Value).size = 2 from rfl)
    go_wp2_with (rw [hL0])
    refine (CIV v1).mono ?_
    rintro e v2 ⟨rfl, hb⟩
    clear hL0
    rw [hiv]
    replace B := B.trans (hb.mono B.size)
    replace C := C.below hb
    replace N := N.below hb
    replace I := I.below hb
    replace R := R.below hb
    clear hb
    have hL0 : (loadCells ⟨w.heap.size + 1, 4, none⟩ 4).run Tryz.prog v2 = .ok #[.bool x.kn, .int .i64 x.lo, .int .i64 x.hi, .int .i64 x.la] v2 := N.loadAt (P := Tryz.prog) 4 4 (show 4 + 4 ≤ 16 by decide)
    have hL1 : (loadCells ⟨w.heap.size, 0, none⟩ 2).run Tryz.prog v2 = .ok #[.int .i64 y.dn, .int .i64 y.dd] v2 := C.loadAt (P := Tryz.prog) 0 2 (show 0 + 2 ≤ 11 by decide)
    have hL2 := I.load (P := Tryz.prog) (show (#[.int .i64 ia, .int .i64 ib] : Array Value).size = 2 from rfl)
    go_wp2_with (first | rw [hL0] | rw [hL1] | rw [hL2])
    refine (CNW v2).mono ?_
    rintro e v3 ⟨rfl, hb⟩
    clear hL0 hL1 hL2
    replace B := B.trans (hb.mono B.size)
    replace C := C.below hb
    replace N := N.below hb
    replace I := I.below hb
    replace R := R.below hb
    clear hb
    have hst := storeNew (P := Tryz.prog) v3 (#[.bool false, .int .i64 0, .int .i64 0, .int .i64 0]) (#[.bool (nwK x.kn x.lo x.hi x.la y.dn y.dd ct ia ib), .int .i64 (nwLo x.kn x.lo x.hi x.la y.dn y.dd ct ia ib), .int .i64 (nwH x.kn x.lo x.hi x.la y.dn y.dd ct ia ib), .int .i64 (nwA x.kn x.lo x.hi x.la y.dn y.dd ct ia ib)]) 58 rfl (List.forall_mem_cons.2 ⟨rfl, (List.forall_mem_cons.2 ⟨rfl, (List.forall_mem_cons.2 ⟨rfl, (List.forall_mem_cons.2 ⟨rfl, fun _ h => nomatch h⟩)⟩)⟩)⟩)
    have gQC : w.heap.size < v3.heap.size := C.1
    have gQN : w.heap.size + 1 < v3.heap.size := N.1
    have gQI : w.heap.size + 2 < v3.heap.size := I.1
    have gQR : w.heap.size + 3 < v3.heap.size := R.1
    have hb := Below.nw v3 (.cells #[.bool (nwK x.kn x.lo x.hi x.la y.dn y.dd ct ia ib), .int .i64 (nwLo x.kn x.lo x.hi x.la y.dn y.dd ct ia ib), .int .i64 (nwH x.kn x.lo x.hi x.la y.dn y.dd ct ia ib), .int .i64 (nwA x.kn x.lo x.hi x.la y.dn y.dd ct ia ib)] 58)
    have Q := Bo.new v3 #[.bool (nwK x.kn x.lo x.hi x.la y.dn y.dd ct ia ib), .int .i64 (nwLo x.kn x.lo x.hi x.la y.dn y.dd ct ia ib), .int .i64 (nwH x.kn x.lo x.hi x.la y.dn y.dd ct ia ib), .int .i64 (nwA x.kn x.lo x.hi x.la y.dn y.dd ct ia ib)] 58
    go_upto_region 7 with (rw [hst])
    clear hst
    replace B := B.trans (hb.mono B.size)
    replace C := C.below hb
    replace N := N.below hb
    replace I := I.below hb
    replace R := R.below hb
    clear hb
    generalize v3.alloc (.cells #[.bool (nwK x.kn x.lo x.hi x.la y.dn y.dd ct ia ib), .int .i64 (nwLo x.kn x.lo x.hi x.la y.dn y.dd ct ia ib), .int .i64 (nwH x.kn x.lo x.hi x.la y.dn y.dd ct ia ib), .int .i64 (nwA x.kn x.lo x.hi x.la y.dn y.dd ct ia ib)] 58) = v4 at *
    generalize v3.heap.size = kQ at *
    have hL0 := N.load (P := Tryz.prog) (show ((ndV x aa ac pa pc ha hc) : Array Value).size = 16 from rfl)
    go_wp2_with (rw [hL0])
    refine (CCP hsh v4 B).mono ?_
    rintro e v5 ⟨U, rfl, OU, hb⟩
    clear hL0
    have q1C : w.heap.size < v4.heap.size := C.1
    have q1N : w.heap.size + 1 < v4.heap.size := N.1
    have q1I : w.heap.size + 2 < v4.heap.size := I.1
    have q1R : w.heap.size + 3 < v4.heap.size := R.1
    have q1Q : kQ < v4.heap.size := Q.1
    have q1 : w.heap.size ≤ v4.heap.size := B.size
    have zv5 : v4.heap.size ≤ v5.heap.size := hb.size
    replace B := B.trans (hb.mono B.size)
    replace C := C.below hb
    replace N := N.below hb
    replace I := I.below hb
    replace R := R.below hb
    replace Q := Q.below hb
    clear hb
    have hU := OU.size
    have hUl : 0 + U.toList.length ≤ 16 := by simp [hU]
    have hst := Bo.store (P := Tryz.prog) (b := 0) (U.toList) 0 0 R rfl hUl OU.one
    have hb : Btw (w.heap.size + 3) (w.heap.size + 3 + 1) v5 _ := putA_btw (U.toList) v5 0 (w.heap.size + 3)
    have B1 := putA_below (k := w.heap.size + 3) (U.toList) w v5 0 B (by omega)
    have N1 := R.putW (U := U) hU
    go_wp2_with (rw [hst])
    clear hst  R B
    replace C := C.btw hb (by omega)
    replace N := N.btw hb (by omega)
    replace I := I.btw hb (by omega)
    replace Q := Q.btw hb (by omega)
    replace OU := OU.btw hb (by omega)
    have zv6 := hb.2.2.2.1
    clear hb
    generalize putA v5 (w.heap.size + 3) 0 (U.toList) = v6 at *
    have B := B1
    have R := N1
    clear B1 N1
    have hL0 := R.load (P := Tryz.prog) hU
    exact bodyPost_ret (v := .tuple #[.agg U, .int .i64 10]) (by simp [results, Tryz.results19, go_sem]; rw [hL0]; rfl) rfl ⟨_, rfl, OU.low (by omega), B⟩
end Go.Proofs.YtfhappkeipcemaaGreat
