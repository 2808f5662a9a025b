/- NodeNow, NodeTrue, NodeRead, NodeFix (the program), over arrays of cells. The exact law of NodeRead. -/
import Derived.Test.YtiecdkmnjdpgfaaGreatM36
import Derived.Test.YtiecdkmnjdpgfaaGreatM44
import Derived.Test.YtiecdkmnjdpgfaaGreatM45
namespace Go.Proofs.YtiecdkmnjdpgfaaGreat
open Go.RowKit
set_option linter.unusedVariables false
theorem read_same {y : CfX} {x : NdX} {ct : Int} (hs : staI y x ct = 0) (h : (arC x.hs x.ls (pnC y x ct == 0) (pnL y x ct) (pnH y x ct) != 0) = true) : ({ x with hs := arH x.hs x.ls (pnC y x ct == 0) (pnL y x ct) (pnH y x ct), ls := arL x.hs x.ls (pnC y x ct == 0) (pnL y x ct) (pnH y x ct) } : NdX) = x := by
  obtain ⟨h1, h2, h3⟩ := sta_parts (y := y) (x := x) (ct := ct) (by rw [hs]; decide)
  have ha : apB x.hs x.ls = true := by
    unfold okX ndB ndA at h2
    simp only [Bool.and_eq_true] at h2
    exact h2.1.2.2.2.2.2.1
  have hb : arBad x.hs x.ls (pnC y x ct == 0) (pnL y x ct) (pnH y x ct) = false := by
    have hiv : pnC y x ct == 0 → okI (pnL y x ct) (pnH y x ct) = true := by
      intro hq
      have hq' : pnC y x ct = 0 := by simpa using hq
      have hk : crC x.kn x.lo x.hi x.la y.dn y.dd ct = 0 := by
        unfold pnC at hq'
        cases hkn : x.kn
        · rw [hkn] at hq'; exact absurd (show (8 : Int) = 0 from hq') (by decide)
        · rw [hkn] at hq'
          cases h0 : (crC true x.lo x.hi x.la y.dn y.dd ct == 0)
          · rw [h0] at hq'; exact absurd (show (10 : Int) = 0 from hq') (by decide)
          · simpa using h0
      have := (cr_ok hk).2.2
      unfold pnL pnH
      rw [hq']
      exact this
    unfold arBad
    cases hq : (pnC y x ct == 0)
    · simp [ha]
    · simp [ha, hiv hq]
  revert h
  unfold arC arH arL
  rw [hb]
  cases hq : (pnC y x ct == 0)
  · cases hh : x.hs
    · intro _; cases x; simp_all
    · intro h; exact absurd h (by decide)
  · intro h; cases hh : x.hs <;> (rw [hh] at h; exact absurd h (by decide))
theorem read_pn {y : CfX} {x : NdX} {ct : Int} (h : staI y x ct = 0) : readX y x ct = (match arC x.hs x.ls (pnC y x ct == 0) (pnL y x ct) (pnH y x ct) != 0 with | true => (x, 0, false, 8) | false => ({ x with hs := arH x.hs x.ls (pnC y x ct == 0) (pnL y x ct) (pnH y x ct), ls := arL x.hs x.ls (pnC y x ct == 0) (pnL y x ct) (pnH y x ct) }, arX x.hs x.ls (pnC y x ct == 0) (pnL y x ct) (pnH y x ct), arD x.hs x.ls (pnC y x ct == 0) (pnL y x ct) (pnH y x ct), 0)) := by
  obtain ⟨e1, e2, e3⟩ := pn_now (y := y) (x := x) (ct := ct) (by rw [h]; decide)
  unfold readX
  rw [h, e1, e2, e3]
  rfl
attribute [-go_sem] loadCells storeCells in
set_option maxRecDepth 100000 in
set_option maxHeartbeats 8000000 in
theorem implReadX (AC AN : Array Value) (y : CfX) (x : NdX) (ct : Int) (w : World) (HC : CfS w AC y) (HN : NdS w AN x) (hwf : wfX x) :
    Calls Tryz.prog 27 #[.agg AC, .agg AN, .int .i64 ct] w fun e w' => ∃ R, e = .returned (.tuple #[.agg R, .int .i64 (readX y x ct).2.1, .bool (readX y x ct).2.2.1, .int .i64 (readX y x ct).2.2.2]) ∧ NdO w' w.heap.size w'.heap.size R (readX y x ct).1 ∧ Below w.heap.size w w' := by
  rcases sta_cases y x ct with hst0 | ⟨hst0, hok⟩ | ⟨hst0, hok⟩
  · have hbad : staI y x ct = 1 ∨ true = false := .inl hst0
    have hF : readX y x ct = (zX 0 0 0 0 0 0, 0, false, 1) := by unfold readX; simp only [hst0, Int.reduceBEq]
    rw [hF]
    clear hF
    clear hst0
    have hC := HC.size
    have hN := HN.size
    have CW := fun (v : World) (h : Below w.heap.size w v) => workOn_bad AC AN y x ct true v (HC.below h) (HN.below h) hwf (hbad)
    clear HC HN hwf
    have A0 := Below.nw w (.cells AC 67)
    have A1 := Below.nw (w.alloc (.cells AC 67)) (.cells AN 57)
    have A2 := Below.nw (((w.alloc (.cells AC 67))).alloc (.cells AN 57)) (.cells #[.int .i64 0, .int .i64 0, .int .i64 0, .int .i64 0, .bool false, .int .i64 0, .int .i64 0, .int .i64 0, .int .i64 0, .int .i64 0, .slice none 0 0, .slice none 0 0, .bool false, .int .i64 0, .slice none 0 0, .int .i64 0] 57)
    have C := ((Bo.new w AC 67).below A1).below A2
    have N := (Bo.new (w.alloc (.cells AC 67)) AN 57).below A2
    have R := Bo.new (((w.alloc (.cells AC 67))).alloc (.cells AN 57)) #[.int .i64 0, .int .i64 0, .int .i64 0, .int .i64 0, .bool false, .int .i64 0, .int .i64 0, .int .i64 0, .int .i64 0, .int .i64 0, .slice none 0 0, .slice none 0 0, .bool false, .int .i64 0, .slice none 0 0, .int .i64 0] 57
    have B := A0
    replace B := B.trans (A1.mono B.size)
    replace B := B.trans (A2.mono B.size)
    simp only [World.size_alloc] at N R
    clear A0 A1 A2
    go_enter Tryz.func27, Tryz.ntmps27
    go_upto_region 1 with fail
    generalize ((((w.alloc (.cells AC 67))).alloc (.cells AN 57))).alloc (.cells #[.int .i64 0, .int .i64 0, .int .i64 0, .int .i64 0, .bool false, .int .i64 0, .int .i64 0, .int .i64 0, .int .i64 0, .int .i64 0, .slice none 0 0, .slice none 0 0, .bool false, .int .i64 0, .slice none 0 0, .int .i64 0] 57) = v0 at *
    have hL0 := C.load (P := Tryz.prog) hC
    have hL1 := N.load (P := Tryz.prog) hN
    go_wp2_with (first | rw [hL0] | rw [hL1])
    refine (CW v0 B).mono ?_
    rintro e v1 ⟨rfl, hb⟩
    clear hL0 hL1
    replace B := B.trans (hb.mono B.size)
    replace C := C.below hb
    replace N := N.below hb
    replace R := R.below hb
    clear hb
    have hU := zWk_size
    have hst := storeNew (P := Tryz.prog) v1 (#[.int .i64 0, .int .i64 0, .slice none 0 0, .bool false, .int .i64 0, .int .i64 0, .int .i64 0, .int .i64 0, .int .i64 0, .int .i64 0, .int .i64 0, .int .i64 0, .int .i64 0, .int .i64 0, .int .i64 0, .slice none 0 0, .int .i64 0, .int .i64 0, .int .i64 0, .int .i64 0, .int .i64 0, .bool false, .int .i64 0, .int .i64 0, .int .i64 0, .slice none 0 0, .slice none 0 0, .int .i64 0]) zWk 105 (by rw [hU]; rfl) zWk_one
    have gKWC : w.heap.size < v1.heap.size := C.1
    have gKWN : w.heap.size + 1 < v1.heap.size := N.1
    have gKWR : w.heap.size + 2 < v1.heap.size := R.1
    have hb := Below.nw v1 (.cells zWk 105)
    have KW := Bo.new v1 zWk 105
    go_upto_region 2 with (rw [hst])
    clear hst
    replace B := B.trans (hb.mono B.size)
    replace C := C.below hb
    replace N := N.below hb
    replace R := R.below hb
    clear hb
    generalize v1.alloc (.cells zWk 105) = v2 at *
    generalize v1.heap.size = kKW at *
    clear hU
    go_wp2_with fail
    refine (wkNode zY (zX 0 0 0 0 0 0) 0 none 0 none 0 none 0 none 0 kKW v2 KW).mono ?_
    rintro e v3 ⟨rfl, hb⟩
    replace B := B.trans (hb.mono B.size)
    replace C := C.below hb
    replace N := N.below hb
    replace R := R.below hb
    replace KW := KW.below hb
    clear hb
    have hU : (ndV (zX 0 0 0 0 0 0) none 0 none 0 none 0).size = 16 := rfl
    have hUl : 0 + (ndV (zX 0 0 0 0 0 0) none 0 none 0 none 0).toList.length ≤ 16 := by simp [hU]
    have hst := Bo.store (P := Tryz.prog) (b := 0) ((ndV (zX 0 0 0 0 0 0) none 0 none 0 none 0).toList) 0 0 R rfl hUl (ndV_one _ _ _ _ _ _ _)
    have hb : Btw (w.heap.size + 2) (w.heap.size + 2 + 1) v3 _ := putA_btw ((ndV (zX 0 0 0 0 0 0) none 0 none 0 none 0).toList) v3 0 (w.heap.size + 2)
    have B1 := putA_below (k := w.heap.size + 2) ((ndV (zX 0 0 0 0 0 0) none 0 none 0 none 0).toList) w v3 0 B (by omega)
    have N1 := R.putW (U := (ndV (zX 0 0 0 0 0 0) none 0 none 0 none 0)) hU
    go_wp2_with (rw [hst])
    clear hst  R B
    replace C := C.btw hb (by omega)
    replace N := N.btw hb (by omega)
    replace KW := KW.btw hb (by omega)
    clear hb
    generalize putA v3 (w.heap.size + 2) 0 ((ndV (zX 0 0 0 0 0 0) none 0 none 0 none 0).toList) = v4 at *
    have B := B1
    have R := N1
    clear B1 N1
    have hL0 := R.load (P := Tryz.prog) hU
    exact bodyPost_ret (v := .tuple #[.agg (ndV (zX 0 0 0 0 0 0) none 0 none 0 none 0), .int .i64 0, .bool false, .int .i64 1]) (by simp [results, Tryz.results27, go_sem]; rw [hL0]; rfl) rfl ⟨_, rfl, zX_own 0 0 0 0 0 0 _ _ _, B⟩
  · have hs1 : staI y x ct ≠ 1 := by rw [hst0]; decide
    have hF : readX y x ct = (x, 0, false, 2) := by unfold readX; simp only [hst0, Int.reduceBEq]
    rw [hF]
    clear hF
    have hC := HC.size
    have hN := HN.size
    obtain ⟨p, d, hpd, hm, hr⟩ := id HC
    have CW := fun (v : World) (h : Below w.heap.size w v) => workOn_ok AC AN y x ct p d v (HC.below h) (HN.below h) hwf hpd hok hs1
    clear HC HN hwf hm hr hpd
    have A0 := Below.nw w (.cells AC 67)
    have A1 := Below.nw (w.alloc (.cells AC 67)) (.cells AN 57)
    have A2 := Below.nw (((w.alloc (.cells AC 67))).alloc (.cells AN 57)) (.cells #[.int .i64 0, .int .i64 0, .int .i64 0, .int .i64 0, .bool false, .int .i64 0, .int .i64 0, .int .i64 0, .int .i64 0, .int .i64 0, .slice none 0 0, .slice none 0 0, .bool false, .int .i64 0, .slice none 0 0, .int .i64 0] 57)
    have C := ((Bo.new w AC 67).below A1).below A2
    have N := (Bo.new (w.alloc (.cells AC 67)) AN 57).below A2
    have R := Bo.new (((w.alloc (.cells AC 67))).alloc (.cells AN 57)) #[.int .i64 0, .int .i64 0, .int .i64 0, .int .i64 0, .bool false, .int .i64 0, .int .i64 0, .int .i64 0, .int .i64 0, .int .i64 0, .slice none 0 0, .slice none 0 0, .bool false, .int .i64 0, .slice none 0 0, .int .i64 0] 57
    have B := A0
    replace B := B.trans (A1.mono B.size)
    replace B := B.trans (A2.mono B.size)
    simp only [World.size_alloc] at N R
    clear A0 A1 A2
    go_enter Tryz.func27, Tryz.ntmps27
    go_upto_region 1 with fail
    generalize ((((w.alloc (.cells AC 67))).alloc (.cells AN 57))).alloc (.cells #[.int .i64 0, .int .i64 0, .int .i64 0, .int .i64 0, .bool false, .int .i64 0, .int .i64 0, .int .i64 0, .int .i64 0, .int .i64 0, .slice none 0 0, .slice none 0 0, .bool false, .int .i64 0, .slice none 0 0, .int .i64 0] 57) = v0 at *
    have hL0 := C.load (P := Tryz.prog) hC
    have hL1 := N.load (P := Tryz.prog) hN
    go_wp2_with (first | rw [hL0] | rw [hL1])
    refine (CW v0 B).mono ?_
    rintro e v1 ⟨U, rfl, OU, hb⟩
    clear hL0 hL1
    have q1C : w.heap.size < v0.heap.size := C.1
    have q1N : w.heap.size + 1 < v0.heap.size := N.1
    have q1R : w.heap.size + 2 < v0.heap.size := R.1
    have q1 : w.heap.size ≤ v0.heap.size := B.size
    have zv1 : v0.heap.size ≤ v1.heap.size := hb.size
    replace B := B.trans (hb.mono B.size)
    replace C := C.below hb
    replace N := N.below hb
    replace R := R.below hb
    clear hb
    have hU := OU.size
    have hst := storeNew (P := Tryz.prog) v1 (#[.int .i64 0, .int .i64 0, .slice none 0 0, .bool false, .int .i64 0, .int .i64 0, .int .i64 0, .int .i64 0, .int .i64 0, .int .i64 0, .int .i64 0, .int .i64 0, .int .i64 0, .int .i64 0, .int .i64 0, .slice none 0 0, .int .i64 0, .int .i64 0, .int .i64 0, .int .i64 0, .int .i64 0, .bool false, .int .i64 0, .int .i64 0, .int .i64 0, .slice none 0 0, .slice none 0 0, .int .i64 0]) U 105 (by rw [hU]; rfl) OU.one
    have gKWC : w.heap.size < v1.heap.size := C.1
    have gKWN : w.heap.size + 1 < v1.heap.size := N.1
    have gKWR : w.heap.size + 2 < v1.heap.size := R.1
    have gKWOU : v1.heap.size ≤ v1.heap.size := by omega
    have hb := Below.nw v1 (.cells U 105)
    have KW := Bo.new v1 U 105
    go_upto_region 2 with (rw [hst])
    clear hst
    replace B := B.trans (hb.mono B.size)
    replace C := C.below hb
    replace N := N.below hb
    replace R := R.below hb
    replace OU := OU.below hb
    clear hb
    generalize v1.alloc (.cells U 105) = v2 at *
    generalize v1.heap.size = kKW at *
    have zv2 : kKW ≤ v2.heap.size := Nat.le_of_lt KW.1
    clear hU
    obtain ⟨aa, ac, pa, pc, ha, hc, rfl, hbn, P1, P2, P3⟩ := OU
    (try rw [hst0])
    go_wp2_with fail
    refine (wkNode y x ct p d aa ac pa pc ha hc kKW v2 KW).mono ?_
    rintro e v3 ⟨rfl, hb⟩
    have zv3 : v2.heap.size ≤ v3.heap.size := hb.size
    replace B := B.trans (hb.mono B.size)
    replace C := C.below hb
    replace N := N.below hb
    replace R := R.below hb
    replace KW := KW.below hb
    replace P1 := P1.below hb
    replace P2 := P2.below hb
    replace P3 := P3.below hb
    clear hb
    have hU : (ndV x aa ac pa pc ha hc).size = 16 := rfl
    have hUl : 0 + (ndV x aa ac pa pc ha hc).toList.length ≤ 16 := by simp [hU]
    have hst := Bo.store (P := Tryz.prog) (b := 0) ((ndV x aa ac pa pc ha hc).toList) 0 0 R rfl hUl (ndV_one _ _ _ _ _ _ _)
    have hb : Btw (w.heap.size + 2) (w.heap.size + 2 + 1) v3 _ := putA_btw ((ndV x aa ac pa pc ha hc).toList) v3 0 (w.heap.size + 2)
    have B1 := putA_below (k := w.heap.size + 2) ((ndV x aa ac pa pc ha hc).toList) w v3 0 B (by omega)
    have N1 := R.putW (U := (ndV x aa ac pa pc ha hc)) hU
    go_wp2_with (rw [hst])
    clear hst  R B
    replace C := C.btw hb (by omega)
    replace N := N.btw hb (by omega)
    replace KW := KW.btw hb (by omega)
    replace P1 := P1.btw hb (by omega)
    replace P2 := P2.btw hb (by omega)
    replace P3 := P3.btw hb (by omega)
    have zv4 := hb.2.2.2.1
    clear hb
    generalize putA v3 (w.heap.size + 2) 0 ((ndV x aa ac pa pc ha hc).toList) = v4 at *
    have B := B1
    have R := N1
    clear B1 N1
    have hL0 := R.load (P := Tryz.prog) hU
    exact bodyPost_ret (v := .tuple #[.agg (ndV x aa ac pa pc ha hc), .int .i64 0, .bool false, .int .i64 2]) (by simp [results, Tryz.results27, go_sem]; rw [hL0]; rfl) rfl ⟨_, rfl, ⟨aa, ac, pa, pc, ha, hc, rfl, hbn, P1.low (by omega), P2.low (by omega), P3.low (by omega)⟩, B⟩
  have hs1 : staI y x ct ≠ 1 := by rw [hst0]; decide
  have hF := read_pn hst0
  cases h4 : arC x.hs x.ls (pnC y x ct == 0) (pnL y x ct) (pnH y x ct) != 0
  · rw [h4] at hF
    rw [hF]
    clear hF
    have hC := HC.size
    have hN := HN.size
    obtain ⟨p, d, hpd, hm, hr⟩ := id HC
    have CW := fun (v : World) (h : Below w.heap.size w v) => workOn_ok AC AN y x ct p d v (HC.below h) (HN.below h) hwf hpd hok hs1
    clear HC HN hwf hm hr hpd
    have A0 := Below.nw w (.cells AC 67)
    have A1 := Below.nw (w.alloc (.cells AC 67)) (.cells AN 57)
    have A2 := Below.nw (((w.alloc (.cells AC 67))).alloc (.cells AN 57)) (.cells #[.int .i64 0, .int .i64 0, .int .i64 0, .int .i64 0, .bool false, .int .i64 0, .int .i64 0, .int .i64 0, .int .i64 0, .int .i64 0, .slice none 0 0, .slice none 0 0, .bool false, .int .i64 0, .slice none 0 0, .int .i64 0] 57)
    have C := ((Bo.new w AC 67).below A1).below A2
    have N := (Bo.new (w.alloc (.cells AC 67)) AN 57).below A2
    have R := Bo.new (((w.alloc (.cells AC 67))).alloc (.cells AN 57)) #[.int .i64 0, .int .i64 0, .int .i64 0, .int .i64 0, .bool false, .int .i64 0, .int .i64 0, .int .i64 0, .int .i64 0, .int .i64 0, .slice none 0 0, .slice none 0 0, .bool false, .int .i64 0, .slice none 0 0, .int .i64 0] 57
    have B := A0
    replace B := B.trans (A1.mono B.size)
    replace B := B.trans (A2.mono B.size)
    simp only [World.size_alloc] at N R
    clear A0 A1 A2
    go_enter Tryz.func27, Tryz.ntmps27
    go_upto_region 1 with fail
    generalize ((((w.alloc (.cells AC 67))).alloc (.cells AN 57))).alloc (.cells #[.int .i64 0, .int .i64 0, .int .i64 0, .int .i64 0, .bool false, .int .i64 0, .int .i64 0, .int .i64 0, .int .i64 0, .int .i64 0, .slice none 0 0, .slice none 0 0, .bool false, .int .i64 0, .slice none 0 0, .int .i64 0] 57) = v0 at *
    have hL0 := C.load (P := Tryz.prog) hC
    have hL1 := N.load (P := Tryz.prog) hN
    go_wp2_with (first | rw [hL0] | rw [hL1])
    refine (CW v0 B).mono ?_
    rintro e v1 ⟨U, rfl, OU, hb⟩
    clear hL0 hL1
    have q1C : w.heap.size < v0.heap.size := C.1
    have q1N : w.heap.size + 1 < v0.heap.size := N.1
    have q1R : w.heap.size + 2 < v0.heap.size := R.1
    have q1 : w.heap.size ≤ v0.heap.size := B.size
    have zv1 : v0.heap.size ≤ v1.heap.size := hb.size
    replace B := B.trans (hb.mono B.size)
    replace C := C.below hb
    replace N := N.below hb
    replace R := R.below hb
    clear hb
    have hU := OU.size
    have hst := storeNew (P := Tryz.prog) v1 (#[.int .i64 0, .int .i64 0, .slice none 0 0, .bool false, .int .i64 0, .int .i64 0, .int .i64 0, .int .i64 0, .int .i64 0, .int .i64 0, .int .i64 0, .int .i64 0, .int .i64 0, .int .i64 0, .int .i64 0, .slice none 0 0, .int .i64 0, .int .i64 0, .int .i64 0, .int .i64 0, .int .i64 0, .bool false, .int .i64 0, .int .i64 0, .int .i64 0, .slice none 0 0, .slice none 0 0, .int .i64 0]) U 105 (by rw [hU]; rfl) OU.one
    have gKWC : w.heap.size < v1.heap.size := C.1
    have gKWN : w.heap.size + 1 < v1.heap.size := N.1
    have gKWR : w.heap.size + 2 < v1.heap.size := R.1
    have gKWOU : v1.heap.size ≤ v1.heap.size := by omega
    have hb := Below.nw v1 (.cells U 105)
    have KW := Bo.new v1 U 105
    go_upto_region 2 with (rw [hst])
    clear hst
    replace B := B.trans (hb.mono B.size)
    replace C := C.below hb
    replace N := N.below hb
    replace R := R.below hb
    replace OU := OU.below hb
    clear hb
    generalize v1.alloc (.cells U 105) = v2 at *
    generalize v1.heap.size = kKW at *
    have zv2 : kKW ≤ v2.heap.size := Nat.le_of_lt KW.1
    clear hU
    obtain ⟨aa, ac, pa, pc, ha, hc, rfl, hbn, P1, P2, P3⟩ := OU
    (try rw [hst0])
    go_wp2_with fail
    refine (wkNow y x ct p d aa ac pa pc ha hc kKW v2 KW).mono ?_
    rintro e v3 ⟨rfl, hb⟩
    have zv3 : v2.heap.size ≤ v3.heap.size := hb.size
    replace B := B.trans (hb.mono B.size)
    replace C := C.below hb
    replace N := N.below hb
    replace R := R.below hb
    replace KW := KW.below hb
    replace P1 := P1.below hb
    replace P2 := P2.below hb
    replace P3 := P3.below hb
    clear hb
    have hst := storeNew (P := Tryz.prog) v3 (#[.int .i64 0, .int .i64 0]) (#[.int .i64 (pnL y x ct), .int .i64 (pnH y x ct)]) 47 rfl (List.forall_mem_cons.2 ⟨rfl, (List.forall_mem_cons.2 ⟨rfl, fun _ h => nomatch h⟩)⟩)
    have gQC : w.heap.size < v3.heap.size := C.1
    have gQN : w.heap.size + 1 < v3.heap.size := N.1
    have gQR : w.heap.size + 2 < v3.heap.size := R.1
    have gQKW : kKW < v3.heap.size := KW.1
    have gQP1 : kKW ≤ v3.heap.size := by omega
    have gQP2 : kKW ≤ v3.heap.size := by omega
    have gQP3 : kKW ≤ v3.heap.size := by omega
    have hb := Below.nw v3 (.cells #[.int .i64 (pnL y x ct), .int .i64 (pnH y x ct)] 47)
    have Q := Bo.new v3 #[.int .i64 (pnL y x ct), .int .i64 (pnH y x ct)] 47
    go_upto_region 5 with (rw [hst])
    clear hst
    replace B := B.trans (hb.mono B.size)
    replace C := C.below hb
    replace N := N.below hb
    replace R := R.below hb
    replace KW := KW.below hb
    replace P1 := P1.below hb
    replace P2 := P2.below hb
    replace P3 := P3.below hb
    clear hb
    generalize v3.alloc (.cells #[.int .i64 (pnL y x ct), .int .i64 (pnH y x ct)] 47) = v4 at *
    generalize v3.heap.size = kQ at *
    have zv4 : kQ ≤ v4.heap.size := Nat.le_of_lt Q.1
    have hL0 := Q.load (P := Tryz.prog) (show (#[.int .i64 (pnL y x ct), .int .i64 (pnH y x ct)] : Array Value).size = 2 from rfl)
    go_wp2_with (rw [hL0])
    refine (wkRead y x ct p d aa ac pa pc ha hc kKW (pnC y x ct == 0) (pnL y x ct) (pnH y x ct) v4 KW).mono ?_
    rintro e v5 ⟨rfl, N1, hb⟩
    clear hL0
    replace B := B.trans ((hb.belowL (Nat.le_of_lt KW.1)).mono (show w.heap.size ≤ kKW by omega))
    replace C := C.btw hb (by omega)
    replace N := N.btw hb (by omega)
    replace R := R.btw hb (by omega)
    replace Q := Q.btw hb (by omega)
    replace P1 := P1.btw hb (by omega)
    replace P2 := P2.btw hb (by omega)
    replace P3 := P3.btw hb (by omega)
    have zv5 := hb.2.2.2.1
    clear hb KW
    have KW := N1
    clear N1
    go_wp2_with fail
    refine (wkNode y ({ x with hs := arH x.hs x.ls (pnC y x ct == 0) (pnL y x ct) (pnH y x ct), ls := arL x.hs x.ls (pnC y x ct == 0) (pnL y x ct) (pnH y x ct) }) ct p d aa ac pa pc ha hc kKW v5 KW).mono ?_
    rintro e v6 ⟨rfl, hb⟩
    have zv6 : v5.heap.size ≤ v6.heap.size := hb.size
    replace B := B.trans (hb.mono B.size)
    replace C := C.below hb
    replace N := N.below hb
    replace R := R.below hb
    replace KW := KW.below hb
    replace Q := Q.below hb
    replace P1 := P1.below hb
    replace P2 := P2.below hb
    replace P3 := P3.below hb
    clear hb
    have hU : (ndV ({ x with hs := arH x.hs x.ls (pnC y x ct == 0) (pnL y x ct) (pnH y x ct), ls := arL x.hs x.ls (pnC y x ct == 0) (pnL y x ct) (pnH y x ct) }) aa ac pa pc ha hc).size = 16 := rfl
    have hUl : 0 + (ndV ({ x with hs := arH x.hs x.ls (pnC y x ct == 0) (pnL y x ct) (pnH y x ct), ls := arL x.hs x.ls (pnC y x ct == 0) (pnL y x ct) (pnH y x ct) }) aa ac pa pc ha hc).toList.length ≤ 16 := by simp [hU]
    have hst := Bo.store (P := Tryz.prog) (b := 0) ((ndV ({ x with hs := arH x.hs x.ls (pnC y x ct == 0) (pnL y x ct) (pnH y x ct), ls := arL x.hs x.ls (pnC y x ct == 0) (pnL y x ct) (pnH y x ct) }) aa ac pa pc ha hc).toList) 0 0 R rfl hUl (ndV_one _ _ _ _ _ _ _)
    have hb : Btw (w.heap.size + 2) (w.heap.size + 2 + 1) v6 _ := putA_btw ((ndV ({ x with hs := arH x.hs x.ls (pnC y x ct == 0) (pnL y x ct) (pnH y x ct), ls := arL x.hs x.ls (pnC y x ct == 0) (pnL y x ct) (pnH y x ct) }) aa ac pa pc ha hc).toList) v6 0 (w.heap.size + 2)
    have B1 := putA_below (k := w.heap.size + 2) ((ndV ({ x with hs := arH x.hs x.ls (pnC y x ct == 0) (pnL y x ct) (pnH y x ct), ls := arL x.hs x.ls (pnC y x ct == 0) (pnL y x ct) (pnH y x ct) }) aa ac pa pc ha hc).toList) w v6 0 B (by omega)
    have N1 := R.putW (U := (ndV ({ x with hs := arH x.hs x.ls (pnC y x ct == 0) (pnL y x ct) (pnH y x ct), ls := arL x.hs x.ls (pnC y x ct == 0) (pnL y x ct) (pnH y x ct) }) aa ac pa pc ha hc)) hU
    go_wp2_with (rw [hst])
    clear hst  R B
    replace C := C.btw hb (by omega)
    replace N := N.btw hb (by omega)
    replace KW := KW.btw hb (by omega)
    replace Q := Q.btw hb (by omega)
    replace P1 := P1.btw hb (by omega)
    replace P2 := P2.btw hb (by omega)
    replace P3 := P3.btw hb (by omega)
    have zv7 := hb.2.2.2.1
    clear hb
    generalize putA v6 (w.heap.size + 2) 0 ((ndV ({ x with hs := arH x.hs x.ls (pnC y x ct == 0) (pnL y x ct) (pnH y x ct), ls := arL x.hs x.ls (pnC y x ct == 0) (pnL y x ct) (pnH y x ct) }) aa ac pa pc ha hc).toList) = v7 at *
    have B := B1
    have R := N1
    clear B1 N1
    have hL0 := R.load (P := Tryz.prog) hU
    exact bodyPost_ret (v := .tuple #[.agg (ndV ({ x with hs := arH x.hs x.ls (pnC y x ct == 0) (pnL y x ct) (pnH y x ct), ls := arL x.hs x.ls (pnC y x ct == 0) (pnL y x ct) (pnH y x ct) }) aa ac pa pc ha hc), .int .i64 (arX x.hs x.ls (pnC y x ct == 0) (pnL y x ct) (pnH y x ct)), .bool (arD x.hs x.ls (pnC y x ct == 0) (pnL y x ct) (pnH y x ct)), .int .i64 0]) (by simp [results, Tryz.results27, go_sem]; rw [hL0]; rfl) rfl ⟨_, rfl, ⟨aa, ac, pa, pc, ha, hc, rfl, hbn, P1.low (by omega), P2.low (by omega), P3.low (by omega)⟩, B⟩
  · rw [h4] at hF
    have hxs := read_same hst0 h4
    rw [hF]
    clear hF
    have hC := HC.size
    have hN := HN.size
    obtain ⟨p, d, hpd, hm, hr⟩ := id HC
    have CW := fun (v : World) (h : Below w.heap.size w v) => workOn_ok AC AN y x ct p d v (HC.below h) (HN.below h) hwf hpd hok hs1
    clear HC HN hwf hm hr hpd
    have A0 := Below.nw w (.cells AC 67)
    have A1 := Below.nw (w.alloc (.cells AC 67)) (.cells AN 57)
    have A2 := Below.nw (((w.alloc (.cells AC 67))).alloc (.cells AN 57)) (.cells #[.int .i64 0, .int .i64 0, .int .i64 0, .int .i64 0, .bool false, .int .i64 0, .int .i64 0, .int .i64 0, .int .i64 0, .int .i64 0, .slice none 0 0, .slice none 0 0, .bool false, .int .i64 0, .slice none 0 0, .int .i64 0] 57)
    have C := ((Bo.new w AC 67).below A1).below A2
    have N := (Bo.new (w.alloc (.cells AC 67)) AN 57).below A2
    have R := Bo.new (((w.alloc (.cells AC 67))).alloc (.cells AN 57)) #[.int .i64 0, .int .i64 0, .int .i64 0, .int .i64 0, .bool false, .int .i64 0, .int .i64 0, .int .i64 0, .int .i64 0, .int .i64 0, .slice none 0 0, .slice none 0 0, .bool false, .int .i64 0, .slice none 0 0, .int .i64 0] 57
    have B := A0
    replace B := B.trans (A1.mono B.size)
    replace B := B.trans (A2.mono B.size)
    simp only [World.size_alloc] at N R
    clear A0 A1 A2
    go_enter Tryz.func27, Tryz.ntmps27
    go_upto_region 1 with fail
    generalize ((((w.alloc (.cells AC 67))).alloc (.cells AN 57))).alloc (.cells #[.int .i64 0, .int .i64 0, .int .i64 0, .int .i64 0, .bool false, .int .i64 0, .int .i64 0, .int .i64 0, .int .i64 0, .int .i64 0, .slice none 0 0, .slice none 0 0, .bool false, .int .i64 0, .slice none 0 0, .int .i64 0] 57) = v0 at *
    have hL0 := C.load (P := Tryz.prog) hC
    have hL1 := N.load (P := Tryz.prog) hN
    go_wp2_with (first | rw [hL0] | rw [hL1])
    refine (CW v0 B).mono ?_
    rintro e v1 ⟨U, rfl, OU, hb⟩
    clear hL0 hL1
    have q1C : w.heap.size < v0.heap.size := C.1
    have q1N : w.heap.size + 1 < v0.heap.size := N.1
    have q1R : w.heap.size + 2 < v0.heap.size := R.1
    have q1 : w.heap.size ≤ v0.heap.size := B.size
    have zv1 : v0.heap.size ≤ v1.heap.size := hb.size
    replace B := B.trans (hb.mono B.size)
    replace C := C.below hb
    replace N := N.below hb
    replace R := R.below hb
    clear hb
    have hU := OU.size
    have hst := storeNew (P := Tryz.prog) v1 (#[.int .i64 0, .int .i64 0, .slice none 0 0, .bool false, .int .i64 0, .int .i64 0, .int .i64 0, .int .i64 0, .int .i64 0, .int .i64 0, .int .i64 0, .int .i64 0, .int .i64 0, .int .i64 0, .int .i64 0, .slice none 0 0, .int .i64 0, .int .i64 0, .int .i64 0, .int .i64 0, .int .i64 0, .bool false, .int .i64 0, .int .i64 0, .int .i64 0, .slice none 0 0, .slice none 0 0, .int .i64 0]) U 105 (by rw [hU]; rfl) OU.one
    have gKWC : w.heap.size < v1.heap.size := C.1
    have gKWN : w.heap.size + 1 < v1.heap.size := N.1
    have gKWR : w.heap.size + 2 < v1.heap.size := R.1
    have gKWOU : v1.heap.size ≤ v1.heap.size := by omega
    have hb := Below.nw v1 (.cells U 105)
    have KW := Bo.new v1 U 105
    go_upto_region 2 with (rw [hst])
    clear hst
    replace B := B.trans (hb.mono B.size)
    replace C := C.below hb
    replace N := N.below hb
    replace R := R.below hb
    replace OU := OU.below hb
    clear hb
    generalize v1.alloc (.cells U 105) = v2 at *
    generalize v1.heap.size = kKW at *
    have zv2 : kKW ≤ v2.heap.size := Nat.le_of_lt KW.1
    clear hU
    obtain ⟨aa, ac, pa, pc, ha, hc, rfl, hbn, P1, P2, P3⟩ := OU
    (try rw [hst0])
    go_wp2_with fail
    refine (wkNow y x ct p d aa ac pa pc ha hc kKW v2 KW).mono ?_
    rintro e v3 ⟨rfl, hb⟩
    have zv3 : v2.heap.size ≤ v3.heap.size := hb.size
    replace B := B.trans (hb.mono B.size)
    replace C := C.below hb
    replace N := N.below hb
    replace R := R.below hb
    replace KW := KW.below hb
    replace P1 := P1.below hb
    replace P2 := P2.below hb
    replace P3 := P3.below hb
    clear hb
    have hst := storeNew (P := Tryz.prog) v3 (#[.int .i64 0, .int .i64 0]) (#[.int .i64 (pnL y x ct), .int .i64 (pnH y x ct)]) 47 rfl (List.forall_mem_cons.2 ⟨rfl, (List.forall_mem_cons.2 ⟨rfl, fun _ h => nomatch h⟩)⟩)
    have gQC : w.heap.size < v3.heap.size := C.1
    have gQN : w.heap.size + 1 < v3.heap.size := N.1
    have gQR : w.heap.size + 2 < v3.heap.size := R.1
    have gQKW : kKW < v3.heap.size := KW.1
    have gQP1 : kKW ≤ v3.heap.size := by omega
    have gQP2 : kKW ≤ v3.heap.size := by omega
    have gQP3 : kKW ≤ v3.heap.size := by omega
    have hb := Below.nw v3 (.cells #[.int .i64 (pnL y x ct), .int .i64 (pnH y x ct)] 47)
    have Q := Bo.new v3 #[.int .i64 (pnL y x ct), .int .i64 (pnH y x ct)] 47
    go_upto_region 5 with (rw [hst])
    clear hst
    replace B := B.trans (hb.mono B.size)
    replace C := C.below hb
    replace N := N.below hb
    replace R := R.below hb
    replace KW := KW.below hb
    replace P1 := P1.below hb
    replace P2 := P2.below hb
    replace P3 := P3.below hb
    clear hb
    generalize v3.alloc (.cells #[.int .i64 (pnL y x ct), .int .i64 (pnH y x ct)] 47) = v4 at *
    generalize v3.heap.size = kQ at *
    have zv4 : kQ ≤ v4.heap.size := Nat.le_of_lt Q.1
    have hL0 := Q.load (P := Tryz.prog) (show (#[.int .i64 (pnL y x ct), .int .i64 (pnH y x ct)] : Array Value).size = 2 from rfl)
    go_wp2_with (rw [hL0])
    refine (wkRead y x ct p d aa ac pa pc ha hc kKW (pnC y x ct == 0) (pnL y x ct) (pnH y x ct) v4 KW).mono ?_
    rintro e v5 ⟨rfl, N1, hb⟩
    clear hL0
    replace B := B.trans ((hb.belowL (Nat.le_of_lt KW.1)).mono (show w.heap.size ≤ kKW by omega))
    replace C := C.btw hb (by omega)
    replace N := N.btw hb (by omega)
    replace R := R.btw hb (by omega)
    replace Q := Q.btw hb (by omega)
    replace P1 := P1.btw hb (by omega)
    replace P2 := P2.btw hb (by omega)
    replace P3 := P3.btw hb (by omega)
    have zv5 := hb.2.2.2.1
    clear hb KW
    have KW := N1
    clear N1
    rw [hxs] at KW
    go_wp2_with fail
    refine (wkNode y x ct p d aa ac pa pc ha hc kKW v5 KW).mono ?_
    rintro e v6 ⟨rfl, hb⟩
    have zv6 : v5.heap.size ≤ v6.heap.size := hb.size
    replace B := B.trans (hb.mono B.size)
    replace C := C.below hb
    replace N := N.below hb
    replace R := R.below hb
    replace KW := KW.below hb
    replace Q := Q.below hb
    replace P1 := P1.below hb
    replace P2 := P2.below hb
    replace P3 := P3.below hb
    clear hb
    have hU : (ndV x aa ac pa pc ha hc).size = 16 := rfl
    have hUl : 0 + (ndV x aa ac pa pc ha hc).toList.length ≤ 16 := by simp [hU]
    have hst := Bo.store (P := Tryz.prog) (b := 0) ((ndV x aa ac pa pc ha hc).toList) 0 0 R rfl hUl (ndV_one _ _ _ _ _ _ _)
    have hb : Btw (w.heap.size + 2) (w.heap.size + 2 + 1) v6 _ := putA_btw ((ndV x aa ac pa pc ha hc).toList) v6 0 (w.heap.size + 2)
    have B1 := putA_below (k := w.heap.size + 2) ((ndV x aa ac pa pc ha hc).toList) w v6 0 B (by omega)
    have N1 := R.putW (U := (ndV x aa ac pa pc ha hc)) hU
    go_wp2_with (rw [hst])
    clear hst  R B
    replace C := C.btw hb (by omega)
    replace N := N.btw hb (by omega)
    replace KW := KW.btw hb (by omega)
    replace Q := Q.btw hb (by omega)
    replace P1 := P1.btw hb (by omega)
    replace P2 := P2.btw hb (by omega)
    replace P3 := P3.btw hb (by omega)
    have zv7 := hb.2.2.2.1
    clear hb
    generalize putA v6 (w.heap.size + 2) 0 ((ndV x aa ac pa pc ha hc).toList) = v7 at *
    have B := B1
    have R := N1
    clear B1 N1
    have hL0 := R.load (P := Tryz.prog) hU
    exact bodyPost_ret (v := .tuple #[.agg (ndV x aa ac pa pc ha hc), .int .i64 0, .bool false, .int .i64 8]) (by simp [results, Tryz.results27, go_sem]; rw [hL0]; rfl) rfl ⟨_, rfl, ⟨aa, ac, pa, pc, ha, hc, rfl, hbn, P1.low (by omega), P2.low (by omega), P3.low (by omega)⟩, B⟩
end Go.Proofs.YtiecdkmnjdpgfaaGreat
namespace Go.Proofs.YtiecdkmnjdpgfaaGreat
open Go.RowKit
set_option linter.unusedVariables false
theorem walkNodeRead (AC : Array Value) (y : CfX) (AN : Array Value) (x : NdX) (ct : Int) (w : World) (HC : CfW w AC y) (HN : NdW w AN x) (hwf : wfX x) (hc : (Lit.int .i64 ct).wf = true) :
    Calls Tryz.prog 6 #[.agg AC, .agg AN, .int .i64 ct] w fun e w' => e = .returned (.bool true) ∧ Below w.heap.size w w' :=
  lawNodeRead (readX) (fun AC AN y x ct w h h' _ => specReadX AC AN y x ct w h h') (fun AC AN y x ct w h h' hw => implReadX AC AN y x ct w h h' hw) AC AN y x ct w HC HN hwf
end Go.Proofs.YtiecdkmnjdpgfaaGreat
