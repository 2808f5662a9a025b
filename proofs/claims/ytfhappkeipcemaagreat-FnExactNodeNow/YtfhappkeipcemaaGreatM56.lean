/- NodeNow, NodeTrue, NodeRead, NodeFix (the program), over arrays of cells. -/
import Derived.Test.YtfhappkeipcemaaGreatM46
namespace Go.Proofs.YtfhappkeipcemaaGreat
open Go.RowKit
set_option linter.unusedVariables false
theorem now_bad {y : CfX} {x : NdX} {ct : Int} (h : staI y x ct = 1) : nowC y x ct = 1 := by
  unfold nowC
  unfold staI at h
  cases h1 : cokX y
  · rfl
  · rw [h1] at h
    cases h2 : okX x && cmX x ct
    · rfl
    · exfalso
      unfold fiI at h
      rw [h2] at h
      cases h3 : (x.mo == 0) <;> (rw [h3] at h; exact absurd h (by decide))
attribute [-go_sem] loadCells storeCells in
set_option maxRecDepth 100000 in
set_option maxHeartbeats 8000000 in
theorem implNowX (AC AN : Array Value) (y : CfX) (x : NdX) (ct : Int) (w : World) (HC : CfS w AC y) (HN : NdS w AN x) (hwf : wfX x) :
    Calls Tryz.prog 15 #[.agg AC, .agg AN, .int .i64 ct] w fun e w' => e = .returned (.tuple #[.agg #[.int .i64 (nowL y x ct), .int .i64 (nowH y x ct)], .int .i64 (nowC y x ct)]) ∧ Below w.heap.size w w' := by
  by_cases hs1 : staI y x ct = 1
  · have hbad : staI y x ct = 1 ∨ true = false := .inl hs1
    have hC' : nowC y x ct = 1 := now_bad hs1
    have hL' : nowL y x ct = 0 := by unfold nowL; rw [hC']; rfl
    have hH' : nowH y x ct = 0 := by unfold nowH; rw [hC']; rfl
    clear hs1
    have hC := HC.size
    have hN := HN.size
    have CW := fun (v : World) (h : Below w.heap.size w v) => workOn_bad AC AN y x ct true v (HC.below h) (HN.below h) hwf (hbad)
    clear HC HN hwf
    have A0 := Below.nw w (.cells AC 54)
    have A1 := Below.nw (w.alloc (.cells AC 54)) (.cells AN 66)
    have A2 := Below.nw (((w.alloc (.cells AC 54))).alloc (.cells AN 66)) (.cells #[.int .i64 0, .int .i64 0] 46)
    have C := ((Bo.new w AC 54).below A1).below A2
    have N := (Bo.new (w.alloc (.cells AC 54)) AN 66).below A2
    have R := Bo.new (((w.alloc (.cells AC 54))).alloc (.cells AN 66)) #[.int .i64 0, .int .i64 0] 46
    have B := A0
    replace B := B.trans (A1.mono B.size)
    replace B := B.trans (A2.mono B.size)
    simp only [World.size_alloc] at N R
    clear A0 A1 A2
    go_enter Tryz.func15, Tryz.ntmps15
    go_upto_region 1 with fail
    generalize ((((w.alloc (.cells AC 54))).alloc (.cells AN 66))).alloc (.cells #[.int .i64 0, .int .i64 0] 46) = v0 at *
    have hL0 := C.load (P := Tryz.prog) hC
    have hL1 := N.load (P := Tryz.prog) hN
    go_wp2_with (first | rw [hL0] | rw [hL1])
    refine (CW v0 B).mono ?_
    rintro e v1 ⟨rfl, hb⟩
    clear hL0 hL1
    replace B := B.trans (hb.mono B.size)
    replace C := C.below hb
    replace N := N.below hb
    replace R := R.below hb
    clear hb
    have hU := zWk_size
    have hst := storeNew (P := Tryz.prog) v1 (#[.int .i64 0, .int .i64 0, .slice none 0 0, .bool false, .int .i64 0, .int .i64 0, .int .i64 0, .int .i64 0, .int .i64 0, .int .i64 0, .int .i64 0, .int .i64 0, .int .i64 0, .int .i64 0, .int .i64 0, .slice none 0 0, .int .i64 0, .int .i64 0, .int .i64 0, .int .i64 0, .int .i64 0, .bool false, .int .i64 0, .int .i64 0, .int .i64 0, .slice none 0 0, .slice none 0 0, .int .i64 0]) zWk 108 (by rw [hU]; rfl) zWk_one
    have gKWC : w.heap.size < v1.heap.size := C.1
    have gKWN : w.heap.size + 1 < v1.heap.size := N.1
    have gKWR : w.heap.size + 2 < v1.heap.size := R.1
    have hb := Below.nw v1 (.cells zWk 108)
    have KW := Bo.new v1 zWk 108
    go_upto_region 2 with (rw [hst])
    clear hst
    replace B := B.trans (hb.mono B.size)
    replace C := C.below hb
    replace N := N.below hb
    replace R := R.below hb
    clear hb
    generalize v1.alloc (.cells zWk 108) = v2 at *
    generalize v1.heap.size = kKW at *
    clear hU
    have hst := Bo.store (P := Tryz.prog) (b := 0) ([.int .i64 0, .int .i64 0]) 0 0 R rfl (show 0 + 2 ≤ 2 by decide) (List.forall_mem_cons.2 ⟨rfl, (List.forall_mem_cons.2 ⟨rfl, fun _ h => nomatch h⟩)⟩)
    have hb : Btw (w.heap.size + 2) (w.heap.size + 2 + 1) v2 _ := putA_btw ([.int .i64 0, .int .i64 0]) v2 0 (w.heap.size + 2)
    have B1 := putA_below (k := w.heap.size + 2) ([.int .i64 0, .int .i64 0]) w v2 0 B (by omega)
    have N1 : Bo (putA v2 (w.heap.size + 2) 0 ([.int .i64 0, .int .i64 0])) (w.heap.size + 2) (#[.int .i64 0, .int .i64 0]) := Bo.put ([.int .i64 0, .int .i64 0]) 0 R
    go_wp2_with (rw [hst])
    clear hst  R B
    replace C := C.btw hb (by omega)
    replace N := N.btw hb (by omega)
    replace KW := KW.btw hb (by omega)
    clear hb
    generalize putA v2 (w.heap.size + 2) 0 ([.int .i64 0, .int .i64 0]) = v3 at *
    have B := B1
    have R := N1
    clear B1 N1
    have hL0 := R.load (P := Tryz.prog) (show (#[.int .i64 0, .int .i64 0] : Array Value).size = 2 from rfl)
    exact bodyPost_ret (v := .tuple #[.agg #[.int .i64 0, .int .i64 0], .int .i64 1]) (by simp [results, Tryz.results15, go_sem]; rw [hL0]; rfl) rfl ⟨by rw [hC', hL', hH'], B⟩
  · obtain ⟨hC', hL', hH'⟩ := pn_now hs1
    have hok := (sta_parts hs1).2.1
    have hC := HC.size
    have hN := HN.size
    obtain ⟨p, d, hpd, hm, hr⟩ := id HC
    have CW := fun (v : World) (h : Below w.heap.size w v) => workOn_ok AC AN y x ct p d v (HC.below h) (HN.below h) hwf hpd hok hs1
    clear HC HN hwf hm hr hpd
    have A0 := Below.nw w (.cells AC 54)
    have A1 := Below.nw (w.alloc (.cells AC 54)) (.cells AN 66)
    have A2 := Below.nw (((w.alloc (.cells AC 54))).alloc (.cells AN 66)) (.cells #[.int .i64 0, .int .i64 0] 46)
    have C := ((Bo.new w AC 54).below A1).below A2
    have N := (Bo.new (w.alloc (.cells AC 54)) AN 66).below A2
    have R := Bo.new (((w.alloc (.cells AC 54))).alloc (.cells AN 66)) #[.int .i64 0, .int .i64 0] 46
    have B := A0
    replace B := B.trans (A1.mono B.size)
    replace B := B.trans (A2.mono B.size)
    simp only [World.size_alloc] at N R
    clear A0 A1 A2
    go_enter Tryz.func15, Tryz.ntmps15
    go_upto_region 1 with fail
    generalize ((((w.alloc (.cells AC 54))).alloc (.cells AN 66))).alloc (.cells #[.int .i64 0, .int .i64 0] 46) = v0 at *
    have hL0 := C.load (P := Tryz.prog) hC
    have hL1 := N.load (P := Tryz.prog) hN
    go_wp2_with (first | rw [hL0] | rw [hL1])
    refine (CW v0 B).mono ?_
    rintro e v1 ⟨U, rfl, OU, hb⟩
    clear hL0 hL1
    have q1C : w.heap.size < v0.heap.size := C.1
    have q1N : w.heap.size + 1 < v0.heap.size := N.1
    have q1R : w.heap.size + 2 < v0.heap.size := R.1
    have q1 : w.heap.size ≤ v0.heap.size := B.size
    have zv1 : v0.heap.size ≤ v1.heap.size := hb.size
    replace B := B.trans (hb.mono B.size)
    replace C := C.below hb
    replace N := N.below hb
    replace R := R.below hb
    clear hb
    have hU := OU.size
    have hst := storeNew (P := Tryz.prog) v1 (#[.int .i64 0, .int .i64 0, .slice none 0 0, .bool false, .int .i64 0, .int .i64 0, .int .i64 0, .int .i64 0, .int .i64 0, .int .i64 0, .int .i64 0, .int .i64 0, .int .i64 0, .int .i64 0, .int .i64 0, .slice none 0 0, .int .i64 0, .int .i64 0, .int .i64 0, .int .i64 0, .int .i64 0, .bool false, .int .i64 0, .int .i64 0, .int .i64 0, .slice none 0 0, .slice none 0 0, .int .i64 0]) U 108 (by rw [hU]; rfl) OU.one
    have gKWC : w.heap.size < v1.heap.size := C.1
    have gKWN : w.heap.size + 1 < v1.heap.size := N.1
    have gKWR : w.heap.size + 2 < v1.heap.size := R.1
    have gKWOU : v1.heap.size ≤ v1.heap.size := by omega
    have hb := Below.nw v1 (.cells U 108)
    have KW := Bo.new v1 U 108
    go_upto_region 2 with (rw [hst])
    clear hst
    replace B := B.trans (hb.mono B.size)
    replace C := C.below hb
    replace N := N.below hb
    replace R := R.below hb
    replace OU := OU.below hb
    clear hb
    generalize v1.alloc (.cells U 108) = v2 at *
    generalize v1.heap.size = kKW at *
    have zv2 : kKW ≤ v2.heap.size := Nat.le_of_lt KW.1
    clear hU
    obtain ⟨aa, ac, pa, pc, ha, hc, rfl, hbn, P1, P2, P3⟩ := OU
    have hs1b : (staI y x ct == 1) = false := by rw [beq_eq_false_iff_ne]; exact hs1
    go_wp2_with fail
    refine (wkNow y x ct p d aa ac pa pc ha hc kKW v2 KW).mono ?_
    rintro e v3 ⟨rfl, hb⟩
    have zv3 : v2.heap.size ≤ v3.heap.size := hb.size
    replace B := B.trans (hb.mono B.size)
    replace C := C.below hb
    replace N := N.below hb
    replace R := R.below hb
    replace KW := KW.below hb
    replace P1 := P1.below hb
    replace P2 := P2.below hb
    replace P3 := P3.below hb
    clear hb
    have hst := Bo.store (P := Tryz.prog) (b := 0) ([.int .i64 (pnL y x ct), .int .i64 (pnH y x ct)]) 0 0 R rfl (show 0 + 2 ≤ 2 by decide) (List.forall_mem_cons.2 ⟨rfl, (List.forall_mem_cons.2 ⟨rfl, fun _ h => nomatch h⟩)⟩)
    have hb : Btw (w.heap.size + 2) (w.heap.size + 2 + 1) v3 _ := putA_btw ([.int .i64 (pnL y x ct), .int .i64 (pnH y x ct)]) v3 0 (w.heap.size + 2)
    have B1 := putA_below (k := w.heap.size + 2) ([.int .i64 (pnL y x ct), .int .i64 (pnH y x ct)]) w v3 0 B (by omega)
    have N1 : Bo (putA v3 (w.heap.size + 2) 0 ([.int .i64 (pnL y x ct), .int .i64 (pnH y x ct)])) (w.heap.size + 2) (#[.int .i64 (pnL y x ct), .int .i64 (pnH y x ct)]) := Bo.put ([.int .i64 (pnL y x ct), .int .i64 (pnH y x ct)]) 0 R
    go_wp2_with (rw [hst])
    clear hst  R B
    replace C := C.btw hb (by omega)
    replace N := N.btw hb (by omega)
    replace KW := KW.btw hb (by omega)
    replace P1 := P1.btw hb (by omega)
    replace P2 := P2.btw hb (by omega)
    replace P3 := P3.btw hb (by omega)
    have zv4 := hb.2.2.2.1
    clear hb
    generalize putA v3 (w.heap.size + 2) 0 ([.int .i64 (pnL y x ct), .int .i64 (pnH y x ct)]) = v4 at *
    have B := B1
    have R := N1
    clear B1 N1
    have hL0 := R.load (P := Tryz.prog) (show (#[.int .i64 (pnL y x ct), .int .i64 (pnH y x ct)] : Array Value).size = 2 from rfl)
    exact bodyPost_ret (v := .tuple #[.agg #[.int .i64 (pnL y x ct), .int .i64 (pnH y x ct)], .int .i64 (pnC y x ct)]) (by simp [results, Tryz.results15, go_sem]; rw [hL0]; rfl) rfl ⟨by rw [hC', hL', hH'], B⟩
end Go.Proofs.YtfhappkeipcemaaGreat
