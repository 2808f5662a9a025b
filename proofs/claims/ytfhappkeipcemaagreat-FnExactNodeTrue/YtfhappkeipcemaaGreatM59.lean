/- NodeNow, NodeTrue, NodeRead, NodeFix (the program), over arrays of cells. -/
import Derived.Test.YtfhappkeipcemaaGreatM55
import Derived.Test.YtfhappkeipcemaaGreatM56
namespace Go.Proofs.YtfhappkeipcemaaGreat
open Go.RowKit
set_option linter.unusedVariables false
attribute [-go_sem] loadCells storeCells in
set_option maxRecDepth 100000 in
set_option maxHeartbeats 8000000 in
theorem implTrueX (AC AN : Array Value) (y : CfX) (x : NdX) (ct xt : Int) (w : World) (HC : CfS w AC y) (HN : NdS w AN x) (hwf : wfX x) :
    Calls Tryz.prog 38 #[.agg AC, .agg AN, .int .i64 ct, .int .i64 xt] w fun e w' => e = .returned (.bool (trueX y x ct xt)) ∧ Below w.heap.size w w' := by
  unfold trueX
  cases h4 : nowC y x ct != 0
  · skip
    have hC := HC.size
    have hN := HN.size
    have CNO := fun (v : World) (h : Below w.heap.size w v) => implNowX AC AN y x ct v (HC.below h) (HN.below h) hwf
    have CHO := fun v => implHolds_any (nowL y x ct) (nowH y x ct) xt v
    clear HC HN hwf
    have A0 := Below.nw w (.cells AC 54)
    have A1 := Below.nw (w.alloc (.cells AC 54)) (.cells AN 66)
    have C := (Bo.new w AC 54).below A1
    have N := Bo.new (w.alloc (.cells AC 54)) AN 66
    have B := A0
    replace B := B.trans (A1.mono B.size)
    simp only [World.size_alloc] at N
    clear A0 A1
    go_enter Tryz.func38, Tryz.ntmps38
    go_upto_region 1 with fail
    generalize ((w.alloc (.cells AC 54))).alloc (.cells AN 66) = v0 at *
    have hL0 := C.load (P := Tryz.prog) hC
    have hL1 := N.load (P := Tryz.prog) hN
    go_wp2_with (first | rw [hL0] | rw [hL1])
    refine (CNO v0 B).mono ?_
    rintro e v1 ⟨rfl, hb⟩
    clear hL0 hL1
    replace B := B.trans (hb.mono B.size)
    replace C := C.below hb
    replace N := N.below hb
    clear hb
    have hst := storeNew (P := Tryz.prog) v1 (#[.int .i64 0, .int .i64 0]) (#[.int .i64 (nowL y x ct), .int .i64 (nowH y x ct)]) 46 rfl (List.forall_mem_cons.2 ⟨rfl, (List.forall_mem_cons.2 ⟨rfl, fun _ h => nomatch h⟩)⟩)
    have gQC : w.heap.size < v1.heap.size := C.1
    have gQN : w.heap.size + 1 < v1.heap.size := N.1
    have hb := Below.nw v1 (.cells #[.int .i64 (nowL y x ct), .int .i64 (nowH y x ct)] 46)
    have Q := Bo.new v1 #[.int .i64 (nowL y x ct), .int .i64 (nowH y x ct)] 46
    go_upto_region 2 with (rw [hst])
    clear hst
    replace B := B.trans (hb.mono B.size)
    replace C := C.below hb
    replace N := N.below hb
    clear hb
    generalize v1.alloc (.cells #[.int .i64 (nowL y x ct), .int .i64 (nowH y x ct)] 46) = v2 at *
    generalize v1.heap.size = kQ at *
    have hL0 := Q.load (P := Tryz.prog) (show (#[.int .i64 (nowL y x ct), .int .i64 (nowH y x ct)] : Array Value).size = 2 from rfl)
    go_wp2_with (rw [hL0])
    refine (CHO _).mono ?_
    rintro e vh ⟨rfl, hh⟩
    have hb : Below v2.heap.size v2 vh := by first | exact hh | exact hh ▸ Below.refl _ _
    clear hL0 hh
    replace B := B.trans (hb.mono B.size)
    go_wp2_with fail
    go_ret
    exact ⟨rfl, B⟩
  · skip
    have hC := HC.size
    have hN := HN.size
    have CNO := fun (v : World) (h : Below w.heap.size w v) => implNowX AC AN y x ct v (HC.below h) (HN.below h) hwf
    have CHO := fun v => implHolds_any (nowL y x ct) (nowH y x ct) xt v
    clear HC HN hwf
    have A0 := Below.nw w (.cells AC 54)
    have A1 := Below.nw (w.alloc (.cells AC 54)) (.cells AN 66)
    have C := (Bo.new w AC 54).below A1
    have N := Bo.new (w.alloc (.cells AC 54)) AN 66
    have B := A0
    replace B := B.trans (A1.mono B.size)
    simp only [World.size_alloc] at N
    clear A0 A1
    go_enter Tryz.func38, Tryz.ntmps38
    go_upto_region 1 with fail
    generalize ((w.alloc (.cells AC 54))).alloc (.cells AN 66) = v0 at *
    have hL0 := C.load (P := Tryz.prog) hC
    have hL1 := N.load (P := Tryz.prog) hN
    go_wp2_with (first | rw [hL0] | rw [hL1])
    refine (CNO v0 B).mono ?_
    rintro e v1 ⟨rfl, hb⟩
    clear hL0 hL1
    replace B := B.trans (hb.mono B.size)
    replace C := C.below hb
    replace N := N.below hb
    clear hb
    have hst := storeNew (P := Tryz.prog) v1 (#[.int .i64 0, .int .i64 0]) (#[.int .i64 (nowL y x ct), .int .i64 (nowH y x ct)]) 46 rfl (List.forall_mem_cons.2 ⟨rfl, (List.forall_mem_cons.2 ⟨rfl, fun _ h => nomatch h⟩)⟩)
    have gQC : w.heap.size < v1.heap.size := C.1
    have gQN : w.heap.size + 1 < v1.heap.size := N.1
    have hb := Below.nw v1 (.cells #[.int .i64 (nowL y x ct), .int .i64 (nowH y x ct)] 46)
    have Q := Bo.new v1 #[.int .i64 (nowL y x ct), .int .i64 (nowH y x ct)] 46
    go_upto_region 2 with (rw [hst])
    clear hst
    replace B := B.trans (hb.mono B.size)
    replace C := C.below hb
    replace N := N.below hb
    clear hb
    generalize v1.alloc (.cells #[.int .i64 (nowL y x ct), .int .i64 (nowH y x ct)] 46) = v2 at *
    generalize v1.heap.size = kQ at *
    go_wp2_with fail
    go_ret
    exact ⟨rfl, B⟩
end Go.Proofs.YtfhappkeipcemaaGreat
