/- What a node knows at a count (the specification), over arrays of cells -/
import Derived.Test.YtikbjljkakabdaaGreatMB19
import Derived.Test.YtikbjljkakabdaaGreatMB20
import Derived.Test.YtikbjljkakabdaaGreatMB24
namespace Go.Proofs.YtikbjljkakabdaaGreat
open Go.RowKit
set_option linter.unusedVariables false
set_option maxRecDepth 100000
set_option maxHeartbeats 16000000
def cw (y : CfX) (x : NdX) (ct : Int) : Int := match dI y with | false => 1 | true => fiI (okX x) (cmX x ct) x.mo
theorem iY {a b : Bool} {m : Int} : (fiI a b m == 1) = !(a && b) := by
 unfold fiI
 cases a <;> cases b <;> first | rfl | (cases h : (m == 0) <;> rfl)
def dg (y : CfX) (x : NdX) (ct : Int) : Int := match dI y with
 | false => 1
 | true => match okX x && cmX x ct with
  | false => 1
  | true => match crC x.kn x.lo x.hi x.la y.dn y.dd ct == 0 with
   | true => 0
   | false => match crC x.kn x.lo x.hi x.la y.dn y.dd ct == 2 with | true => 8 | false => 10
def aq (y : CfX) (x : NdX) (ct : Int) : Int := match dg y x ct == 0 with | true => crL x.kn x.lo x.hi x.la y.dn y.dd ct | false => 0
def ap (y : CfX) (x : NdX) (ct : Int) : Int := match dg y x ct == 0 with | true => crH x.kn x.lo x.hi x.la y.dn y.dd ct | false => 0
attribute [-go_sem] loadCells storeCells in
theorem m6 (AC AN : Array Value) (y : CfX) (x : NdX) (ct : Int) (w : World) (HC : CfS w AC y) (HN : NdS w AN x) :
 Calls Tryz.prog 25 #[.agg AC, .agg AN, .int .i64 ct] w fun e w' => e = .returned (.int .i64 (cw y x ct)) ∧ Below w.heap.size w w' := by
 unfold cw
 cases hk : dI y
 ·have A0 := Below.nw w (.cells AC 66)
  have A1 := Below.nw (w.alloc (.cells AC 66)) (.cells AN 57)
  have C := (Bo.new w AC 66).below A1
  have N := Bo.new (w.alloc (.cells AC 66)) AN 57
  have B := A0
  replace B := B.trans (A1.mono B.size)
  simp only [World.size_alloc] at N
  clear A0 A1
  have hC := HC.size
  have hN := HN.size
  have CF := fun (v : World) (h : Below w.heap.size w v) => bK AN x ct v (HN.below h)
  have CK := fun (v : World) (h : Below w.heap.size w v) => bJ AC y v (HC.below h)
  clear HC HN
  go_enter Tryz.func25, Tryz.ntmps25
  go_upto_region 1 with fail
  generalize ((w.alloc (.cells AC 66))).alloc (.cells AN 57) = v0 at *
  have hL0 := C.load (P := Tryz.prog) hC
  go_wp2_with (rw [hL0])
  refine (CK v0 B).mono ?_
  rintro e v1 ⟨rfl, hb⟩
  clear hL0
  rw [hk]
  replace B := B.trans (hb.mono B.size)
  replace C := C.below hb
  replace N := N.below hb
  clear hb
  go_wp2_with fail
  go_ret
  exact ⟨rfl, B⟩
 ·have A0 := Below.nw w (.cells AC 66)
  have A1 := Below.nw (w.alloc (.cells AC 66)) (.cells AN 57)
  have C := (Bo.new w AC 66).below A1
  have N := Bo.new (w.alloc (.cells AC 66)) AN 57
  have B := A0
  replace B := B.trans (A1.mono B.size)
  simp only [World.size_alloc] at N
  clear A0 A1
  have hC := HC.size
  have hN := HN.size
  have CF := fun (v : World) (h : Below w.heap.size w v) => bK AN x ct v (HN.below h)
  have CK := fun (v : World) (h : Below w.heap.size w v) => bJ AC y v (HC.below h)
  clear HC HN
  go_enter Tryz.func25, Tryz.ntmps25
  go_upto_region 1 with fail
  generalize ((w.alloc (.cells AC 66))).alloc (.cells AN 57) = v0 at *
  have hL0 := C.load (P := Tryz.prog) hC
  go_wp2_with (rw [hL0])
  refine (CK v0 B).mono ?_
  rintro e v1 ⟨rfl, hb⟩
  clear hL0
  rw [hk]
  replace B := B.trans (hb.mono B.size)
  replace C := C.below hb
  replace N := N.below hb
  clear hb
  have hL0 := N.load (P := Tryz.prog) hN
  go_wp2_with (rw [hL0])
  refine (CF v1 B).mono ?_
  rintro e v2 ⟨rfl, hb⟩
  clear hL0
  replace B := B.trans (hb.mono B.size)
  replace C := C.below hb
  replace N := N.below hb
  clear hb
  go_wp2_with fail
  go_ret
  exact ⟨rfl, B⟩
attribute [-go_sem] loadCells storeCells in
theorem qJ (AC AN : Array Value) (y : CfX) (x : NdX) (ct : Int) (w : World) (HC : CfS w AC y) (HN : NdS w AN x) :
 Calls Tryz.prog 61 #[.agg AC, .agg AN, .int .i64 ct] w fun e w' => e = .returned (.tuple #[.agg #[.int .i64 (aq y x ct), .int .i64 (ap y x ct)], .int .i64 (dg y x ct)]) ∧ Below w.heap.size w w' := by
 cases hk : dI y
 ·have hC' : dg y x ct = 1 := by unfold dg; simp only [hk]
  have hL' : aq y x ct = 0 := by unfold aq; rw [hC']; rfl
  have hH' : ap y x ct = 0 := by unfold ap; rw [hC']; rfl
  have CF := fun (v : World) (h : Below w.heap.size w v) => bK AN x ct v (HN.below h)
  have CK := fun (v : World) (h : Below w.heap.size w v) => bJ AC y v (HC.below h)
  have CA := fun v => bi x.kn x.lo x.hi x.la y.dn y.dd ct v
  obtain ⟨p, d, rfl, -, -⟩ := HC
  obtain ⟨aa, ac, pa, pc, ha, hc, rfl, -, -, -, -⟩ := HN
  have A0 := Below.nw w (.cells (cfV y p d) 66)
  have A1 := Below.nw (w.alloc (.cells (cfV y p d) 66)) (.cells (ndV x aa ac pa pc ha hc) 57)
  have A2 := Below.nw (((w.alloc (.cells (cfV y p d) 66))).alloc (.cells (ndV x aa ac pa pc ha hc) 57)) (.cells #[.int .i64 0, .int .i64 0] 47)
  have C := ((Bo.new w (cfV y p d) 66).below A1).below A2
  have N := (Bo.new (w.alloc (.cells (cfV y p d) 66)) (ndV x aa ac pa pc ha hc) 57).below A2
  have R := Bo.new (((w.alloc (.cells (cfV y p d) 66))).alloc (.cells (ndV x aa ac pa pc ha hc) 57)) #[.int .i64 0, .int .i64 0] 47
  have B := A0
  replace B := B.trans (A1.mono B.size)
  replace B := B.trans (A2.mono B.size)
  simp only [World.size_alloc] at N R
  clear A0 A1 A2
  go_enter Tryz.func61, Tryz.ntmps61
  go_upto_region 1 with fail
  generalize ((((w.alloc (.cells (cfV y p d) 66))).alloc (.cells (ndV x aa ac pa pc ha hc) 57))).alloc (.cells #[.int .i64 0, .int .i64 0] 47) = v0 at *
  have hL0 := C.load (P := Tryz.prog) (show ((cfV y p d) : Array Value).size = 11 from rfl)
  go_wp2_with (rw [hL0])
  refine (CK v0 B).mono ?_
  rintro e v1 ⟨rfl, hb⟩
  clear hL0
  rw [hk]
  replace B := B.trans (hb.mono B.size)
  replace C := C.below hb
  replace N := N.below hb
  replace R := R.below hb
  clear hb
  have hst := Bo.store (P := Tryz.prog) (b := 0) ([.int .i64 (0), .int .i64 (0)]) 0 0 R rfl (show 0 + 2 ≤ 2 by decide) (List.forall_mem_cons.2 ⟨rfl, (List.forall_mem_cons.2 ⟨rfl, fun _ h => nomatch h⟩)⟩)
  have hb : Btw (w.heap.size + 2) (w.heap.size + 2 + 1) v1 _ := ay ([.int .i64 (0), .int .i64 (0)]) v1 0 (w.heap.size + 2)
  have B1 := an (k := w.heap.size + 2) ([.int .i64 (0), .int .i64 (0)]) w v1 0 B (by omega)
  have N1 : Bo (aF v1 (w.heap.size + 2) 0 ([.int .i64 (0), .int .i64 (0)])) (w.heap.size + 2) (#[.int .i64 (0), .int .i64 (0)]) := Bo.put ([.int .i64 (0), .int .i64 (0)]) 0 R
  go_wp2_with (rw [hst])
  clear hst  R B
  replace C := C.btw hb (by omega)
  replace N := N.btw hb (by omega)
  clear hb
  generalize aF v1 (w.heap.size + 2) 0 ([.int .i64 (0), .int .i64 (0)]) = v2 at *
  have B := B1
  have R := N1
  clear B1 N1
  have hL0 := R.load (P := Tryz.prog) (show (#[.int .i64 (0), .int .i64 (0)] : Array Value).size = 2 from rfl)
  exact bodyPost_ret (v := .tuple #[.agg #[.int .i64 (0), .int .i64 (0)], .int .i64 1]) (by simp [results, Tryz.results61, go_sem]; rw [hL0]; rfl) rfl ⟨by rw [hC', hL', hH'], B⟩
 cases ho : okX x && cmX x ct
 ·have hC' : dg y x ct = 1 := by unfold dg; simp only [hk, ho]
  have hL' : aq y x ct = 0 := by unfold aq; rw [hC']; rfl
  have hH' : ap y x ct = 0 := by unfold ap; rw [hC']; rfl
  have CF := fun (v : World) (h : Below w.heap.size w v) => bK AN x ct v (HN.below h)
  have CK := fun (v : World) (h : Below w.heap.size w v) => bJ AC y v (HC.below h)
  have CA := fun v => bi x.kn x.lo x.hi x.la y.dn y.dd ct v
  obtain ⟨p, d, rfl, -, -⟩ := HC
  obtain ⟨aa, ac, pa, pc, ha, hc, rfl, -, -, -, -⟩ := HN
  have A0 := Below.nw w (.cells (cfV y p d) 66)
  have A1 := Below.nw (w.alloc (.cells (cfV y p d) 66)) (.cells (ndV x aa ac pa pc ha hc) 57)
  have A2 := Below.nw (((w.alloc (.cells (cfV y p d) 66))).alloc (.cells (ndV x aa ac pa pc ha hc) 57)) (.cells #[.int .i64 0, .int .i64 0] 47)
  have C := ((Bo.new w (cfV y p d) 66).below A1).below A2
  have N := (Bo.new (w.alloc (.cells (cfV y p d) 66)) (ndV x aa ac pa pc ha hc) 57).below A2
  have R := Bo.new (((w.alloc (.cells (cfV y p d) 66))).alloc (.cells (ndV x aa ac pa pc ha hc) 57)) #[.int .i64 0, .int .i64 0] 47
  have B := A0
  replace B := B.trans (A1.mono B.size)
  replace B := B.trans (A2.mono B.size)
  simp only [World.size_alloc] at N R
  clear A0 A1 A2
  go_enter Tryz.func61, Tryz.ntmps61
  go_upto_region 1 with fail
  generalize ((((w.alloc (.cells (cfV y p d) 66))).alloc (.cells (ndV x aa ac pa pc ha hc) 57))).alloc (.cells #[.int .i64 0, .int .i64 0] 47) = v0 at *
  have hL0 := C.load (P := Tryz.prog) (show ((cfV y p d) : Array Value).size = 11 from rfl)
  go_wp2_with (rw [hL0])
  refine (CK v0 B).mono ?_
  rintro e v1 ⟨rfl, hb⟩
  clear hL0
  rw [hk]
  replace B := B.trans (hb.mono B.size)
  replace C := C.below hb
  replace N := N.below hb
  replace R := R.below hb
  clear hb
  have hL0 := N.load (P := Tryz.prog) (show ((ndV x aa ac pa pc ha hc) : Array Value).size = 16 from rfl)
  go_wp2_with (rw [hL0])
  refine (CF v1 B).mono ?_
  rintro e v2 ⟨rfl, hb⟩
  clear hL0
  have hfi := @iY (okX x) (cmX x ct) x.mo
  rw [ho] at hfi
  replace B := B.trans (hb.mono B.size)
  replace C := C.below hb
  replace N := N.below hb
  replace R := R.below hb
  clear hb
  have hst := Bo.store (P := Tryz.prog) (b := 0) ([.int .i64 (0), .int .i64 (0)]) 0 0 R rfl (show 0 + 2 ≤ 2 by decide) (List.forall_mem_cons.2 ⟨rfl, (List.forall_mem_cons.2 ⟨rfl, fun _ h => nomatch h⟩)⟩)
  have hb : Btw (w.heap.size + 2) (w.heap.size + 2 + 1) v2 _ := ay ([.int .i64 (0), .int .i64 (0)]) v2 0 (w.heap.size + 2)
  have B1 := an (k := w.heap.size + 2) ([.int .i64 (0), .int .i64 (0)]) w v2 0 B (by omega)
  have N1 : Bo (aF v2 (w.heap.size + 2) 0 ([.int .i64 (0), .int .i64 (0)])) (w.heap.size + 2) (#[.int .i64 (0), .int .i64 (0)]) := Bo.put ([.int .i64 (0), .int .i64 (0)]) 0 R
  go_wp2_with (rw [hst])
  clear hst  R B
  replace C := C.btw hb (by omega)
  replace N := N.btw hb (by omega)
  clear hb
  generalize aF v2 (w.heap.size + 2) 0 ([.int .i64 (0), .int .i64 (0)]) = v3 at *
  have B := B1
  have R := N1
  clear B1 N1
  have hL0 := R.load (P := Tryz.prog) (show (#[.int .i64 (0), .int .i64 (0)] : Array Value).size = 2 from rfl)
  exact bodyPost_ret (v := .tuple #[.agg #[.int .i64 (0), .int .i64 (0)], .int .i64 1]) (by simp [results, Tryz.results61, go_sem]; rw [hL0]; rfl) rfl ⟨by rw [hC', hL', hH'], B⟩
 cases h0 : crC x.kn x.lo x.hi x.la y.dn y.dd ct == 0
 ·cases h2 : crC x.kn x.lo x.hi x.la y.dn y.dd ct == 2
  ·have hC' : dg y x ct = 10 := by unfold dg; simp only [hk, ho, h0, h2]
   have hL' : aq y x ct = 0 := by unfold aq; rw [hC']; rfl
   have hH' : ap y x ct = 0 := by unfold ap; rw [hC']; rfl
   have CF := fun (v : World) (h : Below w.heap.size w v) => bK AN x ct v (HN.below h)
   have CK := fun (v : World) (h : Below w.heap.size w v) => bJ AC y v (HC.below h)
   have CA := fun v => bi x.kn x.lo x.hi x.la y.dn y.dd ct v
   obtain ⟨p, d, rfl, -, -⟩ := HC
   obtain ⟨aa, ac, pa, pc, ha, hc, rfl, -, -, -, -⟩ := HN
   have A0 := Below.nw w (.cells (cfV y p d) 66)
   have A1 := Below.nw (w.alloc (.cells (cfV y p d) 66)) (.cells (ndV x aa ac pa pc ha hc) 57)
   have A2 := Below.nw (((w.alloc (.cells (cfV y p d) 66))).alloc (.cells (ndV x aa ac pa pc ha hc) 57)) (.cells #[.int .i64 0, .int .i64 0] 47)
   have C := ((Bo.new w (cfV y p d) 66).below A1).below A2
   have N := (Bo.new (w.alloc (.cells (cfV y p d) 66)) (ndV x aa ac pa pc ha hc) 57).below A2
   have R := Bo.new (((w.alloc (.cells (cfV y p d) 66))).alloc (.cells (ndV x aa ac pa pc ha hc) 57)) #[.int .i64 0, .int .i64 0] 47
   have B := A0
   replace B := B.trans (A1.mono B.size)
   replace B := B.trans (A2.mono B.size)
   simp only [World.size_alloc] at N R
   clear A0 A1 A2
   go_enter Tryz.func61, Tryz.ntmps61
   go_upto_region 1 with fail
   generalize ((((w.alloc (.cells (cfV y p d) 66))).alloc (.cells (ndV x aa ac pa pc ha hc) 57))).alloc (.cells #[.int .i64 0, .int .i64 0] 47) = v0 at *
   have hL0 := C.load (P := Tryz.prog) (show ((cfV y p d) : Array Value).size = 11 from rfl)
   go_wp2_with (rw [hL0])
   refine (CK v0 B).mono ?_
   rintro e v1 ⟨rfl, hb⟩
   clear hL0
   rw [hk]
   replace B := B.trans (hb.mono B.size)
   replace C := C.below hb
   replace N := N.below hb
   replace R := R.below hb
   clear hb
   have hL0 := N.load (P := Tryz.prog) (show ((ndV x aa ac pa pc ha hc) : Array Value).size = 16 from rfl)
   go_wp2_with (rw [hL0])
   refine (CF v1 B).mono ?_
   rintro e v2 ⟨rfl, hb⟩
   clear hL0
   have hfi := @iY (okX x) (cmX x ct) x.mo
   rw [ho] at hfi
   replace B := B.trans (hb.mono B.size)
   replace C := C.below hb
   replace N := N.below hb
   replace R := R.below hb
   clear hb
   have hL0 : (loadCells ⟨w.heap.size + 1, 4, none⟩ 4).run Tryz.prog v2 = .ok #[.bool x.kn, .int .i64 x.lo, .int .i64 x.hi, .int .i64 x.la] v2 := N.loadAt (P := Tryz.prog) 4 4 (show 4 + 4 ≤ 16 by decide)
   have hL1 : (loadCells ⟨w.heap.size, 0, none⟩ 2).run Tryz.prog v2 = .ok #[.int .i64 y.dn, .int .i64 y.dd] v2 := C.loadAt (P := Tryz.prog) 0 2 (show 0 + 2 ≤ 11 by decide)
   go_wp2_with (first | rw [hL0] | rw [hL1])
   refine (CA v2).mono ?_
   rintro e v3 ⟨rfl, hb⟩
   clear hL0 hL1
   replace B := B.trans (hb.mono B.size)
   replace C := C.below hb
   replace N := N.below hb
   replace R := R.below hb
   clear hb
   have hst := bg (P := Tryz.prog) v3 (#[.int .i64 0, .int .i64 0]) (#[.int .i64 (crL x.kn x.lo x.hi x.la y.dn y.dd ct), .int .i64 (crH x.kn x.lo x.hi x.la y.dn y.dd ct)]) 47 rfl (List.forall_mem_cons.2 ⟨rfl, (List.forall_mem_cons.2 ⟨rfl, fun _ h => nomatch h⟩)⟩)
   have gQC : w.heap.size < v3.heap.size := C.1
   have gQN : w.heap.size + 1 < v3.heap.size := N.1
   have gQR : w.heap.size + 2 < v3.heap.size := R.1
   have hb := Below.nw v3 (.cells #[.int .i64 (crL x.kn x.lo x.hi x.la y.dn y.dd ct), .int .i64 (crH x.kn x.lo x.hi x.la y.dn y.dd ct)] 47)
   have Q := Bo.new v3 #[.int .i64 (crL x.kn x.lo x.hi x.la y.dn y.dd ct), .int .i64 (crH x.kn x.lo x.hi x.la y.dn y.dd ct)] 47
   go_upto_region 4 with (rw [hst])
   clear hst
   replace B := B.trans (hb.mono B.size)
   replace C := C.below hb
   replace N := N.below hb
   replace R := R.below hb
   clear hb
   generalize v3.alloc (.cells #[.int .i64 (crL x.kn x.lo x.hi x.la y.dn y.dd ct), .int .i64 (crH x.kn x.lo x.hi x.la y.dn y.dd ct)] 47) = v4 at *
   generalize v3.heap.size = kQ at *
   have hst := Bo.store (P := Tryz.prog) (b := 0) ([.int .i64 (0), .int .i64 (0)]) 0 0 R rfl (show 0 + 2 ≤ 2 by decide) (List.forall_mem_cons.2 ⟨rfl, (List.forall_mem_cons.2 ⟨rfl, fun _ h => nomatch h⟩)⟩)
   have hb : Btw (w.heap.size + 2) (w.heap.size + 2 + 1) v4 _ := ay ([.int .i64 (0), .int .i64 (0)]) v4 0 (w.heap.size + 2)
   have B1 := an (k := w.heap.size + 2) ([.int .i64 (0), .int .i64 (0)]) w v4 0 B (by omega)
   have N1 : Bo (aF v4 (w.heap.size + 2) 0 ([.int .i64 (0), .int .i64 (0)])) (w.heap.size + 2) (#[.int .i64 (0), .int .i64 (0)]) := Bo.put ([.int .i64 (0), .int .i64 (0)]) 0 R
   go_wp2_with (rw [hst])
   clear hst  R B
   replace C := C.btw hb (by omega)
   replace N := N.btw hb (by omega)
   replace Q := Q.btw hb (by omega)
   clear hb
   generalize aF v4 (w.heap.size + 2) 0 ([.int .i64 (0), .int .i64 (0)]) = v5 at *
   have B := B1
   have R := N1
   clear B1 N1
   have hL0 := R.load (P := Tryz.prog) (show (#[.int .i64 (0), .int .i64 (0)] : Array Value).size = 2 from rfl)
   exact bodyPost_ret (v := .tuple #[.agg #[.int .i64 (0), .int .i64 (0)], .int .i64 10]) (by simp [results, Tryz.results61, go_sem]; rw [hL0]; rfl) rfl ⟨by rw [hC', hL', hH'], B⟩
  ·have hC' : dg y x ct = 8 := by unfold dg; simp only [hk, ho, h0, h2]
   have hL' : aq y x ct = 0 := by unfold aq; rw [hC']; rfl
   have hH' : ap y x ct = 0 := by unfold ap; rw [hC']; rfl
   have CF := fun (v : World) (h : Below w.heap.size w v) => bK AN x ct v (HN.below h)
   have CK := fun (v : World) (h : Below w.heap.size w v) => bJ AC y v (HC.below h)
   have CA := fun v => bi x.kn x.lo x.hi x.la y.dn y.dd ct v
   obtain ⟨p, d, rfl, -, -⟩ := HC
   obtain ⟨aa, ac, pa, pc, ha, hc, rfl, -, -, -, -⟩ := HN
   have A0 := Below.nw w (.cells (cfV y p d) 66)
   have A1 := Below.nw (w.alloc (.cells (cfV y p d) 66)) (.cells (ndV x aa ac pa pc ha hc) 57)
   have A2 := Below.nw (((w.alloc (.cells (cfV y p d) 66))).alloc (.cells (ndV x aa ac pa pc ha hc) 57)) (.cells #[.int .i64 0, .int .i64 0] 47)
   have C := ((Bo.new w (cfV y p d) 66).below A1).below A2
   have N := (Bo.new (w.alloc (.cells (cfV y p d) 66)) (ndV x aa ac pa pc ha hc) 57).below A2
   have R := Bo.new (((w.alloc (.cells (cfV y p d) 66))).alloc (.cells (ndV x aa ac pa pc ha hc) 57)) #[.int .i64 0, .int .i64 0] 47
   have B := A0
   replace B := B.trans (A1.mono B.size)
   replace B := B.trans (A2.mono B.size)
   simp only [World.size_alloc] at N R
   clear A0 A1 A2
   go_enter Tryz.func61, Tryz.ntmps61
   go_upto_region 1 with fail
   generalize ((((w.alloc (.cells (cfV y p d) 66))).alloc (.cells (ndV x aa ac pa pc ha hc) 57))).alloc (.cells #[.int .i64 0, .int .i64 0] 47) = v0 at *
   have hL0 := C.load (P := Tryz.prog) (show ((cfV y p d) : Array Value).size = 11 from rfl)
   go_wp2_with (rw [hL0])
   refine (CK v0 B).mono ?_
   rintro e v1 ⟨rfl, hb⟩
   clear hL0
   rw [hk]
   replace B := B.trans (hb.mono B.size)
   replace C := C.below hb
   replace N := N.below hb
   replace R := R.below hb
   clear hb
   have hL0 := N.load (P := Tryz.prog) (show ((ndV x aa ac pa pc ha hc) : Array Value).size = 16 from rfl)
   go_wp2_with (rw [hL0])
   refine (CF v1 B).mono ?_
   rintro e v2 ⟨rfl, hb⟩
   clear hL0
   have hfi := @iY (okX x) (cmX x ct) x.mo
   rw [ho] at hfi
   replace B := B.trans (hb.mono B.size)
   replace C := C.below hb
   replace N := N.below hb
   replace R := R.below hb
   clear hb
   have hL0 : (loadCells ⟨w.heap.size + 1, 4, none⟩ 4).run Tryz.prog v2 = .ok #[.bool x.kn, .int .i64 x.lo, .int .i64 x.hi, .int .i64 x.la] v2 := N.loadAt (P := Tryz.prog) 4 4 (show 4 + 4 ≤ 16 by decide)
   have hL1 : (loadCells ⟨w.heap.size, 0, none⟩ 2).run Tryz.prog v2 = .ok #[.int .i64 y.dn, .int .i64 y.dd] v2 := C.loadAt (P := Tryz.prog) 0 2 (show 0 + 2 ≤ 11 by decide)
   go_wp2_with (first | rw [hL0] | rw [hL1])
   refine (CA v2).mono ?_
   rintro e v3 ⟨rfl, hb⟩
   clear hL0 hL1
   replace B := B.trans (hb.mono B.size)
   replace C := C.below hb
   replace N := N.below hb
   replace R := R.below hb
   clear hb
   have hst := bg (P := Tryz.prog) v3 (#[.int .i64 0, .int .i64 0]) (#[.int .i64 (crL x.kn x.lo x.hi x.la y.dn y.dd ct), .int .i64 (crH x.kn x.lo x.hi x.la y.dn y.dd ct)]) 47 rfl (List.forall_mem_cons.2 ⟨rfl, (List.forall_mem_cons.2 ⟨rfl, fun _ h => nomatch h⟩)⟩)
   have gQC : w.heap.size < v3.heap.size := C.1
   have gQN : w.heap.size + 1 < v3.heap.size := N.1
   have gQR : w.heap.size + 2 < v3.heap.size := R.1
   have hb := Below.nw v3 (.cells #[.int .i64 (crL x.kn x.lo x.hi x.la y.dn y.dd ct), .int .i64 (crH x.kn x.lo x.hi x.la y.dn y.dd ct)] 47)
   have Q := Bo.new v3 #[.int .i64 (crL x.kn x.lo x.hi x.la y.dn y.dd ct), .int .i64 (crH x.kn x.lo x.hi x.la y.dn y.dd ct)] 47
   go_upto_region 4 with (rw [hst])
   clear hst
   replace B := B.trans (hb.mono B.size)
   replace C := C.below hb
   replace N := N.below hb
   replace R := R.below hb
   clear hb
   generalize v3.alloc (.cells #[.int .i64 (crL x.kn x.lo x.hi x.la y.dn y.dd ct), .int .i64 (crH x.kn x.lo x.hi x.la y.dn y.dd ct)] 47) = v4 at *
   generalize v3.heap.size = kQ at *
   have hst := Bo.store (P := Tryz.prog) (b := 0) ([.int .i64 (0), .int .i64 (0)]) 0 0 R rfl (show 0 + 2 ≤ 2 by decide) (List.forall_mem_cons.2 ⟨rfl, (List.forall_mem_cons.2 ⟨rfl, fun _ h => nomatch h⟩)⟩)
   have hb : Btw (w.heap.size + 2) (w.heap.size + 2 + 1) v4 _ := ay ([.int .i64 (0), .int .i64 (0)]) v4 0 (w.heap.size + 2)
   have B1 := an (k := w.heap.size + 2) ([.int .i64 (0), .int .i64 (0)]) w v4 0 B (by omega)
   have N1 : Bo (aF v4 (w.heap.size + 2) 0 ([.int .i64 (0), .int .i64 (0)])) (w.heap.size + 2) (#[.int .i64 (0), .int .i64 (0)]) := Bo.put ([.int .i64 (0), .int .i64 (0)]) 0 R
   go_wp2_with (rw [hst])
   clear hst  R B
   replace C := C.btw hb (by omega)
   replace N := N.btw hb (by omega)
   replace Q := Q.btw hb (by omega)
   clear hb
   generalize aF v4 (w.heap.size + 2) 0 ([.int .i64 (0), .int .i64 (0)]) = v5 at *
   have B := B1
   have R := N1
   clear B1 N1
   have hL0 := R.load (P := Tryz.prog) (show (#[.int .i64 (0), .int .i64 (0)] : Array Value).size = 2 from rfl)
   exact bodyPost_ret (v := .tuple #[.agg #[.int .i64 (0), .int .i64 (0)], .int .i64 8]) (by simp [results, Tryz.results61, go_sem]; rw [hL0]; rfl) rfl ⟨by rw [hC', hL', hH'], B⟩
 ·have hC' : dg y x ct = 0 := by unfold dg; simp only [hk, ho, h0]
  have hL' : aq y x ct = crL x.kn x.lo x.hi x.la y.dn y.dd ct := by unfold aq; rw [hC']; rfl
  have hH' : ap y x ct = crH x.kn x.lo x.hi x.la y.dn y.dd ct := by unfold ap; rw [hC']; rfl
  have CF := fun (v : World) (h : Below w.heap.size w v) => bK AN x ct v (HN.below h)
  have CK := fun (v : World) (h : Below w.heap.size w v) => bJ AC y v (HC.below h)
  have CA := fun v => bi x.kn x.lo x.hi x.la y.dn y.dd ct v
  obtain ⟨p, d, rfl, -, -⟩ := HC
  obtain ⟨aa, ac, pa, pc, ha, hc, rfl, -, -, -, -⟩ := HN
  have A0 := Below.nw w (.cells (cfV y p d) 66)
  have A1 := Below.nw (w.alloc (.cells (cfV y p d) 66)) (.cells (ndV x aa ac pa pc ha hc) 57)
  have A2 := Below.nw (((w.alloc (.cells (cfV y p d) 66))).alloc (.cells (ndV x aa ac pa pc ha hc) 57)) (.cells #[.int .i64 0, .int .i64 0] 47)
  have C := ((Bo.new w (cfV y p d) 66).below A1).below A2
  have N := (Bo.new (w.alloc (.cells (cfV y p d) 66)) (ndV x aa ac pa pc ha hc) 57).below A2
  have R := Bo.new (((w.alloc (.cells (cfV y p d) 66))).alloc (.cells (ndV x aa ac pa pc ha hc) 57)) #[.int .i64 0, .int .i64 0] 47
  have B := A0
  replace B := B.trans (A1.mono B.size)
  replace B := B.trans (A2.mono B.size)
  simp only [World.size_alloc] at N R
  clear A0 A1 A2
  go_enter Tryz.func61, Tryz.ntmps61
  go_upto_region 1 with fail
  generalize ((((w.alloc (.cells (cfV y p d) 66))).alloc (.cells (ndV x aa ac pa pc ha hc) 57))).alloc (.cells #[.int .i64 0, .int .i64 0] 47) = v0 at *
  have hL0 := C.load (P := Tryz.prog) (show ((cfV y p d) : Array Value).size = 11 from rfl)
  go_wp2_with (rw [hL0])
  refine (CK v0 B).mono ?_
  rintro e v1 ⟨rfl, hb⟩
  clear hL0
  rw [hk]
  replace B := B.trans (hb.mono B.size)
  replace C := C.below hb
  replace N := N.below hb
  replace R := R.below hb
  clear hb
  have hL0 := N.load (P := Tryz.prog) (show ((ndV x aa ac pa pc ha hc) : Array Value).size = 16 from rfl)
  go_wp2_with (rw [hL0])
  refine (CF v1 B).mono ?_
  rintro e v2 ⟨rfl, hb⟩
  clear hL0
  have hfi := @iY (okX x) (cmX x ct) x.mo
  rw [ho] at hfi
  replace B := B.trans (hb.mono B.size)
  replace C := C.below hb
  replace N := N.below hb
  replace R := R.below hb
  clear hb
  have hL0 : (loadCells ⟨w.heap.size + 1, 4, none⟩ 4).run Tryz.prog v2 = .ok #[.bool x.kn, .int .i64 x.lo, .int .i64 x.hi, .int .i64 x.la] v2 := N.loadAt (P := Tryz.prog) 4 4 (show 4 + 4 ≤ 16 by decide)
  have hL1 : (loadCells ⟨w.heap.size, 0, none⟩ 2).run Tryz.prog v2 = .ok #[.int .i64 y.dn, .int .i64 y.dd] v2 := C.loadAt (P := Tryz.prog) 0 2 (show 0 + 2 ≤ 11 by decide)
  go_wp2_with (first | rw [hL0] | rw [hL1])
  refine (CA v2).mono ?_
  rintro e v3 ⟨rfl, hb⟩
  clear hL0 hL1
  replace B := B.trans (hb.mono B.size)
  replace C := C.below hb
  replace N := N.below hb
  replace R := R.below hb
  clear hb
  have hst := bg (P := Tryz.prog) v3 (#[.int .i64 0, .int .i64 0]) (#[.int .i64 (crL x.kn x.lo x.hi x.la y.dn y.dd ct), .int .i64 (crH x.kn x.lo x.hi x.la y.dn y.dd ct)]) 47 rfl (List.forall_mem_cons.2 ⟨rfl, (List.forall_mem_cons.2 ⟨rfl, fun _ h => nomatch h⟩)⟩)
  have gQC : w.heap.size < v3.heap.size := C.1
  have gQN : w.heap.size + 1 < v3.heap.size := N.1
  have gQR : w.heap.size + 2 < v3.heap.size := R.1
  have hb := Below.nw v3 (.cells #[.int .i64 (crL x.kn x.lo x.hi x.la y.dn y.dd ct), .int .i64 (crH x.kn x.lo x.hi x.la y.dn y.dd ct)] 47)
  have Q := Bo.new v3 #[.int .i64 (crL x.kn x.lo x.hi x.la y.dn y.dd ct), .int .i64 (crH x.kn x.lo x.hi x.la y.dn y.dd ct)] 47
  go_upto_region 4 with (rw [hst])
  clear hst
  replace B := B.trans (hb.mono B.size)
  replace C := C.below hb
  replace N := N.below hb
  replace R := R.below hb
  clear hb
  generalize v3.alloc (.cells #[.int .i64 (crL x.kn x.lo x.hi x.la y.dn y.dd ct), .int .i64 (crH x.kn x.lo x.hi x.la y.dn y.dd ct)] 47) = v4 at *
  generalize v3.heap.size = kQ at *
  have hL0 := Q.load (P := Tryz.prog) (show (#[.int .i64 (crL x.kn x.lo x.hi x.la y.dn y.dd ct), .int .i64 (crH x.kn x.lo x.hi x.la y.dn y.dd ct)] : Array Value).size = 2 from rfl)
  have hst := Bo.store (P := Tryz.prog) (b := 0) ([.int .i64 (crL x.kn x.lo x.hi x.la y.dn y.dd ct), .int .i64 (crH x.kn x.lo x.hi x.la y.dn y.dd ct)]) 0 0 R rfl (show 0 + 2 ≤ 2 by decide) (List.forall_mem_cons.2 ⟨rfl, (List.forall_mem_cons.2 ⟨rfl, fun _ h => nomatch h⟩)⟩)
  have hb : Btw (w.heap.size + 2) (w.heap.size + 2 + 1) v4 _ := ay ([.int .i64 (crL x.kn x.lo x.hi x.la y.dn y.dd ct), .int .i64 (crH x.kn x.lo x.hi x.la y.dn y.dd ct)]) v4 0 (w.heap.size + 2)
  have B1 := an (k := w.heap.size + 2) ([.int .i64 (crL x.kn x.lo x.hi x.la y.dn y.dd ct), .int .i64 (crH x.kn x.lo x.hi x.la y.dn y.dd ct)]) w v4 0 B (by omega)
  have N1 : Bo (aF v4 (w.heap.size + 2) 0 ([.int .i64 (crL x.kn x.lo x.hi x.la y.dn y.dd ct), .int .i64 (crH x.kn x.lo x.hi x.la y.dn y.dd ct)])) (w.heap.size + 2) (#[.int .i64 (crL x.kn x.lo x.hi x.la y.dn y.dd ct), .int .i64 (crH x.kn x.lo x.hi x.la y.dn y.dd ct)]) := Bo.put ([.int .i64 (crL x.kn x.lo x.hi x.la y.dn y.dd ct), .int .i64 (crH x.kn x.lo x.hi x.la y.dn y.dd ct)]) 0 R
  go_wp2_with (first | rw [hL0] | rw [hst])
  clear hst hL0 R B
  replace C := C.btw hb (by omega)
  replace N := N.btw hb (by omega)
  replace Q := Q.btw hb (by omega)
  clear hb
  generalize aF v4 (w.heap.size + 2) 0 ([.int .i64 (crL x.kn x.lo x.hi x.la y.dn y.dd ct), .int .i64 (crH x.kn x.lo x.hi x.la y.dn y.dd ct)]) = v5 at *
  have B := B1
  have R := N1
  clear B1 N1
  have hL0 := R.load (P := Tryz.prog) (show (#[.int .i64 (crL x.kn x.lo x.hi x.la y.dn y.dd ct), .int .i64 (crH x.kn x.lo x.hi x.la y.dn y.dd ct)] : Array Value).size = 2 from rfl)
  exact bodyPost_ret (v := .tuple #[.agg #[.int .i64 (crL x.kn x.lo x.hi x.la y.dn y.dd ct), .int .i64 (crH x.kn x.lo x.hi x.la y.dn y.dd ct)], .int .i64 0]) (by simp [results, Tryz.results61, go_sem]; rw [hL0]; rfl) rfl ⟨by rw [hC', hL', hH'], B⟩
theorem ju (ni mo ep si : Int) (kn : Bool) (lo hi la te us : Int) (aa : Option Addr) (na ac : Nat) (AM : Nat → KT) (pa : Option Addr) (np pc : Nat) (QM : Nat → PT) (hs : Bool) (ls : Int) (ha : Option Addr) (nh hc : Nat) (HM : Nat → VT) (se : Int) (kd ct : Int) (w : World) :
 Calls Tryz.prog 30 #[.agg #[.int .i64 ni, .int .i64 mo, .int .i64 ep, .int .i64 si, .bool kn, .int .i64 lo, .int .i64 hi, .int .i64 la, .int .i64 te, .int .i64 us, .slice aa na ac, .slice pa np pc, .bool hs, .int .i64 ls, .slice ha nh hc, .int .i64 se], .int .i64 kd, .int .i64 ct] w fun e w' => e = .returned (.agg #[.int .i64 (stM mo ep si kd ct), .int .i64 (stE mo ep si kd ct), .int .i64 (stS mo ep si kd ct)]) ∧ Below w.heap.size w w' := by
 have A0 := Below.nw w (.cells #[.int .i64 ni, .int .i64 mo, .int .i64 ep, .int .i64 si, .bool kn, .int .i64 lo, .int .i64 hi, .int .i64 la, .int .i64 te, .int .i64 us, .slice aa na ac, .slice pa np pc, .bool hs, .int .i64 ls, .slice ha nh hc, .int .i64 se] 57)
 have A1 := Below.nw (w.alloc (.cells #[.int .i64 ni, .int .i64 mo, .int .i64 ep, .int .i64 si, .bool kn, .int .i64 lo, .int .i64 hi, .int .i64 la, .int .i64 te, .int .i64 us, .slice aa na ac, .slice pa np pc, .bool hs, .int .i64 ls, .slice ha nh hc, .int .i64 se] 57)) (.cells #[.int .i64 0, .int .i64 0, .int .i64 0] 46)
 have N := (aE.new w (.int .i64 ni) (.int .i64 mo) (.int .i64 ep) (.int .i64 si) (.bool kn) (.int .i64 lo) (.int .i64 hi) (.int .i64 la) (.int .i64 te) (.int .i64 us) (.slice aa na ac) (.slice pa np pc) (.bool hs) (.int .i64 ls) (.slice ha nh hc) (.int .i64 se) 57).below A1
 have R := Tx3.new (w.alloc (.cells #[.int .i64 ni, .int .i64 mo, .int .i64 ep, .int .i64 si, .bool kn, .int .i64 lo, .int .i64 hi, .int .i64 la, .int .i64 te, .int .i64 us, .slice aa na ac, .slice pa np pc, .bool hs, .int .i64 ls, .slice ha nh hc, .int .i64 se] 57)) (.int .i64 0) (.int .i64 0) (.int .i64 0) 46
 have B := A0.trans (A1.mono A0.size)
 simp only [World.size_alloc] at R
 clear A0 A1
 have C1 := fun w' => eF mo ep si kd ct w'
 generalize stM mo ep si kd ct = M1 at *
 generalize stE mo ep si kd ct = E1 at *
 generalize stS mo ep si kd ct = S1 at *
 generalize stC mo ep si kd ct = K1 at *
 go_enter Tryz.func30, Tryz.ntmps30
 go_upto_region 1 with fail
 generalize (w.alloc (.cells #[.int .i64 ni, .int .i64 mo, .int .i64 ep, .int .i64 si, .bool kn, .int .i64 lo, .int .i64 hi, .int .i64 la, .int .i64 te, .int .i64 us, .slice aa na ac, .slice pa np pc, .bool hs, .int .i64 ls, .slice ha nh hc, .int .i64 se] 57)).alloc (.cells #[.int .i64 0, .int .i64 0, .int .i64 0] 46) = v at *
 have n0 : _ ∧ _ := N
 go_wp2_with fail
 refine (C1 _).mono ?_
 rintro e v1 ⟨rfl, hb⟩
 clear n0
 replace B := B.trans (hb.mono B.size)
 replace R := R.below hb
 clear hb C1 N
 have A2 := Below.nw v1 (.cells #[.int .i64 M1, .int .i64 E1, .int .i64 S1] 46)
 have Q := Tx3.new v1 (.int .i64 M1) (.int .i64 E1) (.int .i64 S1) 46
 go_upto_region 2 with fail
 replace B := B.trans (A2.mono B.size)
 replace R := R.below A2
 clear A2
 generalize v1.alloc (.cells #[.int .i64 M1, .int .i64 E1, .int .i64 S1] 46) = v2 at *
 generalize v1.heap.size = jq at *
 have r0 : _ ∧ _ := R
 have q0 : _ ∧ _ := Q
 have R1 := ((R.set0 (.int .i64 M1)).set1 (.int .i64 E1)).set2 (.int .i64 S1)
 have B1 := ((B.setCell (p := ⟨w.heap.size + 1, 0, none⟩) (by simp) (.int .i64 M1)).setCell (p := ⟨w.heap.size + 1, 1, none⟩) (by simp) (.int .i64 E1)).setCell (p := ⟨w.heap.size + 1, 2, none⟩) (by simp) (.int .i64 S1)
 go_wp2_with fail
 clear r0 q0 R Q B
 generalize ((v2.setCell ⟨w.heap.size + 1, 0, none⟩ (.int .i64 M1)).setCell ⟨w.heap.size + 1, 1, none⟩ (.int .i64 E1)).setCell ⟨w.heap.size + 1, 2, none⟩ (.int .i64 S1) = v3 at *
 have r0 : _ ∧ _ := R1
 exact bodyPost_ret (v := (.agg #[.int .i64 M1, .int .i64 E1, .int .i64 S1])) (by simp (maxDischargeDepth := 6) [results, Tryz.results30, go_sem, *]) rfl ⟨rfl, B1⟩
theorem iF (y : CfX) (x : NdX) (ct : Int) : cw y x ct = 1 ∨ (cw y x ct = 2 ∧ okX x = true) ∨ (cw y x ct = 0 ∧ okX x = true) := by
 unfold cw
 cases dI y
 ·exact .inl rfl
 ·unfold fiI
  cases h1 : okX x
  ·exact .inl rfl
  ·cases h2 : cmX x ct
   ·exact .inl rfl
   ·cases h3 : (x.mo == 0)
    ·exact .inr (.inr ⟨rfl, rfl⟩)
    ·exact .inr (.inl ⟨rfl, rfl⟩)
theorem gY (A : Array Value) (x : NdX) (w : World) (h : NdS w A x) :
 Calls Tryz.prog 26 #[.agg A, .int .i64 1] w fun e w' => ∃ R, e = .returned (.agg R) ∧ NdO w' w.heap.size w'.heap.size R (zX 0 0 0 0 0 0) ∧ Below w.heap.size w w' := by
 obtain ⟨aa, ac, pa, pc, ha, hc, rfl, hl, h1, h2, h3⟩ := h
 refine (js x.ni x.mo x.ep x.si x.kn x.lo x.hi x.la x.te x.us aa x.na ac x.AM pa x.np pc x.QM x.hs x.ls ha x.nh hc x.HM x.se w).mono ?_
 rintro e w' ⟨rfl, hB⟩
 exact ⟨_, rfl, qV _ _ _ _ _ _ _ _ _, hB⟩
theorem gX (A : Array Value) (x : NdX) (cd : Int) (w : World) (h : NdS w A x) (hcd : cd ≠ 1) (hb : x.na ≤ 16 ∧ x.np ≤ 8 ∧ x.nh ≤ 16) :
 Calls Tryz.prog 26 #[.agg A, .int .i64 cd] w fun e w' => ∃ R, e = .returned (.agg R) ∧ NdO w' w.heap.size w'.heap.size R x ∧ Below w.heap.size w w' := by
 obtain ⟨aa, ac, pa, pc, ha, hc, rfl, hl, h1, h2, h3⟩ := h
 refine (jr x.ni x.mo x.ep x.si x.kn x.lo x.hi x.la x.te x.us aa x.na ac x.AM pa x.np pc x.QM x.hs x.ls ha x.nh hc x.HM x.se cd w hcd hb.1 h1 hb.2.1 h2 hb.2.2 h3).mono ?_
 rintro e w' ⟨a1, c1, a2, c2, a3, c3, rfl, ⟨o1, o2, o3⟩, hB⟩
 exact ⟨_, rfl, ⟨a1, c1, a2, c2, a3, c3, rfl, ⟨by omega, by omega, by omega⟩, dj o1, dj o2, dj o3⟩, hB⟩
theorem ph (A : Array Value) (x : NdX) (kd ct : Int) (w : World) (h : NdS w A x) :
 Calls Tryz.prog 30 #[.agg A, .int .i64 kd, .int .i64 ct] w fun e w' => e = .returned (.agg #[.int .i64 (stM x.mo x.ep x.si kd ct), .int .i64 (stE x.mo x.ep x.si kd ct), .int .i64 (stS x.mo x.ep x.si kd ct)]) ∧ Below w.heap.size w w' := by
 obtain ⟨aa, ac, pa, pc, ha, hc, rfl, hl, h1, h2, h3⟩ := h
 exact ju x.ni x.mo x.ep x.si x.kn x.lo x.hi x.la x.te x.us aa x.na ac x.AM pa x.np pc x.QM x.hs x.ls ha x.nh hc x.HM x.se kd ct w
end Go.Proofs.YtikbjljkakabdaaGreat
