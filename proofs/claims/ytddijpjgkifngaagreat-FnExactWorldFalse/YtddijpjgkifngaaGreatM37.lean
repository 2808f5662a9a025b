/- What a node knows at a count (the specification), over arrays of cells. -/
import Derived.Test.YtddijpjgkifngaaGreatM23
import Derived.Test.YtddijpjgkifngaaGreatM36
namespace Go.Proofs.YtddijpjgkifngaaGreat
open Go.RowKit
set_option linter.unusedVariables false
def staI (y : CfX) (x : NdX) (ct : Int) : Int := match cokX y with | false => 1 | true => fiI (okX x) (cmX x ct) x.mo
theorem fi_bad {a b : Bool} {m : Int} : (fiI a b m == 1) = !(a && b) := by
 unfold fiI
 cases a <;> cases b <;> first | rfl | (cases h : (m == 0) <;> rfl)
def nowC (y : CfX) (x : NdX) (ct : Int) : Int := match cokX y with
 | false => 1
 | true => match okX x && cmX x ct with
  | false => 1
  | true => match crC x.kn x.lo x.hi x.la y.dn y.dd ct == 0 with
   | true => 0
   | false => match crC x.kn x.lo x.hi x.la y.dn y.dd ct == 2 with | true => 8 | false => 10
def nowL (y : CfX) (x : NdX) (ct : Int) : Int := match nowC y x ct == 0 with | true => crL x.kn x.lo x.hi x.la y.dn y.dd ct | false => 0
def nowH (y : CfX) (x : NdX) (ct : Int) : Int := match nowC y x ct == 0 with | true => crH x.kn x.lo x.hi x.la y.dn y.dd ct | false => 0
attribute [-go_sem] loadCells storeCells in
set_option maxRecDepth 100000 in
set_option maxHeartbeats 8000000 in
theorem specNowX (AC AN : Array Value) (y : CfX) (x : NdX) (ct : Int) (w : World) (HC : CfS w AC y) (HN : NdS w AN x) :
 Calls Tryz.prog 128 #[.agg AC, .agg AN, .int .i64 ct] w fun e w' => e = .returned (.tuple #[.agg #[.int .i64 (nowL y x ct), .int .i64 (nowH y x ct)], .int .i64 (nowC y x ct)]) ∧ Below w.heap.size w w' := by
 cases hk : cokX y
 ·have hC' : nowC y x ct = 1 := by unfold nowC; simp only [hk]
  have hL' : nowL y x ct = 0 := by unfold nowL; rw [hC']; rfl
  have hH' : nowH y x ct = 0 := by unfold nowH; rw [hC']; rfl
  have CF := fun (v : World) (h : Below w.heap.size w v) => specFirstX AN x ct v (HN.below h)
  have CK := fun (v : World) (h : Below w.heap.size w v) => specCfgOkX AC y v (HC.below h)
  have CA := fun v => specCarryOn_any x.kn x.lo x.hi x.la y.dn y.dd ct v
  obtain ⟨p, d, rfl, -, -⟩ := HC
  obtain ⟨aa, ac, pa, pc, ha, hc, rfl, -, -, -, -⟩ := HN
  have A0 := Below.nw w (.cells (cfV y p d) 45)
  have A1 := Below.nw (w.alloc (.cells (cfV y p d) 45)) (.cells (ndV x aa ac pa pc ha hc) 98)
  have A2 := Below.nw (((w.alloc (.cells (cfV y p d) 45))).alloc (.cells (ndV x aa ac pa pc ha hc) 98)) (.cells #[.int .i64 0, .int .i64 0] 87)
  have C := ((Bo.new w (cfV y p d) 45).below A1).below A2
  have N := (Bo.new (w.alloc (.cells (cfV y p d) 45)) (ndV x aa ac pa pc ha hc) 98).below A2
  have R := Bo.new (((w.alloc (.cells (cfV y p d) 45))).alloc (.cells (ndV x aa ac pa pc ha hc) 98)) #[.int .i64 0, .int .i64 0] 87
  have B := A0
  replace B := B.trans (A1.mono B.size)
  replace B := B.trans (A2.mono B.size)
  simp only [World.size_alloc] at N R
  clear A0 A1 A2
  go_enter Tryz.func128, Tryz.ntmps128
  go_upto_region 1 with fail
  generalize ((((w.alloc (.cells (cfV y p d) 45))).alloc (.cells (ndV x aa ac pa pc ha hc) 98))).alloc (.cells #[.int .i64 0, .int .i64 0] 87) = v0 at *
  have hL0 := C.load (P := Tryz.prog) (show ((cfV y p d) : Array Value).size = 11 from rfl)
  go_wp2_with (rw [hL0])
  refine (CK v0 B).mono ?_
  rintro e v1 ⟨rfl, hb⟩
  clear hL0
  rw [hk]
  replace B := B.trans (hb.mono B.size)
  replace C := C.below hb
  replace N := N.below hb
  replace R := R.below hb
  clear hb
  have hst := Bo.store (P := Tryz.prog) (b := 0) ([.int .i64 (0), .int .i64 (0)]) 0 0 R rfl (show 0 + 2 ≤ 2 by decide) (List.forall_mem_cons.2 ⟨rfl, (List.forall_mem_cons.2 ⟨rfl, fun _ h => nomatch h⟩)⟩)
  have hb : Btw (w.heap.size + 2) (w.heap.size + 2 + 1) v1 _ := putA_btw ([.int .i64 (0), .int .i64 (0)]) v1 0 (w.heap.size + 2)
  have B1 := putA_below (k := w.heap.size + 2) ([.int .i64 (0), .int .i64 (0)]) w v1 0 B (by omega)
  have N1 : Bo (putA v1 (w.heap.size + 2) 0 ([.int .i64 (0), .int .i64 (0)])) (w.heap.size + 2) (#[.int .i64 (0), .int .i64 (0)]) := Bo.put ([.int .i64 (0), .int .i64 (0)]) 0 R
  go_wp2_with (rw [hst])
  clear hst  R B
  replace C := C.btw hb (by omega)
  replace N := N.btw hb (by omega)
  clear hb
  generalize putA v1 (w.heap.size + 2) 0 ([.int .i64 (0), .int .i64 (0)]) = v2 at *
  have B := B1
  have R := N1
  clear B1 N1
  have hL0 := R.load (P := Tryz.prog) (show (#[.int .i64 (0), .int .i64 (0)] : Array Value).size = 2 from rfl)
  exact bodyPost_ret (v := .tuple #[.agg #[.int .i64 (0), .int .i64 (0)], .int .i64 1]) (by simp [results, Tryz.results128, go_sem]; rw [hL0]; rfl) rfl ⟨by rw [hC', hL', hH'], B⟩
 cases ho : okX x && cmX x ct
 ·have hC' : nowC y x ct = 1 := by unfold nowC; simp only [hk, ho]
  have hL' : nowL y x ct = 0 := by unfold nowL; rw [hC']; rfl
  have hH' : nowH y x ct = 0 := by unfold nowH; rw [hC']; rfl
  have CF := fun (v : World) (h : Below w.heap.size w v) => specFirstX AN x ct v (HN.below h)
  have CK := fun (v : World) (h : Below w.heap.size w v) => specCfgOkX AC y v (HC.below h)
  have CA := fun v => specCarryOn_any x.kn x.lo x.hi x.la y.dn y.dd ct v
  obtain ⟨p, d, rfl, -, -⟩ := HC
  obtain ⟨aa, ac, pa, pc, ha, hc, rfl, -, -, -, -⟩ := HN
  have A0 := Below.nw w (.cells (cfV y p d) 45)
  have A1 := Below.nw (w.alloc (.cells (cfV y p d) 45)) (.cells (ndV x aa ac pa pc ha hc) 98)
  have A2 := Below.nw (((w.alloc (.cells (cfV y p d) 45))).alloc (.cells (ndV x aa ac pa pc ha hc) 98)) (.cells #[.int .i64 0, .int .i64 0] 87)
  have C := ((Bo.new w (cfV y p d) 45).below A1).below A2
  have N := (Bo.new (w.alloc (.cells (cfV y p d) 45)) (ndV x aa ac pa pc ha hc) 98).below A2
  have R := Bo.new (((w.alloc (.cells (cfV y p d) 45))).alloc (.cells (ndV x aa ac pa pc ha hc) 98)) #[.int .i64 0, .int .i64 0] 87
  have B := A0
  replace B := B.trans (A1.mono B.size)
  replace B := B.trans (A2.mono B.size)
  simp only [World.size_alloc] at N R
  clear A0 A1 A2
  go_enter Tryz.func128, Tryz.ntmps128
  go_upto_region 1 with fail
  generalize ((((w.alloc (.cells (cfV y p d) 45))).alloc (.cells (ndV x aa ac pa pc ha hc) 98))).alloc (.cells #[.int .i64 0, .int .i64 0] 87) = v0 at *
  have hL0 := C.load (P := Tryz.prog) (show ((cfV y p d) : Array Value).size = 11 from rfl)
  go_wp2_with (rw [hL0])
  refine (CK v0 B).mono ?_
  rintro e v1 ⟨rfl, hb⟩
  clear hL0
  rw [hk]
  replace B := B.trans (hb.mono B.size)
  replace C := C.below hb
  replace N := N.below hb
  replace R := R.below hb
  clear hb
  have hL0 := N.load (P := Tryz.prog) (show ((ndV x aa ac pa pc ha hc) : Array Value).size = 16 from rfl)
  go_wp2_with (rw [hL0])
  refine (CF v1 B).mono ?_
  rintro e v2 ⟨rfl, hb⟩
  clear hL0
  have hfi := @fi_bad (okX x) (cmX x ct) x.mo
  rw [ho] at hfi
  replace B := B.trans (hb.mono B.size)
  replace C := C.below hb
  replace N := N.below hb
  replace R := R.below hb
  clear hb
  have hst := Bo.store (P := Tryz.prog) (b := 0) ([.int .i64 (0), .int .i64 (0)]) 0 0 R rfl (show 0 + 2 ≤ 2 by decide) (List.forall_mem_cons.2 ⟨rfl, (List.forall_mem_cons.2 ⟨rfl, fun _ h => nomatch h⟩)⟩)
  have hb : Btw (w.heap.size + 2) (w.heap.size + 2 + 1) v2 _ := putA_btw ([.int .i64 (0), .int .i64 (0)]) v2 0 (w.heap.size + 2)
  have B1 := putA_below (k := w.heap.size + 2) ([.int .i64 (0), .int .i64 (0)]) w v2 0 B (by omega)
  have N1 : Bo (putA v2 (w.heap.size + 2) 0 ([.int .i64 (0), .int .i64 (0)])) (w.heap.size + 2) (#[.int .i64 (0), .int .i64 (0)]) := Bo.put ([.int .i64 (0), .int .i64 (0)]) 0 R
  go_wp2_with (rw [hst])
  clear hst  R B
  replace C := C.btw hb (by omega)
  replace N := N.btw hb (by omega)
  clear hb
  generalize putA v2 (w.heap.size + 2) 0 ([.int .i64 (0), .int .i64 (0)]) = v3 at *
  have B := B1
  have R := N1
  clear B1 N1
  have hL0 := R.load (P := Tryz.prog) (show (#[.int .i64 (0), .int .i64 (0)] : Array Value).size = 2 from rfl)
  exact bodyPost_ret (v := .tuple #[.agg #[.int .i64 (0), .int .i64 (0)], .int .i64 1]) (by simp [results, Tryz.results128, go_sem]; rw [hL0]; rfl) rfl ⟨by rw [hC', hL', hH'], B⟩
 cases h0 : crC x.kn x.lo x.hi x.la y.dn y.dd ct == 0
 ·cases h2 : crC x.kn x.lo x.hi x.la y.dn y.dd ct == 2
  ·have hC' : nowC y x ct = 10 := by unfold nowC; simp only [hk, ho, h0, h2]
   have hL' : nowL y x ct = 0 := by unfold nowL; rw [hC']; rfl
   have hH' : nowH y x ct = 0 := by unfold nowH; rw [hC']; rfl
   have CF := fun (v : World) (h : Below w.heap.size w v) => specFirstX AN x ct v (HN.below h)
   have CK := fun (v : World) (h : Below w.heap.size w v) => specCfgOkX AC y v (HC.below h)
   have CA := fun v => specCarryOn_any x.kn x.lo x.hi x.la y.dn y.dd ct v
   obtain ⟨p, d, rfl, -, -⟩ := HC
   obtain ⟨aa, ac, pa, pc, ha, hc, rfl, -, -, -, -⟩ := HN
   have A0 := Below.nw w (.cells (cfV y p d) 45)
   have A1 := Below.nw (w.alloc (.cells (cfV y p d) 45)) (.cells (ndV x aa ac pa pc ha hc) 98)
   have A2 := Below.nw (((w.alloc (.cells (cfV y p d) 45))).alloc (.cells (ndV x aa ac pa pc ha hc) 98)) (.cells #[.int .i64 0, .int .i64 0] 87)
   have C := ((Bo.new w (cfV y p d) 45).below A1).below A2
   have N := (Bo.new (w.alloc (.cells (cfV y p d) 45)) (ndV x aa ac pa pc ha hc) 98).below A2
   have R := Bo.new (((w.alloc (.cells (cfV y p d) 45))).alloc (.cells (ndV x aa ac pa pc ha hc) 98)) #[.int .i64 0, .int .i64 0] 87
   have B := A0
   replace B := B.trans (A1.mono B.size)
   replace B := B.trans (A2.mono B.size)
   simp only [World.size_alloc] at N R
   clear A0 A1 A2
   go_enter Tryz.func128, Tryz.ntmps128
   go_upto_region 1 with fail
   generalize ((((w.alloc (.cells (cfV y p d) 45))).alloc (.cells (ndV x aa ac pa pc ha hc) 98))).alloc (.cells #[.int .i64 0, .int .i64 0] 87) = v0 at *
   have hL0 := C.load (P := Tryz.prog) (show ((cfV y p d) : Array Value).size = 11 from rfl)
   go_wp2_with (rw [hL0])
   refine (CK v0 B).mono ?_
   rintro e v1 ⟨rfl, hb⟩
   clear hL0
   rw [hk]
   replace B := B.trans (hb.mono B.size)
   replace C := C.below hb
   replace N := N.below hb
   replace R := R.below hb
   clear hb
   have hL0 := N.load (P := Tryz.prog) (show ((ndV x aa ac pa pc ha hc) : Array Value).size = 16 from rfl)
   go_wp2_with (rw [hL0])
   refine (CF v1 B).mono ?_
   rintro e v2 ⟨rfl, hb⟩
   clear hL0
   have hfi := @fi_bad (okX x) (cmX x ct) x.mo
   rw [ho] at hfi
   replace B := B.trans (hb.mono B.size)
   replace C := C.below hb
   replace N := N.below hb
   replace R := R.below hb
   clear hb
   have hL0 : (loadCells ⟨w.heap.size + 1, 4, none⟩ 4).run Tryz.prog v2 = .ok #[.bool x.kn, .int .i64 x.lo, .int .i64 x.hi, .int .i64 x.la] v2 := N.loadAt (P := Tryz.prog) 4 4 (show 4 + 4 ≤ 16 by decide)
   have hL1 : (loadCells ⟨w.heap.size, 0, none⟩ 2).run Tryz.prog v2 = .ok #[.int .i64 y.dn, .int .i64 y.dd] v2 := C.loadAt (P := Tryz.prog) 0 2 (show 0 + 2 ≤ 11 by decide)
   go_wp2_with (first | rw [hL0] | rw [hL1])
   refine (CA v2).mono ?_
   rintro e v3 ⟨rfl, hb⟩
   clear hL0 hL1
   replace B := B.trans (hb.mono B.size)
   replace C := C.below hb
   replace N := N.below hb
   replace R := R.below hb
   clear hb
   have hst := storeNew (P := Tryz.prog) v3 (#[.int .i64 0, .int .i64 0]) (#[.int .i64 (crL x.kn x.lo x.hi x.la y.dn y.dd ct), .int .i64 (crH x.kn x.lo x.hi x.la y.dn y.dd ct)]) 87 rfl (List.forall_mem_cons.2 ⟨rfl, (List.forall_mem_cons.2 ⟨rfl, fun _ h => nomatch h⟩)⟩)
   have gQC : w.heap.size < v3.heap.size := C.1
   have gQN : w.heap.size + 1 < v3.heap.size := N.1
   have gQR : w.heap.size + 2 < v3.heap.size := R.1
   have hb := Below.nw v3 (.cells #[.int .i64 (crL x.kn x.lo x.hi x.la y.dn y.dd ct), .int .i64 (crH x.kn x.lo x.hi x.la y.dn y.dd ct)] 87)
   have Q := Bo.new v3 #[.int .i64 (crL x.kn x.lo x.hi x.la y.dn y.dd ct), .int .i64 (crH x.kn x.lo x.hi x.la y.dn y.dd ct)] 87
   go_upto_region 4 with (rw [hst])
   clear hst
   replace B := B.trans (hb.mono B.size)
   replace C := C.below hb
   replace N := N.below hb
   replace R := R.below hb
   clear hb
   generalize v3.alloc (.cells #[.int .i64 (crL x.kn x.lo x.hi x.la y.dn y.dd ct), .int .i64 (crH x.kn x.lo x.hi x.la y.dn y.dd ct)] 87) = v4 at *
   generalize v3.heap.size = kQ at *
   have hst := Bo.store (P := Tryz.prog) (b := 0) ([.int .i64 (0), .int .i64 (0)]) 0 0 R rfl (show 0 + 2 ≤ 2 by decide) (List.forall_mem_cons.2 ⟨rfl, (List.forall_mem_cons.2 ⟨rfl, fun _ h => nomatch h⟩)⟩)
   have hb : Btw (w.heap.size + 2) (w.heap.size + 2 + 1) v4 _ := putA_btw ([.int .i64 (0), .int .i64 (0)]) v4 0 (w.heap.size + 2)
   have B1 := putA_below (k := w.heap.size + 2) ([.int .i64 (0), .int .i64 (0)]) w v4 0 B (by omega)
   have N1 : Bo (putA v4 (w.heap.size + 2) 0 ([.int .i64 (0), .int .i64 (0)])) (w.heap.size + 2) (#[.int .i64 (0), .int .i64 (0)]) := Bo.put ([.int .i64 (0), .int .i64 (0)]) 0 R
   go_wp2_with (rw [hst])
   clear hst  R B
   replace C := C.btw hb (by omega)
   replace N := N.btw hb (by omega)
   replace Q := Q.btw hb (by omega)
   clear hb
   generalize putA v4 (w.heap.size + 2) 0 ([.int .i64 (0), .int .i64 (0)]) = v5 at *
   have B := B1
   have R := N1
   clear B1 N1
   have hL0 := R.load (P := Tryz.prog) (show (#[.int .i64 (0), .int .i64 (0)] : Array Value).size = 2 from rfl)
   exact bodyPost_ret (v := .tuple #[.agg #[.int .i64 (0), .int .i64 (0)], .int .i64 10]) (by simp [results, Tryz.results128, go_sem]; rw [hL0]; rfl) rfl ⟨by rw [hC', hL', hH'], B⟩
  ·have hC' : nowC y x ct = 8 := by unfold nowC; simp only [hk, ho, h0, h2]
   have hL' : nowL y x ct = 0 := by unfold nowL; rw [hC']; rfl
   have hH' : nowH y x ct = 0 := by unfold nowH; rw [hC']; rfl
   have CF := fun (v : World) (h : Below w.heap.size w v) => specFirstX AN x ct v (HN.below h)
   have CK := fun (v : World) (h : Below w.heap.size w v) => specCfgOkX AC y v (HC.below h)
   have CA := fun v => specCarryOn_any x.kn x.lo x.hi x.la y.dn y.dd ct v
   obtain ⟨p, d, rfl, -, -⟩ := HC
   obtain ⟨aa, ac, pa, pc, ha, hc, rfl, -, -, -, -⟩ := HN
   have A0 := Below.nw w (.cells (cfV y p d) 45)
   have A1 := Below.nw (w.alloc (.cells (cfV y p d) 45)) (.cells (ndV x aa ac pa pc ha hc) 98)
   have A2 := Below.nw (((w.alloc (.cells (cfV y p d) 45))).alloc (.cells (ndV x aa ac pa pc ha hc) 98)) (.cells #[.int .i64 0, .int .i64 0] 87)
   have C := ((Bo.new w (cfV y p d) 45).below A1).below A2
   have N := (Bo.new (w.alloc (.cells (cfV y p d) 45)) (ndV x aa ac pa pc ha hc) 98).below A2
   have R := Bo.new (((w.alloc (.cells (cfV y p d) 45))).alloc (.cells (ndV x aa ac pa pc ha hc) 98)) #[.int .i64 0, .int .i64 0] 87
   have B := A0
   replace B := B.trans (A1.mono B.size)
   replace B := B.trans (A2.mono B.size)
   simp only [World.size_alloc] at N R
   clear A0 A1 A2
   go_enter Tryz.func128, Tryz.ntmps128
   go_upto_region 1 with fail
   generalize ((((w.alloc (.cells (cfV y p d) 45))).alloc (.cells (ndV x aa ac pa pc ha hc) 98))).alloc (.cells #[.int .i64 0, .int .i64 0] 87) = v0 at *
   have hL0 := C.load (P := Tryz.prog) (show ((cfV y p d) : Array Value).size = 11 from rfl)
   go_wp2_with (rw [hL0])
   refine (CK v0 B).mono ?_
   rintro e v1 ⟨rfl, hb⟩
   clear hL0
   rw [hk]
   replace B := B.trans (hb.mono B.size)
   replace C := C.below hb
   replace N := N.below hb
   replace R := R.below hb
   clear hb
   have hL0 := N.load (P := Tryz.prog) (show ((ndV x aa ac pa pc ha hc) : Array Value).size = 16 from rfl)
   go_wp2_with (rw [hL0])
   refine (CF v1 B).mono ?_
   rintro e v2 ⟨rfl, hb⟩
   clear hL0
   have hfi := @fi_bad (okX x) (cmX x ct) x.mo
   rw [ho] at hfi
   replace B := B.trans (hb.mono B.size)
   replace C := C.below hb
   replace N := N.below hb
   replace R := R.below hb
   clear hb
   have hL0 : (loadCells ⟨w.heap.size + 1, 4, none⟩ 4).run Tryz.prog v2 = .ok #[.bool x.kn, .int .i64 x.lo, .int .i64 x.hi, .int .i64 x.la] v2 := N.loadAt (P := Tryz.prog) 4 4 (show 4 + 4 ≤ 16 by decide)
   have hL1 : (loadCells ⟨w.heap.size, 0, none⟩ 2).run Tryz.prog v2 = .ok #[.int .i64 y.dn, .int .i64 y.dd] v2 := C.loadAt (P := Tryz.prog) 0 2 (show 0 + 2 ≤ 11 by decide)
   go_wp2_with (first | rw [hL0] | rw [hL1])
   refine (CA v2).mono ?_
   rintro e v3 ⟨rfl, hb⟩
   clear hL0 hL1
   replace B := B.trans (hb.mono B.size)
   replace C := C.below hb
   replace N := N.below hb
   replace R := R.below hb
   clear hb
   have hst := storeNew (P := Tryz.prog) v3 (#[.int .i64 0, .int .i64 0]) (#[.int .i64 (crL x.kn x.lo x.hi x.la y.dn y.dd ct), .int .i64 (crH x.kn x.lo x.hi x.la y.dn y.dd ct)]) 87 rfl (List.forall_mem_cons.2 ⟨rfl, (List.forall_mem_cons.2 ⟨rfl, fun _ h => nomatch h⟩)⟩)
   have gQC : w.heap.size < v3.heap.size := C.1
   have gQN : w.heap.size + 1 < v3.heap.size := N.1
   have gQR : w.heap.size + 2 < v3.heap.size := R.1
   have hb := Below.nw v3 (.cells #[.int .i64 (crL x.kn x.lo x.hi x.la y.dn y.dd ct), .int .i64 (crH x.kn x.lo x.hi x.la y.dn y.dd ct)] 87)
   have Q := Bo.new v3 #[.int .i64 (crL x.kn x.lo x.hi x.la y.dn y.dd ct), .int .i64 (crH x.kn x.lo x.hi x.la y.dn y.dd ct)] 87
   go_upto_region 4 with (rw [hst])
   clear hst
   replace B := B.trans (hb.mono B.size)
   replace C := C.below hb
   replace N := N.below hb
   replace R := R.below hb
   clear hb
   generalize v3.alloc (.cells #[.int .i64 (crL x.kn x.lo x.hi x.la y.dn y.dd ct), .int .i64 (crH x.kn x.lo x.hi x.la y.dn y.dd ct)] 87) = v4 at *
   generalize v3.heap.size = kQ at *
   have hst := Bo.store (P := Tryz.prog) (b := 0) ([.int .i64 (0), .int .i64 (0)]) 0 0 R rfl (show 0 + 2 ≤ 2 by decide) (List.forall_mem_cons.2 ⟨rfl, (List.forall_mem_cons.2 ⟨rfl, fun _ h => nomatch h⟩)⟩)
   have hb : Btw (w.heap.size + 2) (w.heap.size + 2 + 1) v4 _ := putA_btw ([.int .i64 (0), .int .i64 (0)]) v4 0 (w.heap.size + 2)
   have B1 := putA_below (k := w.heap.size + 2) ([.int .i64 (0), .int .i64 (0)]) w v4 0 B (by omega)
   have N1 : Bo (putA v4 (w.heap.size + 2) 0 ([.int .i64 (0), .int .i64 (0)])) (w.heap.size + 2) (#[.int .i64 (0), .int .i64 (0)]) := Bo.put ([.int .i64 (0), .int .i64 (0)]) 0 R
   go_wp2_with (rw [hst])
   clear hst  R B
   replace C := C.btw hb (by omega)
   replace N := N.btw hb (by omega)
   replace Q := Q.btw hb (by omega)
   clear hb
   generalize putA v4 (w.heap.size + 2) 0 ([.int .i64 (0), .int .i64 (0)]) = v5 at *
   have B := B1
   have R := N1
   clear B1 N1
   have hL0 := R.load (P := Tryz.prog) (show (#[.int .i64 (0), .int .i64 (0)] : Array Value).size = 2 from rfl)
   exact bodyPost_ret (v := .tuple #[.agg #[.int .i64 (0), .int .i64 (0)], .int .i64 8]) (by simp [results, Tryz.results128, go_sem]; rw [hL0]; rfl) rfl ⟨by rw [hC', hL', hH'], B⟩
 ·have hC' : nowC y x ct = 0 := by unfold nowC; simp only [hk, ho, h0]
  have hL' : nowL y x ct = crL x.kn x.lo x.hi x.la y.dn y.dd ct := by unfold nowL; rw [hC']; rfl
  have hH' : nowH y x ct = crH x.kn x.lo x.hi x.la y.dn y.dd ct := by unfold nowH; rw [hC']; rfl
  have CF := fun (v : World) (h : Below w.heap.size w v) => specFirstX AN x ct v (HN.below h)
  have CK := fun (v : World) (h : Below w.heap.size w v) => specCfgOkX AC y v (HC.below h)
  have CA := fun v => specCarryOn_any x.kn x.lo x.hi x.la y.dn y.dd ct v
  obtain ⟨p, d, rfl, -, -⟩ := HC
  obtain ⟨aa, ac, pa, pc, ha, hc, rfl, -, -, -, -⟩ := HN
  have A0 := Below.nw w (.cells (cfV y p d) 45)
  have A1 := Below.nw (w.alloc (.cells (cfV y p d) 45)) (.cells (ndV x aa ac pa pc ha hc) 98)
  have A2 := Below.nw (((w.alloc (.cells (cfV y p d) 45))).alloc (.cells (ndV x aa ac pa pc ha hc) 98)) (.cells #[.int .i64 0, .int .i64 0] 87)
  have C := ((Bo.new w (cfV y p d) 45).below A1).below A2
  have N := (Bo.new (w.alloc (.cells (cfV y p d) 45)) (ndV x aa ac pa pc ha hc) 98).below A2
  have R := Bo.new (((w.alloc (.cells (cfV y p d) 45))).alloc (.cells (ndV x aa ac pa pc ha hc) 98)) #[.int .i64 0, .int .i64 0] 87
  have B := A0
  replace B := B.trans (A1.mono B.size)
  replace B := B.trans (A2.mono B.size)
  simp only [World.size_alloc] at N R
  clear A0 A1 A2
  go_enter Tryz.func128, Tryz.ntmps128
  go_upto_region 1 with fail
  generalize ((((w.alloc (.cells (cfV y p d) 45))).alloc (.cells (ndV x aa ac pa pc ha hc) 98))).alloc (.cells #[.int .i64 0, .int .i64 0] 87) = v0 at *
  have hL0 := C.load (P := Tryz.prog) (show ((cfV y p d) : Array Value).size = 11 from rfl)
  go_wp2_with (rw [hL0])
  refine (CK v0 B).mono ?_
  rintro e v1 ⟨rfl, hb⟩
  clear hL0
  rw [hk]
  replace B := B.trans (hb.mono B.size)
  replace C := C.below hb
  replace N := N.below hb
  replace R := R.below hb
  clear hb
  have hL0 := N.load (P := Tryz.prog) (show ((ndV x aa ac pa pc ha hc) : Array Value).size = 16 from rfl)
  go_wp2_with (rw [hL0])
  refine (CF v1 B).mono ?_
  rintro e v2 ⟨rfl, hb⟩
  clear hL0
  have hfi := @fi_bad (okX x) (cmX x ct) x.mo
  rw [ho] at hfi
  replace B := B.trans (hb.mono B.size)
  replace C := C.below hb
  replace N := N.below hb
  replace R := R.below hb
  clear hb
  have hL0 : (loadCells ⟨w.heap.size + 1, 4, none⟩ 4).run Tryz.prog v2 = .ok #[.bool x.kn, .int .i64 x.lo, .int .i64 x.hi, .int .i64 x.la] v2 := N.loadAt (P := Tryz.prog) 4 4 (show 4 + 4 ≤ 16 by decide)
  have hL1 : (loadCells ⟨w.heap.size, 0, none⟩ 2).run Tryz.prog v2 = .ok #[.int .i64 y.dn, .int .i64 y.dd] v2 := C.loadAt (P := Tryz.prog) 0 2 (show 0 + 2 ≤ 11 by decide)
  go_wp2_with (first | rw [hL0] | rw [hL1])
  refine (CA v2).mono ?_
  rintro e v3 ⟨rfl, hb⟩
  clear hL0 hL1
  replace B := B.trans (hb.mono B.size)
  replace C := C.below hb
  replace N := N.below hb
  replace R := R.below hb
  clear hb
  have hst := storeNew (P := Tryz.prog) v3 (#[.int .i64 0, .int .i64 0]) (#[.int .i64 (crL x.kn x.lo x.hi x.la y.dn y.dd ct), .int .i64 (crH x.kn x.lo x.hi x.la y.dn y.dd ct)]) 87 rfl (List.forall_mem_cons.2 ⟨rfl, (List.forall_mem_cons.2 ⟨rfl, fun _ h => nomatch h⟩)⟩)
  have gQC : w.heap.size < v3.heap.size := C.1
  have gQN : w.heap.size + 1 < v3.heap.size := N.1
  have gQR : w.heap.size + 2 < v3.heap.size := R.1
  have hb := Below.nw v3 (.cells #[.int .i64 (crL x.kn x.lo x.hi x.la y.dn y.dd ct), .int .i64 (crH x.kn x.lo x.hi x.la y.dn y.dd ct)] 87)
  have Q := Bo.new v3 #[.int .i64 (crL x.kn x.lo x.hi x.la y.dn y.dd ct), .int .i64 (crH x.kn x.lo x.hi x.la y.dn y.dd ct)] 87
  go_upto_region 4 with (rw [hst])
  clear hst
  replace B := B.trans (hb.mono B.size)
  replace C := C.below hb
  replace N := N.below hb
  replace R := R.below hb
  clear hb
  generalize v3.alloc (.cells #[.int .i64 (crL x.kn x.lo x.hi x.la y.dn y.dd ct), .int .i64 (crH x.kn x.lo x.hi x.la y.dn y.dd ct)] 87) = v4 at *
  generalize v3.heap.size = kQ at *
  have hL0 := Q.load (P := Tryz.prog) (show (#[.int .i64 (crL x.kn x.lo x.hi x.la y.dn y.dd ct), .int .i64 (crH x.kn x.lo x.hi x.la y.dn y.dd ct)] : Array Value).size = 2 from rfl)
  have hst := Bo.store (P := Tryz.prog) (b := 0) ([.int .i64 (crL x.kn x.lo x.hi x.la y.dn y.dd ct), .int .i64 (crH x.kn x.lo x.hi x.la y.dn y.dd ct)]) 0 0 R rfl (show 0 + 2 ≤ 2 by decide) (List.forall_mem_cons.2 ⟨rfl, (List.forall_mem_cons.2 ⟨rfl, fun _ h => nomatch h⟩)⟩)
  have hb : Btw (w.heap.size + 2) (w.heap.size + 2 + 1) v4 _ := putA_btw ([.int .i64 (crL x.kn x.lo x.hi x.la y.dn y.dd ct), .int .i64 (crH x.kn x.lo x.hi x.la y.dn y.dd ct)]) v4 0 (w.heap.size + 2)
  have B1 := putA_below (k := w.heap.size + 2) ([.int .i64 (crL x.kn x.lo x.hi x.la y.dn y.dd ct), .int .i64 (crH x.kn x.lo x.hi x.la y.dn y.dd ct)]) w v4 0 B (by omega)
  have N1 : Bo (putA v4 (w.heap.size + 2) 0 ([.int .i64 (crL x.kn x.lo x.hi x.la y.dn y.dd ct), .int .i64 (crH x.kn x.lo x.hi x.la y.dn y.dd ct)])) (w.heap.size + 2) (#[.int .i64 (crL x.kn x.lo x.hi x.la y.dn y.dd ct), .int .i64 (crH x.kn x.lo x.hi x.la y.dn y.dd ct)]) := Bo.put ([.int .i64 (crL x.kn x.lo x.hi x.la y.dn y.dd ct), .int .i64 (crH x.kn x.lo x.hi x.la y.dn y.dd ct)]) 0 R
  go_wp2_with (first | rw [hL0] | rw [hst])
  clear hst hL0 R B
  replace C := C.btw hb (by omega)
  replace N := N.btw hb (by omega)
  replace Q := Q.btw hb (by omega)
  clear hb
  generalize putA v4 (w.heap.size + 2) 0 ([.int .i64 (crL x.kn x.lo x.hi x.la y.dn y.dd ct), .int .i64 (crH x.kn x.lo x.hi x.la y.dn y.dd ct)]) = v5 at *
  have B := B1
  have R := N1
  clear B1 N1
  have hL0 := R.load (P := Tryz.prog) (show (#[.int .i64 (crL x.kn x.lo x.hi x.la y.dn y.dd ct), .int .i64 (crH x.kn x.lo x.hi x.la y.dn y.dd ct)] : Array Value).size = 2 from rfl)
  exact bodyPost_ret (v := .tuple #[.agg #[.int .i64 (crL x.kn x.lo x.hi x.la y.dn y.dd ct), .int .i64 (crH x.kn x.lo x.hi x.la y.dn y.dd ct)], .int .i64 0]) (by simp [results, Tryz.results128, go_sem]; rw [hL0]; rfl) rfl ⟨by rw [hC', hL', hH'], B⟩
end Go.Proofs.YtddijpjgkifngaaGreat
