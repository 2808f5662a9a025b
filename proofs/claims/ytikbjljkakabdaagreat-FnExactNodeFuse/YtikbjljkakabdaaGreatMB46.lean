/- NodeFuse (the program), over arrays of cells. The exact law of NodeFus -/
import Derived.Test.YtikbjljkakabdaaGreatMB26
import Derived.Test.YtikbjljkakabdaaGreatMB45
namespace Go.Proofs.YtikbjljkakabdaaGreat
open Go.RowKit
set_option linter.unusedVariables false
set_option maxRecDepth 100000
set_option maxHeartbeats 16000000
theorem q6 {y : CfX} {x : NdX} {ct : Int} (h : cw y x ct = 0) : cQ y x ct = pzR y x ct := by
 obtain ⟨e1, e2, e3⟩ := sy (y := y) (x := x) (ct := ct) (by rw [h]; decide)
 unfold cQ pzR
 rw [h, e1, e2, e3]
 rfl
attribute [-go_sem] loadCells storeCells in
theorem oL (AC AN : Array Value) (y : CfX) (x : NdX) (ct : Int) (w : World) (HC : CfS w AC y) (HN : NdS w AN x) (hwf : wfX x) :
 Calls Tryz.prog 20 #[.agg AC, .agg AN, .int .i64 ct] w fun e w' => ∃ R, e = .returned (.tuple #[.agg R, .int .i64 (cQ y x ct).2]) ∧ NdO w' w.heap.size w'.heap.size R (cQ y x ct).1 ∧ Below w.heap.size w w' := by
 rcases iF y x ct with hst0 | ⟨hst0, hok⟩ | ⟨hst0, hok⟩
 ·have hbad : cw y x ct = 1 ∨ true = false := .inl hst0
  have hF : cQ y x ct = (zX 0 0 0 0 0 0, 1) := by unfold cQ; simp only [hst0, Int.reduceBEq]
  rw [hF]
  clear hF
  clear hst0
  have hC := HC.size
  have hN := HN.size
  have CW := fun (v : World) (h : Below w.heap.size w v) => nA AC AN y x ct true v (HC.below h) (HN.below h) hwf (hbad)
  clear HC HN hwf
  have A0 := Below.nw w (.cells AC 66)
  have A1 := Below.nw (w.alloc (.cells AC 66)) (.cells AN 57)
  have A2 := Below.nw (((w.alloc (.cells AC 66))).alloc (.cells AN 57)) (.cells #[.int .i64 0, .int .i64 0, .int .i64 0, .int .i64 0, .bool false, .int .i64 0, .int .i64 0, .int .i64 0, .int .i64 0, .int .i64 0, .slice none 0 0, .slice none 0 0, .bool false, .int .i64 0, .slice none 0 0, .int .i64 0] 57)
  have C := ((Bo.new w AC 66).below A1).below A2
  have N := (Bo.new (w.alloc (.cells AC 66)) AN 57).below A2
  have R := Bo.new (((w.alloc (.cells AC 66))).alloc (.cells AN 57)) #[.int .i64 0, .int .i64 0, .int .i64 0, .int .i64 0, .bool false, .int .i64 0, .int .i64 0, .int .i64 0, .int .i64 0, .int .i64 0, .slice none 0 0, .slice none 0 0, .bool false, .int .i64 0, .slice none 0 0, .int .i64 0] 57
  have B := A0
  replace B := B.trans (A1.mono B.size)
  replace B := B.trans (A2.mono B.size)
  simp only [World.size_alloc] at N R
  clear A0 A1 A2
  go_enter Tryz.func20, Tryz.ntmps20
  go_upto_region 1 with fail
  generalize ((((w.alloc (.cells AC 66))).alloc (.cells AN 57))).alloc (.cells #[.int .i64 0, .int .i64 0, .int .i64 0, .int .i64 0, .bool false, .int .i64 0, .int .i64 0, .int .i64 0, .int .i64 0, .int .i64 0, .slice none 0 0, .slice none 0 0, .bool false, .int .i64 0, .slice none 0 0, .int .i64 0] 57) = v0 at *
  have hL0 := C.load (P := Tryz.prog) hC
  have hL1 := N.load (P := Tryz.prog) hN
  go_wp2_with (first | rw [hL0] | rw [hL1])
  refine (CW v0 B).mono ?_
  rintro e v1 ⟨rfl, hb⟩
  clear hL0 hL1
  replace B := B.trans (hb.mono B.size)
  replace C := C.below hb
  replace N := N.below hb
  replace R := R.below hb
  clear hb
  have hU := em
  have hst := bg (P := Tryz.prog) v1 (#[.int .i64 0, .int .i64 0, .slice none 0 0, .bool false, .int .i64 0, .int .i64 0, .int .i64 0, .int .i64 0, .int .i64 0, .int .i64 0, .int .i64 0, .int .i64 0, .int .i64 0, .int .i64 0, .int .i64 0, .slice none 0 0, .int .i64 0, .int .i64 0, .int .i64 0, .int .i64 0, .int .i64 0, .bool false, .int .i64 0, .int .i64 0, .int .i64 0, .slice none 0 0, .slice none 0 0, .int .i64 0]) zWk 104 (by rw [hU]; rfl) fE
  have gKWC : w.heap.size < v1.heap.size := C.1
  have gKWN : w.heap.size + 1 < v1.heap.size := N.1
  have gKWR : w.heap.size + 2 < v1.heap.size := R.1
  have hb := Below.nw v1 (.cells zWk 104)
  have KW := Bo.new v1 zWk 104
  go_upto_region 2 with (rw [hst])
  clear hst
  replace B := B.trans (hb.mono B.size)
  replace C := C.below hb
  replace N := N.below hb
  replace R := R.below hb
  clear hb
  generalize v1.alloc (.cells zWk 104) = v2 at *
  generalize v1.heap.size = kKW at *
  clear hU
  go_wp2_with fail
  refine (nz zY (zX 0 0 0 0 0 0) 0 none 0 none 0 none 0 none 0 kKW v2 KW).mono ?_
  rintro e v3 ⟨rfl, hb⟩
  replace B := B.trans (hb.mono B.size)
  replace C := C.below hb
  replace N := N.below hb
  replace R := R.below hb
  replace KW := KW.below hb
  clear hb
  have hU : (ndV (zX 0 0 0 0 0 0) none 0 none 0 none 0).size = 16 := rfl
  have hUl : 0 + (ndV (zX 0 0 0 0 0 0) none 0 none 0 none 0).toList.length ≤ 16 := by simp [hU]
  have hst := Bo.store (P := Tryz.prog) (b := 0) ((ndV (zX 0 0 0 0 0 0) none 0 none 0 none 0).toList) 0 0 R rfl hUl (de _ _ _ _ _ _ _)
  have hb : Btw (w.heap.size + 2) (w.heap.size + 2 + 1) v3 _ := ay ((ndV (zX 0 0 0 0 0 0) none 0 none 0 none 0).toList) v3 0 (w.heap.size + 2)
  have B1 := an (k := w.heap.size + 2) ((ndV (zX 0 0 0 0 0 0) none 0 none 0 none 0).toList) w v3 0 B (by omega)
  have N1 : Bo (aF v3 (w.heap.size + 2) 0 ((ndV (zX 0 0 0 0 0 0) none 0 none 0 none 0).toList)) (w.heap.size + 2) ((ndV (zX 0 0 0 0 0 0) none 0 none 0 none 0)) := R.putW (U := (ndV (zX 0 0 0 0 0 0) none 0 none 0 none 0)) hU
  go_wp2_with (rw [hst])
  clear hst  R B
  replace C := C.btw hb (by omega)
  replace N := N.btw hb (by omega)
  replace KW := KW.btw hb (by omega)
  clear hb
  generalize aF v3 (w.heap.size + 2) 0 ((ndV (zX 0 0 0 0 0 0) none 0 none 0 none 0).toList) = v4 at *
  have B := B1
  have R := N1
  clear B1 N1
  have hL0 := R.load (P := Tryz.prog) hU
  exact bodyPost_ret (v := .tuple #[.agg (ndV (zX 0 0 0 0 0 0) none 0 none 0 none 0), .int .i64 1]) (by simp [results, Tryz.results20, go_sem]; rw [hL0]; rfl) rfl ⟨_, rfl, qV 0 0 0 0 0 0 _ _ _, B⟩
 ·have hs1 : cw y x ct ≠ 1 := by rw [hst0]; decide
  have hF : cQ y x ct = (x, 2) := by unfold cQ; simp only [hst0, Int.reduceBEq]
  rw [hF]
  clear hF
  have hC := HC.size
  have hN := HN.size
  obtain ⟨p, d, hpd, hm, hr⟩ := id HC
  have CW := fun (v : World) (h : Below w.heap.size w v) => iH AC AN y x ct p d v (HC.below h) (HN.below h) hwf hpd hok hs1
  clear HC HN hwf hm hr hpd
  have A0 := Below.nw w (.cells AC 66)
  have A1 := Below.nw (w.alloc (.cells AC 66)) (.cells AN 57)
  have A2 := Below.nw (((w.alloc (.cells AC 66))).alloc (.cells AN 57)) (.cells #[.int .i64 0, .int .i64 0, .int .i64 0, .int .i64 0, .bool false, .int .i64 0, .int .i64 0, .int .i64 0, .int .i64 0, .int .i64 0, .slice none 0 0, .slice none 0 0, .bool false, .int .i64 0, .slice none 0 0, .int .i64 0] 57)
  have C := ((Bo.new w AC 66).below A1).below A2
  have N := (Bo.new (w.alloc (.cells AC 66)) AN 57).below A2
  have R := Bo.new (((w.alloc (.cells AC 66))).alloc (.cells AN 57)) #[.int .i64 0, .int .i64 0, .int .i64 0, .int .i64 0, .bool false, .int .i64 0, .int .i64 0, .int .i64 0, .int .i64 0, .int .i64 0, .slice none 0 0, .slice none 0 0, .bool false, .int .i64 0, .slice none 0 0, .int .i64 0] 57
  have B := A0
  replace B := B.trans (A1.mono B.size)
  replace B := B.trans (A2.mono B.size)
  simp only [World.size_alloc] at N R
  clear A0 A1 A2
  go_enter Tryz.func20, Tryz.ntmps20
  go_upto_region 1 with fail
  generalize ((((w.alloc (.cells AC 66))).alloc (.cells AN 57))).alloc (.cells #[.int .i64 0, .int .i64 0, .int .i64 0, .int .i64 0, .bool false, .int .i64 0, .int .i64 0, .int .i64 0, .int .i64 0, .int .i64 0, .slice none 0 0, .slice none 0 0, .bool false, .int .i64 0, .slice none 0 0, .int .i64 0] 57) = v0 at *
  have hL0 := C.load (P := Tryz.prog) hC
  have hL1 := N.load (P := Tryz.prog) hN
  go_wp2_with (first | rw [hL0] | rw [hL1])
  refine (CW v0 B).mono ?_
  rintro e v1 ⟨U, rfl, OU, hb⟩
  clear hL0 hL1
  have q1C : w.heap.size < v0.heap.size := C.1
  have q1N : w.heap.size + 1 < v0.heap.size := N.1
  have q1R : w.heap.size + 2 < v0.heap.size := R.1
  have q1 : w.heap.size ≤ v0.heap.size := B.size
  have zv1 : v0.heap.size ≤ v1.heap.size := hb.size
  replace B := B.trans (hb.mono B.size)
  replace C := C.below hb
  replace N := N.below hb
  replace R := R.below hb
  clear hb
  have hU := OU.size
  have hst := bg (P := Tryz.prog) v1 (#[.int .i64 0, .int .i64 0, .slice none 0 0, .bool false, .int .i64 0, .int .i64 0, .int .i64 0, .int .i64 0, .int .i64 0, .int .i64 0, .int .i64 0, .int .i64 0, .int .i64 0, .int .i64 0, .int .i64 0, .slice none 0 0, .int .i64 0, .int .i64 0, .int .i64 0, .int .i64 0, .int .i64 0, .bool false, .int .i64 0, .int .i64 0, .int .i64 0, .slice none 0 0, .slice none 0 0, .int .i64 0]) U 104 (by rw [hU]; rfl) OU.one
  have gKWC : w.heap.size < v1.heap.size := C.1
  have gKWN : w.heap.size + 1 < v1.heap.size := N.1
  have gKWR : w.heap.size + 2 < v1.heap.size := R.1
  have gKWOU : v1.heap.size ≤ v1.heap.size := by omega
  have hb := Below.nw v1 (.cells U 104)
  have KW := Bo.new v1 U 104
  go_upto_region 2 with (rw [hst])
  clear hst
  replace B := B.trans (hb.mono B.size)
  replace C := C.below hb
  replace N := N.below hb
  replace R := R.below hb
  replace OU := OU.below hb
  clear hb
  generalize v1.alloc (.cells U 104) = v2 at *
  generalize v1.heap.size = kKW at *
  have zv2 : kKW ≤ v2.heap.size := Nat.le_of_lt KW.1
  clear hU
  obtain ⟨aa, ac, pa, pc, ha, hc, rfl, hbn, P1, P2, P3⟩ := OU
  (try rw [hst0])
  go_wp2_with fail
  refine (nz y x ct p d aa ac pa pc ha hc kKW v2 KW).mono ?_
  rintro e v3 ⟨rfl, hb⟩
  have zv3 : v2.heap.size ≤ v3.heap.size := hb.size
  replace B := B.trans (hb.mono B.size)
  replace C := C.below hb
  replace N := N.below hb
  replace R := R.below hb
  replace KW := KW.below hb
  replace P1 := P1.below hb
  replace P2 := P2.below hb
  replace P3 := P3.below hb
  clear hb
  have hU : (ndV x aa ac pa pc ha hc).size = 16 := rfl
  have hUl : 0 + (ndV x aa ac pa pc ha hc).toList.length ≤ 16 := by simp [hU]
  have hst := Bo.store (P := Tryz.prog) (b := 0) ((ndV x aa ac pa pc ha hc).toList) 0 0 R rfl hUl (de _ _ _ _ _ _ _)
  have hb : Btw (w.heap.size + 2) (w.heap.size + 2 + 1) v3 _ := ay ((ndV x aa ac pa pc ha hc).toList) v3 0 (w.heap.size + 2)
  have B1 := an (k := w.heap.size + 2) ((ndV x aa ac pa pc ha hc).toList) w v3 0 B (by omega)
  have N1 : Bo (aF v3 (w.heap.size + 2) 0 ((ndV x aa ac pa pc ha hc).toList)) (w.heap.size + 2) ((ndV x aa ac pa pc ha hc)) := R.putW (U := (ndV x aa ac pa pc ha hc)) hU
  go_wp2_with (rw [hst])
  clear hst  R B
  replace C := C.btw hb (by omega)
  replace N := N.btw hb (by omega)
  replace KW := KW.btw hb (by omega)
  replace P1 := P1.btw hb (by omega)
  replace P2 := P2.btw hb (by omega)
  replace P3 := P3.btw hb (by omega)
  have zv4 := hb.2.2.2.1
  clear hb
  generalize aF v3 (w.heap.size + 2) 0 ((ndV x aa ac pa pc ha hc).toList) = v4 at *
  have B := B1
  have R := N1
  clear B1 N1
  have hL0 := R.load (P := Tryz.prog) hU
  exact bodyPost_ret (v := .tuple #[.agg (ndV x aa ac pa pc ha hc), .int .i64 2]) (by simp [results, Tryz.results20, go_sem]; rw [hL0]; rfl) rfl ⟨_, rfl, ⟨aa, ac, pa, pc, ha, hc, rfl, hbn, P1.low (by omega), P2.low (by omega), P3.low (by omega)⟩, B⟩
 ·have hs1 : cw y x ct ≠ 1 := by rw [hst0]; decide
  rw [q6 hst0]
  have hC := HC.size
  have hN := HN.size
  obtain ⟨p, d, hpd, hm, hr⟩ := id HC
  have CW := fun (v : World) (h : Below w.heap.size w v) => iH AC AN y x ct p d v (HC.below h) (HN.below h) hwf hpd hok hs1
  clear HC HN hwf hm hr hpd
  have hsm := rn y x ct
  have CFZ := fun (v : World) (aa : Option Addr) (ac : Nat) (pa : Option Addr) (pc : Nat) (ha : Option Addr) (hc k lp up lo : Nat) (hnp : x.np ≤ 1048576) (hup : up ≤ v.heap.size) (hko : k < lp ∨ up ≤ k) (hlo : lo ≤ lp) (hlw : lo ≤ v.heap.size) (HK : Bo v k (wkV y x ct p d aa ac pa pc ha hc)) (HP : Rwo v lp up 154 5 pa x.np pc (am x.QM)) => sO y x ct p d aa ac pa pc ha hc k lp up lo hnp v hup hko hlo hlw HK HP
  generalize pzR y x ct = FX at *
  obtain ⟨X, cd⟩ := FX
  simp only at hsm CFZ ⊢
  have A0 := Below.nw w (.cells AC 66)
  have A1 := Below.nw (w.alloc (.cells AC 66)) (.cells AN 57)
  have A2 := Below.nw (((w.alloc (.cells AC 66))).alloc (.cells AN 57)) (.cells #[.int .i64 0, .int .i64 0, .int .i64 0, .int .i64 0, .bool false, .int .i64 0, .int .i64 0, .int .i64 0, .int .i64 0, .int .i64 0, .slice none 0 0, .slice none 0 0, .bool false, .int .i64 0, .slice none 0 0, .int .i64 0] 57)
  have C := ((Bo.new w AC 66).below A1).below A2
  have N := (Bo.new (w.alloc (.cells AC 66)) AN 57).below A2
  have R := Bo.new (((w.alloc (.cells AC 66))).alloc (.cells AN 57)) #[.int .i64 0, .int .i64 0, .int .i64 0, .int .i64 0, .bool false, .int .i64 0, .int .i64 0, .int .i64 0, .int .i64 0, .int .i64 0, .slice none 0 0, .slice none 0 0, .bool false, .int .i64 0, .slice none 0 0, .int .i64 0] 57
  have B := A0
  replace B := B.trans (A1.mono B.size)
  replace B := B.trans (A2.mono B.size)
  simp only [World.size_alloc] at N R
  clear A0 A1 A2
  go_enter Tryz.func20, Tryz.ntmps20
  go_upto_region 1 with fail
  generalize ((((w.alloc (.cells AC 66))).alloc (.cells AN 57))).alloc (.cells #[.int .i64 0, .int .i64 0, .int .i64 0, .int .i64 0, .bool false, .int .i64 0, .int .i64 0, .int .i64 0, .int .i64 0, .int .i64 0, .slice none 0 0, .slice none 0 0, .bool false, .int .i64 0, .slice none 0 0, .int .i64 0] 57) = v0 at *
  have hL0 := C.load (P := Tryz.prog) hC
  have hL1 := N.load (P := Tryz.prog) hN
  go_wp2_with (first | rw [hL0] | rw [hL1])
  refine (CW v0 B).mono ?_
  rintro e v1 ⟨U, rfl, OU, hb⟩
  clear hL0 hL1
  have q1C : w.heap.size < v0.heap.size := C.1
  have q1N : w.heap.size + 1 < v0.heap.size := N.1
  have q1R : w.heap.size + 2 < v0.heap.size := R.1
  have q1 : w.heap.size ≤ v0.heap.size := B.size
  have zv1 : v0.heap.size ≤ v1.heap.size := hb.size
  replace B := B.trans (hb.mono B.size)
  replace C := C.below hb
  replace N := N.below hb
  replace R := R.below hb
  clear hb
  have hU := OU.size
  have hst := bg (P := Tryz.prog) v1 (#[.int .i64 0, .int .i64 0, .slice none 0 0, .bool false, .int .i64 0, .int .i64 0, .int .i64 0, .int .i64 0, .int .i64 0, .int .i64 0, .int .i64 0, .int .i64 0, .int .i64 0, .int .i64 0, .int .i64 0, .slice none 0 0, .int .i64 0, .int .i64 0, .int .i64 0, .int .i64 0, .int .i64 0, .bool false, .int .i64 0, .int .i64 0, .int .i64 0, .slice none 0 0, .slice none 0 0, .int .i64 0]) U 104 (by rw [hU]; rfl) OU.one
  have gKWC : w.heap.size < v1.heap.size := C.1
  have gKWN : w.heap.size + 1 < v1.heap.size := N.1
  have gKWR : w.heap.size + 2 < v1.heap.size := R.1
  have gKWOU : v1.heap.size ≤ v1.heap.size := by omega
  have hb := Below.nw v1 (.cells U 104)
  have KW := Bo.new v1 U 104
  go_upto_region 2 with (rw [hst])
  clear hst
  replace B := B.trans (hb.mono B.size)
  replace C := C.below hb
  replace N := N.below hb
  replace R := R.below hb
  replace OU := OU.below hb
  clear hb
  generalize v1.alloc (.cells U 104) = v2 at *
  generalize v1.heap.size = kKW at *
  have zv2 : kKW ≤ v2.heap.size := Nat.le_of_lt KW.1
  clear hU
  obtain ⟨aa, ac, pa, pc, ha, hc, rfl, hbn, P1, P2, P3⟩ := OU
  (try rw [hst0])
  replace hsm := hsm hbn.2.1
  go_wp2_with fail
  refine (CFZ v2 aa ac pa pc ha hc kKW _ _ (w.heap.size + 3) hbn.2.1 (by omega) (.inr (by omega)) (by omega) (by omega) KW P2).mono ?_
  rintro e v3 ⟨qa, qc, rfl, N1, RP, hb⟩
  clear CFZ
  replace B := B.trans ((hb.belowL (Nat.le_of_lt KW.1)).mono (show w.heap.size ≤ kKW by omega))
  clear P2
  replace C := C.btw hb (by omega)
  replace N := N.btw hb (by omega)
  replace R := R.btw hb (by omega)
  replace P1 := P1.btw hb (by omega)
  replace P3 := P3.btw hb (by omega)
  have zv3 := hb.2.2.2.1
  clear hb KW
  have KW := N1
  clear N1
  go_wp2_with fail
  refine (nz y X ct p d aa ac qa qc ha hc kKW v3 KW).mono ?_
  rintro e v4 ⟨rfl, hb⟩
  have zv4 : v3.heap.size ≤ v4.heap.size := hb.size
  replace B := B.trans (hb.mono B.size)
  replace C := C.below hb
  replace N := N.below hb
  replace R := R.below hb
  replace KW := KW.below hb
  replace P1 := P1.below hb
  replace P3 := P3.below hb
  replace RP := RP.below hb
  clear hb
  have hU : (ndV X aa ac qa qc ha hc).size = 16 := rfl
  have hUl : 0 + (ndV X aa ac qa qc ha hc).toList.length ≤ 16 := by simp [hU]
  have hst := Bo.store (P := Tryz.prog) (b := 0) ((ndV X aa ac qa qc ha hc).toList) 0 0 R rfl hUl (de _ _ _ _ _ _ _)
  have hb : Btw (w.heap.size + 2) (w.heap.size + 2 + 1) v4 _ := ay ((ndV X aa ac qa qc ha hc).toList) v4 0 (w.heap.size + 2)
  have B1 := an (k := w.heap.size + 2) ((ndV X aa ac qa qc ha hc).toList) w v4 0 B (by omega)
  have N1 : Bo (aF v4 (w.heap.size + 2) 0 ((ndV X aa ac qa qc ha hc).toList)) (w.heap.size + 2) ((ndV X aa ac qa qc ha hc)) := R.putW (U := (ndV X aa ac qa qc ha hc)) hU
  go_wp2_with (rw [hst])
  clear hst  R B
  replace C := C.btw hb (by omega)
  replace N := N.btw hb (by omega)
  replace KW := KW.btw hb (by omega)
  replace P1 := P1.btw hb (by omega)
  replace P3 := P3.btw hb (by omega)
  replace RP := RP.btw hb (by omega)
  have zv5 := hb.2.2.2.1
  clear hb
  generalize aF v4 (w.heap.size + 2) 0 ((ndV X aa ac qa qc ha hc).toList) = v5 at *
  have B := B1
  have R := N1
  clear B1 N1
  obtain ⟨s1, s2, s3, s4, s5⟩ := hsm
  have hL0 := R.load (P := Tryz.prog) hU
  exact bodyPost_ret (v := .tuple #[.agg (ndV X aa ac qa qc ha hc), .int .i64 cd]) (by simp [results, Tryz.results20, go_sem]; rw [hL0]; rfl) rfl ⟨_, rfl, ⟨aa, ac, qa, qc, ha, hc, rfl, ⟨by rw [s1]; exact hbn.1, s5, by rw [s3]; exact hbn.2.2⟩, by rw [s1, s2]; exact P1.low (by omega), RP.low (by omega), by rw [s3, s4]; exact P3.low (by omega)⟩, B⟩
theorem jQ (AC : Array Value) (y : CfX) (AN : Array Value) (x : NdX) (ct : Int) (w : World) (HC : CfW w AC y) (HN : NdW w AN x) (hwf : wfX x) (hc : (Lit.int .i64 ct).wf = true) :
 Calls Tryz.prog 4 #[.agg AC, .agg AN, .int .i64 ct] w fun e w' => e = .returned (.bool true) ∧ Below w.heap.size w w' :=
 kS (cQ) (fun AC AN y x ct w h h' _ => pg AC AN y x ct w h h') (fun AC AN y x ct w h h' hw => oL AC AN y x ct w h h' hw) AC AN y x ct w HC HN hwf
end Go.Proofs.YtikbjljkakabdaaGreat
