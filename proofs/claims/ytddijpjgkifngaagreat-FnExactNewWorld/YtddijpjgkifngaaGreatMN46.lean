/- The walk of the exact law of NewWorld. -/
import Derived.Test.YtddijpjgkifngaaGreatMN0
import Derived.Test.YtddijpjgkifngaaGreatMN41
import Derived.Test.YtddijpjgkifngaaGreatMN42
import Derived.Test.YtddijpjgkifngaaGreatMN45
namespace Go.Proofs.YtddijpjgkifngaaGreat
open Go.RowKit
set_option linter.unusedVariables false
set_option maxRecDepth 100000
set_option maxHeartbeats 16000000
theorem NwO.belowX {w w' : World} {lo hi : Nat} {A : Array Value} {y : CfX} {n : Nat} {LB : Nat → Bool} (h : NwO w lo hi A y n LB) (hb : Below w.heap.size w w') : NwO w' lo hi A y n LB := by
 obtain ⟨p, d, la, lc, ca, cc, na, nk, l1, l2, l3, rfl, hm, hn, ⟨q1, q2, q3, q4, q5⟩, h1, h2, h3, h4⟩ := h
 exact ⟨p, d, la, lc, ca, cc, na, nk, l1, l2, l3, rfl, hm, hn, ⟨q1, q2, q3, q4, Nat.le_trans q5 hb.size⟩, h1.below hb, h2.below hb, h3.below hb, h4.below hb⟩
theorem NwO.btwX {w w' : World} {lo hi l u : Nat} {A : Array Value} {y : CfX} {n : Nat} {LB : Nat → Bool} (h : NwO w lo hi A y n LB) (hb : Btw l u w w') (ho : u ≤ lo) : NwO w' lo hi A y n LB := by
 obtain ⟨p, d, la, lc, ca, cc, na, nk, l1, l2, l3, rfl, hm, hn, ⟨q1, q2, q3, q4, q5⟩, h1, h2, h3, h4⟩ := h
 exact ⟨p, d, la, lc, ca, cc, na, nk, l1, l2, l3, rfl, hm, hn, ⟨q1, q2, q3, q4, Nat.le_trans q5 hb.2.2.2.1⟩, h1.btw hb (.inr ho), h2.btw hb (.inr (by omega)), h3.btw hb (.inr (by omega)), h4.btw hb (.inr (by omega))⟩
attribute [-go_sem] loadCells storeCells in
theorem gi (AC : Array Value) (y : CfX) (la : Option Addr) (n lc : Nat) (LB : Nat → Bool) (w : World) (hc : CfW w AC y) (hl : ae w la n (boG LB)) :
 Calls Tryz.prog 4 #[.agg AC, .slice la n lc] w fun e w' => e = .returned (.bool true) ∧ Below w.heap.size w w' := by
 have B := Below.nw w (.cells AC 28)
 have C := Bo.new w AC 28
 have hC := hc.size
 have HC : Hid (∀ v, Below w.heap.size w v → CfW v AC y) := fun v h => hc.below h
 have HL : Hid (∀ v, Below w.heap.size w v → ae v la n (boG LB)) := fun v h => hl.below h
 clear hc hl
 have hbb : (nwB y n LB != nwB y n LB) = false := by simp
 by_cases hbig : (1048576 : Int) < (n : Int)
 ·go_enter Tryz.func4, Tryz.ntmps4
  go_wp2_with fail
  go_ret
  exact ⟨rfl, B⟩
 have hn : n ≤ 1048576 := by omega
 go_enter Tryz.func4, Tryz.ntmps4
 go_upto_region 1 with fail
 generalize w.alloc (.cells AC 28) = v0 at *
 have hw0 : w.heap.size ≤ v0.heap.size := B.size
 have hL0 := C.load (P := Tryz.prog) hC
 go_wp2_with (rw [hL0])
 refine (kC AC y 1048576 v0 (HC.out v0 B) (by decide) (by decide)).mono ?_
 rintro e v1 ⟨Z, rfl, hZ, hb⟩
 clear hL0
 have yv1 : v0.heap.size ≤ v1.heap.size := hb.size
 replace B := B.trans (hb.mono B.size)
 replace C := C.below hb
 clear hb
 by_cases hz : Z < 0
 ·clear hZ
  go_wp2_with fail
  go_ret
  exact ⟨rfl, B⟩
 obtain ⟨hm, -⟩ := hZ (by omega)
 clear hZ
 have hL0 := C.load (P := Tryz.prog) hC
 go_wp2_with (rw [hL0])
 refine (fA AC y v1 (HC.out v1 B) hm).mono ?_
 rintro e v2 ⟨R0, rfl, O0, hb⟩
 clear hL0
 have yv2 : v1.heap.size ≤ v2.heap.size := hb.size
 replace B := B.trans (hb.mono B.size)
 replace C := C.below hb
 clear hb
 go_wp2_with fail
 refine (dh la n lc LB v2 hn (HL.out v2 B)).mono ?_
 rintro e v3 ⟨g0, rfl, Q0, hb⟩
 have yv3 : v2.heap.size ≤ v3.heap.size := hb.size
 replace B := B.trans (hb.mono B.size)
 replace C := C.below hb
 replace O0 := O0.below hb
 clear hb
 go_wp2_with fail
 refine (es R0 y _ n n LB v3 O0.src hm hn Q0.rw).mono ?_
 rintro e v4 ⟨A0, rfl, HW, hb⟩
 have yv4 : v3.heap.size ≤ v4.heap.size := hb.size
 replace B := B.trans (hb.mono B.size)
 replace C := C.below hb
 replace O0 := O0.below hb
 replace Q0 := Q0.below hb
 clear hb
 clear O0 Q0
 have BW : Below v4.heap.size v4 v4 := Below.refl _ _
 have HWW : Hid (∀ v, Below v4.heap.size v4 v → WdW v A0 (nwO y n LB)) := fun v h => HW.below h
 have hA0 := HW.size
 have o0 := HW.one
 clear HW
 have hst := aY (P := Tryz.prog) v4 (#[.int .i64 0, .int .i64 0, .int .i64 0, .int .i64 0, .int .i64 0, .int .i64 0, .int .i64 0, .int .i64 0, .int .i64 0, .int .i64 0, .slice none 0 0, .slice none 0 0, .int .i64 0, .slice none 0 0, .slice none 0 0, .int .i64 0, .slice none 0 0, .slice none 0 0]) A0 52 (by rw [hA0]; rfl) o0
 have hb := Below.nw v4 (.cells A0 52)
 have W0 := Bo.new v4 A0 52
 have yv5 : v4.heap.size < (v4.alloc (.cells A0 52)).heap.size := by simp
 go_upto_region 8 with (rw [hst])
 clear hst
 replace B := B.trans (hb.mono B.size)
 replace BW := BW.trans (hb.mono BW.size)
 replace C := C.below hb
 clear hb
 generalize v4.alloc (.cells A0 52) = v5 at *
 have hL0 := C.load (P := Tryz.prog) hC
 go_wp2_with (rw [hL0])
 refine (fA AC y v5 (HC.out v5 B) hm).mono ?_
 rintro e v6 ⟨RX, rfl, OX, hb⟩
 clear hL0
 have yv6 : v5.heap.size ≤ v6.heap.size := hb.size
 replace B := B.trans (hb.mono B.size)
 replace BW := BW.trans (hb.mono BW.size)
 replace C := C.below hb
 replace W0 := W0.below hb
 clear hb
 have hRX := OX.size
 have hst := aY (P := Tryz.prog) v6 (#[.int .i64 0, .int .i64 0, .int .i64 0, .int .i64 0, .int .i64 0, .int .i64 0, .int .i64 0, .int .i64 0, .int .i64 0, .int .i64 0, .slice none 0 0]) RX 45 (by rw [hRX]; rfl) OX.one
 have hb := Below.nw v6 (.cells RX 45)
 have XB0 := Bo.new v6 RX 45
 have yv7 : v6.heap.size < (v6.alloc (.cells RX 45)).heap.size := by simp
 go_upto_region 9 with (rw [hst])
 clear hst
 replace B := B.trans (hb.mono B.size)
 replace BW := BW.trans (hb.mono BW.size)
 replace C := C.below hb
 replace W0 := W0.below hb
 replace OX := OX.below hb
 clear hb
 generalize v6.alloc (.cells RX 45) = v7 at *
 go_wp2_with fail
 refine (dh la n lc LB v7 hn (HL.out v7 B)).mono ?_
 rintro e v8 ⟨gx, rfl, QX, hb⟩
 have yv8 : v7.heap.size ≤ v8.heap.size := hb.size
 replace B := B.trans (hb.mono B.size)
 replace BW := BW.trans (hb.mono BW.size)
 replace C := C.below hb
 replace W0 := W0.below hb
 replace OX := OX.below hb
 replace XB0 := XB0.below hb
 clear hb
 have hL0 := XB0.load (P := Tryz.prog) hRX
 go_wp2_with (rw [hL0])
 refine (b9 RX y _ n n LB v8 OX.src hm hn QX.rw).mono ?_
 rintro e v9 ⟨AG, rfl, HQ, hb⟩
 clear hL0
 have yv9 : v8.heap.size ≤ v9.heap.size := hb.size
 replace B := B.trans (hb.mono B.size)
 replace BW := BW.trans (hb.mono BW.size)
 replace C := C.below hb
 replace W0 := W0.below hb
 replace OX := OX.below hb
 replace XB0 := XB0.below hb
 replace QX := QX.below hb
 clear hb
 obtain ⟨y', n', LB', hx, HG⟩ := HQ
 have HX : Hid (nwO y n LB = nwX y' n' LB') := hx
 have hAG := HG.wd.size
 have o1 := HG.wd.one
 clear hx
 have hst := aY (P := Tryz.prog) v9 (#[.int .i64 0, .int .i64 0, .int .i64 0, .int .i64 0, .int .i64 0, .int .i64 0, .int .i64 0, .int .i64 0, .int .i64 0, .int .i64 0, .slice none 0 0, .slice none 0 0, .int .i64 0, .slice none 0 0, .slice none 0 0, .int .i64 0, .slice none 0 0, .slice none 0 0]) AG 52 (by rw [hAG]; rfl) o1
 have hb := Below.nw v9 (.cells AG 52)
 have G := Bo.new v9 AG 52
 have yv10 : v9.heap.size < (v9.alloc (.cells AG 52)).heap.size := by simp
 go_upto_region 11 with (rw [hst])
 clear hst
 replace B := B.trans (hb.mono B.size)
 replace BW := BW.trans (hb.mono BW.size)
 replace C := C.below hb
 replace W0 := W0.below hb
 replace OX := OX.below hb
 replace XB0 := XB0.below hb
 replace QX := QX.below hb
 replace HG := HG.belowX hb
 clear hb
 generalize v9.alloc (.cells AG 52) = v10 at *
 have hL0 := G.load (P := Tryz.prog) hAG
 have hL1 := W0.load (P := Tryz.prog) hA0
 go_wp2_with (first | rw [hL0] | rw [hL1])
 refine (du AG A0 (nwO y n LB) v10 (by rw [HX.out]; exact HG.wd) (HWW.out v10 BW)).mono ?_
 rintro e v11 ⟨rfl, hb⟩
 clear hL0 hL1
 have yv11 : v10.heap.size ≤ v11.heap.size := hb.size
 replace B := B.trans (hb.mono B.size)
 replace BW := BW.trans (hb.mono BW.size)
 replace C := C.below hb
 replace W0 := W0.below hb
 replace OX := OX.below hb
 replace XB0 := XB0.below hb
 replace QX := QX.below hb
 replace HG := HG.belowX hb
 replace G := G.below hb
 clear hb
 go_upto_region 13 with fail
 have SK : Hid (∀ w', Below v11.heap.size v11 w' → (loadCells ⟨v6.heap.size, 0, none⟩ 11).run Tryz.prog w' = .ok RX w' ∧ (loadCells ⟨w.heap.size, 0, none⟩ 11).run Tryz.prog w' = .ok AC w') := fun w' hw => ⟨(XB0.below hw).load hRX, (C.below hw).load hC⟩
 refine wp_region_held_drew (S := (fun w' => (loadCells ⟨v6.heap.size, 0, none⟩ 11).run Tryz.prog w' = .ok RX w' ∧ (loadCells ⟨w.heap.size, 0, none⟩ 11).run Tryz.prog w' = .ok AC w')) (by kernel_rfl) ?_ (fun hHeld => ?_)
 ·first | exact SK.out _ XB | exact SK.out _ zD
 have XB : Below v11.heap.size v11 v11.drew := Below.drew (Below.refl _ _)
 generalize v11.drew = vx at *
 refine zT2 0 ?_
 refine zQ 2 fun K hK => ?_
 go_simp
 refine (fA AC y vx (HC.out vx (B.trans (XB.mono B.size))) hm).mono ?_; rintro ee vy ⟨RY, rfl, OY, hbl⟩; (replace XB := XB.trans (hbl.mono XB.size)); (clear hbl); (generalize vy = vx at *)
 (try go_wp2_with fail)
 refine hK.out _ _ ?_ (fun hHeld => ?_)
 ·first | exact SK.out _ XB | exact SK.out _ zD
 clear hK K
 (try simp only [zA])
 refine zQ 3 fun K hK => ?_
 go_simp
 refine (jp RX RY y vx (OX.below XB).src.weak OY.src.weak).mono ?_; rintro ee vy ⟨rfl, hbl⟩; (replace XB := XB.trans (hbl.mono XB.size)); (clear hbl OY); (generalize vy = vx at *)
 (try go_wp2_with fail)
 refine hK.out _ _ ?_ (fun hHeld => ?_)
 ·first | exact SK.out _ XB | exact SK.out _ zD
 clear hK K
 (try simp only [zA])
 refine zTk 4 ?_
 refine wpAnyH_done (by kernel_rfl) ?_ _
 have hb := XB
 clear XB SK
 have yvx : v11.heap.size ≤ vx.heap.size := hb.size
 replace B := B.trans (hb.mono B.size)
 replace BW := BW.trans (hb.mono BW.size)
 replace C := C.below hb
 replace W0 := W0.below hb
 replace OX := OX.below hb
 replace XB0 := XB0.below hb
 replace QX := QX.below hb
 replace HG := HG.belowX hb
 replace G := G.below hb
 clear hb
 go_wp2_with fail
 refine (dh la n lc LB vx hn (HL.out vx B)).mono ?_
 rintro e v12 ⟨gy, rfl, QY, hb⟩
 have yv12 : vx.heap.size ≤ v12.heap.size := hb.size
 replace B := B.trans (hb.mono B.size)
 replace BW := BW.trans (hb.mono BW.size)
 replace C := C.below hb
 replace W0 := W0.below hb
 replace OX := OX.below hb
 replace XB0 := XB0.below hb
 replace QX := QX.below hb
 replace HG := HG.belowX hb
 replace G := G.below hb
 clear hb
 have hsx : n * 1 = n := Nat.mul_one n
 go_wp2_with fail
 refine (cK _ _ n n n LB v12 (Nat.le_trans hn (by decide)) (by have e := QX.srcC; rwa [hsx] at e) (by have e := QY.srcC; rwa [hsx] at e)).mono ?_
 rintro e v13 ⟨rfl, hb⟩
 have yv13 : v12.heap.size ≤ v13.heap.size := hb.size
 replace B := B.trans (hb.mono B.size)
 replace BW := BW.trans (hb.mono BW.size)
 replace C := C.below hb
 replace W0 := W0.below hb
 replace OX := OX.below hb
 replace XB0 := XB0.below hb
 replace QX := QX.below hb
 replace HG := HG.belowX hb
 replace G := G.below hb
 clear hb
 clear QY
 have hwv : w.heap.size ≤ v4.heap.size := by omega
 have hL0 := XB0.load (P := Tryz.prog) hRX
 go_wp2_with (rw [hL0])
 refine (jF RX y 1 v5.heap.size v6.heap.size v13 OX (by decide) (by decide)).mono ?_
 rintro e v14 ⟨rfl, -, hb⟩
 clear hL0
 clear OX
 have yv14 : v13.heap.size ≤ v14.heap.size := hb.2.2.2.1
 replace B := B.trans ((hb.belowL (show v5.heap.size ≤ v13.heap.size by omega)).mono (show w.heap.size ≤ v5.heap.size by omega))
 replace BW := BW.trans ((hb.belowL (show v5.heap.size ≤ v13.heap.size by omega)).mono (show v4.heap.size ≤ v5.heap.size by omega))
 replace C := C.btw hb (by omega)
 replace W0 := W0.btw hb (by omega)
 replace XB0 := XB0.btw hb (by omega)
 replace QX := QX.btw hb (by omega)
 replace HG := HG.btwX hb (by omega)
 replace G := G.btw hb (by omega)
 clear hb
 go_upto_region 19 with fail
 obtain ⟨K1, hKe⟩ : ∃ z : Int, 1 + (y.m : Int) * 2 = z := ⟨_, rfl⟩
 simp only [hKe]
 have kq1 : 0 < K1 ∧ K1 ≤ 1 + 1048576 * 2 := by omega
 clear hKe
 go_wp2_with fail
 refine (dG n n v7.heap.size v8.heap.size _ _ K1 v14 hn (by omega) (by omega) QX).mono ?_
 rintro e v15 ⟨rfl, -, hb⟩
 clear QX
 have yv15 : v14.heap.size ≤ v15.heap.size := hb.2.2.2.1
 replace B := B.trans ((hb.belowL (show v7.heap.size ≤ v14.heap.size by omega)).mono (show w.heap.size ≤ v7.heap.size by omega))
 replace BW := BW.trans ((hb.belowL (show v7.heap.size ≤ v14.heap.size by omega)).mono (show v4.heap.size ≤ v7.heap.size by omega))
 replace C := C.btw hb (by omega)
 replace W0 := W0.btw hb (by omega)
 replace XB0 := XB0.btw hb (by omega)
 replace HG := HG.btwX hb (by omega)
 replace G := G.btw hb (by omega)
 clear hb
 go_upto_region 20 with fail
 obtain ⟨K2, hKe⟩ : ∃ z : Int, K1 + (n : Int) = z := ⟨_, rfl⟩
 simp only [hKe]
 have kn2 : ¬ (K2 < 0) := by omega
 have kd2 : decide (K2 < 0) = false := decide_eq_false kn2
 clear hKe
 have hL0 := G.load (P := Tryz.prog) hAG
 have hL1 := W0.load (P := Tryz.prog) hA0
 go_wp2_with (first | rw [hL0] | rw [hL1])
 refine (du AG A0 (nwO y n LB) v15 (by rw [HX.out]; exact HG.wd) (HWW.out v15 BW)).mono ?_
 rintro e v16 ⟨rfl, hb⟩
 clear hL0 hL1
 have yv16 : v15.heap.size ≤ v16.heap.size := hb.size
 replace B := B.trans (hb.mono B.size)
 replace BW := BW.trans (hb.mono BW.size)
 replace C := C.below hb
 replace W0 := W0.below hb
 replace XB0 := XB0.below hb
 replace HG := HG.belowX hb
 replace G := G.below hb
 clear hb
 have hL0 := G.load (P := Tryz.prog) hAG
 go_wp2_with (rw [hL0])
 refine (ig AG y' n' LB' v8.heap.size v9.heap.size v16 HG).mono ?_
 rintro e v17 ⟨rfl, HM, hb⟩
 clear hL0
 clear HG
 have yv17 : v16.heap.size ≤ v17.heap.size := hb.2.2.2.1
 replace B := B.trans ((hb.belowL (show v8.heap.size ≤ v16.heap.size by omega)).mono (show w.heap.size ≤ v8.heap.size by omega))
 replace BW := BW.trans ((hb.belowL (show v8.heap.size ≤ v16.heap.size by omega)).mono (show v4.heap.size ≤ v8.heap.size by omega))
 replace C := C.btw hb (by omega)
 replace W0 := W0.btw hb (by omega)
 replace XB0 := XB0.btw hb (by omega)
 replace G := G.btw hb (by omega)
 clear hb
 go_upto_region 24 with fail
 have hm' : y'.m ≤ 1048576 := by obtain ⟨_, _, _, _, _, _, _, _, _, e, _⟩ := HM; exact e
 obtain ⟨m, hKe⟩ : ∃ z : Int, 1 + (y'.m : Int) * 2 + (n' : Int) * 15 = z := ⟨_, rfl⟩
 simp only [hKe]
 have km : ¬ (m < 0) := by omega
 have kmd : decide (m < 0) = false := decide_eq_false km
 have kmm : (m != m) = false := by simp
 have CH : ∀ v, NwM v AG y' n' → Calls Tryz.prog 23 #[.agg AG, .int .i64 1] v fun e w' => e = .returned (.int .i64 m) ∧ Below v.heap.size v w' := fun v h => by rw [← hKe]; exact gW AG y' n' v h
 have HKe : Hid (1 + (y'.m : Int) * 2 + (n' : Int) * 15 = m) := hKe
 clear hKe
 have hL0 := G.load (P := Tryz.prog) hAG
 go_wp2_with (rw [hL0])
 refine (CH v17 HM).mono ?_
 rintro e v18 ⟨rfl, hb⟩
 clear hL0
 have yv18 : v17.heap.size ≤ v18.heap.size := hb.size
 replace B := B.trans (hb.mono B.size)
 replace BW := BW.trans (hb.mono BW.size)
 replace C := C.below hb
 replace W0 := W0.below hb
 replace XB0 := XB0.below hb
 replace G := G.below hb
 replace HM := HM.below hb
 clear hb
 have hL0 := C.load (P := Tryz.prog) hC
 go_wp2_with (rw [hL0])
 refine (fA AC y v18 (HC.out v18 B) hm).mono ?_
 rintro e v19 ⟨RH, rfl, OH, hb⟩
 clear hL0
 have yv19 : v18.heap.size ≤ v19.heap.size := hb.size
 replace B := B.trans (hb.mono B.size)
 replace BW := BW.trans (hb.mono BW.size)
 replace C := C.below hb
 replace W0 := W0.below hb
 replace XB0 := XB0.below hb
 replace G := G.below hb
 replace HM := HM.below hb
 clear hb
 go_wp2_with fail
 refine (dh la n lc LB v19 hn (HL.out v19 B)).mono ?_
 rintro e v20 ⟨gz, rfl, QH, hb⟩
 have yv20 : v19.heap.size ≤ v20.heap.size := hb.size
 replace B := B.trans (hb.mono B.size)
 replace BW := BW.trans (hb.mono BW.size)
 replace C := C.below hb
 replace W0 := W0.below hb
 replace XB0 := XB0.below hb
 replace G := G.below hb
 replace HM := HM.below hb
 replace OH := OH.below hb
 clear hb
 go_wp2_with fail
 refine (b9 RH y _ n n LB v20 OH.src hm hn QH.rw).mono ?_
 rintro e v21 ⟨AH, rfl, HQ2, hb⟩
 have yv21 : v20.heap.size ≤ v21.heap.size := hb.size
 replace B := B.trans (hb.mono B.size)
 replace BW := BW.trans (hb.mono BW.size)
 replace C := C.below hb
 replace W0 := W0.below hb
 replace XB0 := XB0.below hb
 replace G := G.below hb
 replace HM := HM.below hb
 replace OH := OH.below hb
 replace QH := QH.below hb
 clear hb
 clear OH QH
 obtain ⟨y2, n2, LB2, hx2, HG2⟩ := HQ2
 have HH : Hid (WdW v21 AH (nwO y n LB)) := by rw [hx2]; exact HG2.wd
 have hAH := HG2.wd.size
 have o2 := HG2.wd.one
 clear hx2 HG2
 have HHW : Hid (∀ v, Below v21.heap.size v21 v → WdW v AH (nwO y n LB)) := fun v h => HH.out.below h
 clear HH
 have BH : Below v21.heap.size v21 v21 := Below.refl _ _
 have hst := aY (P := Tryz.prog) v21 (#[.int .i64 0, .int .i64 0, .int .i64 0, .int .i64 0, .int .i64 0, .int .i64 0, .int .i64 0, .int .i64 0, .int .i64 0, .int .i64 0, .slice none 0 0, .slice none 0 0, .int .i64 0, .slice none 0 0, .slice none 0 0, .int .i64 0, .slice none 0 0, .slice none 0 0]) AH 52 (by rw [hAH]; rfl) o2
 have hb := Below.nw v21 (.cells AH 52)
 have H := Bo.new v21 AH 52
 have yv22 : v21.heap.size < (v21.alloc (.cells AH 52)).heap.size := by simp
 go_upto_region 31 with (rw [hst])
 clear hst
 replace BH := BH.trans (hb.mono BH.size)
 replace B := B.trans (hb.mono B.size)
 replace BW := BW.trans (hb.mono BW.size)
 replace C := C.below hb
 replace W0 := W0.below hb
 replace XB0 := XB0.below hb
 replace G := G.below hb
 replace HM := HM.below hb
 clear hb
 generalize v21.alloc (.cells AH 52) = v22 at *
 have hL0 := H.load (P := Tryz.prog) hAH
 have hL1 := W0.load (P := Tryz.prog) hA0
 go_wp2_with (first | rw [hL0] | rw [hL1])
 refine (du AH A0 (nwO y n LB) v22 (HHW.out v22 BH) (HWW.out v22 BW)).mono ?_
 rintro e v23 ⟨rfl, hb⟩
 clear hL0 hL1
 have yv23 : v22.heap.size ≤ v23.heap.size := hb.size
 replace BH := BH.trans (hb.mono BH.size)
 replace B := B.trans (hb.mono B.size)
 replace BW := BW.trans (hb.mono BW.size)
 replace C := C.below hb
 replace W0 := W0.below hb
 replace XB0 := XB0.below hb
 replace G := G.below hb
 replace HM := HM.below hb
 replace H := H.below hb
 clear hb
 have hL0 := G.load (P := Tryz.prog) hAG
 go_wp2_with (rw [hL0])
 refine (CH v23 HM).mono ?_
 rintro e v24 ⟨rfl, hb⟩
 clear hL0
 have yv24 : v23.heap.size ≤ v24.heap.size := hb.size
 replace BH := BH.trans (hb.mono BH.size)
 replace B := B.trans (hb.mono B.size)
 replace BW := BW.trans (hb.mono BW.size)
 replace C := C.below hb
 replace W0 := W0.below hb
 replace XB0 := XB0.below hb
 replace G := G.below hb
 replace HM := HM.below hb
 replace H := H.below hb
 clear hb
 go_wp2_with fail
 go_ret
 exact ⟨rfl, B⟩
theorem fC (AC : Array Value) (y : CfX) (la : Option Addr) (n lc : Nat) (LB : Nat → Bool) (w : World) (hc : CfW w AC y) (hmx : n ≤ maxLen) (hl : ae w la n (boG LB)) :
 Calls Tryz.prog 4 #[.agg AC, .slice la n lc] w fun e w' => e = .returned (.bool true) ∧ Below w.heap.size w w' := gi AC y la n lc LB w hc hl
end Go.Proofs.YtddijpjgkifngaaGreat
