/- WorldOk in the program. -/
import Derived.Test.YtddijpjgkifngaaGreatMN0
import Derived.Test.YtddijpjgkifngaaGreatMN32
import Derived.Test.YtddijpjgkifngaaGreatMN33
import Derived.Test.YtddijpjgkifngaaGreatMN34
import Derived.Test.YtddijpjgkifngaaGreatMN36
import Derived.Test.YtddijpjgkifngaaGreatMN37
namespace Go.Proofs.YtddijpjgkifngaaGreat
open Go.RowKit
set_option linter.unusedVariables false
set_option maxRecDepth 100000
set_option maxHeartbeats 16000000
theorem kp {P : Program} {w : World} {b off n k : Nat} {M : Nat → FrT} {x0 x1 x2 x3 x4 : Int} {x5 : ByteArray} (h : Cs w b off (n * 6) (av M)) (hk : k < n) (hM : M k = (x0, x1, x2, x3, x4, x5)) :
 (loadCells ⟨b, off + k * 6, none⟩ 6).run P w = .ok #[.int .i64 x0, .int .i64 x1, .int .i64 x2, .int .i64 x3, .int .i64 x4, .string x5] w := by
 obtain ⟨c0, c1, c2, c3, c4, c5⟩ := h.elFrame hk hM
 have e := run_loadCells_list (P := P) w ⟨b, off + k * 6, none⟩ [.int .i64 x0, .int .i64 x1, .int .i64 x2, .int .i64 x3, .int .i64 x4, .string x5] (fun j v hj => by
  rw [add_at]
  match j, hj with
  | 0, hj => simp at hj; subst hj; exact c0
  | 1, hj => simp at hj; subst hj; exact c1
  | 2, hj => simp at hj; subst hj; exact c2
  | 3, hj => simp at hj; subst hj; exact c3
  | 4, hj => simp at hj; subst hj; exact c4
  | 5, hj => simp at hj; subst hj; exact c5
  | j + 6, hj => simp at hj)
 exact e
def wfWd (x : WdX) : Prop := (∀ i, i < x.nn → wfX (x.XM i)) ∧ ∀ i, i < x.nf → (Lit.int .i64 (x.FM i).1).wf = true
attribute [-go_sem] loadCells storeCells in
theorem eA (A : Array Value) (x : WdX) (z : Int) (w : World) (h : WdW w A x) :
 Calls Tryz.prog 150 #[.agg A, .int .i64 z] w fun e w' => e = .returned (.bool (cl x z)) ∧ Below w.heap.size w w' := by
 obtain ⟨p, d, la, lc, ca, cc, na, nk, fa, fc, ba, bc, rfl, hm, h1, h2, h3, h4, h5, h6⟩ := h
 obtain ⟨m1, m2, m3, m4, m5, m6⟩ := hm
 have m4' : x.nn ≤ 9223372036854775807 := m4
 have m5' : x.nf ≤ 9223372036854775807 := m5
 have m6' : x.nb ≤ 9223372036854775807 := m6
 have m2' : x.nl ≤ 9223372036854775807 := m2
 have m3' : x.nc ≤ 9223372036854775807 := m3
 clear h1 h2 h3 h4 h5 h6 m1 m2 m3 m4 m5 m6
 have A0 := Below.nw w (.cells (wdV x p d la lc ca cc na nk fa fc ba bc) 52)
 have L := Bo.new w (wdV x p d la lc ca cc na nk fa fc ba bc) 52
 have B := A0
 clear A0
 go_enter Tryz.func150, Tryz.ntmps150
 go_upto_region 1 with fail
 generalize w.alloc (.cells (wdV x p d la lc ca cc na nk fa fc ba bc) 52) = v0 at *
 have hL0 : v0.cell? ⟨w.heap.size, 14, none⟩ = some (.slice na x.nn nk) := L.cell rfl
 by_cases hz : 0 ≤ z
 ·have hd0 : decide (0 ≤ z) = true := by simp [hz]
  by_cases hy : z < (x.nn : Int)
  ·have hd1 : decide (z < (x.nn : Int)) = true := by simp [hy]
   go_wp2_with fail
   go_ret
   exact ⟨by unfold cl; rw [decide_eq_true ⟨hz, hy⟩]; rfl, B⟩
  ·have hd1 : decide (z < (x.nn : Int)) = false := by simp; omega
   go_wp2_with fail
   go_ret
   exact ⟨by unfold cl; rw [decide_eq_false (by omega)]; rfl, B⟩
 ·have hd0 : decide (0 ≤ z) = false := by simp; omega
  go_wp2_with fail
  go_ret
  exact ⟨by unfold cl; rw [decide_eq_false (by omega)]; rfl, B⟩
attribute [-go_sem] loadCells storeCells in
theorem jH (A : Array Value) (x : WdX) (w : World) (h : WdW w A x) (hwf : ∀ i, i < x.nn → wfX (x.XM i)) :
 Calls Tryz.prog 100 #[.agg A] w fun e w' => e = .returned (.bool (aZ x)) ∧ Below w.heap.size w w' := by
 obtain ⟨p, d, la, lc, ca, cc, na, nk, fa, fc, ba, bc, rfl, hm, h1, h2, h3, h4, h5, h6⟩ := h
 obtain ⟨m1, m2, m3, m4, m5, m6⟩ := hm
 have m4' : x.nn ≤ 9223372036854775807 := m4
 have m5' : x.nf ≤ 9223372036854775807 := m5
 have m6' : x.nb ≤ 9223372036854775807 := m6
 have m2' : x.nl ≤ 9223372036854775807 := m2
 have m3' : x.nc ≤ 9223372036854775807 := m3
 have HN : Hid (aZ x = (decide (1 ≤ x.nn ∧ x.nn ≤ 8) && (decide (x.nl = x.nn) && (decide (x.nc = x.nn) && ax (bH x) x.nn)))) := rfl
 have H3 : Hid (ae w ca x.nc (itG x.CM)) := h3
 have H4 : Hid (RwN NdW w na x.nn x.XM) := h4
 have HW : Hid (∀ i, i < x.nn → wfX (x.XM i)) := hwf
 clear h1 h2 h3 h4 h5 h6 m1 m2 m3 m4 m5 m6 hwf
 have A0 := Below.nw w (.cells (wdV x p d la lc ca cc na nk fa fc ba bc) 52)
 have L := Bo.new w (wdV x p d la lc ca cc na nk fa fc ba bc) 52
 have B := A0
 clear A0
 go_enter Tryz.func100, Tryz.ntmps100
 go_upto_region 1 with fail
 generalize w.alloc (.cells (wdV x p d la lc ca cc na nk fa fc ba bc) 52) = v0 at *
 have hL0 : v0.cell? ⟨w.heap.size, 14, none⟩ = some (.slice na x.nn nk) := L.cell rfl
 have hL1 : v0.cell? ⟨w.heap.size, 11, none⟩ = some (.slice la x.nl lc) := L.cell rfl
 have hL2 : v0.cell? ⟨w.heap.size, 13, none⟩ = some (.slice ca x.nc cc) := L.cell rfl
 by_cases ha1 : x.nn < 1
 ·have hd0 : decide ((x.nn : Int) < 1) = true := by simp; omega
  have hE : aZ x = false := by rw [HN.out, decide_eq_false (by omega)]; rfl
  clear HN
  go_wp2_with fail
  go_ret
  exact ⟨by first | (rw [hE]; rfl) | rfl, B⟩
 have hd0 : decide ((x.nn : Int) < 1) = false := by simp; omega
 by_cases ha8 : 8 < x.nn
 ·have hd1 : decide (8 < (x.nn : Int)) = true := by simp; omega
  have hE : aZ x = false := by rw [HN.out, decide_eq_false (by omega)]; rfl
  clear HN
  go_wp2_with fail
  go_ret
  exact ⟨by first | (rw [hE]; rfl) | rfl, B⟩
 have hd1 : decide (8 < (x.nn : Int)) = false := by simp; omega
 by_cases hnl : x.nl = x.nn
 rotate_left
 ·have hd2 : ((x.nl : Int) != (x.nn : Int)) = true := by simp; omega
  have hE : aZ x = false := by rw [HN.out, decide_eq_false hnl]; simp
  clear HN
  go_wp2_with fail
  go_ret
  exact ⟨by first | (rw [hE]; rfl) | rfl, B⟩
 have hd2 : ((x.nl : Int) != (x.nn : Int)) = false := by simp; omega
 by_cases hnc : x.nc = x.nn
 rotate_left
 ·have hd3 : ((x.nc : Int) != (x.nn : Int)) = true := by simp; omega
  have hE : aZ x = false := by rw [HN.out, decide_eq_false hnc]; simp
  clear HN
  go_wp2_with fail
  go_ret
  exact ⟨by first | (rw [hE]; rfl) | rfl, B⟩
 have hd3 : ((x.nc : Int) != (x.nn : Int)) = false := by simp; omega
 have HX2 : Hid (aZ x = ax (bH x) x.nn) := by (show aZ x = _; rw [HN.out, decide_eq_true (show 1 ≤ x.nn ∧ x.nn ≤ 8 by omega), decide_eq_true hnl, decide_eq_true hnc]; rfl)
 clear HN
 go_wp2_with fail
 clear hL0 hL1 hL2 hd0 hd1 hd2 hd3
 go_loopw [32] (fun i wr => ∃ k : Nat, k ≤ x.nn ∧ i = .int .i64 (k : Int) ∧ ax (bH x) k = true ∧ Bo wr w.heap.size (wdV x p d la lc ca cc na nk fa fc ba bc) ∧ Below w.heap.size w wr) (fun i _ => x.nn - (intOf i).toNat)
 case atStart => exact ⟨0, Nat.zero_le _, rfl, rfl, L, B⟩
 case round =>
  clear L B
  obtain ⟨k, hk, rfl, hall, L, B⟩ := hrel
  have HA : Hid (ax (bH x) k = true) := hall
  clear hall
  by_cases hlt : k < x.nn
  ·have HLT : Hid (k < x.nn) := hlt
   have hli : (k : Int) < (x.nn : Int) := by omega
   obtain ⟨nb, no, AM, rfl, hcs, hq⟩ : ∃ b off AM, na = some ⟨b, off, none⟩ ∧ CsN w b off x.nn AM ∧ ∀ i, i < x.nn → NdW w (AM i) (x.XM i) := by
    rcases H4.out with q | q
    ·omega
    ·exact q
   obtain ⟨cb, co, rfl, hcc⟩ : ∃ b off, ca = some ⟨b, off, none⟩ ∧ Cs w b off x.nc (itG x.CM) := by
    rcases H3.out with q | q
    ·omega
    ·exact q
   have hx := (hq k hlt).below B
   have hxs := hx.size
   have hL := (hcs.below B).load (P := Tryz.prog) hlt hxs
   have hst := aY (P := Tryz.prog) wr (#[.int .i64 0, .int .i64 0, .int .i64 0, .int .i64 0, .bool false, .int .i64 0, .int .i64 0, .int .i64 0, .int .i64 0, .int .i64 0, .slice none 0 0, .slice none 0 0, .bool false, .int .i64 0, .slice none 0 0, .int .i64 0]) (AM k) 98 (by rw [hxs]; rfl) (by obtain ⟨aa, ac, pa, pc, ha, hc, e, _⟩ := hx; rw [e]; exact bX _ aa ac pa pc ha hc)
   have hb := Below.nw wr (.cells (AM k) 98)
   have N := Bo.new wr (AM k) 98
   have hcc' := hcc.below B hcc.1
   have hx5 := hx.below hb
   have hid0 := hx.id
   have CO := fun (v : World) (h : Below (wr.alloc (.cells (AM k) 98)).heap.size (wr.alloc (.cells (AM k) 98)) v) => ik (AM k) (x.XM k) v (hx5.below h) (HW.out k hlt)
   have CM := fun (hsh : (x.XM k).na ≤ 16 ∧ (x.XM k).np ≤ 8 ∧ (x.XM k).nh ≤ 16) (v : World) (h : Below (wr.alloc (.cells (AM k) 98)).heap.size (wr.alloc (.cells (AM k) 98)) v) => gb (AM k) (x.XM k) (x.CM k) v (hx5.below h) hsh
   have hosh := fun (h : okX (x.XM k) = true) => je h
   have HO : Hid (bH x k = (okX (x.XM k) && (decide ((x.XM k).ni = (k : Int)) && cmX (x.XM k) (x.CM k)))) := rfl
   have hL5 := L.below hb
   have hc5 := hcc'.below hb hcc'.1
   have B5 := B.trans (hb.mono B.size)
   have hld := N.load (P := Tryz.prog) hxs
   clear hx hcs hq hcc hcc' H3 H4 hb hx5
   have SK : Hid (∀ w', Below (wr.alloc (.cells (AM k) 98)).heap.size (wr.alloc (.cells (AM k) 98)) w' → (fun w' => (loadCells ⟨wr.heap.size, 0, none⟩ 16).run Tryz.prog w' = .ok (AM k) w' ∧ w'.cell? ⟨wr.heap.size, 0, none⟩ = some (.int .i64 (x.XM k).ni) ∧ w'.cell? ⟨w.heap.size, 13, none⟩ = some (.slice (some ⟨cb, co, none⟩) x.nc cc) ∧ w'.cell? ⟨cb, co + k, none⟩ = some (.int .i64 (x.CM k))) w') := fun w' h => ⟨(N.below h).load (P := Tryz.prog) hxs, (N.below h).cell hid0, (hL5.below h).cell rfl, (hc5.below h hc5.1).2 k (by omega)⟩
   generalize AM k = Ak at *
   go_upto_region 7 with (first | rw [hL] | rw [hst])
   have LL := hL5
   clear hL hst L B hld hL5 hc5 N hxs hid0
   generalize wr.alloc (.cells Ak 98) = v5 at *
   generalize wr.heap.size = kN at *
   have B := B5
   clear B5
   generalize (x.XM k).ni = ni at *
   generalize x.CM k = ck at *
   cases hok : okX (x.XM k)
   ·rw [hok] at CO
    have hno : bH x k = false := by rw [HO.out, hok]; rfl
    clear CM HO hosh
    refine wp_region_held_drew (S := (fun w' => (loadCells ⟨kN, 0, none⟩ 16).run Tryz.prog w' = .ok Ak w' ∧ w'.cell? ⟨kN, 0, none⟩ = some (.int .i64 ni) ∧ w'.cell? ⟨w.heap.size, 13, none⟩ = some (.slice (some ⟨cb, co, none⟩) x.nc cc) ∧ w'.cell? ⟨cb, co + k, none⟩ = some (.int .i64 ck))) (by kernel_rfl) ?_ (fun hHeld => ?_)
    ·first | exact SK.out _ XB | exact SK.out _ zD
    have XB : Below v5.heap.size v5 v5.drew := Below.drew (Below.refl _ _)
    generalize v5.drew = vx at *
    refine zTk 0 ?_
    refine zQ 1 fun K hK => ?_
    go_simp
    refine (CO _ XB).mono ?_; rintro ee vx ⟨rfl, hbl⟩; (replace XB := XB.trans (hbl.mono XB.size)); (clear hbl)
    (try go_wp2_with fail)
    refine hK.out _ _ ?_ (fun hHeld => ?_)
    ·first | exact SK.out _ XB | exact SK.out _ zD
    clear hK K
    (try simp only [zA])
    refine zT2 2 ?_
    refine zTn 4 ?_
    refine zTn 5 ?_
    refine zTn 6 ?_
    refine zTn 7 ?_
    refine zT2 8 ?_
    refine zTn 10 ?_
    refine zTn 11 ?_
    refine zTn 12 ?_
    refine zTn 13 ?_
    refine zTn 14 ?_
    refine zTn 15 ?_
    refine zTn 16 ?_
    refine zTn 17 ?_
    refine zTk 18 ?_
    refine wpAnyH_done (by kernel_rfl) ?_ _
    have B2 := B.trans (XB.mono B.size)
    have hE : aZ x = false := by rw [HX2.out, aF hno x.nn HLT.out]
    clear SK XB HX2
    go_wp2_with fail
    go_ret
    exact ⟨by first | (rw [hE]; rfl) | rfl, B2⟩
   rw [hok] at CO
   replace CM := CM (hosh hok)
   clear hosh
   by_cases hid : ni = (k : Int)
   rotate_left
   ·have hne1 : (ni != (k : Int)) = true := by simp [hid]
    have hno : bH x k = false := by rw [HO.out, decide_eq_false hid]; simp
    clear CM HO
    refine wp_region_held_drew (S := (fun w' => (loadCells ⟨kN, 0, none⟩ 16).run Tryz.prog w' = .ok Ak w' ∧ w'.cell? ⟨kN, 0, none⟩ = some (.int .i64 ni) ∧ w'.cell? ⟨w.heap.size, 13, none⟩ = some (.slice (some ⟨cb, co, none⟩) x.nc cc) ∧ w'.cell? ⟨cb, co + k, none⟩ = some (.int .i64 ck))) (by kernel_rfl) ?_ (fun hHeld => ?_)
    ·first | exact SK.out _ XB | exact SK.out _ zD
    have XB : Below v5.heap.size v5 v5.drew := Below.drew (Below.refl _ _)
    generalize v5.drew = vx at *
    refine zTk 0 ?_
    refine zQ 1 fun K hK => ?_
    go_simp
    refine (CO _ XB).mono ?_; rintro ee vx ⟨rfl, hbl⟩; (replace XB := XB.trans (hbl.mono XB.size)); (clear hbl)
    (try go_wp2_with fail)
    refine hK.out _ _ ?_ (fun hHeld => ?_)
    ·first | exact SK.out _ XB | exact SK.out _ zD
    clear hK K
    (try simp only [zA])
    refine zT4 2 ?_
    refine zT2 6 ?_
    (try simp only [hne1])
    refine zT2 8 ?_
    refine zTn 10 ?_
    refine zTn 11 ?_
    refine zTn 12 ?_
    refine zTn 13 ?_
    refine zTn 14 ?_
    refine zTn 15 ?_
    refine zTn 16 ?_
    refine zTn 17 ?_
    refine zTk 18 ?_
    refine wpAnyH_done (by kernel_rfl) ?_ _
    have B2 := B.trans (XB.mono B.size)
    have hE : aZ x = false := by rw [HX2.out, aF hno x.nn HLT.out]
    clear SK XB HX2
    go_wp2_with fail
    go_ret
    exact ⟨by first | (rw [hE]; rfl) | rfl, B2⟩
   have hne1 : (ni != (k : Int)) = false := by simp [hid]
   cases hcm : cmX (x.XM k) ck
   ·rw [hcm] at CM
    have hno : bH x k = false := by rw [HO.out, hcm]; simp
    clear HO
    refine wp_region_held_drew (S := (fun w' => (loadCells ⟨kN, 0, none⟩ 16).run Tryz.prog w' = .ok Ak w' ∧ w'.cell? ⟨kN, 0, none⟩ = some (.int .i64 ni) ∧ w'.cell? ⟨w.heap.size, 13, none⟩ = some (.slice (some ⟨cb, co, none⟩) x.nc cc) ∧ w'.cell? ⟨cb, co + k, none⟩ = some (.int .i64 ck))) (by kernel_rfl) ?_ (fun hHeld => ?_)
    ·first | exact SK.out _ XB | exact SK.out _ zD
    have XB : Below v5.heap.size v5 v5.drew := Below.drew (Below.refl _ _)
    generalize v5.drew = vx at *
    refine zTk 0 ?_
    refine zQ 1 fun K hK => ?_
    go_simp
    refine (CO _ XB).mono ?_; rintro ee vx ⟨rfl, hbl⟩; (replace XB := XB.trans (hbl.mono XB.size)); (clear hbl)
    (try go_wp2_with fail)
    refine hK.out _ _ ?_ (fun hHeld => ?_)
    ·first | exact SK.out _ XB | exact SK.out _ zD
    clear hK K
    (try simp only [zA])
    refine zT4 2 ?_
    refine zT2 6 ?_
    (try simp only [hne1])
    refine zT8 8 ?_
    refine zQ 16 fun K hK => ?_
    go_simp
    refine (CM _ XB).mono ?_; rintro ee vx ⟨rfl, hbl⟩; (replace XB := XB.trans (hbl.mono XB.size)); (clear hbl)
    (try go_wp2_with fail)
    refine hK.out _ _ ?_ (fun hHeld => ?_)
    ·first | exact SK.out _ XB | exact SK.out _ zD
    clear hK K
    (try simp only [zA])
    refine zT2 17 ?_
    refine wpAnyH_done (by kernel_rfl) ?_ _
    have B2 := B.trans (XB.mono B.size)
    have hE : aZ x = false := by rw [HX2.out, aF hno x.nn HLT.out]
    clear SK XB HX2
    go_wp2_with fail
    go_ret
    exact ⟨by first | (rw [hE]; rfl) | rfl, B2⟩
   rw [hcm] at CM
   have HY : Hid (ax (bH x) (k + 1) = true) := bg HA.out (by rw [HO.out, hok, hcm, decide_eq_true hid]; rfl)
   clear HO HA
   refine wp_region_held_drew (S := (fun w' => (loadCells ⟨kN, 0, none⟩ 16).run Tryz.prog w' = .ok Ak w' ∧ w'.cell? ⟨kN, 0, none⟩ = some (.int .i64 ni) ∧ w'.cell? ⟨w.heap.size, 13, none⟩ = some (.slice (some ⟨cb, co, none⟩) x.nc cc) ∧ w'.cell? ⟨cb, co + k, none⟩ = some (.int .i64 ck))) (by kernel_rfl) ?_ (fun hHeld => ?_)
   ·first | exact SK.out _ XB | exact SK.out _ zD
   have XB : Below v5.heap.size v5 v5.drew := Below.drew (Below.refl _ _)
   generalize v5.drew = vx at *
   refine zTk 0 ?_
   refine zQ 1 fun K hK => ?_
   go_simp
   refine (CO _ XB).mono ?_; rintro ee vx ⟨rfl, hbl⟩; (replace XB := XB.trans (hbl.mono XB.size)); (clear hbl)
   (try go_wp2_with fail)
   refine hK.out _ _ ?_ (fun hHeld => ?_)
   ·first | exact SK.out _ XB | exact SK.out _ zD
   clear hK K
   (try simp only [zA])
   refine zT4 2 ?_
   refine zT2 6 ?_
   (try simp only [hne1])
   refine zT8 8 ?_
   refine zQ 16 fun K hK => ?_
   go_simp
   refine (CM _ XB).mono ?_; rintro ee vx ⟨rfl, hbl⟩; (replace XB := XB.trans (hbl.mono XB.size)); (clear hbl)
   (try go_wp2_with fail)
   refine hK.out _ _ ?_ (fun hHeld => ?_)
   ·first | exact SK.out _ XB | exact SK.out _ zD
   clear hK K
   (try simp only [zA])
   refine zT2 17 ?_
   refine wpAnyH_done (by kernel_rfl) ?_ _
   have B2 := B.trans (XB.mono B.size)
   have L2 := LL.below XB
   clear SK XB LL B CO CM
   go_wp2_with fail
   go_roundw
   case rel => exact ⟨k + 1, by omega, by go_num, HY.out, L2, B2⟩
   case measure => simp [intOf]; omega
  have hkn : k = x.nn := by omega
  have hli : ¬ (k : Int) < (x.nn : Int) := by omega
  have hE : aZ x = true := by rw [HX2.out, ← hkn, HA.out]
  clear HX2 HA hkn hlt hk H3 H4
  go_wp2_with fail
  go_ret
  exact ⟨by first | (rw [hE]; rfl) | rfl, B⟩
attribute [-go_sem] loadCells storeCells in
theorem ky (A : Array Value) (x : WdX) (w : World) (h : WdW w A x) (ht : ∀ i, i < x.nf → (x.FM i).2.2.2.1.size ≤ maxLen) (hwf : ∀ i, i < x.nf → (Lit.int .i64 (x.FM i).1).wf = true) :
 Calls Tryz.prog 101 #[.agg A] w fun e w' => e = .returned (.bool (bG x)) ∧ Below w.heap.size w w' := by
 obtain ⟨p, d, la, lc, ca, cc, na, nk, fa, fc, ba, bc, rfl, hm, h1, h2, h3, h4, h5, h6⟩ := h
 obtain ⟨m1, m2, m3, m4, m5, m6⟩ := hm
 have m4' : x.nn ≤ 9223372036854775807 := m4
 have m5' : x.nf ≤ 9223372036854775807 := m5
 have m6' : x.nb ≤ 9223372036854775807 := m6
 have m2' : x.nl ≤ 9223372036854775807 := m2
 have m3' : x.nc ≤ 9223372036854775807 := m3
 have HP := fun (z : Int) (v : World) (h : Below w.heap.size w v) => eA (wdV x p d la lc ca cc na nk fa fc ba bc) x z v (WdW.below ⟨p, d, la, lc, ca, cc, na, nk, fa, fc, ba, bc, rfl, ⟨m1, m2, m3, m4, m5, m6⟩, h1, h2, h3, h4, h5, h6⟩ h)
 have HX : Hid (bG x = (ax (bl x) x.nf && aH x.nx x.FM x.nf)) := rfl
 have H5 : Hid (ae w fa (x.nf * 5) (ap x.FM)) := h5
 have CF := fun (v : World) (h : Below w.heap.size w v) => eh x.nx fa x.nf fc x.FM v m5 (h5.below h) ht hwf
 clear h1 h2 h3 h4 h5 h6 m1 m2 m3 m4 m5 m6
 have A0 := Below.nw w (.cells (wdV x p d la lc ca cc na nk fa fc ba bc) 52)
 have L := Bo.new w (wdV x p d la lc ca cc na nk fa fc ba bc) 52
 have B := A0
 clear A0
 go_enter Tryz.func101, Tryz.ntmps101
 go_upto_region 1 with fail
 generalize w.alloc (.cells (wdV x p d la lc ca cc na nk fa fc ba bc) 52) = v0 at *
 have hL0 : v0.cell? ⟨w.heap.size, 16, none⟩ = some (.slice fa x.nf fc) := L.cell rfl
 go_wp2_with fail
 clear hL0
 go_loopw [9] (fun i wr => ∃ k : Nat, k ≤ x.nf ∧ i = .int .i64 (k : Int) ∧ ax (bl x) k = true ∧ Bo wr w.heap.size (wdV x p d la lc ca cc na nk fa fc ba bc) ∧ Below w.heap.size w wr) (fun i _ => x.nf - (intOf i).toNat)
 case atStart => exact ⟨0, Nat.zero_le _, rfl, rfl, L, B⟩
 case round =>
  clear L B
  obtain ⟨k, hk, rfl, hall, L, B⟩ := hrel
  have HA : Hid (ax (bl x) k = true) := hall
  clear hall
  by_cases hlt : k < x.nf
  ·have HLT : Hid (k < x.nf) := hlt
   have hli : (k : Int) < (x.nf : Int) := by omega
   obtain ⟨fb, fo, rfl, hf⟩ : ∃ b off, fa = some ⟨b, off, none⟩ ∧ Cs w b off (x.nf * 5) (ap x.FM) := by
    rcases H5.out with q | q
    ·omega
    ·exact q
   obtain ⟨x0 , x1 , x2 , x3 , x4, hM⟩ := be x.FM k
   have hfl := iJ (P := Tryz.prog) (hf.below B hf.1) hlt hM
   have HO : Hid (bl x k = (cl x x1 && (cl x x2 && (decide (x4 ≤ x.ti))))) := by (show bl x k = _; unfold bl; rw [hM])
   have hst := aY (P := Tryz.prog) wr #[.int .i64 0, .int .i64 0, .int .i64 0, .string ⟨#[]⟩, .int .i64 0] #[.int .i64 x0, .int .i64 x1, .int .i64 x2, .string x3, .int .i64 x4] 101 rfl (List.forall_mem_cons.2 ⟨rfl, (List.forall_mem_cons.2 ⟨rfl, (List.forall_mem_cons.2 ⟨rfl, (List.forall_mem_cons.2 ⟨rfl, (List.forall_mem_cons.2 ⟨rfl, fun _ h => nomatch h⟩)⟩)⟩)⟩)⟩)
   have hb := Below.nw wr (.cells #[.int .i64 x0, .int .i64 x1, .int .i64 x2, .string x3, .int .i64 x4] 101)
   have Q := Bo.new wr #[.int .i64 x0, .int .i64 x1, .int .i64 x2, .string x3, .int .i64 x4] 101
   clear hf hM H5
   go_upto_region 4 with (first | rw [hfl] | rw [hst])
   clear hfl hst
   replace B := B.trans (hb.mono B.size)
   replace L := L.below hb
   clear hb
   generalize wr.alloc (.cells #[.int .i64 x0, .int .i64 x1, .int .i64 x2, .string x3, .int .i64 x4] 101) = v5 at *
   generalize wr.heap.size = kQ at *
   have hLw0 := L.load (P := Tryz.prog) (n := 18) rfl
   have qc0 : v5.cell? ⟨kQ, 1, none⟩ = some (.int .i64 x1) := Q.cell rfl
   go_wp2_with (rw [hLw0])
   refine (HP x1 _ B).mono ?_
   rintro e u0 ⟨rfl, hb⟩
   clear hLw0 qc0
   replace B := B.trans (hb.mono B.size)
   replace L := L.below hb
   replace Q := Q.below hb
   clear hb
   cases hp0 : cl x x1
   ·have hno : bl x k = false := by rw [HO.out, hp0]; simp
    have hE : bG x = false := by rw [HX.out, aF hno x.nf HLT.out]; rfl
    clear HO HX HA
    go_wp2_with fail
    go_ret
    exact ⟨by first | (rw [hE]; rfl) | rfl, B⟩
   have hLw1 := L.load (P := Tryz.prog) (n := 18) rfl
   have qc1 : u0.cell? ⟨kQ, 2, none⟩ = some (.int .i64 x2) := Q.cell rfl
   go_wp2_with (rw [hLw1])
   refine (HP x2 _ B).mono ?_
   rintro e u1 ⟨rfl, hb⟩
   clear hLw1 qc1
   replace B := B.trans (hb.mono B.size)
   replace L := L.below hb
   replace Q := Q.below hb
   clear hb
   cases hp1 : cl x x2
   ·have hno : bl x k = false := by rw [HO.out, hp1]; simp
    have hE : bG x = false := by rw [HX.out, aF hno x.nf HLT.out]; rfl
    clear HO HX HA
    go_wp2_with fail
    go_ret
    exact ⟨by first | (rw [hE]; rfl) | rfl, B⟩
   have qc2 : u1.cell? ⟨kQ, 4, none⟩ = some (.int .i64 x4) := Q.cell rfl
   have qt : u1.cell? ⟨w.heap.size, 12, none⟩ = some (.int .i64 x.ti) := L.cell rfl
   by_cases hf : x.ti < x4
   ·have hd3 : decide (x.ti < x4) = true := by simp [hf]
    have hno : bl x k = false := by rw [HO.out, decide_eq_false (show ¬ x4 ≤ x.ti by omega)]; simp
    have hE : bG x = false := by rw [HX.out, aF hno x.nf HLT.out]; rfl
    clear HO HX HA
    go_wp2_with fail
    go_ret
    exact ⟨by first | (rw [hE]; rfl) | rfl, B⟩
   have hd3 : decide (x.ti < x4) = false := by simp; omega
   have HY : Hid (ax (bl x) (k + 1) = true) := bg HA.out (by rw [HO.out, hp0, hp1, decide_eq_true (show x4 ≤ x.ti by omega)]; rfl)
   clear HO HA hf
   go_wp2_with fail
   go_roundw
   case rel => exact ⟨k + 1, by omega, by go_num, HY.out, L, B⟩
   case measure => simp [intOf]; omega
  have hkn : k = x.nf := by omega
  have hli : ¬ (k : Int) < (x.nf : Int) := by omega
  have HX4 : Hid (bG x = aH x.nx x.FM x.nf) := by (show bG x = _; rw [HX.out, ← hkn, HA.out]; rfl)
  clear HX HA hkn hlt hk H5
  have hL2 : (loadCells ⟨w.heap.size, 15, none⟩ 2).run Tryz.prog wr = .ok #[.int .i64 x.nx, .slice fa x.nf fc] wr := L.loadAt (P := Tryz.prog) 15 2 (show 15 + 2 ≤ 18 by decide)
  go_wp2_with (rw [hL2])
  refine (CF _ B).mono ?_
  rintro e u9 ⟨rfl, hb⟩
  clear hL2
  go_wp2_with fail
  go_ret
  exact ⟨by first | (rw [HX4.out]; rfl) | rw [HX4.out], B.trans (hb.mono B.size)⟩
attribute [-go_sem] loadCells storeCells in
theorem ki (A : Array Value) (x : WdX) (w : World) (h : WdW w A x) (ht : ∀ i, i < x.nb → (x.BM i).2.2.2.2.2.size ≤ maxLen) :
 Calls Tryz.prog 102 #[.agg A] w fun e w' => e = .returned (.bool (bN x)) ∧ Below w.heap.size w w' := by
 obtain ⟨p, d, la, lc, ca, cc, na, nk, fa, fc, ba, bc, rfl, hm, h1, h2, h3, h4, h5, h6⟩ := h
 obtain ⟨m1, m2, m3, m4, m5, m6⟩ := hm
 have m4' : x.nn ≤ 9223372036854775807 := m4
 have m5' : x.nf ≤ 9223372036854775807 := m5
 have m6' : x.nb ≤ 9223372036854775807 := m6
 have m2' : x.nl ≤ 9223372036854775807 := m2
 have m3' : x.nc ≤ 9223372036854775807 := m3
 have HP := fun (z : Int) (v : World) (h : Below w.heap.size w v) => eA (wdV x p d la lc ca cc na nk fa fc ba bc) x z v (WdW.below ⟨p, d, la, lc, ca, cc, na, nk, fa, fc, ba, bc, rfl, ⟨m1, m2, m3, m4, m5, m6⟩, h1, h2, h3, h4, h5, h6⟩ h)
 have HX : Hid (bN x = (ax (bu x) x.nb && buB x.BM x.nb)) := rfl
 have H6 : Hid (ae w ba (x.nb * 6) (av x.BM)) := h6
 have CF := fun (v : World) (h : Below w.heap.size w v) => eg ba x.nb bc x.BM v m6 (h6.below h) ht
 clear h1 h2 h3 h4 h5 h6 m1 m2 m3 m4 m5 m6
 have A0 := Below.nw w (.cells (wdV x p d la lc ca cc na nk fa fc ba bc) 52)
 have L := Bo.new w (wdV x p d la lc ca cc na nk fa fc ba bc) 52
 have B := A0
 clear A0
 go_enter Tryz.func102, Tryz.ntmps102
 go_upto_region 1 with fail
 generalize w.alloc (.cells (wdV x p d la lc ca cc na nk fa fc ba bc) 52) = v0 at *
 have hL0 : v0.cell? ⟨w.heap.size, 17, none⟩ = some (.slice ba x.nb bc) := L.cell rfl
 go_wp2_with fail
 clear hL0
 go_loopw [8] (fun i wr => ∃ k : Nat, k ≤ x.nb ∧ i = .int .i64 (k : Int) ∧ ax (bu x) k = true ∧ Bo wr w.heap.size (wdV x p d la lc ca cc na nk fa fc ba bc) ∧ Below w.heap.size w wr) (fun i _ => x.nb - (intOf i).toNat)
 case atStart => exact ⟨0, Nat.zero_le _, rfl, rfl, L, B⟩
 case round =>
  clear L B
  obtain ⟨k, hk, rfl, hall, L, B⟩ := hrel
  have HA : Hid (ax (bu x) k = true) := hall
  clear hall
  by_cases hlt : k < x.nb
  ·have HLT : Hid (k < x.nb) := hlt
   have hli : (k : Int) < (x.nb : Int) := by omega
   obtain ⟨fb, fo, rfl, hf⟩ : ∃ b off, ba = some ⟨b, off, none⟩ ∧ Cs w b off (x.nb * 6) (av x.BM) := by
    rcases H6.out with q | q
    ·omega
    ·exact q
   obtain ⟨x0 , x1 , x2 , x3 , x4 , x5, hM⟩ := bF x.BM k
   have hfl := kp (P := Tryz.prog) (hf.below B hf.1) hlt hM
   have HO : Hid (bu x k = (cl x x0 && (decide (x3 ≤ x.ti)))) := by (show bu x k = _; unfold bu; rw [hM])
   have hst := aY (P := Tryz.prog) wr #[.int .i64 0, .int .i64 0, .int .i64 0, .int .i64 0, .int .i64 0, .string ⟨#[]⟩] #[.int .i64 x0, .int .i64 x1, .int .i64 x2, .int .i64 x3, .int .i64 x4, .string x5] 103 rfl (List.forall_mem_cons.2 ⟨rfl, (List.forall_mem_cons.2 ⟨rfl, (List.forall_mem_cons.2 ⟨rfl, (List.forall_mem_cons.2 ⟨rfl, (List.forall_mem_cons.2 ⟨rfl, (List.forall_mem_cons.2 ⟨rfl, fun _ h => nomatch h⟩)⟩)⟩)⟩)⟩)⟩)
   have hb := Below.nw wr (.cells #[.int .i64 x0, .int .i64 x1, .int .i64 x2, .int .i64 x3, .int .i64 x4, .string x5] 103)
   have Q := Bo.new wr #[.int .i64 x0, .int .i64 x1, .int .i64 x2, .int .i64 x3, .int .i64 x4, .string x5] 103
   clear hf hM H6
   go_upto_region 4 with (first | rw [hfl] | rw [hst])
   clear hfl hst
   replace B := B.trans (hb.mono B.size)
   replace L := L.below hb
   clear hb
   generalize wr.alloc (.cells #[.int .i64 x0, .int .i64 x1, .int .i64 x2, .int .i64 x3, .int .i64 x4, .string x5] 103) = v5 at *
   generalize wr.heap.size = kQ at *
   have hLw0 := L.load (P := Tryz.prog) (n := 18) rfl
   have qc0 : v5.cell? ⟨kQ, 0, none⟩ = some (.int .i64 x0) := Q.cell rfl
   go_wp2_with (rw [hLw0])
   refine (HP x0 _ B).mono ?_
   rintro e u0 ⟨rfl, hb⟩
   clear hLw0 qc0
   replace B := B.trans (hb.mono B.size)
   replace L := L.below hb
   replace Q := Q.below hb
   clear hb
   cases hp0 : cl x x0
   ·have hno : bu x k = false := by rw [HO.out, hp0]; simp
    have hE : bN x = false := by rw [HX.out, aF hno x.nb HLT.out]; rfl
    clear HO HX HA
    go_wp2_with fail
    go_ret
    exact ⟨by first | (rw [hE]; rfl) | rfl, B⟩
   have qc1 : u0.cell? ⟨kQ, 3, none⟩ = some (.int .i64 x3) := Q.cell rfl
   have qt : u0.cell? ⟨w.heap.size, 12, none⟩ = some (.int .i64 x.ti) := L.cell rfl
   by_cases hf : x.ti < x3
   ·have hd3 : decide (x.ti < x3) = true := by simp [hf]
    have hno : bu x k = false := by rw [HO.out, decide_eq_false (show ¬ x3 ≤ x.ti by omega)]; simp
    have hE : bN x = false := by rw [HX.out, aF hno x.nb HLT.out]; rfl
    clear HO HX HA
    go_wp2_with fail
    go_ret
    exact ⟨by first | (rw [hE]; rfl) | rfl, B⟩
   have hd3 : decide (x.ti < x3) = false := by simp; omega
   have HY : Hid (ax (bu x) (k + 1) = true) := bg HA.out (by rw [HO.out, hp0, decide_eq_true (show x3 ≤ x.ti by omega)]; rfl)
   clear HO HA hf
   go_wp2_with fail
   go_roundw
   case rel => exact ⟨k + 1, by omega, by go_num, HY.out, L, B⟩
   case measure => simp [intOf]; omega
  have hkn : k = x.nb := by omega
  have hli : ¬ (k : Int) < (x.nb : Int) := by omega
  have HX4 : Hid (bN x = buB x.BM x.nb) := by (show bN x = _; rw [HX.out, ← hkn, HA.out]; rfl)
  clear HX HA hkn hlt hk H6
  have hL2 : wr.cell? ⟨w.heap.size, 17, none⟩ = some (.slice ba x.nb bc) := L.cell rfl
  go_wp2_with fail
  refine (CF _ B).mono ?_
  rintro e u9 ⟨rfl, hb⟩
  clear hL2
  go_wp2_with fail
  go_ret
  exact ⟨by first | (rw [HX4.out]; rfl) | rw [HX4.out], B.trans (hb.mono B.size)⟩
attribute [-go_sem] loadCells storeCells in
theorem jU (A : Array Value) (x : WdX) (w : World) (h : WdW w A x) (ht : txW x) (hwf : wfWd x) :
 Calls Tryz.prog 52 #[.agg A] w fun e w' => e = .returned (.bool (aT x)) ∧ Below w.heap.size w w' := by
 have HW := h
 obtain ⟨p, d, la, lc, ca, cc, na, nk, fa, fc, ba, bc, rfl, hm, h1, h2, h3, h4, h5, h6⟩ := h
 obtain ⟨m1, m2, m3, m4, m5, m6⟩ := hm
 obtain ⟨t1, t2⟩ := ht
 obtain ⟨f1, f2⟩ := hwf
 have CC := fun (v : World) (h : Below w.heap.size w v) => iT (cfV x.y p d) x.y v ⟨p, d, rfl, m1, h1.below h⟩
 have CT := fun (v : World) => aD x.ti v
 have CN := fun (v : World) (h : Below w.heap.size w v) => jH (wdV x p d la lc ca cc na nk fa fc ba bc) x v (HW.below h) f1
 have CE := fun (v : World) (h : Below w.heap.size w v) => ky (wdV x p d la lc ca cc na nk fa fc ba bc) x v (HW.below h) t1 f2
 have CB := fun (v : World) (h : Below w.heap.size w v) => ki (wdV x p d la lc ca cc na nk fa fc ba bc) x v (HW.below h) t2
 have HX : Hid (aT x = (dp x.y && (okT x.ti && (aZ x && (bG x && bN x))))) := rfl
 clear HW h1 h2 h3 h4 h5 h6 m1 m2 m3 m4 m5 m6 t1 t2 f1 f2
 generalize aT x = X at *
 generalize dp x.y = b1 at *
 generalize okT x.ti = b2 at *
 generalize aZ x = b3 at *
 generalize bG x = b4 at *
 generalize bN x = b5 at *
 have A0 := Below.nw w (.cells (wdV x p d la lc ca cc na nk fa fc ba bc) 52)
 have L := Bo.new w (wdV x p d la lc ca cc na nk fa fc ba bc) 52
 have B := A0
 clear A0
 go_enter Tryz.func52, Tryz.ntmps52
 go_upto_region 1 with fail
 generalize w.alloc (.cells (wdV x p d la lc ca cc na nk fa fc ba bc) 52) = v0 at *
 have hL0 : (loadCells ⟨w.heap.size, 0, none⟩ 11).run Tryz.prog v0 = .ok (cfV x.y p d) v0 := L.loadAt (P := Tryz.prog) 0 11 (show 0 + 11 ≤ 18 by decide)
 go_wp2_with (rw [hL0])
 refine (CC v0 B).mono ?_
 rintro e v1 ⟨rfl, hb⟩
 clear hL0
 replace B := B.trans (hb.mono B.size)
 replace L := L.below hb
 clear hb
 cases b1
 ·have hE : X = false := by rw [HX.out]; simp
  clear HX
  go_wp2_with fail
  go_ret
  exact ⟨by first | (rw [hE]; rfl) | rfl, B⟩
 have hL0 : v1.cell? ⟨w.heap.size, 12, none⟩ = some (.int .i64 x.ti) := L.cell rfl
 go_wp2_with fail
 refine (CT _).mono ?_
 rintro e vt ⟨rfl, rfl⟩
 clear hL0
 cases b2
 ·have hE : X = false := by rw [HX.out]; simp
  clear HX
  go_wp2_with fail
  go_ret
  exact ⟨by first | (rw [hE]; rfl) | rfl, B⟩
 have hL0 := L.load (P := Tryz.prog) (show ((wdV x p d la lc ca cc na nk fa fc ba bc) : Array Value).size = 18 from rfl)
 go_wp2_with (rw [hL0])
 refine (CN v1 B).mono ?_
 rintro e v2 ⟨rfl, hb⟩
 clear hL0
 replace B := B.trans (hb.mono B.size)
 replace L := L.below hb
 clear hb
 cases b3
 ·have hE : X = false := by rw [HX.out]; simp
  clear HX
  go_wp2_with fail
  go_ret
  exact ⟨by first | (rw [hE]; rfl) | rfl, B⟩
 have hL0 := L.load (P := Tryz.prog) (show ((wdV x p d la lc ca cc na nk fa fc ba bc) : Array Value).size = 18 from rfl)
 go_wp2_with (rw [hL0])
 refine (CE v2 B).mono ?_
 rintro e v3 ⟨rfl, hb⟩
 clear hL0
 replace B := B.trans (hb.mono B.size)
 replace L := L.below hb
 clear hb
 cases b4
 ·have hE : X = false := by rw [HX.out]; simp
  clear HX
  go_wp2_with fail
  go_ret
  exact ⟨by first | (rw [hE]; rfl) | rfl, B⟩
 have hL0 := L.load (P := Tryz.prog) (show ((wdV x p d la lc ca cc na nk fa fc ba bc) : Array Value).size = 18 from rfl)
 go_wp2_with (rw [hL0])
 refine (CB v3 B).mono ?_
 rintro e v4 ⟨rfl, hb⟩
 clear hL0
 replace B := B.trans (hb.mono B.size)
 replace L := L.below hb
 clear hb
 have hE : X = b5 := by rw [HX.out]; rfl
 clear HX
 go_wp2_with fail
 go_ret
 exact ⟨by first | (rw [hE]; rfl) | (rw [hE]) | rfl, B⟩
end Go.Proofs.YtddijpjgkifngaaGreat
