/- WorldOk in the specification. -/
import Derived.Test.YtddijpjgkifngaaGreatMN0
import Derived.Test.YtddijpjgkifngaaGreatMN15
import Derived.Test.YtddijpjgkifngaaGreatMN17
import Derived.Test.YtddijpjgkifngaaGreatMN18
import Derived.Test.YtddijpjgkifngaaGreatMN30
import Derived.Test.YtddijpjgkifngaaGreatMN31
namespace Go.Proofs.YtddijpjgkifngaaGreat
open Go.RowKit
set_option linter.unusedVariables false
set_option maxRecDepth 100000
set_option maxHeartbeats 16000000
theorem ir (A : Array Value) (y : CfX) (w : World) (h : CfW w A y) :
 Calls Tryz.prog 41 #[.agg A] w fun e w' => e = .returned (.bool (dp y)) ∧ Below w.heap.size w w' := by
 obtain ⟨p, d, rfl, hl, h1⟩ := h
 exact eo y.dn y.dd y.li y.le y.pt y.ag y.ke y.lg y.s y.g p y.m d y.PM w hl h1
theorem gC (A : Array Value) (x : NdX) (w : World) (h : NdW w A x) :
 Calls Tryz.prog 46 #[.agg A] w fun e w' => e = .returned (.bool (okX x)) ∧ Below w.heap.size w w' := by
 obtain ⟨aa, ac, pa, pc, ha, hc, rfl, hl, h1, h2, h3⟩ := h
 exact dT x.ni x.mo x.ep x.si x.kn x.lo x.hi x.la x.te x.us aa x.na ac x.AM pa x.np pc x.QM x.hs x.ls ha x.nh hc x.HM x.se w hl.1 h1 hl.2.1 h2 hl.2.2 h3
theorem jg (A : Array Value) (x : NdX) (ct : Int) (w : World) (h : NdW w A x) :
 Calls Tryz.prog 47 #[.agg A, .int .i64 ct] w fun e w' => e = .returned (.bool (cmX x ct)) ∧ Below w.heap.size w w' := by
 obtain ⟨aa, ac, pa, pc, ha, hc, rfl, hl, h1, h2, h3⟩ := h
 exact fq x.ni x.mo x.ep x.si x.kn x.lo x.hi x.la x.te x.us aa x.na ac x.AM pa x.np pc x.QM x.hs x.ls ha x.nh hc x.HM x.se ct w hl.1 h1 hl.2.1 h2 hl.2.2 h3
theorem NdW.id {w : World} {A : Array Value} {x : NdX} (h : NdW w A x) : A[0]? = some (.int .i64 x.ni) := by
 obtain ⟨aa, ac, pa, pc, ha, hc, rfl, _⟩ := h
 rfl
theorem iJ {P : Program} {w : World} {b off n k : Nat} {M : Nat → FT} {x0 x1 x2 : Int} {x3 : ByteArray} {x4 : Int} (h : Cs w b off (n * 5) (ap M)) (hk : k < n) (hM : M k = (x0, x1, x2, x3, x4)) :
 (loadCells ⟨b, off + k * 5, none⟩ 5).run P w = .ok #[.int .i64 x0, .int .i64 x1, .int .i64 x2, .string x3, .int .i64 x4] w := by
 obtain ⟨c0, c1, c2, c3, c4⟩ := h.elFlight hk hM
 have e := run_loadCells_list (P := P) w ⟨b, off + k * 5, none⟩ [.int .i64 x0, .int .i64 x1, .int .i64 x2, .string x3, .int .i64 x4] (fun j v hj => by
  rw [add_at]
  match j, hj with
  | 0, hj => simp at hj; subst hj; exact c0
  | 1, hj => simp at hj; subst hj; exact c1
  | 2, hj => simp at hj; subst hj; exact c2
  | 3, hj => simp at hj; subst hj; exact c3
  | 4, hj => simp at hj; subst hj; exact c4
  | j + 5, hj => simp at hj)
 exact e
attribute [-go_sem] loadCells storeCells in
theorem fx (A : Array Value) (x : WdX) (w : World) (h : WdW w A x) (ht : txW x) :
 Calls Tryz.prog 9 #[.agg A] w fun e w' => e = .returned (.bool (aT x)) ∧ Below w.heap.size w w' := by
 obtain ⟨p, d, la, lc, ca, cc, na, nk, fa, fc, ba, bc, rfl, hm, h1, h2, h3, h4, h5, h6⟩ := h
 obtain ⟨m1, m2, m3, m4, m5, m6⟩ := hm
 obtain ⟨t1, t2⟩ := ht
 have CC := fun (v : World) (h : Below w.heap.size w v) => ir (cfV x.y p d) x.y v ⟨p, d, rfl, m1, h1.below h⟩
 have CL := fun (v : World) => al (x.nn : Int) 1 8 v
 have CT := fun (v : World) => aE x.ti v
 have CF := fun (v : World) (h : Below w.heap.size w v) => er x.nx fa x.nf fc x.FM v m5 (h5.below h) t1
 have CR := fun (v : World) (h : Below w.heap.size w v) => en ba x.nb bc x.BM v m6 (h6.below h) t2
 have HX : Hid (aT x = (dp x.y && (okT x.ti && (aZ x && (bG x && bN x))))) := rfl
 have HN : Hid (aZ x = (decide (1 ≤ x.nn ∧ x.nn ≤ 8) && (decide (x.nl = x.nn) && (decide (x.nc = x.nn) && ax (bH x) x.nn)))) := rfl
 have HF : Hid (bG x = (ax (bl x) x.nf && aH x.nx x.FM x.nf)) := rfl
 have HB : Hid (bN x = (ax (bu x) x.nb && buB x.BM x.nb)) := rfl
 have H3 : Hid (ae w ca x.nc (itG x.CM)) := h3
 have H4 : Hid (RwN NdW w na x.nn x.XM) := h4
 have H5 : Hid (ae w fa (x.nf * 5) (ap x.FM)) := h5
 have H6 : Hid (ae w ba (x.nb * 6) (av x.BM)) := h6
 have m4' : x.nn ≤ 9223372036854775807 := m4
 have m5' : x.nf ≤ 9223372036854775807 := m5
 have m6' : x.nb ≤ 9223372036854775807 := m6
 have m2' : x.nl ≤ 9223372036854775807 := m2
 have m3' : x.nc ≤ 9223372036854775807 := m3
 clear h1 h2 h3 h4 h5 h6 m1 m2 m3 m4 m5 m6 t1 t2
 have A0 := Below.nw w (.cells (wdV x p d la lc ca cc na nk fa fc ba bc) 52)
 have L := Bo.new w (wdV x p d la lc ca cc na nk fa fc ba bc) 52
 have B := A0
 clear A0
 go_enter Tryz.func9, Tryz.ntmps9
 go_upto_region 1 with fail
 generalize w.alloc (.cells (wdV x p d la lc ca cc na nk fa fc ba bc) 52) = v0 at *
 have hL0 : v0.cell? ⟨w.heap.size, 14, none⟩ = some (.slice na x.nn nk) := L.cell rfl
 have hL1 : (loadCells ⟨w.heap.size, 0, none⟩ 11).run Tryz.prog v0 = .ok (cfV x.y p d) v0 := L.loadAt (P := Tryz.prog) 0 11 (show 0 + 11 ≤ 18 by decide)
 go_wp2_with (rw [hL1])
 refine (CC v0 B).mono ?_
 rintro e v1 ⟨rfl, hb⟩
 clear hL0 hL1
 replace B := B.trans (hb.mono B.size)
 replace L := L.below hb
 clear hb
 cases hcok : dp x.y
 ·have hE : aT x = false := by rw [HX.out, hcok]; rfl
  clear HX HN HF HB
  go_wp2_with fail
  go_ret
  exact ⟨by first | (rw [hE]; rfl) | rfl, B⟩
 go_wp2_with fail
 refine (CL _).mono ?_
 rintro e v2 ⟨rfl, rfl⟩
 by_cases hn18 : 1 ≤ x.nn ∧ x.nn ≤ 8
 rotate_left
 ·have hdn : decide ((1 : Int) ≤ (x.nn : Int) ∧ (x.nn : Int) ≤ 8) = false := by (rw [decide_eq_false_iff_not]; omega)
  rw [hdn]
  have hE : aT x = false := by rw [HX.out, HN.out, decide_eq_false hn18]; simp
  clear HX HN HF HB
  go_wp2_with fail
  go_ret
  exact ⟨by first | (rw [hE]; rfl) | rfl, B⟩
 have hdn : decide ((1 : Int) ≤ (x.nn : Int) ∧ (x.nn : Int) ≤ 8) = true := by (rw [decide_eq_true_iff]; omega)
 rw [hdn]
 have hL0 : v1.cell? ⟨w.heap.size, 11, none⟩ = some (.slice la x.nl lc) := L.cell rfl
 have hL1 : v1.cell? ⟨w.heap.size, 13, none⟩ = some (.slice ca x.nc cc) := L.cell rfl
 have hL2 : v1.cell? ⟨w.heap.size, 12, none⟩ = some (.int .i64 x.ti) := L.cell rfl
 by_cases hnl : x.nl = x.nn
 rotate_left
 ·have hd2 : ((x.nl : Int) != (x.nn : Int)) = true := by simp; omega
  have hE : aT x = false := by rw [HX.out, HN.out, decide_eq_false hnl]; simp
  clear HX HN HF HB
  go_wp2_with fail
  go_ret
  exact ⟨by first | (rw [hE]; rfl) | rfl, B⟩
 have hd2 : ((x.nl : Int) != (x.nn : Int)) = false := by simp; omega
 by_cases hnc : x.nc = x.nn
 rotate_left
 ·have hd3 : ((x.nc : Int) != (x.nn : Int)) = true := by simp; omega
  have hE : aT x = false := by rw [HX.out, HN.out, decide_eq_false hnc]; simp
  clear HX HN HF HB
  go_wp2_with fail
  go_ret
  exact ⟨by first | (rw [hE]; rfl) | rfl, B⟩
 have hd3 : ((x.nc : Int) != (x.nn : Int)) = false := by simp; omega
 go_wp2_with fail
 refine (CT _).mono ?_
 rintro e v2 ⟨rfl, rfl⟩
 clear hL0 hL1 hL2
 cases hti : okT x.ti
 ·have hE : aT x = false := by rw [HX.out, hti]; simp
  clear HX HN HF HB
  go_wp2_with fail
  go_ret
  exact ⟨by first | (rw [hE]; rfl) | rfl, B⟩
 have hL0 : (loadCells ⟨w.heap.size, 15, none⟩ 2).run Tryz.prog v1 = .ok #[.int .i64 x.nx, .slice fa x.nf fc] v1 := L.loadAt (P := Tryz.prog) 15 2 (show 15 + 2 ≤ 18 by decide)
 go_wp2_with (rw [hL0])
 refine (CF _ B).mono ?_
 rintro e v2 ⟨rfl, hb⟩
 clear hL0
 replace B := B.trans (hb.mono B.size)
 replace L := L.below hb
 clear hb
 cases hne : aH x.nx x.FM x.nf
 ·have hE : aT x = false := by rw [HX.out, HF.out, hne]; simp
  clear HX HN HF HB
  go_wp2_with fail
  go_ret
  exact ⟨by first | (rw [hE]; rfl) | rfl, B⟩
 have hL0 : v2.cell? ⟨w.heap.size, 17, none⟩ = some (.slice ba x.nb bc) := L.cell rfl
 go_wp2_with fail
 refine (CR _ B).mono ?_
 rintro e v3 ⟨rfl, hb⟩
 clear hL0
 replace B := B.trans (hb.mono B.size)
 replace L := L.below hb
 clear hb
 cases hbu : buB x.BM x.nb
 ·have hE : aT x = false := by rw [HX.out, HB.out, hbu]; simp
  clear HX HN HF HB
  go_wp2_with fail
  go_ret
  exact ⟨by first | (rw [hE]; rfl) | rfl, B⟩
 have HX2 : Hid (aT x = (ax (bH x) x.nn && (ax (bl x) x.nf && ax (bu x) x.nb))) := by (show aT x = _; rw [HX.out, HN.out, HF.out, HB.out, hcok, hti, hne, hbu, decide_eq_true hn18, decide_eq_true hnl, decide_eq_true hnc]; simp)
 have HNE : Hid (aH x.nx x.FM x.nf = true) := hne
 have HBU : Hid (buB x.BM x.nb = true) := hbu
 clear HX HN HF HB hcok hti hne hbu hdn hd2 hd3 CC CL CT CF CR
 go_wp2_with fail
 go_loopw [4] (fun i wr => ∃ k : Nat, k ≤ x.nn ∧ i = .int .i64 (k : Int) ∧ ax (bH x) k = true ∧ Bo wr w.heap.size (wdV x p d la lc ca cc na nk fa fc ba bc) ∧ Below w.heap.size w wr) (fun i _ => x.nn - (intOf i).toNat)
 case atStart => exact ⟨0, Nat.zero_le _, rfl, rfl, L, B⟩
 case round =>
  clear L B
  obtain ⟨k, hk, rfl, hall, L, B⟩ := hrel
  have HA : Hid (ax (bH x) k = true) := hall
  clear hall
  by_cases hlt : k < x.nn
  ·have HLT : Hid (k < x.nn) := hlt
   have hli : (k : Int) < (x.nn : Int) := by omega
   obtain ⟨nb, no, AM, rfl, hcs, hq⟩ : ∃ b off AM, na = some ⟨b, off, none⟩ ∧ CsN w b off x.nn AM ∧ ∀ i, i < x.nn → NdW w (AM i) (x.XM i) := by
    rcases H4.out with q | q
    ·omega
    ·exact q
   obtain ⟨cb, co, rfl, hcc⟩ : ∃ b off, ca = some ⟨b, off, none⟩ ∧ Cs w b off x.nc (itG x.CM) := by
    rcases H3.out with q | q
    ·omega
    ·exact q
   have hx := (hq k hlt).below B
   have hxs := hx.size
   have hcs' := hcs.below B
   have hcc' := hcc.below B hcc.1
   have CO := fun (v : World) (h : Below wr.heap.size wr v) => gC (AM k) (x.XM k) v (hx.below h)
   have CM := fun (v : World) (h : Below wr.heap.size wr v) => jg (AM k) (x.XM k) (x.CM k) v (hx.below h)
   have hli2 : (k : Int) < (x.nc : Int) := by omega
   have SK : Hid (∀ w', Below wr.heap.size wr w' → (fun w' => w'.cell? ⟨w.heap.size, 14, none⟩ = some (.slice (some ⟨nb, no, none⟩) x.nn nk) ∧ w'.cell? ⟨w.heap.size, 13, none⟩ = some (.slice (some ⟨cb, co, none⟩) x.nc cc) ∧ (loadCells ⟨nb, no + k * 16, none⟩ 16).run Tryz.prog w' = .ok (AM k) w' ∧ w'.cell? ⟨nb, no + k * 16, none⟩ = some (.int .i64 (x.XM k).ni) ∧ w'.cell? ⟨cb, co + k, none⟩ = some (.int .i64 (x.CM k))) w') := fun w' h => ⟨(L.below h).cell rfl, (L.below h).cell rfl, (hcs'.below h).load (P := Tryz.prog) hlt hxs, (hcs'.below h).2 k hlt 0 _ (hx.below h).id, (hcc'.below h hcc'.1).2 k (by omega)⟩
   have HO : Hid (bH x k = (okX (x.XM k) && (decide ((x.XM k).ni = (k : Int)) && cmX (x.XM k) (x.CM k)))) := rfl
   clear hx hcs' hcc' hcs hq hcc hxs H3 H4
   generalize AM k = Ak at *
   generalize (x.XM k).ni = ni at *
   generalize x.CM k = ck at *
   generalize cmX (x.XM k) ck = cm at *
   cases hok : okX (x.XM k)
   ·rw [hok] at CO
    have hno : bH x k = false := by rw [HO.out, hok]; rfl
    clear CM HO
    go_wp2_with fail
    refine wp_region_held_drew (S := (fun w' => w'.cell? ⟨w.heap.size, 14, none⟩ = some (.slice (some ⟨nb, no, none⟩) x.nn nk) ∧ w'.cell? ⟨w.heap.size, 13, none⟩ = some (.slice (some ⟨cb, co, none⟩) x.nc cc) ∧ (loadCells ⟨nb, no + k * 16, none⟩ 16).run Tryz.prog w' = .ok Ak w' ∧ w'.cell? ⟨nb, no + k * 16, none⟩ = some (.int .i64 ni) ∧ w'.cell? ⟨cb, co + k, none⟩ = some (.int .i64 ck))) (by kernel_rfl) ?_ (fun hHeld => ?_)
    ·first | exact SK.out _ XB | exact SK.out _ zD
    have XB : Below wr.heap.size wr wr.drew := Below.drew (Below.refl _ _)
    generalize wr.drew = vx at *
    refine zT4 0 ?_
    refine zTk 4 ?_
    refine zQ 5 fun K hK => ?_
    go_simp
    refine (CO _ XB).mono ?_; rintro ee vx ⟨rfl, hbl⟩; (replace XB := XB.trans (hbl.mono XB.size)); (clear hbl)
    (try go_wp2_with fail)
    refine hK.out _ _ ?_ (fun hHeld => ?_)
    ·first | exact SK.out _ XB | exact SK.out _ zD
    clear hK K
    (try simp only [zA])
    refine zT2 6 ?_
    refine zTn 8 ?_
    refine zTn 9 ?_
    refine zTn 10 ?_
    refine zTn 11 ?_
    refine zTn 12 ?_
    refine zTn 13 ?_
    refine zTn 14 ?_
    refine zTn 15 ?_
    refine zT2 16 ?_
    refine zTn 18 ?_
    refine zTn 19 ?_
    refine zTn 20 ?_
    refine zTn 21 ?_
    refine zTn 22 ?_
    refine zTn 23 ?_
    refine zTn 24 ?_
    refine zTn 25 ?_
    refine zTn 26 ?_
    refine zTn 27 ?_
    refine zTn 28 ?_
    refine zTn 29 ?_
    refine zTk 30 ?_
    refine wpAnyH_done (by kernel_rfl) ?_ _
    have B2 := B.trans (XB.mono B.size)
    have hE : aT x = false := by rw [HX2.out, aF hno x.nn HLT.out]; simp
    clear SK XB HX2
    go_wp2_with fail
    go_ret
    exact ⟨by first | (rw [hE]; rfl) | rfl, B2⟩
   rw [hok] at CO
   by_cases hid : ni = (k : Int)
   rotate_left
   ·have hne1 : (ni != (k : Int)) = true := by simp [hid]
    have hno : bH x k = false := by rw [HO.out, decide_eq_false hid]; simp
    clear CM HO
    go_wp2_with fail
    refine wp_region_held_drew (S := (fun w' => w'.cell? ⟨w.heap.size, 14, none⟩ = some (.slice (some ⟨nb, no, none⟩) x.nn nk) ∧ w'.cell? ⟨w.heap.size, 13, none⟩ = some (.slice (some ⟨cb, co, none⟩) x.nc cc) ∧ (loadCells ⟨nb, no + k * 16, none⟩ 16).run Tryz.prog w' = .ok Ak w' ∧ w'.cell? ⟨nb, no + k * 16, none⟩ = some (.int .i64 ni) ∧ w'.cell? ⟨cb, co + k, none⟩ = some (.int .i64 ck))) (by kernel_rfl) ?_ (fun hHeld => ?_)
    ·first | exact SK.out _ XB | exact SK.out _ zD
    have XB : Below wr.heap.size wr wr.drew := Below.drew (Below.refl _ _)
    generalize wr.drew = vx at *
    refine zT4 0 ?_
    refine zTk 4 ?_
    refine zQ 5 fun K hK => ?_
    go_simp
    refine (CO _ XB).mono ?_; rintro ee vx ⟨rfl, hbl⟩; (replace XB := XB.trans (hbl.mono XB.size)); (clear hbl)
    (try go_wp2_with fail)
    refine hK.out _ _ ?_ (fun hHeld => ?_)
    ·first | exact SK.out _ XB | exact SK.out _ zD
    clear hK K
    (try simp only [zA])
    refine zT8 6 ?_
    refine zT2 14 ?_
    (try simp only [hne1])
    refine zT2 16 ?_
    refine zTn 18 ?_
    refine zTn 19 ?_
    refine zTn 20 ?_
    refine zTn 21 ?_
    refine zTn 22 ?_
    refine zTn 23 ?_
    refine zTn 24 ?_
    refine zTn 25 ?_
    refine zTn 26 ?_
    refine zTn 27 ?_
    refine zTn 28 ?_
    refine zTn 29 ?_
    refine zTk 30 ?_
    refine wpAnyH_done (by kernel_rfl) ?_ _
    have B2 := B.trans (XB.mono B.size)
    have hE : aT x = false := by rw [HX2.out, aF hno x.nn HLT.out]; simp
    clear SK XB HX2
    go_wp2_with fail
    go_ret
    exact ⟨by first | (rw [hE]; rfl) | rfl, B2⟩
   have hne1 : (ni != (k : Int)) = false := by simp [hid]
   cases hcm : cm
   ·rw [hcm] at CM
    have hno : bH x k = false := by rw [HO.out, hcm]; simp
    clear HO
    go_wp2_with fail
    refine wp_region_held_drew (S := (fun w' => w'.cell? ⟨w.heap.size, 14, none⟩ = some (.slice (some ⟨nb, no, none⟩) x.nn nk) ∧ w'.cell? ⟨w.heap.size, 13, none⟩ = some (.slice (some ⟨cb, co, none⟩) x.nc cc) ∧ (loadCells ⟨nb, no + k * 16, none⟩ 16).run Tryz.prog w' = .ok Ak w' ∧ w'.cell? ⟨nb, no + k * 16, none⟩ = some (.int .i64 ni) ∧ w'.cell? ⟨cb, co + k, none⟩ = some (.int .i64 ck))) (by kernel_rfl) ?_ (fun hHeld => ?_)
    ·first | exact SK.out _ XB | exact SK.out _ zD
    have XB : Below wr.heap.size wr wr.drew := Below.drew (Below.refl _ _)
    generalize wr.drew = vx at *
    refine zT4 0 ?_
    refine zTk 4 ?_
    refine zQ 5 fun K hK => ?_
    go_simp
    refine (CO _ XB).mono ?_; rintro ee vx ⟨rfl, hbl⟩; (replace XB := XB.trans (hbl.mono XB.size)); (clear hbl)
    (try go_wp2_with fail)
    refine hK.out _ _ ?_ (fun hHeld => ?_)
    ·first | exact SK.out _ XB | exact SK.out _ zD
    clear hK K
    (try simp only [zA])
    refine zT8 6 ?_
    refine zT2 14 ?_
    (try simp only [hne1])
    refine zT8 16 ?_
    refine zT4 24 ?_
    refine zQ 28 fun K hK => ?_
    go_simp
    refine (CM _ XB).mono ?_; rintro ee vx ⟨rfl, hbl⟩; (replace XB := XB.trans (hbl.mono XB.size)); (clear hbl)
    (try go_wp2_with fail)
    refine hK.out _ _ ?_ (fun hHeld => ?_)
    ·first | exact SK.out _ XB | exact SK.out _ zD
    clear hK K
    (try simp only [zA])
    refine zT2 29 ?_
    refine wpAnyH_done (by kernel_rfl) ?_ _
    have B2 := B.trans (XB.mono B.size)
    have hE : aT x = false := by rw [HX2.out, aF hno x.nn HLT.out]; simp
    clear SK XB HX2
    go_wp2_with fail
    go_ret
    exact ⟨by first | (rw [hE]; rfl) | rfl, B2⟩
   rw [hcm] at CM
   have HY : Hid (ax (bH x) (k + 1) = true) := bg HA.out (by rw [HO.out, hok, hcm, decide_eq_true hid]; rfl)
   clear HO HA
   go_wp2_with fail
   refine wp_region_held_drew (S := (fun w' => w'.cell? ⟨w.heap.size, 14, none⟩ = some (.slice (some ⟨nb, no, none⟩) x.nn nk) ∧ w'.cell? ⟨w.heap.size, 13, none⟩ = some (.slice (some ⟨cb, co, none⟩) x.nc cc) ∧ (loadCells ⟨nb, no + k * 16, none⟩ 16).run Tryz.prog w' = .ok Ak w' ∧ w'.cell? ⟨nb, no + k * 16, none⟩ = some (.int .i64 ni) ∧ w'.cell? ⟨cb, co + k, none⟩ = some (.int .i64 ck))) (by kernel_rfl) ?_ (fun hHeld => ?_)
   ·first | exact SK.out _ XB | exact SK.out _ zD
   have XB : Below wr.heap.size wr wr.drew := Below.drew (Below.refl _ _)
   generalize wr.drew = vx at *
   refine zT4 0 ?_
   refine zTk 4 ?_
   refine zQ 5 fun K hK => ?_
   go_simp
   refine (CO _ XB).mono ?_; rintro ee vx ⟨rfl, hbl⟩; (replace XB := XB.trans (hbl.mono XB.size)); (clear hbl)
   (try go_wp2_with fail)
   refine hK.out _ _ ?_ (fun hHeld => ?_)
   ·first | exact SK.out _ XB | exact SK.out _ zD
   clear hK K
   (try simp only [zA])
   refine zT8 6 ?_
   refine zT2 14 ?_
   (try simp only [hne1])
   refine zT8 16 ?_
   refine zT4 24 ?_
   refine zQ 28 fun K hK => ?_
   go_simp
   refine (CM _ XB).mono ?_; rintro ee vx ⟨rfl, hbl⟩; (replace XB := XB.trans (hbl.mono XB.size)); (clear hbl)
   (try go_wp2_with fail)
   refine hK.out _ _ ?_ (fun hHeld => ?_)
   ·first | exact SK.out _ XB | exact SK.out _ zD
   clear hK K
   (try simp only [zA])
   refine zT2 29 ?_
   refine wpAnyH_done (by kernel_rfl) ?_ _
   have B2 := B.trans (XB.mono B.size)
   have L2 := L.below XB
   clear SK XB L B CO CM
   go_wp2_with fail
   go_roundw
   case rel => exact ⟨k + 1, by omega, by go_num, HY.out, L2, B2⟩
   case measure => simp [intOf]; omega
  have hkn : k = x.nn := by omega
  have hli : ¬ (k : Int) < (x.nn : Int) := by omega
  have HX3 : Hid (aT x = (ax (bl x) x.nf && ax (bu x) x.nb)) := by (show aT x = _; rw [HX2.out, ← hkn, HA.out]; rfl)
  clear HX2 HA hkn hlt hk H3 H4
  have cF : wr.cell? ⟨w.heap.size, 16, none⟩ = some (.slice fa x.nf fc) := L.cell rfl
  go_wp2_with fail
  clear cF
  go_loopw [5] (fun i wr => ∃ k : Nat, k ≤ x.nf ∧ i = .int .i64 (k : Int) ∧ ax (bl x) k = true ∧ Bo wr w.heap.size (wdV x p d la lc ca cc na nk fa fc ba bc) ∧ Below w.heap.size w wr) (fun i _ => x.nf - (intOf i).toNat)
  case atStart => exact ⟨0, Nat.zero_le _, rfl, rfl, L, B⟩
  case round =>
   clear L B
   obtain ⟨k, hk, rfl, hall, L, B⟩ := hrel
   have HA : Hid (ax (bl x) k = true) := hall
   clear hall
   have cF : wr.cell? ⟨w.heap.size, 16, none⟩ = some (.slice fa x.nf fc) := L.cell rfl
   by_cases hlt : k < x.nf
   ·have HLT : Hid (k < x.nf) := hlt
    have hli : (k : Int) < (x.nf : Int) := by omega
    obtain ⟨fb, fo, rfl, hf⟩ : ∃ b off, fa = some ⟨b, off, none⟩ ∧ Cs w b off (x.nf * 5) (ap x.FM) := by
     rcases H5.out with q | q
     ·omega
     ·exact q
    obtain ⟨x0, x1, x2, x3, x4, hM⟩ := be x.FM k
    have hfl := iJ (P := Tryz.prog) (hf.below B hf.1) hlt hM
    have hnd := j8 HNE.out hlt
    rw [hM] at hnd
    have hn1 : 0 ≤ x1 := hnd.1
    have hn2 : 0 ≤ x2 := hnd.2
    clear hnd
    have HO : Hid (bl x k = (decide (0 ≤ x1 ∧ x1 < (x.nn : Int)) && (decide (0 ≤ x2 ∧ x2 < (x.nn : Int)) && decide (x4 ≤ x.ti)))) := by (show bl x k = _; unfold bl cl; rw [hM])
    have hst := aY (P := Tryz.prog) wr #[.int .i64 0, .int .i64 0, .int .i64 0, .string ⟨#[]⟩, .int .i64 0] #[.int .i64 x0, .int .i64 x1, .int .i64 x2, .string x3, .int .i64 x4] 101 rfl (List.forall_mem_cons.2 ⟨rfl, (List.forall_mem_cons.2 ⟨rfl, (List.forall_mem_cons.2 ⟨rfl, (List.forall_mem_cons.2 ⟨rfl, (List.forall_mem_cons.2 ⟨rfl, fun _ h => nomatch h⟩)⟩)⟩)⟩)⟩)
    have hb := Below.nw wr (.cells #[.int .i64 x0, .int .i64 x1, .int .i64 x2, .string x3, .int .i64 x4] 101)
    have Q := Bo.new wr #[.int .i64 x0, .int .i64 x1, .int .i64 x2, .string x3, .int .i64 x4] 101
    clear hf hM H5
    go_upto_region 13 with (first | rw [hfl] | rw [hst])
    clear hfl hst cF
    replace B := B.trans (hb.mono B.size)
    replace L := L.below hb
    clear hb
    generalize wr.alloc (.cells #[.int .i64 x0, .int .i64 x1, .int .i64 x2, .string x3, .int .i64 x4] 101) = v5 at *
    generalize wr.heap.size = kQ at *
    have q1 : v5.cell? ⟨kQ, 1, none⟩ = some (.int .i64 x1) := Q.cell rfl
    have q2 : v5.cell? ⟨kQ, 2, none⟩ = some (.int .i64 x2) := Q.cell rfl
    have q4 : v5.cell? ⟨kQ, 4, none⟩ = some (.int .i64 x4) := Q.cell rfl
    have cT : v5.cell? ⟨w.heap.size, 12, none⟩ = some (.int .i64 x.ti) := L.cell rfl
    by_cases hf1 : (x.nn : Int) ≤ x1
    ·have hd1 : decide ((x.nn : Int) ≤ x1) = true := by simp [hf1]
     have hno : bl x k = false := by rw [HO.out, decide_eq_false (by omega)]; rfl
     have hE : aT x = false := by rw [HX3.out, aF hno x.nf HLT.out]; rfl
     clear HO HX3 HA
     go_wp2_with fail
     go_ret
     exact ⟨by first | (rw [hE]; rfl) | rfl, B⟩
    have hd1 : decide ((x.nn : Int) ≤ x1) = false := by simp; omega
    by_cases hf2 : (x.nn : Int) ≤ x2
    ·have hd2 : decide ((x.nn : Int) ≤ x2) = true := by simp [hf2]
     have hno : bl x k = false := by rw [HO.out, decide_eq_false (show ¬ (0 ≤ x2 ∧ x2 < (x.nn : Int)) by omega)]; simp
     have hE : aT x = false := by rw [HX3.out, aF hno x.nf HLT.out]; rfl
     clear HO HX3 HA
     go_wp2_with fail
     go_ret
     exact ⟨by first | (rw [hE]; rfl) | rfl, B⟩
    have hd2 : decide ((x.nn : Int) ≤ x2) = false := by simp; omega
    by_cases hf3 : x.ti < x4
    ·have hd3 : decide (x.ti < x4) = true := by simp [hf3]
     have hno : bl x k = false := by rw [HO.out, decide_eq_false (show ¬ x4 ≤ x.ti by omega)]; simp
     have hE : aT x = false := by rw [HX3.out, aF hno x.nf HLT.out]; rfl
     clear HO HX3 HA
     go_wp2_with fail
     go_ret
     exact ⟨by first | (rw [hE]; rfl) | rfl, B⟩
    have hd3 : decide (x.ti < x4) = false := by simp; omega
    have HY : Hid (ax (bl x) (k + 1) = true) := bg HA.out (by rw [HO.out, decide_eq_true (by omega), decide_eq_true (show 0 ≤ x2 ∧ x2 < (x.nn : Int) by omega), decide_eq_true (show x4 ≤ x.ti by omega)]; rfl)
    clear HO HA hf1 hf2 hf3 hn1 hn2
    go_wp2_with fail
    go_roundw
    case rel => exact ⟨k + 1, by omega, by go_num, HY.out, L, B⟩
    case measure => simp [intOf]; omega
   have hkn : k = x.nf := by omega
   have hli : ¬ (k : Int) < (x.nf : Int) := by omega
   have HX4 : Hid (aT x = ax (bu x) x.nb) := by (show aT x = _; rw [HX3.out, ← hkn, HA.out]; rfl)
   clear HX3 HA hkn hlt hk H5
   have cB : wr.cell? ⟨w.heap.size, 17, none⟩ = some (.slice ba x.nb bc) := L.cell rfl
   go_wp2_with fail
   clear cB cF
   go_loopw [7] (fun i wr => ∃ k : Nat, k ≤ x.nb ∧ i = .int .i64 (k : Int) ∧ ax (bu x) k = true ∧ Bo wr w.heap.size (wdV x p d la lc ca cc na nk fa fc ba bc) ∧ Below w.heap.size w wr) (fun i _ => x.nb - (intOf i).toNat)
   case atStart => exact ⟨0, Nat.zero_le _, rfl, rfl, L, B⟩
   case round =>
    clear L B
    obtain ⟨k, hk, rfl, hall, L, B⟩ := hrel
    have HA : Hid (ax (bu x) k = true) := hall
    clear hall
    have cB : wr.cell? ⟨w.heap.size, 17, none⟩ = some (.slice ba x.nb bc) := L.cell rfl
    by_cases hlt : k < x.nb
    ·have HLT : Hid (k < x.nb) := hlt
     have hli : (k : Int) < (x.nb : Int) := by omega
     obtain ⟨bb, bo, rfl, hf⟩ : ∃ b off, ba = some ⟨b, off, none⟩ ∧ Cs w b off (x.nb * 6) (av x.BM) := by
      rcases H6.out with q | q
      ·omega
      ·exact q
     obtain ⟨x0, x1, x2, x3, x4, x5, hM⟩ := bF x.BM k
     have hf' := hf.below B hf.1
     have hnd : 0 ≤ (x.BM k).1 := jY HBU.out hlt
     rw [hM] at hnd
     have hnd : 0 ≤ x0 := hnd
     have HO : Hid (bu x k = (decide (0 ≤ x0 ∧ x0 < (x.nn : Int)) && decide (x3 ≤ x.ti))) := by (show bu x k = _; unfold bu cl; rw [hM])
     have SK : Hid (∀ w', Below wr.heap.size wr w' → (fun w' => w'.cell? ⟨w.heap.size, 17, none⟩ = some (.slice (some ⟨bb, bo, none⟩) x.nb bc) ∧ w'.cell? ⟨w.heap.size, 12, none⟩ = some (.int .i64 x.ti) ∧ w'.cell? ⟨bb, bo + k * 6, none⟩ = some (.int .i64 x0) ∧ w'.cell? ⟨bb, bo + k * 6 + 3, none⟩ = some (.int .i64 x3)) w') := fun w' h => ⟨(L.below h).cell rfl, (L.below h).cell rfl, ((hf'.below h hf'.1).elFrame hlt hM).1, ((hf'.below h hf'.1).elFrame hlt hM).2.2.2.1⟩
     clear hf hM H6 hf'
     generalize hti : x.ti = ti at *
     by_cases hf1 : (x.nn : Int) ≤ x0
     ·have hd1 : decide ((x.nn : Int) ≤ x0) = true := by simp [hf1]
      have hno : bu x k = false := by rw [HO.out, decide_eq_false (by omega)]; rfl
      have hE : aT x = false := by rw [HX4.out, aF hno x.nb HLT.out]
      clear HO HX4 HA
      go_wp2_with fail
      refine wp_region_held_drew (S := (fun w' => w'.cell? ⟨w.heap.size, 17, none⟩ = some (.slice (some ⟨bb, bo, none⟩) x.nb bc) ∧ w'.cell? ⟨w.heap.size, 12, none⟩ = some (.int .i64 ti) ∧ w'.cell? ⟨bb, bo + k * 6, none⟩ = some (.int .i64 x0) ∧ w'.cell? ⟨bb, bo + k * 6 + 3, none⟩ = some (.int .i64 x3))) (by kernel_rfl) ?_ (fun hHeld => ?_)
      ·first | exact SK.out _ XB | exact SK.out _ zD
      have XB : Below wr.heap.size wr wr.drew := Below.drew (Below.refl _ _)
      generalize wr.drew = vx at *
      refine zT8 0 ?_
      (try simp only [hd1])
      refine zTk 8 ?_
      refine zTn 9 ?_
      refine zTn 10 ?_
      refine zTn 11 ?_
      refine zTn 12 ?_
      refine zTn 13 ?_
      refine zTn 14 ?_
      refine zTn 15 ?_
      refine zTn 16 ?_
      refine zTn 17 ?_
      refine zTk 18 ?_
      refine wpAnyH_done (by kernel_rfl) ?_ _
      have B2 := B.trans (XB.mono B.size)
      clear SK XB
      go_wp2_with fail
      go_ret
      exact ⟨by first | (rw [hE]; rfl) | rfl, B2⟩
     have hd1 : decide ((x.nn : Int) ≤ x0) = false := by simp; omega
     by_cases hf3 : ti < x3
     ·have hd3 : decide (ti < x3) = true := by simp [hf3]
      have hno : bu x k = false := by rw [HO.out, decide_eq_false (show ¬ x3 ≤ ti by omega)]; simp
      have hE : aT x = false := by rw [HX4.out, aF hno x.nb HLT.out]
      clear HO HX4 HA
      go_wp2_with fail
      refine wp_region_held_drew (S := (fun w' => w'.cell? ⟨w.heap.size, 17, none⟩ = some (.slice (some ⟨bb, bo, none⟩) x.nb bc) ∧ w'.cell? ⟨w.heap.size, 12, none⟩ = some (.int .i64 ti) ∧ w'.cell? ⟨bb, bo + k * 6, none⟩ = some (.int .i64 x0) ∧ w'.cell? ⟨bb, bo + k * 6 + 3, none⟩ = some (.int .i64 x3))) (by kernel_rfl) ?_ (fun hHeld => ?_)
      ·first | exact SK.out _ XB | exact SK.out _ zD
      have XB : Below wr.heap.size wr wr.drew := Below.drew (Below.refl _ _)
      generalize wr.drew = vx at *
      refine zT8 0 ?_
      (try simp only [hd1])
      refine zT8 8 ?_
      refine zT2 16 ?_
      (try simp only [hd3])
      refine zTk 18 ?_
      refine wpAnyH_done (by kernel_rfl) ?_ _
      have B2 := B.trans (XB.mono B.size)
      clear SK XB
      go_wp2_with fail
      go_ret
      exact ⟨by first | (rw [hE]; rfl) | rfl, B2⟩
     have hd3 : decide (ti < x3) = false := by simp; omega
     have HY : Hid (ax (bu x) (k + 1) = true) := bg HA.out (by rw [HO.out, decide_eq_true (by omega), decide_eq_true (show x3 ≤ ti by omega)]; rfl)
     clear HO HA hf1 hf3 hnd
     go_wp2_with fail
     refine wp_region_held_drew (S := (fun w' => w'.cell? ⟨w.heap.size, 17, none⟩ = some (.slice (some ⟨bb, bo, none⟩) x.nb bc) ∧ w'.cell? ⟨w.heap.size, 12, none⟩ = some (.int .i64 ti) ∧ w'.cell? ⟨bb, bo + k * 6, none⟩ = some (.int .i64 x0) ∧ w'.cell? ⟨bb, bo + k * 6 + 3, none⟩ = some (.int .i64 x3))) (by kernel_rfl) ?_ (fun hHeld => ?_)
     ·first | exact SK.out _ XB | exact SK.out _ zD
     have XB : Below wr.heap.size wr wr.drew := Below.drew (Below.refl _ _)
     generalize wr.drew = vx at *
     refine zT8 0 ?_
     (try simp only [hd1])
     refine zT8 8 ?_
     refine zT2 16 ?_
     (try simp only [hd3])
     refine zTk 18 ?_
     refine wpAnyH_done (by kernel_rfl) ?_ _
     have B2 := B.trans (XB.mono B.size)
     have L2 := L.below XB
     clear SK XB L B
     go_wp2_with fail
     go_roundw
     case rel => exact ⟨k + 1, by omega, by go_num, HY.out, L2, B2⟩
     case measure => simp [intOf]; omega
    have hkn : k = x.nb := by omega
    have hli : ¬ (k : Int) < (x.nb : Int) := by omega
    have hE : aT x = true := by rw [HX4.out, ← hkn, HA.out]
    clear HX4 HA hkn hlt hk H6
    go_wp2_with fail
    go_ret
    exact ⟨by first | (rw [hE]; rfl) | rfl, B⟩
end Go.Proofs.YtddijpjgkifngaaGreat
