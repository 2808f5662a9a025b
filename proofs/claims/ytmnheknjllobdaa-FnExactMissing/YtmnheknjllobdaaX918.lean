/- The walk of the exact law of Missing. -/
import Derived.Test.YtmnheknjllobdaaX916
import Derived.Test.YtmnheknjllobdaaX917
import Derived.Deep.RegionHeld3
import Derived.WalkKit
import Derived.WalkSpells
import Derived.WalkLawsBesides
import Derived.Deep.RegionHeld
namespace Go.Proofs.Ytmnheknjllobdaa
open Go.RowKit
set_option linter.unusedVariables false
set_option maxHeartbeats 4000000 in
theorem lawMissing (a : Option Addr) (m cp : Nat) (f : Nat → Int × Int) (lo hi : Int) (w : World) (hm : m ≤ maxLen) (hsrc : Src w a m f) (w1 : (Lit.int .i64 lo).wf = true) (w2 : (Lit.int .i64 hi).wf = true) :
    Calls Try.prog 10 #[.slice a m cp, .agg #[.int .i64 lo, .int .i64 hi]] w fun e w' => e = .returned (.bool true) ∧ Below w.heap.size w w' := by
  clear w1 w2
  have HSrc : Hid (Src w a m f) := hsrc
  have CS := fun (w' : World) (a' : Option Addr) (h : Src w' a' m f) => specMissing a' m m f lo hi w' hm h
  have CI := fun (w' : World) (a' : Option Addr) (h : Src w' a' m f) => implMissing a' m m f lo hi w' hm h
  have hLen : (msL f m lo hi).length ≤ 12 := by
    unfold msL
    split
    · next h => have := ms_len f lo hi m; have := (srcB_le h).1; omega
    · simp
  generalize msL f m lo hi = L at *
  have B0 := Below.al9 w (.cells #[.int .i64 lo, .int .i64 hi] 39)
  have P := Vb.new w lo hi 39
  have hLm : L.length ≤ maxLen := by unfold maxLen; omega
  clear hsrc
  by_cases hbig : (m : Int) ≤ 1048576
  · have hn : m ≤ 1048576 := by omega
    have HN : Hid ((if (m : Int) ≤ 1048576 then 1048576 - (m : Int) else -1) = 1048576 - (m : Int)) := by rw [Hid, if_pos hbig]
    have hd : decide (1048576 - (m : Int) < 0) = false := by simp; omega
    go_enter Try.func10, Try.ntmps10
    go_wp2_with fail
    refine (szIvalS_any a m cp _ hm).mono ?_
    rintro e w' ⟨rfl, rfl⟩
    rw [HN.out]
    obtain ⟨p0, p1, p2, p3, p4⟩ := id P
    go_wp2_with fail
    refine wp_region_held_drew (S := (fun w' => w'.cell? ⟨w.heap.size, 0, none⟩ = some (.int .i64 lo) ∧ w'.cell? ⟨w.heap.size, 1, none⟩ = some (.int .i64 hi))) (by kernel_rfl) ?_ (fun hHeld => ?_)
    · first | exact ⟨p1, p2⟩ | (simp (maxDischargeDepth := 6) [go_sem, *]; done)
    (replace B0 := Below.drew B0)
    (replace P := P.drew)
    clear p0 p1 p2 p3 p4
    (generalize hvd : World.drew _ = vd at *)
    clear hvd
    obtain ⟨p0, p1, p2, p3, p4⟩ := id P
    refine wpAnyH_take (i := 0) (v := ?_) (by rw [List.getElem?_toArray]; rfl) (by kernel_rfl) (by kernel_rfl) (by kernel_rfl) (by intro _ _ _ h; exact h) (Or.inl ⟨by rfl, ?_⟩) (by assumption) ?_
    rotate_left
    · (intro w hSw; (try dsimp only at hSw); go_simp; all_goals with_reducible rfl)
    (try simp only [Act.put, List.setIfInBounds_toArray, List.set_cons_zero, List.set_cons_succ])
    refine wpAnyH_take (i := 2) (v := ?_) (by rw [List.getElem?_toArray]; rfl) (by kernel_rfl) (by kernel_rfl) (by kernel_rfl) (by intro _ _ _ h; exact h) (Or.inl ⟨by rfl, ?_⟩) (by assumption) ?_
    rotate_left
    · (intro w hSw; (try dsimp only at hSw); go_simp; all_goals with_reducible rfl)
    (try simp only [Act.put, List.setIfInBounds_toArray, List.set_cons_zero, List.set_cons_succ])
    refine wpAnyH_ready (rs := [1]) (by kernel_rfl) (by simp) ?_
    refine AllReadyH.cons (by rw [List.getElem?_toArray]; rfl) (fun K hK => ?_) AllReadyH.nil
    go_simp
    refine (toIvalS_any a m cp f _ hn (HSrc.out.below B0)).mono ?_; rintro e w2 ⟨rfl, hp2, hb⟩; (have B2 := B0.trans (hb.mono B0.size)); clear p0 p1 p2 p3 p4; (replace P := P.below hb); obtain ⟨p0, p1, p2, p3, p4⟩ := id P; clear hb
    (try go_wp2_with fail)
    refine hK.out _ _ ?_ (fun hHeld => ?_)
    · first | exact ⟨p1, p2⟩ | (simp (maxDischargeDepth := 6) [go_sem, *]; done)
    clear hK K
    (try simp only [Act.put, List.setIfInBounds_toArray, List.set_cons_zero, List.set_cons_succ])
    refine wpAnyH_ready (rs := [3]) (by kernel_rfl) (by simp) ?_
    refine AllReadyH.cons (by rw [List.getElem?_toArray]; rfl) (fun K hK => ?_) AllReadyH.nil
    go_simp
    refine (toIval_any _ _ _).mono ?_; rintro e w2b ⟨rfl, hb⟩; (replace B2 := B2.trans (hb.mono B2.size)); clear p0 p1 p2 p3 p4; (replace P := P.below hb); (replace hp2 := hp2.below hb hp2.1); obtain ⟨p0, p1, p2, p3, p4⟩ := id P; clear hb
    (try go_wp2_with fail)
    refine hK.out _ _ ?_ (fun hHeld => ?_)
    · first | exact ⟨p1, p2⟩ | (simp (maxDischargeDepth := 6) [go_sem, *]; done)
    clear hK K
    (try simp only [Act.put, List.setIfInBounds_toArray, List.set_cons_zero, List.set_cons_succ])
    refine wpAnyH_ready (rs := [4]) (by kernel_rfl) (by simp) ?_
    refine AllReadyH.cons (by rw [List.getElem?_toArray]; rfl) (fun K hK => ?_) AllReadyH.nil
    go_simp
    refine (CS _ _ (.inr ⟨_, _, rfl, hp2⟩)).mono ?_; rintro e w3 ⟨vs, rfl, V3, hb⟩; (have B3 := B2.trans (hb.mono B2.size)); clear p0 p1 p2 p3 p4; (replace P := P.below hb); obtain ⟨p0, p1, p2, p3, p4⟩ := id P; clear hb hp2
    (try go_wp2_with fail)
    refine hK.out _ _ ?_ (fun hHeld => ?_)
    · first | exact ⟨p1, p2⟩ | (simp (maxDischargeDepth := 6) [go_sem, *]; done)
    clear hK K
    (try simp only [Act.put, List.setIfInBounds_toArray, List.set_cons_zero, List.set_cons_succ])
    refine wpAnyH_take (i := 5) (v := ?_) (by rw [List.getElem?_toArray]; rfl) (by kernel_rfl) (by kernel_rfl) (by kernel_rfl) (by intro _ _ _ h; exact h) (Or.inl ⟨by rfl, ?_⟩) (by assumption) ?_
    rotate_left
    · (intro w hSw; (try dsimp only at hSw); go_simp; all_goals with_reducible rfl)
    (try simp only [Act.put, List.setIfInBounds_toArray, List.set_cons_zero, List.set_cons_succ])
    refine wpAnyH_done (by kernel_rfl) ?_ _
    clear p0 p1 p2 p3 p4
    have hw3 : w.heap.size < w3.heap.size := P.1
    have V3l : ∀ g, vs.ownBlock = some g → g < w3.heap.size := fun g hg => (V3.lt g hg).2
    clear B2 CS
    go_wp2_with fail
    refine (toIvalS_row a m cp f _ hn (HSrc.out.below B3)).mono ?_
    rintro e w5 ⟨rfl, X5, hb⟩
    have B5 := B3.trans (hb.mono B3.size)
    have V5 := own_below V3 hb
    replace P := P.below hb
    have hx : w3.heap.size < w5.heap.size := by obtain ⟨g, hr, _⟩ := X5; exact hr.lt
    clear hb V3
    obtain ⟨p0, p1, p2, p3, p4⟩ := id P
    go_wp2_with fail
    refine (toIval_any _ _ _).mono ?_
    rintro e w5b ⟨rfl, hb⟩
    replace B5 := B5.trans (hb.mono B5.size)
    replace V5 := own_below V5 hb
    replace X5 := X5.below hb hx
    replace hx : w3.heap.size < w5b.heap.size := Nat.lt_of_lt_of_le hx hb.size
    clear p0 p1 p2 p3 p4
    replace P := P.below hb
    clear hb
    go_wp2_with fail
    refine (CI _ _ (.inr ⟨_, _, rfl, rowK_prs X5 (Nat.le_refl _)⟩)).mono ?_
    rintro e w6 ⟨vg, rfl, G6, hb⟩
    have B6 := B5.trans (hb.mono B5.size)
    have V6 := own_below V5 hb
    have X6 := X5.below hb hx
    have s6 : w5b.heap.size ≤ w6.heap.size := hb.size
    replace P := P.below hb
    have Ggt : ∀ g, vg.ownBlock = some g → g ≠ w3.heap.size := fun g hg => by have := (G6.lt g hg).1; omega
    have B3s := B3.size
    clear hb B5 V5 X5 B3
    obtain ⟨az, cz, rfl, hsc, hsm, SS6⟩ := ownI_src V6
    obtain ⟨ag, cg, rfl, hgc, hgm, SG6⟩ := ownI_src G6
    have HS6 : Hid (SrcC w6 az L.length (itF L)) := SS6
    have HG6 : Hid (SrcC w6 ag L.length (itF L)) := SG6
    clear SS6 SG6 hsc hsm hgc hgm
    go_wp2_with fail
    refine (eqIntS_src _ _ _ _ _ _ _ hLm HG6.out HS6.out).mono ?_
    rintro e w7 ⟨rfl, hb⟩
    have B7 := B6.trans (hb.mono B6.size)
    have V7 := own_below V6 hb
    replace P := P.below hb
    have G7 := own_below G6 hb
    have X7 := X6.below hb (by omega)
    have s7 : w6.heap.size ≤ w7.heap.size := hb.size
    clear hb B6 V6 G6 X6 HS6 HG6
    go_wp2_with fail
    refine (toIvalS_any a m cp f _ hn (HSrc.out.below B7)).mono ?_
    rintro e w8 ⟨rfl, hp8, hb⟩
    have B8 := B7.trans (hb.mono B7.size)
    have V8 := own_below V7 hb
    replace P := P.below hb
    have G8 := own_below G7 hb
    have X8 := X7.below hb (by omega)
    have L8 : Hid (Prs w8 w7.heap.size 0 m f) := hp8
    have s8 : w7.heap.size ≤ w8.heap.size := hb.size
    clear hb B7 V7 G7 X7 hp8
    go_wp2_with fail
    refine (eqIvalS_same _ _ _ _ m m m f _ hm (rowK_prs X8 (Nat.le_refl _)) L8.out).mono ?_
    rintro e w9 ⟨rfl, hb⟩
    have B9 := B8.trans (hb.mono B8.size)
    have V9 := own_below V8 hb
    replace P := P.below hb
    have G9 := own_below G8 hb
    have X9 := X8.below hb (by omega)
    have s9 : w8.heap.size ≤ w9.heap.size := hb.size
    clear hb B8 V8 G8 X8 L8
    have X9' : RowK w9 w3.heap.size 33 m 0 f := by obtain ⟨g, hr, _⟩ := X9; exact ⟨g, hr, fun j hj => absurd hj (Nat.not_lt_zero _)⟩
    clear X9
    go_wp2_with fail
    refine (markIvalS_row _ m m m f _ hn (Nat.le_refl _) X9').mono ?_
    rintro e w10 ⟨rfl, X10, hg⟩
    have b10 := grown_belowB hg (Nat.le_refl _) (by omega)
    have B10 := B9.trans (b10.mono (by omega))
    have V10 := own_belowB V9 b10 V3l
    replace P := P.belowB b10 (by omega)
    have G10 := own_grown G9 hg Ggt
    have s10 : w9.heap.size ≤ w10.heap.size := hg.size
    clear hg b10 B9 V9 G9 X9' X10
    obtain ⟨az', cz', hs1, _, _, SS10⟩ := ownI_src V10
    obtain ⟨ag', cg', hg1, _, _, SG10⟩ := ownI_src G10
    simp at hs1 hg1
    obtain ⟨rfl, rfl⟩ := hs1
    obtain ⟨rfl, rfl⟩ := hg1
    have HS10 : Hid (SrcC w10 az L.length (itF L)) := SS10
    have HG10 : Hid (SrcC w10 ag L.length (itF L)) := SG10
    clear SS10 SG10
    have hk0 : decide (1 + 2 * (m : Int) < 0) = false := by simp; omega
    go_wp2_with fail
    refine (eqIntS_src _ _ _ _ _ _ _ hLm HG10.out HS10.out).mono ?_
    rintro e w11 ⟨rfl, hb⟩
    have B11 := B10.trans (hb.mono B10.size)
    have V11 := own_below V10 hb
    replace P := P.below hb
    have G11 := own_below G10 hb
    have s11 : w10.heap.size ≤ w11.heap.size := hb.size
    clear hb B10 V10 G10 HS10 HG10
    go_wp2_with fail
    refine (markIntS_any _ _ _ w5b.heap.size _ _ (by omega) (by omega) G11).mono ?_
    rintro e w12 ⟨rfl, SM12, hb⟩
    have B12 := B11.trans (hb.mono (by omega))
    have V12 := own_belowB V11 hb (fun g hg => by have := V3l g hg; omega)
    replace P := P.belowB hb (by omega)
    have HM12 : Hid (SrcC w12 ag L.length mkI) := SM12
    have s12 : w11.heap.size ≤ w12.heap.size := hb.size
    clear hb B11 V11 G11 SM12
    go_wp2_with fail
    refine (heldIntS_any _ _ _ _ (by omega) HM12.out).mono ?_
    rintro e w' ⟨rfl, rfl⟩
    have hq0 : decide (1 + (L.length : Int) < 0) = false := by simp; omega
    obtain ⟨p0, p1, p2, p3, p4⟩ := id P
    go_wp2_with fail
    refine wp_region_held_drew (S := (fun w' => w'.cell? ⟨w.heap.size, 0, none⟩ = some (.int .i64 lo) ∧ w'.cell? ⟨w.heap.size, 1, none⟩ = some (.int .i64 hi))) (by kernel_rfl) ?_ (fun hHeld => ?_)
    · first | exact ⟨p1, p2⟩ | (simp (maxDischargeDepth := 6) [go_sem, *]; done)
    (replace B12 := Below.drew B12)
    (have V12 : (World.drew w12).ownsRow _ 3 1 (.slice az L.length cz) L.length (itL L) := V12)
    (replace HM12 : Hid (SrcC w12.drew ag L.length mkI) := HM12.out)
    (replace P := P.drew)
    clear p0 p1 p2 p3 p4
    generalize w12.drew = w12 at *
    obtain ⟨p0, p1, p2, p3, p4⟩ := id P
    refine wpAnyH_take (i := 0) (v := ?_) (by rw [List.getElem?_toArray]; rfl) (by kernel_rfl) (by kernel_rfl) (by kernel_rfl) (by intro _ _ _ h; exact h) (Or.inl ⟨by rfl, ?_⟩) (by assumption) ?_
    rotate_left
    · (intro w hSw; (try dsimp only at hSw); go_simp; all_goals with_reducible rfl)
    (try simp only [Act.put, List.setIfInBounds_toArray, List.set_cons_zero, List.set_cons_succ])
    refine wpAnyH_take (i := 2) (v := ?_) (by rw [List.getElem?_toArray]; rfl) (by kernel_rfl) (by kernel_rfl) (by kernel_rfl) (by intro _ _ _ h; exact h) (Or.inl ⟨by rfl, ?_⟩) (by assumption) ?_
    rotate_left
    · (intro w hSw; (try dsimp only at hSw); go_simp; all_goals with_reducible rfl)
    (try simp only [Act.put, List.setIfInBounds_toArray, List.set_cons_zero, List.set_cons_succ])
    refine wpAnyH_ready (rs := [1]) (by kernel_rfl) (by simp) ?_
    refine AllReadyH.cons (by rw [List.getElem?_toArray]; rfl) (fun K hK => ?_) AllReadyH.nil
    go_simp
    refine (toIvalS_any a m cp f _ hn (HSrc.out.below B12)).mono ?_; rintro e w14 ⟨rfl, hp14, hb⟩; (have B14 := B12.trans (hb.mono B12.size)); (have V14 := own_below V12 hb); (have HM14 : Hid (SrcC w14 ag L.length mkI) := HM12.out.below hb); clear p0 p1 p2 p3 p4; (replace P := P.below hb); obtain ⟨p0, p1, p2, p3, p4⟩ := id P; clear hb
    (try go_wp2_with fail)
    refine hK.out _ _ ?_ (fun hHeld => ?_)
    · first | exact ⟨p1, p2⟩ | (simp (maxDischargeDepth := 6) [go_sem, *]; done)
    clear hK K
    (try simp only [Act.put, List.setIfInBounds_toArray, List.set_cons_zero, List.set_cons_succ])
    refine wpAnyH_ready (rs := [3]) (by kernel_rfl) (by simp) ?_
    refine AllReadyH.cons (by rw [List.getElem?_toArray]; rfl) (fun K hK => ?_) AllReadyH.nil
    go_simp
    refine (toIval_any _ _ _).mono ?_; rintro e w14b ⟨rfl, hb⟩; (replace B14 := B14.trans (hb.mono B14.size)); (replace V14 := own_below V14 hb); (replace HM14 : Hid (SrcC w14b ag L.length mkI) := HM14.out.below hb); (replace hp14 := hp14.below hb hp14.1); clear p0 p1 p2 p3 p4; (replace P := P.below hb); obtain ⟨p0, p1, p2, p3, p4⟩ := id P; clear hb
    (try go_wp2_with fail)
    refine hK.out _ _ ?_ (fun hHeld => ?_)
    · first | exact ⟨p1, p2⟩ | (simp (maxDischargeDepth := 6) [go_sem, *]; done)
    clear hK K
    (try simp only [Act.put, List.setIfInBounds_toArray, List.set_cons_zero, List.set_cons_succ])
    refine wpAnyH_ready (rs := [4]) (by kernel_rfl) (by simp) ?_
    refine AllReadyH.cons (by rw [List.getElem?_toArray]; rfl) (fun K hK => ?_) AllReadyH.nil
    go_simp
    refine (CI _ _ (.inr ⟨_, _, rfl, hp14⟩)).mono ?_; rintro e w15 ⟨vh, rfl, H15, hb⟩; (have B15 := B14.trans (hb.mono B14.size)); (have V15 := own_below V14 hb); (have HM15 : Hid (SrcC w15 ag L.length mkI) := HM14.out.below hb); clear p0 p1 p2 p3 p4; (replace P := P.below hb); obtain ⟨p0, p1, p2, p3, p4⟩ := id P; clear hb hp14 B14 V14 HM14
    (try go_wp2_with fail)
    refine hK.out _ _ ?_ (fun hHeld => ?_)
    · first | exact ⟨p1, p2⟩ | (simp (maxDischargeDepth := 6) [go_sem, *]; done)
    clear hK K
    (try simp only [Act.put, List.setIfInBounds_toArray, List.set_cons_zero, List.set_cons_succ])
    refine wpAnyH_take (i := 5) (v := ?_) (by rw [List.getElem?_toArray]; rfl) (by kernel_rfl) (by kernel_rfl) (by kernel_rfl) (by intro _ _ _ h; exact h) (Or.inl ⟨by rfl, ?_⟩) (by assumption) ?_
    rotate_left
    · (intro w hSw; (try dsimp only at hSw); go_simp; all_goals with_reducible rfl)
    (try simp only [Act.put, List.setIfInBounds_toArray, List.set_cons_zero, List.set_cons_succ])
    refine wpAnyH_done (by kernel_rfl) ?_ _
    clear p0 p1 p2 p3 p4
    clear CI
    obtain ⟨az', cz', hs1, _, _, SS15⟩ := ownI_src V15
    obtain ⟨ah, ch, rfl, _, _, SH15⟩ := ownI_src H15
    simp at hs1
    obtain ⟨rfl, rfl⟩ := hs1
    have HS15 : Hid (SrcC w15 az L.length (itF L)) := SS15
    have HH15 : Hid (SrcC w15 ah L.length (itF L)) := SH15
    clear SS15 SH15 V15 H15
    go_wp2_with fail
    refine (eqIntS_src _ _ _ _ _ _ _ hLm HH15.out HS15.out).mono ?_
    rintro e w16 ⟨rfl, hb⟩
    have B16 := B15.trans (hb.mono B15.size)
    have HM16 : Hid (SrcC w16 ag L.length mkI) := HM15.out.below hb
    clear hb B15 HM15 HS15 HH15
    go_wp2_with fail
    refine (heldIntS_any _ _ _ _ (by omega) HM16.out).mono ?_
    rintro e w' ⟨rfl, rfl⟩
    go_wp2
    go_ret
    exact ⟨rfl, B16⟩
  · have HN : Hid ((if (m : Int) ≤ 1048576 then 1048576 - (m : Int) else -1) = -1) := by rw [Hid, if_neg hbig]
    go_enter Try.func10, Try.ntmps10
    go_wp2_with fail
    refine (szIvalS_any a m cp _ hm).mono ?_
    rintro e w' ⟨rfl, rfl⟩
    rw [HN.out]
    go_wp2
    go_ret
    exact ⟨rfl, B0⟩
end Go.Proofs.Ytmnheknjllobdaa
