/- The walk of the exact law of CoverRuns. -/
import Derived.Test.YtmnheknjllobdaaX98
import Derived.WalkKit
import Derived.WalkSpells
import Derived.WalkLawsBesides
import Derived.Deep.RegionHeld
namespace Go.Proofs.Ytmnheknjllobdaa
open Go.RowKit
set_option linter.unusedVariables false
set_option maxHeartbeats 4000000 in
theorem lawCoverRuns (a : Option Addr) (m cp : Nat) (f : Nat → Int × Int) (k : Int) (w : World) (hm : m ≤ maxLen) (hsrc : Src w a m f) (wk : (Lit.int .i64 k).wf = true) :
    Calls Try.prog 5 #[.slice a m cp, .int .i64 k] w fun e w' => e = .returned (.bool true) ∧ Below w.heap.size w w' := by
  clear wk
  have HSrc : Hid (Src w a m f) := hsrc
  have CS := fun (w' : World) (a' : Option Addr) (h : Src w' a' m f) => specRuns_any a' m m f k w' hm h
  have CI := fun (w' : World) (a' : Option Addr) (h : Src w' a' m f) => implRuns_any a' m m f k w' hm h
  have hLen : (rnL f m k).length ≤ 24 := by
    unfold rnL
    split
    · next h => have := rns_len f m k; have := (srcB_le h.1).1; omega
    · simp
  generalize rnL f m k = L at *
  have hLm : L.length ≤ maxLen := by unfold maxLen; omega
  clear hsrc
  by_cases hbig : (m : Int) ≤ 1048576
  · have hn : m ≤ 1048576 := by omega
    have HN : Hid ((if (m : Int) ≤ 1048576 then 1048576 - (m : Int) else -1) = 1048576 - (m : Int)) := by rw [Hid, if_pos hbig]
    have hd : decide (1048576 - (m : Int) < 0) = false := by simp; omega
    go_enter Try.func5, Try.ntmps5
    go_wp2_with fail
    refine (szIvalS_any a m cp _ hm).mono ?_
    rintro e w' ⟨rfl, rfl⟩
    rw [HN.out]
    go_wp2_with fail
    refine (toIvalS_any a m cp f _ hn HSrc.out).mono ?_
    rintro e w2 ⟨rfl, hp2, B2⟩
    have L2 : Hid (Src w2 (some ⟨w.heap.size, 0, none⟩) m f) := .inr ⟨_, _, rfl, hp2⟩
    clear hp2
    go_wp2_with fail
    refine (CS _ _ L2.out).mono ?_
    rintro e w3 ⟨vs, rfl, V3, hb⟩
    have B3 := B2.trans (hb.mono B2.size)
    have V3l : ∀ g, vs.ownBlock = some g → g < w3.heap.size := fun g hg => (V3.lt g hg).2
    clear hb B2 L2 CS
    go_wp2_with fail
    refine (toIvalS_row a m cp f _ hn (HSrc.out.below B3)).mono ?_
    rintro e w5 ⟨rfl, X5, hb⟩
    have B5 := B3.trans (hb.mono B3.size)
    have V5 := own_below V3 hb
    have hx : w3.heap.size < w5.heap.size := by obtain ⟨g, hr, _⟩ := X5; exact hr.lt
    clear hb V3
    go_wp2_with fail
    refine (CI _ _ (.inr ⟨_, _, rfl, rowK_prs X5 (Nat.le_refl _)⟩)).mono ?_
    rintro e w6 ⟨vg, rfl, G6, hb⟩
    have B6 := B5.trans (hb.mono B5.size)
    have V6 := own_below V5 hb
    have X6 := X5.below hb hx
    have s6 : w5.heap.size ≤ w6.heap.size := hb.size
    have Ggt : ∀ g, vg.ownBlock = some g → g ≠ w3.heap.size := fun g hg => by have := (G6.lt g hg).1; omega
    have B3s := B3.size
    clear hb B5 V5 X5 B3
    obtain ⟨az, cz, rfl, hsc, hsm, SS6⟩ := own_src V6
    obtain ⟨ag, cg, rfl, hgc, hgm, SG6⟩ := own_src G6
    have HS6 : Hid (Src w6 az L.length fun i => L.getD i (0, 0)) := SS6
    have HG6 : Hid (Src w6 ag L.length fun i => L.getD i (0, 0)) := SG6
    clear SS6 SG6 hsc hsm hgc hgm
    go_wp2_with fail
    refine (eqIvalS_src _ _ _ _ _ _ _ hLm HG6.out HS6.out).mono ?_
    rintro e w7 ⟨rfl, hb⟩
    have B7 := B6.trans (hb.mono B6.size)
    have V7 := own_below V6 hb
    have G7 := own_below G6 hb
    have X7 := X6.below hb (by omega)
    have s7 : w6.heap.size ≤ w7.heap.size := hb.size
    clear hb B6 V6 G6 X6 HS6 HG6
    go_wp2_with fail
    refine (toIvalS_any a m cp f _ hn (HSrc.out.below B7)).mono ?_
    rintro e w8 ⟨rfl, hp8, hb⟩
    have B8 := B7.trans (hb.mono B7.size)
    have V8 := own_below V7 hb
    have G8 := own_below G7 hb
    have X8 := X7.below hb (by omega)
    have L8 : Hid (Prs w8 w7.heap.size 0 m f) := hp8
    have s8 : w7.heap.size ≤ w8.heap.size := hb.size
    clear hb B7 V7 G7 X7 hp8
    go_wp2_with fail
    refine (eqIvalS_same _ _ _ _ m m m f _ hm (rowK_prs X8 (Nat.le_refl _)) L8.out).mono ?_
    rintro e w9 ⟨rfl, hb⟩
    have B9 := B8.trans (hb.mono B8.size)
    have V9 := own_below V8 hb
    have G9 := own_below G8 hb
    have X9 := X8.below hb (by omega)
    have s9 : w8.heap.size ≤ w9.heap.size := hb.size
    clear hb B8 V8 G8 X8 L8
    have X9' : RowK w9 w3.heap.size 33 m 0 f := by obtain ⟨g, hr, _⟩ := X9; exact ⟨g, hr, fun j hj => absurd hj (Nat.not_lt_zero _)⟩
    clear X9
    go_wp2_with fail
    refine (markIvalS_row _ m m m f _ hn (Nat.le_refl _) X9').mono ?_
    rintro e w10 ⟨rfl, X10, hg⟩
    have b10 := grown_belowB hg (Nat.le_refl _) (by omega)
    have B10 := B9.trans (b10.mono (by omega))
    have V10 := own_belowB V9 b10 V3l
    have G10 := own_grown G9 hg Ggt
    have s10 : w9.heap.size ≤ w10.heap.size := hg.size
    clear hg b10 B9 V9 G9 X9' X10
    obtain ⟨az', cz', hs1, _, _, SS10⟩ := own_src V10
    obtain ⟨ag', cg', hg1, _, _, SG10⟩ := own_src G10
    simp at hs1 hg1
    obtain ⟨rfl, rfl⟩ := hs1
    obtain ⟨rfl, rfl⟩ := hg1
    have HS10 : Hid (Src w10 az L.length fun i => L.getD i (0, 0)) := SS10
    have HG10 : Hid (Src w10 ag L.length fun i => L.getD i (0, 0)) := SG10
    clear SS10 SG10
    have hk0 : decide (1 + 2 * (m : Int) < 0) = false := by simp; omega
    go_wp2_with fail
    refine (eqIvalS_src _ _ _ _ _ _ _ hLm HG10.out HS10.out).mono ?_
    rintro e w11 ⟨rfl, hb⟩
    have B11 := B10.trans (hb.mono B10.size)
    have V11 := own_below V10 hb
    have G11 := own_below G10 hb
    have s11 : w10.heap.size ≤ w11.heap.size := hb.size
    clear hb B10 V10 G10 HS10 HG10
    go_wp2_with fail
    refine (markIvalS_any _ _ _ w5.heap.size _ _ (by omega) (by omega) G11).mono ?_
    rintro e w12 ⟨rfl, SM12, hb⟩
    have B12 := B11.trans (hb.mono (by omega))
    have V12 := own_belowB V11 hb (fun g hg => by have := V3l g hg; omega)
    have HM12 : Hid (Src w12 ag L.length fmk) := SM12
    have s12 : w11.heap.size ≤ w12.heap.size := hb.size
    clear hb B11 V11 G11 SM12
    go_wp2_with fail
    refine (heldIvalS_any _ _ _ _ (by omega) HM12.out).mono ?_
    rintro e w' ⟨rfl, rfl⟩
    have hq0 : decide (1 + 2 * (L.length : Int) < 0) = false := by simp; omega
    go_wp2_with fail
    refine (toIvalS_any a m cp f _ hn (HSrc.out.below B12)).mono ?_
    rintro e w14 ⟨rfl, hp14, hb⟩
    have B14 := B12.trans (hb.mono B12.size)
    have V14 := own_below V12 hb
    have HM14 : Hid (Src w14 ag L.length fmk) := HM12.out.below hb
    have L14 : Hid (Src w14 (some ⟨w12.heap.size, 0, none⟩) m f) := .inr ⟨_, _, rfl, hp14⟩
    clear hb B12 V12 HM12 hp14
    go_wp2_with fail
    refine (CI _ _ L14.out).mono ?_
    rintro e w15 ⟨vh, rfl, H15, hb⟩
    have B15 := B14.trans (hb.mono B14.size)
    have V15 := own_below V14 hb
    have HM15 : Hid (Src w15 ag L.length fmk) := HM14.out.below hb
    clear hb B14 V14 HM14 L14 CI
    obtain ⟨az', cz', hs1, _, _, SS15⟩ := own_src V15
    obtain ⟨ah, ch, rfl, _, _, SH15⟩ := own_src H15
    simp at hs1
    obtain ⟨rfl, rfl⟩ := hs1
    have HS15 : Hid (Src w15 az L.length fun i => L.getD i (0, 0)) := SS15
    have HH15 : Hid (Src w15 ah L.length fun i => L.getD i (0, 0)) := SH15
    clear SS15 SH15 V15 H15
    go_wp2_with fail
    refine (eqIvalS_src _ _ _ _ _ _ _ hLm HH15.out HS15.out).mono ?_
    rintro e w16 ⟨rfl, hb⟩
    have B16 := B15.trans (hb.mono B15.size)
    have HM16 : Hid (Src w16 ag L.length fmk) := HM15.out.below hb
    clear hb B15 HM15 HS15 HH15
    go_wp2_with fail
    refine (heldIvalS_any _ _ _ _ (by omega) HM16.out).mono ?_
    rintro e w' ⟨rfl, rfl⟩
    go_wp2
    go_ret
    exact ⟨rfl, B16⟩
  · have HN : Hid ((if (m : Int) ≤ 1048576 then 1048576 - (m : Int) else -1) = -1) := by rw [Hid, if_neg hbig]
    go_enter Try.func5, Try.ntmps5
    go_wp2_with fail
    refine (szIvalS_any a m cp _ hm).mono ?_
    rintro e w' ⟨rfl, rfl⟩
    rw [HN.out]
    go_wp2
    go_ret
    exact ⟨rfl, Below.refl _ _⟩
end Go.Proofs.Ytmnheknjllobdaa
