/- The walks of the exact laws of SourcesOk and CoverAt. -/
import Derived.Test.YtmnheknjllobdaaX92
import Derived.Test.YtmnheknjllobdaaX90
import Derived.WalkKit
import Derived.WalkSpells
import Derived.WalkLawsBesides
import Derived.Deep.RegionHeld
namespace Go.Proofs.Ytmnheknjllobdaa
open Go.RowKit
set_option linter.unusedVariables false
set_option maxHeartbeats 4000000 in
theorem lawSourcesOk (a : Option Addr) (m cp : Nat) (f : Nat → Int × Int) (w : World) (hm : m ≤ maxLen) (hsrc : Src w a m f) :
    Calls Try.prog 3 #[.slice a m cp] w fun e w' => e = .returned (.bool true) ∧ Below w.heap.size w w' := by
  have HSrc : Hid (Src w a m f) := hsrc
  have CS := fun (w' : World) (a' : Option Addr) (h : Src w' a' m f) => specSources a' m m f w' hm h
  have CI := fun (w' : World) (a' : Option Addr) (h : Src w' a' m f) => implSources a' m m f w' hm h
  clear hsrc
  generalize srcB f m = r at *
  by_cases hbig : (m : Int) ≤ 1048576
  · have hn : m ≤ 1048576 := by omega
    have HN : Hid ((if (m : Int) ≤ 1048576 then 1048576 - (m : Int) else -1) = 1048576 - (m : Int)) := by rw [Hid, if_pos hbig]
    have hd : decide (1048576 - (m : Int) < 0) = false := by simp; omega
    go_enter Try.func3, Try.ntmps3
    go_wp2_with fail
    refine (szIvalS_any a m cp _ hm).mono ?_
    rintro e w' ⟨rfl, rfl⟩
    rw [HN.out]
    go_wp2_with fail
    refine (toIvalS_any a m cp f _ hn HSrc.out).mono ?_
    rintro e w1 ⟨rfl, hp1, B1⟩
    go_wp2_with fail
    refine (CS _ _ (.inr ⟨_, _, rfl, hp1⟩)).mono ?_
    rintro e w2 ⟨rfl, hb⟩
    have B2 := B1.trans (hb.mono B1.size)
    clear hb hp1 B1
    go_wp2_with fail
    refine (toIvalS_any a m cp f _ hn (HSrc.out.below B2)).mono ?_
    rintro e w3 ⟨rfl, hp3, hb⟩
    have B3 := B2.trans (hb.mono B2.size)
    have L3 : Hid (Prs w3 w2.heap.size 0 m f) := hp3
    clear hb hp3
    go_wp2_with fail
    refine (CI _ _ (.inr ⟨_, _, rfl, L3.out⟩)).mono ?_
    rintro e w4 ⟨rfl, hb⟩
    have B4 := B3.trans (hb.mono B3.size)
    have L4 : Hid (Prs w4 w2.heap.size 0 m f) := L3.out.below hb L3.out.1
    clear hb B3 L3
    go_wp2_with fail
    refine (toIvalS_any a m cp f _ hn (HSrc.out.below B4)).mono ?_
    rintro e w6 ⟨rfl, hp6, hb⟩
    have B6 := B4.trans (hb.mono B4.size)
    have L6 : Hid (Prs w6 w2.heap.size 0 m f) := L4.out.below hb L4.out.1
    have M6 : Hid (Prs w6 w4.heap.size 0 m f) := hp6
    clear hb hp6
    go_wp2_with fail
    refine (eqIvalS_same _ _ _ _ m m m f _ hm L6.out M6.out).mono ?_
    rintro e w7 ⟨rfl, hb⟩
    have B7 := B6.trans (hb.mono B6.size)
    go_wp2_with fail
    go_ret
    exact ⟨rfl, B7⟩
  · have HN : Hid ((if (m : Int) ≤ 1048576 then 1048576 - (m : Int) else -1) = -1) := by rw [Hid, if_neg hbig]
    go_enter Try.func3, Try.ntmps3
    go_wp2_with fail
    refine (szIvalS_any a m cp _ hm).mono ?_
    rintro e w' ⟨rfl, rfl⟩
    rw [HN.out]
    go_wp2
    go_ret
    exact ⟨rfl, Below.refl _ _⟩
set_option maxHeartbeats 4000000 in
theorem lawCoverAt (a : Option Addr) (m cp : Nat) (f : Nat → Int × Int) (t : Int) (w : World) (hm : m ≤ maxLen) (hsrc : Src w a m f) (wt : (Lit.int .i64 t).wf = true) :
    Calls Try.prog 4 #[.slice a m cp, .int .i64 t] w fun e w' => e = .returned (.bool true) ∧ Below w.heap.size w w' := by
  have HSrc : Hid (Src w a m f) := hsrc
  have CS := fun (w' : World) (a' : Option Addr) (h : Src w' a' m f) => specCoverAt a' m m f t w' hm h
  have CI := fun (w' : World) (a' : Option Addr) (h : Src w' a' m f) => implCoverAt a' m m f t w' hm h
  clear hsrc wt
  generalize cvI f m t = r at *
  by_cases hbig : (m : Int) ≤ 1048576
  · have hn : m ≤ 1048576 := by omega
    have HN : Hid ((if (m : Int) ≤ 1048576 then 1048576 - (m : Int) else -1) = 1048576 - (m : Int)) := by rw [Hid, if_pos hbig]
    have hd : decide (1048576 - (m : Int) < 0) = false := by simp; omega
    go_enter Try.func4, Try.ntmps4
    go_wp2_with fail
    refine (szIvalS_any a m cp _ hm).mono ?_
    rintro e w' ⟨rfl, rfl⟩
    rw [HN.out]
    go_wp2_with fail
    refine (toIvalS_any a m cp f _ hn HSrc.out).mono ?_
    rintro e w1 ⟨rfl, hp1, B1⟩
    go_wp2_with fail
    refine (CS _ _ (.inr ⟨_, _, rfl, hp1⟩)).mono ?_
    rintro e w2 ⟨rfl, hb⟩
    have B2 := B1.trans (hb.mono B1.size)
    clear hb hp1 B1
    go_wp2_with fail
    refine (toIvalS_any a m cp f _ hn (HSrc.out.below B2)).mono ?_
    rintro e w3 ⟨rfl, hp3, hb⟩
    have B3 := B2.trans (hb.mono B2.size)
    have L3 : Hid (Prs w3 w2.heap.size 0 m f) := hp3
    clear hb hp3
    go_wp2_with fail
    refine (CI _ _ (.inr ⟨_, _, rfl, L3.out⟩)).mono ?_
    rintro e w4 ⟨rfl, hb⟩
    have B4 := B3.trans (hb.mono B3.size)
    have L4 : Hid (Prs w4 w2.heap.size 0 m f) := L3.out.below hb L3.out.1
    clear hb B3 L3
    go_wp2_with fail
    refine (toIvalS_any a m cp f _ hn (HSrc.out.below B4)).mono ?_
    rintro e w6 ⟨rfl, hp6, hb⟩
    have B6 := B4.trans (hb.mono B4.size)
    have L6 : Hid (Prs w6 w2.heap.size 0 m f) := L4.out.below hb L4.out.1
    have M6 : Hid (Prs w6 w4.heap.size 0 m f) := hp6
    clear hb hp6
    go_wp2_with fail
    refine (eqIvalS_same _ _ _ _ m m m f _ hm L6.out M6.out).mono ?_
    rintro e w7 ⟨rfl, hb⟩
    have B7 := B6.trans (hb.mono B6.size)
    go_wp2_with fail
    go_ret
    exact ⟨rfl, B7⟩
  · have HN : Hid ((if (m : Int) ≤ 1048576 then 1048576 - (m : Int) else -1) = -1) := by rw [Hid, if_neg hbig]
    go_enter Try.func4, Try.ntmps4
    go_wp2_with fail
    refine (szIvalS_any a m cp _ hm).mono ?_
    rintro e w' ⟨rfl, rfl⟩
    rw [HN.out]
    go_wp2
    go_ret
    exact ⟨rfl, Below.refl _ _⟩
end Go.Proofs.Ytmnheknjllobdaa
