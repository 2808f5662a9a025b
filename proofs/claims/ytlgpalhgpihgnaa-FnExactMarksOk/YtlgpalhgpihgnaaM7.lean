/- The walks of the exact laws of MarksOk and MarksAll. -/
import Derived.Test.YtlgpalhgpihgnaaM6
import Derived.Test.YtlgpalhgpihgnaaT1
import Derived.WalkKit
import Derived.WalkSpells
import Derived.WalkLawsBesides
import Derived.Deep.RegionHeld
namespace Go.Proofs.Ytlgpalhgpihgnaa
open Go.RowKit
set_option linter.unusedVariables false
set_option maxHeartbeats 1000000 in
theorem lawMarksOk (n d : Int) (a : Option Addr) (m c : Nat) (f : Nat → Int × Int) (w : World) (wn : (Lit.int .i64 n).wf = true) (wd : (Lit.int .i64 d).wf = true) (hm : m ≤ maxLen) (hsrc : Src w a m f) :
    Calls Try.prog 6 #[.agg #[.int .i64 n, .int .i64 d], .slice a m c] w fun e w' => e = .returned (.bool true) ∧ Below w.heap.size w w' := by
  have B0 := Below.alc w (.cells #[.int .i64 n, .int .i64 d] 23)
  have P0 := Bx.new w n d 23
  have HSrc : Hid (Src w a m f) := hsrc
  clear hsrc wn wd
  by_cases hbig : (m : Int) ≤ 1048576
  · have hn : m ≤ 1048576 := by omega
    have HN : Hid ((if (m : Int) ≤ 1048576 then 1048576 - (m : Int) else -1) = 1048576 - (m : Int)) := by rw [Hid, if_pos hbig]
    have hd : decide (1048576 - (m : Int) < 0) = false := by simp; omega
    go_enter Try.func6, Try.ntmps6
    go_wp2_with fail
    refine (szMarkS_any a m c _ hm).mono ?_
    rintro e w' ⟨rfl, rfl⟩
    rw [HN.out]
    obtain ⟨g0, g1, g2, g3, g4⟩ := id P0
    go_wp2_with fail
    refine (toDrift_any _ _ _).mono ?_
    rintro e w1 ⟨rfl, hb⟩
    have B1 := B0.trans (hb.mono B0.size)
    have P1 := P0.below hb
    clear hb g0 g1 g2 g3 g4 B0 P0
    go_wp2_with fail
    refine (toMarkS_any a m c f _ hn (HSrc.out.below B1)).mono ?_
    rintro e w2 ⟨rfl, hp2, hb⟩
    have B2 := B1.trans (hb.mono B1.size)
    have P2 := P1.below hb
    have L2 : Hid (Src w2 (some ⟨w1.heap.size, 0, none⟩) m f) := .inr ⟨_, _, rfl, hp2⟩
    clear hb hp2 B1 P1
    go_wp2_with fail
    refine (specMarksOk_any n d _ m m f _ hm L2.out).mono ?_
    rintro e w3 ⟨rfl, hb⟩
    have B3 := B2.trans (hb.mono B2.size)
    have P3 := P2.below hb
    clear hb B2 P2 L2
    go_wp2_with fail
    refine (toMarkS_any a m c f _ hn (HSrc.out.below B3)).mono ?_
    rintro e w4 ⟨rfl, hp4, hb⟩
    have B4 := B3.trans (hb.mono B3.size)
    have P4 := P3.below hb
    have L4 : Hid (Prs w4 w3.heap.size 0 m f) := hp4
    clear hb hp4 B3 P3
    obtain ⟨g0, g1, g2, g3, g4⟩ := id P4
    go_wp2_with fail
    refine (toDrift_any _ _ _).mono ?_
    rintro e w5 ⟨rfl, hb⟩
    have B5 := B4.trans (hb.mono B4.size)
    have L5 : Hid (Prs w5 w3.heap.size 0 m f) := L4.out.below hb L4.out.1
    clear hb B4 P4 L4 g0 g1 g2 g3 g4
    go_wp2_with fail
    refine (implMarksOk_any n d _ m m f _ (Nat.le_refl _) hm (.inr ⟨_, _, rfl, L5.out⟩)).mono ?_
    rintro e w6 ⟨rfl, hb⟩
    have B6 := B5.trans (hb.mono B5.size)
    have L6 : Hid (Prs w6 w3.heap.size 0 m f) := L5.out.below hb L5.out.1
    clear hb B5 L5
    go_wp2_with fail
    refine (toMarkS_any a m c f _ hn (HSrc.out.below B6)).mono ?_
    rintro e w7 ⟨rfl, hp7, hb⟩
    have B7 := B6.trans (hb.mono B6.size)
    have L7 : Hid (Prs w7 w3.heap.size 0 m f) := L6.out.below hb L6.out.1
    have M7 : Hid (Prs w7 w6.heap.size 0 m f) := hp7
    clear hb B6 L6 hp7
    go_wp2_with fail
    refine (eqMarkS_same _ _ _ _ m m m f _ hm L7.out M7.out).mono ?_
    rintro e w8 ⟨rfl, hb⟩
    have B8 := B7.trans (hb.mono B7.size)
    clear hb
    go_wp2
    go_ret
    exact ⟨rfl, B8⟩
  · have HN : Hid ((if (m : Int) ≤ 1048576 then 1048576 - (m : Int) else -1) = -1) := by rw [Hid, if_neg hbig]
    go_enter Try.func6, Try.ntmps6
    go_wp2_with fail
    refine (szMarkS_any a m c _ hm).mono ?_
    rintro e w' ⟨rfl, rfl⟩
    rw [HN.out]
    go_wp2
    go_ret
    exact ⟨rfl, B0⟩
set_option maxHeartbeats 1000000 in
theorem lawMarksAll (n d : Int) (a : Option Addr) (m c : Nat) (f : Nat → Int × Int) (w : World) (wn : (Lit.int .i64 n).wf = true) (wd : (Lit.int .i64 d).wf = true) (hm : m ≤ maxLen) (hsrc : Src w a m f) :
    Calls Try.prog 7 #[.agg #[.int .i64 n, .int .i64 d], .slice a m c] w fun e w' => e = .returned (.bool true) ∧ Below w.heap.size w w' := by
  have B0 := Below.alc w (.cells #[.int .i64 n, .int .i64 d] 23)
  have P0 := Bx.new w n d 23
  have HSrc : Hid (Src w a m f) := hsrc
  clear hsrc wn wd
  by_cases hbig : (m : Int) ≤ 1048576
  · have hn : m ≤ 1048576 := by omega
    have HN : Hid ((if (m : Int) ≤ 1048576 then 1048576 - (m : Int) else -1) = 1048576 - (m : Int)) := by rw [Hid, if_pos hbig]
    have hd : decide (1048576 - (m : Int) < 0) = false := by simp; omega
    go_enter Try.func7, Try.ntmps7
    go_wp2_with fail
    refine (szMarkS_any a m c _ hm).mono ?_
    rintro e w' ⟨rfl, rfl⟩
    rw [HN.out]
    obtain ⟨g0, g1, g2, g3, g4⟩ := id P0
    go_wp2_with fail
    refine (toDrift_any _ _ _).mono ?_
    rintro e w1 ⟨rfl, hb⟩
    have B1 := B0.trans (hb.mono B0.size)
    have P1 := P0.below hb
    clear hb g0 g1 g2 g3 g4 B0 P0
    go_wp2_with fail
    refine (toMarkS_any a m c f _ hn (HSrc.out.below B1)).mono ?_
    rintro e w2 ⟨rfl, hp2, hb⟩
    have B2 := B1.trans (hb.mono B1.size)
    have P2 := P1.below hb
    have L2 : Hid (Src w2 (some ⟨w1.heap.size, 0, none⟩) m f) := .inr ⟨_, _, rfl, hp2⟩
    clear hb hp2 B1 P1
    go_wp2_with fail
    refine (specMarksAll_any n d _ m m f _ hm L2.out).mono ?_
    rintro e w3 ⟨rfl, hb⟩
    have B3 := B2.trans (hb.mono B2.size)
    have P3 := P2.below hb
    clear hb B2 P2 L2
    go_wp2_with fail
    refine (toMarkS_any a m c f _ hn (HSrc.out.below B3)).mono ?_
    rintro e w4 ⟨rfl, hp4, hb⟩
    have B4 := B3.trans (hb.mono B3.size)
    have P4 := P3.below hb
    have L4 : Hid (Prs w4 w3.heap.size 0 m f) := hp4
    clear hb hp4 B3 P3
    obtain ⟨g0, g1, g2, g3, g4⟩ := id P4
    go_wp2_with fail
    refine (toDrift_any _ _ _).mono ?_
    rintro e w5 ⟨rfl, hb⟩
    have B5 := B4.trans (hb.mono B4.size)
    have L5 : Hid (Prs w5 w3.heap.size 0 m f) := L4.out.below hb L4.out.1
    clear hb B4 P4 L4 g0 g1 g2 g3 g4
    go_wp2_with fail
    refine (implMarksAll_any n d _ m m f _ (Nat.le_refl _) hm (.inr ⟨_, _, rfl, L5.out⟩)).mono ?_
    rintro e w6 ⟨rfl, hb⟩
    have B6 := B5.trans (hb.mono B5.size)
    have L6 : Hid (Prs w6 w3.heap.size 0 m f) := L5.out.below hb L5.out.1
    clear hb B5 L5
    go_wp2_with fail
    refine (toMarkS_any a m c f _ hn (HSrc.out.below B6)).mono ?_
    rintro e w7 ⟨rfl, hp7, hb⟩
    have B7 := B6.trans (hb.mono B6.size)
    have L7 : Hid (Prs w7 w3.heap.size 0 m f) := L6.out.below hb L6.out.1
    have M7 : Hid (Prs w7 w6.heap.size 0 m f) := hp7
    clear hb B6 L6 hp7
    go_wp2_with fail
    refine (eqMarkS_same _ _ _ _ m m m f _ hm L7.out M7.out).mono ?_
    rintro e w8 ⟨rfl, hb⟩
    have B8 := B7.trans (hb.mono B7.size)
    clear hb
    go_wp2
    go_ret
    exact ⟨rfl, B8⟩
  · have HN : Hid ((if (m : Int) ≤ 1048576 then 1048576 - (m : Int) else -1) = -1) := by rw [Hid, if_neg hbig]
    go_enter Try.func7, Try.ntmps7
    go_wp2_with fail
    refine (szMarkS_any a m c _ hm).mono ?_
    rintro e w' ⟨rfl, rfl⟩
    rw [HN.out]
    go_wp2
    go_ret
    exact ⟨rfl, B0⟩
end Go.Proofs.Ytlgpalhgpihgnaa
