/- The walk of the exact law of TimeWhen. -/
import Derived.Test.YtlgpalhgpihgnaaN4
import Derived.Test.YtlgpalhgpihgnaaU5
import Derived.Test.YtlgpalhgpihgnaaT1
import Derived.WalkKit
import Derived.WalkSpells
import Derived.WalkLawsBesides
import Derived.Deep.RegionHeld
namespace Go.Proofs.Ytlgpalhgpihgnaa
open Go.RowKit
set_option linter.unusedVariables false
set_option maxHeartbeats 1000000 in
theorem lawTimeWhen (n d : Int) (a : Option Addr) (m c : Nat) (f : Nat → Int × Int) (x : Int) (w : World) (wn : (Lit.int .i64 n).wf = true) (wd : (Lit.int .i64 d).wf = true) (hm : m ≤ maxLen) (hsrc : Src w a m f) (wx : (Lit.int .i64 x).wf = true) :
    Calls Try.prog 10 #[.agg #[.int .i64 n, .int .i64 d], .slice a m c, .int .i64 x] w fun e w' => e = .returned (.bool true) ∧ Below w.heap.size w w' := by
  have B0 := Below.alc w (.cells #[.int .i64 n, .int .i64 d] 23)
  have P0 := Bx.new w n d 23
  have HSrc : Hid (Src w a m f) := hsrc
  have CS := fun (w' : World) (a' : Option Addr) (h : Src w' a' m f) => specTimeWhen_any n d a' m m f x w' (Nat.le_refl _) hm h
  have CI := fun (w' : World) (a' : Option Addr) (h : Src w' a' m f) => implTimeWhen_any n d a' m m f x w' (Nat.le_refl _) hm h
  generalize sel (twB n d f m x) (twL n d f m x) = r1 at *
  generalize sel (twB n d f m x) (twH n d f m x) = r2 at *
  generalize (twB n d f m x) = rb at *
  clear hsrc wn wd
  by_cases hbig : (m : Int) ≤ 1048576
  · have hn : m ≤ 1048576 := by omega
    have HN : Hid ((if (m : Int) ≤ 1048576 then 1048576 - (m : Int) else -1) = 1048576 - (m : Int)) := by rw [Hid, if_pos hbig]
    have hd : decide (1048576 - (m : Int) < 0) = false := by simp; omega
    go_enter Try.func10, Try.ntmps10
    go_wp2_with fail
    refine (szMarkS_any a m c _ hm).mono ?_
    rintro e w' ⟨rfl, rfl⟩
    rw [HN.out]
    obtain ⟨g0, g1, g2, g3, g4⟩ := id P0
    go_wp2_with fail
    refine (toDrift_any _ _ _).mono ?_
    rintro e w1 ⟨rfl, hb⟩
    have B1 := B0.trans (hb.mono B0.size)
    have P1 := P0.below hb
    clear hb g0 g1 g2 g3 g4 B0 P0
    go_wp2_with fail
    refine (toMarkS_any a m c f _ hn (HSrc.out.below B1)).mono ?_
    rintro e w2 ⟨rfl, hp2, hb⟩
    have B2 := B1.trans (hb.mono B1.size)
    have P2 := P1.below hb
    have L2 : Hid (Src w2 (some ⟨w1.heap.size, 0, none⟩) m f) := .inr ⟨_, _, rfl, hp2⟩
    clear hb hp2 B1 P1
    go_wp2_with fail
    refine (CS _ _ L2.out).mono ?_
    rintro e w3 ⟨rfl, hb⟩
    have A3 := Below.alc w3 (.cells #[.int .i64 r1, .int .i64 r2] 59)
    have R3 := Bx.new w3 r1 r2 59
    have B3 := (B2.trans (hb.mono B2.size)).trans (A3.mono (Nat.le_trans B2.size hb.size))
    have P3 := (P2.below hb).below A3
    clear hb B2 P2 L2 A3 CS
    go_wp2_with fail
    generalize w3.heap.size = j3 at *
    generalize w3.alloc (.cells #[.int .i64 r1, .int .i64 r2] 59) = v3 at *
    refine (toMarkS_any a m c f _ hn (HSrc.out.below B3)).mono ?_
    rintro e w4 ⟨rfl, hp4, hb⟩
    have B4 := B3.trans (hb.mono B3.size)
    have P4 := P3.below hb
    have R4 := R3.below hb
    have L4 : Hid (Prs w4 v3.heap.size 0 m f) := hp4
    clear hb hp4 B3 P3 R3
    obtain ⟨g0, g1, g2, g3, g4⟩ := id P4
    go_wp2_with fail
    refine (toDrift_any _ _ _).mono ?_
    rintro e w5 ⟨rfl, hb⟩
    have B5 := B4.trans (hb.mono B4.size)
    have R5 := R4.below hb
    have L5 : Hid (Prs w5 v3.heap.size 0 m f) := L4.out.below hb L4.out.1
    clear hb B4 P4 R4 L4 g0 g1 g2 g3 g4
    go_wp2_with fail
    refine (CI _ _ (.inr ⟨_, _, rfl, L5.out⟩)).mono ?_
    rintro e w6 ⟨rfl, hb⟩
    have A6 := Below.alc w6 (.cells #[.int .i64 r1, .int .i64 r2] 59)
    have N6 := Bx.new w6 r1 r2 59
    have B6 := (B5.trans (hb.mono B5.size)).trans (A6.mono (Nat.le_trans B5.size hb.size))
    have R6 := (R5.below hb).below A6
    have L6 : Hid (Prs (w6.alloc (.cells #[.int .i64 r1, .int .i64 r2] 59)) v3.heap.size 0 m f) := (L5.out.below hb L5.out.1).below A6 (L5.out.below hb L5.out.1).1
    clear hb B5 R5 L5 A6 CI
    obtain ⟨p0, p1, p2, p3, p4⟩ := id R6
    obtain ⟨q0, q1, q2, q3, q4⟩ := id N6
    go_wp2_with fail
    generalize w6.alloc (.cells #[.int .i64 r1, .int .i64 r2] 59) = v6 at *
    refine (eqIval_same _ _ _).mono ?_
    rintro e w7 ⟨rfl, hb⟩
    have B7 := B6.trans (hb.mono B6.size)
    have L7 : Hid (Prs w7 v3.heap.size 0 m f) := L6.out.below hb L6.out.1
    clear hb B6 R6 L6 N6 p0 p1 p2 p3 p4 q0 q1 q2 q3 q4
    go_wp2_with fail
    refine (toMarkS_any a m c f _ hn (HSrc.out.below B7)).mono ?_
    rintro e w8 ⟨rfl, hp8, hb⟩
    have B8 := B7.trans (hb.mono B7.size)
    have L8 : Hid (Prs w8 v3.heap.size 0 m f) := L7.out.below hb L7.out.1
    have M8 : Hid (Prs w8 w7.heap.size 0 m f) := hp8
    clear hb B7 L7 hp8
    go_wp2_with fail
    refine (eqMarkS_same _ _ _ _ m m m f _ hm L8.out M8.out).mono ?_
    rintro e w9 ⟨rfl, hb⟩
    have B9 := B8.trans (hb.mono B8.size)
    clear hb
    go_wp2
    go_ret
    exact ⟨rfl, B9⟩
  · have HN : Hid ((if (m : Int) ≤ 1048576 then 1048576 - (m : Int) else -1) = -1) := by rw [Hid, if_neg hbig]
    go_enter Try.func10, Try.ntmps10
    go_wp2_with fail
    refine (szMarkS_any a m c _ hm).mono ?_
    rintro e w' ⟨rfl, rfl⟩
    rw [HN.out]
    go_wp2
    go_ret
    exact ⟨rfl, B0⟩
end Go.Proofs.Ytlgpalhgpihgnaa
