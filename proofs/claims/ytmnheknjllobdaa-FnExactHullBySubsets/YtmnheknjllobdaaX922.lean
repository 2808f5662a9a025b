/- The walk of the exact law of HullBySubsets. -/
import Derived.Test.YtmnheknjllobdaaX921
import Derived.OpenShut
import Derived.WalkKit
import Derived.WalkSpells
import Derived.WalkLawsBesides
import Derived.Deep.RegionHeld
namespace Go.Proofs.Ytmnheknjllobdaa
open Go.RowKit
set_option linter.unusedVariables false
set_option maxHeartbeats 4000000 in
theorem lawHullBySubsets (a : Option Addr) (m cp : Nat) (f : Nat → Int × Int) (k : Int) (w : World) (hm : m ≤ maxLen) (hsrc : Src w a m f) (wk : (Lit.int .i64 k).wf = true) :
    Calls Try.prog 7 #[.slice a m cp, .int .i64 k] w fun e w' => e = .returned (.bool true) ∧ Below w.heap.size w w' := by
  have HSrc : Hid (Src w a m f) := hsrc
  have hk9 := (bounds_i64 wk).2
  have CS := fun (w' : World) (a' : Option Addr) (h : Src w' a' m f) => specHB a' m m f k w' hm hk9 h
  have CI := fun (w' : World) (a' : Option Addr) (h : Src w' a' m f) => implHB a' m m f k w' hm hk9 h
  clear hsrc wk
  generalize (hbS f m k).1 = hb1 at *
  generalize (hbS f m k).2 = hb2 at *
  generalize okI hb1 hb2 = bb at *
  generalize sel bb hb1 = lo at *
  generalize sel bb hb2 = hi at *
  by_cases hbig : (m : Int) ≤ 1048576
  · have hn : m ≤ 1048576 := by omega
    have HN : Hid ((if (m : Int) ≤ 1048576 then 1048576 - (m : Int) else -1) = 1048576 - (m : Int)) := by rw [Hid, if_pos hbig]
    have hd : decide (1048576 - (m : Int) < 0) = false := by simp; omega
    go_enter Try.func7, Try.ntmps7
    go_wp2_with fail
    refine (szIvalS_any a m cp _ hm).mono ?_
    rintro e w' ⟨rfl, rfl⟩
    rw [HN.out]
    go_wp2_with fail
    refine (toIvalS_any a m cp f _ hn HSrc.out).mono ?_
    rintro e w1 ⟨rfl, hp1, B1⟩
    go_wp2_with fail
    refine (CS _ _ (.inr ⟨_, _, rfl, hp1⟩)).mono ?_
    rintro e w2 ⟨rfl, hb⟩
    have B2 := B1.trans (hb.mono B1.size)
    clear hb hp1 B1
    have N2 := Vb.new w2 lo hi 33
    replace B2 := B2.alloc B2.size (.cells #[.int .i64 lo, .int .i64 hi] 33)
    go_wp2_with fail
    generalize hs2 : w2.heap.size = j2 at *
    generalize w2.alloc (.cells #[.int .i64 lo, .int .i64 hi] 33) = v2 at *
    clear hs2
    refine (toIvalS_any a m cp f _ hn (HSrc.out.below B2)).mono ?_
    rintro e w3 ⟨rfl, hp3, hb⟩
    have B3 := B2.trans (hb.mono B2.size)
    have L3 : Hid (Prs w3 v2.heap.size 0 m f) := hp3
    have N3 := N2.below hb
    clear hb hp3
    go_wp2_with fail
    refine (CI _ _ (.inr ⟨_, _, rfl, L3.out⟩)).mono ?_
    rintro e w4 ⟨rfl, hb⟩
    have B4 := B3.trans (hb.mono B3.size)
    have L4 : Hid (Prs w4 v2.heap.size 0 m f) := L3.out.below hb L3.out.1
    have N4 := N3.below hb
    clear hb B3 L3 N3 N2
    have A4 := Below.al9 w4 (.cells #[.int .i64 lo, .int .i64 hi] 33)
    have M5 := Vb.new w4 lo hi 33
    have B5 := B4.trans (A4.mono B4.size)
    have N5 := N4.below A4
    have L5 : Hid (Prs (w4.alloc (.cells #[.int .i64 lo, .int .i64 hi] 33)) v2.heap.size 0 m f) := L4.out.below A4 L4.out.1
    clear A4 B4 L4
    have j2w : j2 < w4.heap.size := N4.1
    obtain ⟨n0, n1, n2, n3, n4⟩ := id N5
    obtain ⟨k0, k1, k2, k3, k4⟩ := id M5
    clear N4
    go_wp2_with fail
    generalize hs4 : w4.heap.size = j4 at *
    generalize w4.alloc (.cells #[.int .i64 lo, .int .i64 hi] 33) = v5 at *
    clear hs4
    refine (eqIval_same _ _ _).mono ?_
    rintro e w5 ⟨rfl, hb⟩
    have B6 := B5.trans (hb.mono B5.size)
    have L6 : Hid (Prs w5 v2.heap.size 0 m f) := L5.out.below hb L5.out.1
    clear hb B5 L5 n0 n1 n2 n3 n4 k0 k1 k2 k3 k4 N5 M5
    go_wp2_with fail
    refine (toIvalS_any a m cp f _ hn (HSrc.out.below B6)).mono ?_
    rintro e w6 ⟨rfl, hp6, hb⟩
    have B7 := B6.trans (hb.mono B6.size)
    have L7 : Hid (Prs w6 v2.heap.size 0 m f) := L6.out.below hb L6.out.1
    have M7 : Hid (Prs w6 w5.heap.size 0 m f) := hp6
    clear hb hp6
    go_wp2_with fail
    refine (eqIvalS_same _ _ _ _ m m m f _ hm L7.out M7.out).mono ?_
    rintro e w7 ⟨rfl, hb⟩
    have B8 := B7.trans (hb.mono B7.size)
    go_wp2_with fail
    go_ret
    exact ⟨rfl, B8⟩
  · have HN : Hid ((if (m : Int) ≤ 1048576 then 1048576 - (m : Int) else -1) = -1) := by rw [Hid, if_neg hbig]
    go_enter Try.func7, Try.ntmps7
    go_wp2_with fail
    refine (szIvalS_any a m cp _ hm).mono ?_
    rintro e w' ⟨rfl, rfl⟩
    rw [HN.out]
    go_wp2
    go_ret
    exact ⟨rfl, Below.refl _ _⟩
end Go.Proofs.Ytmnheknjllobdaa
