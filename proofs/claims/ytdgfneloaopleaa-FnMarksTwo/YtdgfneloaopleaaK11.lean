/- The walk of FnMarksTwo. -/
import Derived.Test.YtdgfneloaopleaaV5
import Derived.Test.YtdgfneloaopleaaN1
import Derived.WalkKit
import Derived.WalkSpells
import Derived.WalkLawsBesides
import Derived.Deep.RegionHeld
import Derived.Deep.RegionHeld3
namespace Go.Proofs.Ytdgfneloaopleaa
open Go.RowKit
set_option linter.unusedVariables false
set_option maxHeartbeats 2000000 in
theorem DrawMarksOk_any (a : Option Addr) (n0 c0 : Nat) (w : World) (hn : n0 ≤ 1048576) (hcode : CodeB w w.heap.size a n0) :
    Calls Try.prog 16 #[.slice a n0 c0] w fun e w' => ∃ x y : Int, ∃ v : Value, ∃ L : List (Int × Int), e = .returned (.tuple #[.agg #[.int .i64 x, .int .i64 y], v]) ∧ w'.ownsRow (w.heap.size + 1) 42 2 v L.length (prs L) ∧ L.length ≤ 1000 ∧ Below w.heap.size w w' := by
  have A0 := Below.alc w (.cells #[.int .i64 0, .int .i64 0] 25)
  have R0 := Bx.new w 0 0 25
  have HC : Hid (CodeB (w.alloc (.cells #[.int .i64 0, .int .i64 0] 25)) (w.alloc (.cells #[.int .i64 0, .int .i64 0] 25)).heap.size a n0) := (hcode.below A0).more (by simp)
  clear hcode
  go_enter Try.func16, Try.ntmps16
  go_wp2_with fail
  refine (l1New_any a n0 c0 _ hn HC.out).mono ?_
  rintro e w1 ⟨p, rfl, w1c, w1b⟩
  have b1 := A0.trans (w1b.mono A0.size)
  have R1 := R0.below w1b
  have q1 := w1c.lt
  simp only [World.size_alloc] at q1
  have hpw : w.heap.size ≠ p := by omega
  clear HC R0 A0 w1b
  generalize (w.alloc (.cells #[.int .i64 0, .int .i64 0] 25)).heap.size = B at *
  go_wp2_with fail
  refine (l1Size_m _ _ _ _ _ hn (by omega) (by omega)).mono ?_
  rintro e w' ⟨s, rfl, s0, s1, rfl⟩
  go_wp2_with fail
  refine (l3DrawMarks_any B p _ _ w1c (by omega)).mono ?_
  rintro e w2 ⟨x, y, v, L, rfl, O2, hL, w2c, w2b⟩
  have b2 : Below w.heap.size w w2 := b1.trans (w2b.below (by omega) b1.size)
  have R2 := R1.but w2b hpw
  have O3 := own_base O2 (show w.heap.size + 1 ≤ _ from Nat.le_succ_of_le R1.1)
  have hne : ∀ g, v.ownBlock = some g → g ≠ w.heap.size := fun g hg => by have := (O3.lt g hg).1; omega
  have O4 := World.ownsRow.alloc (own_set (own_set O3 hne 0 (.int .i64 x)) hne 1 (.int .i64 y)) (.cells #[.int .i64 x, .int .i64 y] 25)
  have b3 := (b2.setCell (Nat.le_refl _) (p := ⟨w.heap.size, 0, none⟩) (.int .i64 x)).setCell (Nat.le_refl _) (p := ⟨w.heap.size, 1, none⟩) (.int .i64 y)
  have b4 := b3.alloc b3.size (.cells #[.int .i64 x, .int .i64 y] 25)
  clear b1 R1 w1c w2b b2 O2 w2c b3 O3 hne
  obtain ⟨r0, r1, r2, r3, r4⟩ := id R2
  go_wp2_with fail
  exact bodyPost_ret (v := .tuple #[.agg #[.int .i64 x, .int .i64 y], v]) (by simp (maxDischargeDepth := 6) [results, Try.results16, go_sem, *]) rfl ⟨x, y, v, L, rfl, O4, hL, b4⟩
theorem specMarksAll_v (n d : Int) (a : Option Addr) (m c : Nat) (f : Nat → Int × Int) (v : Bool) (w : World) (hm : m ≤ maxLen) (hs : Src w a m f) (h : mrB n d f m m = v) :
    Calls Try.prog 17 #[.agg #[.int .i64 n, .int .i64 d], .slice a m c] w fun e w' => e = .returned (.bool v) ∧ Below w.heap.size w w' := by
  subst h; exact specMarksAll_any n d a m c f w hm hs
theorem implMarksAll_v2 (n d : Int) (a : Option Addr) (m c : Nat) (f : Nat → Int × Int) (v : Bool) (w : World) (hm : m ≤ c) (hc : c ≤ maxLen) (hs : Src w a m f) (h : mrB n d f m m = v) :
    Calls Try.prog 11 #[.agg #[.int .i64 n, .int .i64 d], .slice a m c] w fun e w' => e = .returned (.bool v) ∧ Below w.heap.size w w' := by
  subst h; exact implMarksAll_any n d a m c f w hm hc hs
theorem mr_all0 (n d : Int) (f : Nat → Int × Int) (m : Nat) : mrB n d f m m = mrB n d f m 1 := by
  by_cases h : m = 0
  · subst h; rw [mrB_k (mkB_n (by omega)), mrB_k (mkB_n (by omega))]
  · exact mrB_all (by omega)
theorem one_mark : mrB 0 1 (fun _ => (1, 1)) 1 1 = true := by
  refine mrB_of (mkB_of (by decide) (by omega) (by omega) fun i _ => ⟨by decide, by decide⟩) (prB_of fun i hi j hj _ => ?_)
  omega
set_option maxHeartbeats 4000000 in
theorem walkMarksTwo (a0 : Option Addr) (n0 c0 : Nat) (w : World) (hcode : CodeB w w.heap.size a0 n0) :
    Calls Try.prog 4 #[.slice a0 n0 c0] w fun e w' => e = .returned (.bool true) ∧ Below w.heap.size w w' := by
  by_cases hbig : (1048576 : Int) < (n0 : Int)
  · go_enter Try.func4, Try.ntmps4
    go_wp2_with (go_at_call 6; refine (big_any _ _ _ _).mono ?_; rintro e w' ⟨rfl, rfl⟩)
    go_ret
    exact ⟨rfl, Below.refl _ _⟩
  have hd : decide ((1048576 : Int) < (n0 : Int)) = false := by simp; omega
  have hn0 : n0 ≤ 1048576 := by omega
  have HC : Hid (CodeB w w.heap.size a0 n0) := hcode
  clear hcode hbig
  go_enter Try.func4, Try.ntmps4
  go_wp2_with (go_at_call 6; refine (big_any _ _ _ _).mono ?_; rintro e w' ⟨rfl, rfl⟩)
  refine (DrawMarksOk_any a0 n0 c0 _ hn0 HC.out).mono ?_
  rintro e w1 ⟨x, y, vs, LS, rfl, O1, hLS, B1⟩
  obtain ⟨a, cp, rfl, hmc, hcm, hsrc⟩ := own_src O1
  have SR : Hid (Src w1 a LS.length fun i => LS.getD i (0, 0)) := hsrc
  clear O1 hsrc
  generalize (fun i => LS.getD i (0, 0)) = f at *
  generalize LS.length = m at *
  have A1 := Below.alc w1 (.cells #[.int .i64 x, .int .i64 y] 25)
  have N := Bx.new w1 x y 25
  have B := B1.trans (A1.mono B1.size)
  have S : Hid (Src (w1.alloc (.cells #[.int .i64 x, .int .i64 y] 25)) a m f) := SR.out.below A1
  have hr1 : mrB x y f m 1 = mrB x y f m 1 := rfl
  have hr2 := mr_all0 x y f m
  have C1 := fun (w' : World) (h : Src w' a m f) => specMarksAll_v x y a m cp f (mrB x y f m 1) w' (Nat.le_trans hmc hcm) h hr2
  have C2 := fun (w' : World) (h : Src w' a m f) => implMarksOk_v x y a m cp f (mrB x y f m 1) w' hmc hcm h rfl
  have C3 := fun (w' : World) (h : Src w' a m f) => implMarksAll_v2 x y a m cp f (mrB x y f m 1) w' hmc hcm h hr2
  clear A1 SR B1 hr1 hr2
  generalize mrB x y f m 1 = r at *
  go_wp2_with fail
  generalize w1.alloc (.cells #[.int .i64 x, .int .i64 y] 25) = v1 at *
  generalize w1.heap.size = k at *
  refine (C1 _ S.out).mono ?_
  rintro e v2 ⟨rfl, hb⟩
  replace B := B.trans (hb.mono B.size)
  replace N := N.below hb
  replace S : Hid (Src v2 a m f) := S.out.below hb
  clear hb C1
  obtain ⟨g0, g1, g2, g3, g4⟩ := id N
  go_wp2_with fail
  refine (C2 _ S.out).mono ?_
  rintro e v3 ⟨rfl, hb⟩
  replace B := B.trans (hb.mono B.size)
  replace N := N.below hb
  replace S : Hid (Src v3 a m f) := S.out.below hb
  clear hb C2 g0 g1 g2 g3 g4
  obtain ⟨g0, g1, g2, g3, g4⟩ := id N
  have hrr : (r == r) = true := by simp
  cases r
  all_goals
    go_wp2_with fail
    refine (C3 _ S.out).mono ?_
    rintro e v4 ⟨rfl, hb⟩
    have B4 := B.trans (hb.mono B.size)
    clear hb
    have A4 := Below.alc v4 (.cells #[.int .i64 1, .int .i64 1] 42)
    have P4 : Prs (v4.alloc (.cells #[.int .i64 1, .int .i64 1] 42)) v4.heap.size 0 1 (fun _ => (1, 1)) := ⟨by simp, fun i hi => by
      obtain rfl : i = 0 := by omega
      exact ⟨by simp, by simp⟩⟩
    have S4 : Hid (Src (v4.alloc (.cells #[.int .i64 1, .int .i64 1] 42)) (some ⟨v4.heap.size, 0, none⟩) 1 (fun _ => (1, 1))) := .inr ⟨_, _, rfl, P4⟩
    have B5 := B4.trans (A4.mono B4.size)
    clear A4 P4
    go_wp2_with fail
    refine (implMarksOk_v 0 1 _ 1 1 _ true _ (Nat.le_refl _) (by simp [maxLen]) S4.out one_mark).mono ?_
    rintro e v5 ⟨rfl, hb⟩
    have B6 := B5.trans (hb.mono B5.size)
    clear hb
    go_wp2_with fail
    go_ret
    exact ⟨rfl, B6⟩
end Go.Proofs.Ytdgfneloaopleaa
