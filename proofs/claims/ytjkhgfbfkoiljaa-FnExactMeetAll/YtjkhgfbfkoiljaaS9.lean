/- The walk of the exact law of MeetAll. -/
import Derived.Test.YtjkhgfbfkoiljaaS8
import Derived.Test.YtjkhgfbfkoiljaaS4
import Derived.Test.YtjkhgfbfkoiljaaS5
import Derived.Test.YtjkhgfbfkoiljaaS6
import Derived.Test.YtjkhgfbfkoiljaaS7
import Derived.Deep.DeepCutAuto
import Derived.Deep.OwnRows
import Derived.Test.YtjkhgfbfkoiljaaW4
import Derived.WalkKit
import Derived.WalkSpells
import Derived.WalkLawsBesides
import Derived.Deep.RegionHeld
namespace Go.Proofs.Ytjkhgfbfkoiljaa
open Go.RowKit
set_option linter.unusedVariables false
theorem twoMeet_all (b off n : Nat) (f : Nat → Int × Int) (w : World) (hm : n ≤ maxLen) (hf : Prs w b off n f) :
    Calls Try.prog 63 #[.slice (some ⟨b, off, none⟩) n n, .func (.func 33) #[] #[]] w fun e w' => e = .returned (.tuple #[.agg #[.int .i64 (allR meetB imx imn f n).2.1, .int .i64 (allR meetB imx imn f n).2.2], .bool (allR meetB imx imn f n).1]) ∧ Below w.heap.size w w' := by
  by_cases h : 1 ≤ n ∧ n ≤ 64
  · rw [allR_in h]
    by_cases h2 : 2 ≤ n
    · exact twoMeet_more b off n f w h.1 h2 h.2 hf
    · obtain rfl : n = 1 := by omega
      exact twoMeet_one b off f w hf
  · rw [allR_out h]
    exact twoMeet_none b off n n w hm (by omega)
set_option maxHeartbeats 400000 in
theorem implMeetAll_any (b off n : Nat) (f : Nat → Int × Int) (w : World) (hm : n ≤ maxLen) (hf : Prs w b off n f) :
    Calls Try.prog 39 #[.slice (some ⟨b, off, none⟩) n n] w fun e w' => e = .returned (.tuple #[.agg #[.int .i64 (allR meetB imx imn f n).2.1, .int .i64 (allR meetB imx imn f n).2.2], .bool (allR meetB imx imn f n).1]) ∧ Below w.heap.size w w' := by
  have hbw : b < w.heap.size := hf.1
  go_enter Try.func39, Try.ntmps39
  go_wp2_with fail
  refine (twoMeet_all b off n f _ hm (by exact hf.below ((Below.refl _ _).alloc (Nat.le_refl _) _) hf.1)).mono ?_
  rintro e w1 ⟨rfl, hb⟩
  have s1 : w.heap.size + 1 ≤ w1.heap.size := by have := hb.size; simpa using this
  have hs1 : w.heap.size < w1.heap.size := by omega
  have r0 : w1.cell? ⟨w.heap.size, 0, none⟩ = some (.int .i64 0) := by rw [hb.cell (by simp)]; simp [go_sem]
  have r1 : w1.cell? ⟨w.heap.size, 1, none⟩ = some (.int .i64 0) := by rw [hb.cell (by simp)]; simp [go_sem]
  have q0 : w1.frozen? ⟨w.heap.size, 0, none⟩ = false := by rw [hb.frozen (by simp)]; simp [go_sem]
  have q1 : w1.frozen? ⟨w.heap.size, 1, none⟩ = false := by rw [hb.frozen (by simp)]; simp [go_sem]
  clear hf
  go_wp2_with fail
  exact bodyPost_ret (v := .tuple #[.agg #[.int .i64 (allR meetB imx imn f n).2.1, .int .i64 (allR meetB imx imn f n).2.2], .bool (allR meetB imx imn f n).1]) (by simp (maxDischargeDepth := 6) [results, Try.results39, go_sem, *]) rfl ⟨rfl, by repeat (first | exact Below.refl _ _ | refine Below.drew ?_ | refine Below.alloc ?_ (by first | (simp; done) | (simp; omega) | omega) _ | refine Below.setCell ?_ (by first | (simp; done) | (simp; omega) | omega) _ | refine Below.trans ?_ (Below.mono (by assumption) (by first | (simp; done) | (simp; omega) | omega)))⟩
theorem specMeetAll_any (b off n c : Nat) (f : Nat → Int × Int) (w : World) (hm : n ≤ maxLen) (hf : Prs w b off n f) :
    Calls Try.prog 37 #[.slice (some ⟨b, off, none⟩) n c] w fun e w' => e = .returned (.tuple #[.agg #[.int .i64 (allR meetB imx imn f n).2.1, .int .i64 (allR meetB imx imn f n).2.2], .bool (allR meetB imx imn f n).1]) ∧ Below w.heap.size w w' := by
  by_cases h : 1 ≤ n ∧ n ≤ 64
  · rw [allR_in h]
    cases ha : allOk f n
    · rw [acc_bad meetB_ok h.1 ha]
      exact specMeetAll_bad b off n c f w h.1 h.2 hf ha
    · exact specMeetAll_good b off n c f w h.1 h.2 hf ha
  · rw [allR_out h]
    by_cases h0 : n = 0
    · subst h0; exact specMeetAll_none b off c w
    · exact specMeetAll_long b off n c w (by omega) hm
set_option maxHeartbeats 1000000 in
theorem lawMeetAll (a : Option Addr) (n c : Nat) (f : Nat → Int × Int) (w : World) (hm : n ≤ maxLen) (hsrc : Src w a n f) :
    Calls Try.prog 11 #[.slice a n c] w fun e w' => e = .returned (.bool true) ∧ Below w.heap.size w w' := by
  have HSrc : Hid (Src w a n f) := hsrc
  clear hsrc
  by_cases hbig : (n : Int) ≤ 1048576
  · have hn : n ≤ 1048576 := by omega
    have HN : Hid ((if (n : Int) ≤ 1048576 then 1048576 - (n : Int) else -1) = 1048576 - (n : Int)) := by rw [Hid, if_pos hbig]
    have hd : decide (1048576 - (n : Int) < 0) = false := by simp; omega
    go_enter Try.func11, Try.ntmps11
    go_wp2_with fail
    refine (szIvalS_any a n c _ hm).mono ?_
    rintro e w' ⟨rfl, rfl⟩
    rw [HN.out]
    go_wp2_with fail
    refine (toIvalS_any a n c f _ hn HSrc.out).mono ?_
    rintro e w1 ⟨rfl, hp1, hb1⟩
    have HP1 : Hid (Prs w1 w.heap.size 0 n f) := hp1
    have s1 : w.heap.size < w1.heap.size := hp1.1
    clear hp1
    go_wp2_with fail
    refine (specMeetAll_any _ _ n n f _ hm HP1.out).mono ?_
    rintro e w2 ⟨rfl, hb2⟩
    have s2 : w1.heap.size ≤ w2.heap.size := hb2.size
    have hB2 : Below w.heap.size w (w2.alloc (.cells #[.int .i64 (allR meetB imx imn f n).2.1, .int .i64 (allR meetB imx imn f n).2.2] 25)) := by repeat (first | exact Below.refl _ _ | refine Below.drew ?_ | refine Below.alloc ?_ (by first | (simp; done) | (simp; omega) | omega) _ | refine Below.setCell ?_ (by first | (simp; done) | (simp; omega) | omega) _ | refine Below.trans ?_ (Below.mono (by assumption) (by first | (simp; done) | (simp; omega) | omega)))
    go_wp2_with fail
    refine (toIvalS_any a n c f _ hn (by exact HSrc.out.below hB2)).mono ?_
    rintro e w3 ⟨rfl, hp3, hb3⟩
    simp only [World.size_alloc] at hp3
    have HP3 : Hid (Prs w3 (w2.heap.size + 1) 0 n f) := hp3
    have s3 : w2.heap.size + 1 < w3.heap.size := hp3.1
    have c3 : w3.cell? ⟨w2.heap.size, 0, none⟩ = some (.int .i64 (allR meetB imx imn f n).2.1) := by rw [hb3.cell (by simp)]; simp [go_sem]
    have d3 : w3.cell? ⟨w2.heap.size, 1, none⟩ = some (.int .i64 (allR meetB imx imn f n).2.2) := by rw [hb3.cell (by simp)]; simp [go_sem]
    clear hp3
    go_wp2_with fail
    refine (implMeetAll_any _ _ n f _ hm HP3.out).mono ?_
    rintro e w4 ⟨rfl, hb4⟩
    have s4 : w3.heap.size ≤ w4.heap.size := hb4.size
    have l4 : w2.heap.size < w4.heap.size := by omega
    have c4 : w4.cell? ⟨w2.heap.size, 0, none⟩ = some (.int .i64 (allR meetB imx imn f n).2.1) := by rw [hb4.cell (by simp; omega)]; exact c3
    have d4 : w4.cell? ⟨w2.heap.size, 1, none⟩ = some (.int .i64 (allR meetB imx imn f n).2.2) := by rw [hb4.cell (by simp; omega)]; exact d3
    have HP4 : Hid (Prs w4 (w2.heap.size + 1) 0 n f) := HP3.out.below hb4 (by omega)
    go_wp2_with fail
    refine (eqIval_same _ _ _).mono ?_
    rintro e w5 ⟨rfl, hb5⟩
    have s5 : w4.heap.size + 1 ≤ w5.heap.size := by have := hb5.size; simpa using this
    have hB5 : Below w.heap.size w w5 := by repeat (first | exact Below.refl _ _ | refine Below.drew ?_ | refine Below.alloc ?_ (by first | (simp; done) | (simp; omega) | omega) _ | refine Below.setCell ?_ (by first | (simp; done) | (simp; omega) | omega) _ | refine Below.trans ?_ (Below.mono (by assumption) (by first | (simp; done) | (simp; omega) | omega)))
    have HP5 : Hid (Prs w5 (w2.heap.size + 1) 0 n f) := Prs.below (HP4.out.below ((Below.refl w4.heap.size w4).alloc (Nat.le_refl _) (.cells #[.int .i64 (allR meetB imx imn f n).2.1, .int .i64 (allR meetB imx imn f n).2.2] 25)) (by omega)) hb5 (by simp; omega)
    go_wp2_with fail
    refine (toIvalS_any a n c f _ hn (by exact HSrc.out.below hB5)).mono ?_
    rintro e w6 ⟨rfl, hp6, hb6⟩
    have s6 : w5.heap.size < w6.heap.size := hp6.1
    have HP6 : Hid (Prs w6 w5.heap.size 0 n f) := hp6
    have HQ6 : Hid (Prs w6 (w2.heap.size + 1) 0 n f) := HP5.out.below hb6 (by omega)
    clear hp6
    go_wp2_with fail
    refine (eqIvalS_same _ _ _ _ n n n f _ hm HQ6.out HP6.out).mono ?_
    rintro e w7 ⟨rfl, hb7⟩
    go_wp2
    go_ret
    exact ⟨rfl, by repeat (first | exact Below.refl _ _ | refine Below.drew ?_ | refine Below.alloc ?_ (by first | (simp; done) | (simp; omega) | omega) _ | refine Below.setCell ?_ (by first | (simp; done) | (simp; omega) | omega) _ | refine Below.trans ?_ (Below.mono (by assumption) (by first | (simp; done) | (simp; omega) | omega)))⟩
  · have HN : Hid ((if (n : Int) ≤ 1048576 then 1048576 - (n : Int) else -1) = -1) := by rw [Hid, if_neg hbig]
    go_enter Try.func11, Try.ntmps11
    go_wp2_with fail
    refine (szIvalS_any a n c _ hm).mono ?_
    rintro e w' ⟨rfl, rfl⟩
    rw [HN.out]
    go_wp2
    go_ret
    exact ⟨rfl, Below.refl _ _⟩
end Go.Proofs.Ytjkhgfbfkoiljaa
