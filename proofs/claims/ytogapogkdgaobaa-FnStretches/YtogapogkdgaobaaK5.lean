/- The walk of the law of two stretches. -/
import Derived.Test.YtogapogkdgaobaaK2
import Derived.Test.YtogapogkdgaobaaK3
import Derived.WalkKit
import Derived.WalkSpells
import Derived.WalkLawsBesides
import Derived.Deep.RegionHeld
import Derived.RegionTactic
import Derived.Deep.QuietTactic
import Derived.BigQuiet
namespace Go.Proofs.Ytogapogkdgaobaa
open Go.RowKit
set_option linter.unusedVariables false
theorem Below.undrew {B : Nat} {w w' : World} (h : Below B w.drew w') : Below B w w' := ⟨h.os, h.tape, h.output, h.size, h.block⟩
theorem CodeB.drew5 {w : World} {B : Nat} {a : Option Addr} {n : Nat} (h : CodeB w B a n) : CodeB w.drew B a n := h
set_option maxHeartbeats 4000000 in
theorem walkStretches (a : Option Addr) (n c : Nat) (w : World) (hcode : CodeB w w.heap.size a n) :
    Calls Try.prog 7 #[.slice a n c] w fun e w' => e = .returned (.bool true) ∧ Below w.heap.size w w' := by
  by_cases hbig : (1048576 : Int) < (n : Int)
  · go_enter Try.func7, Try.ntmps7
    go_wp2_with (go_at_call 8; refine (big_any _ _ _ _).mono ?_; rintro e w' ⟨rfl, rfl⟩)
    go_ret
    exact ⟨rfl, Below.refl _ _⟩
  have hd : decide ((1048576 : Int) < (n : Int)) = false := by simp; omega
  have hn : n ≤ 1048576 := by omega
  have HC : Hid (CodeB w w.heap.size a n) := hcode
  clear hcode hbig
  go_enter Try.func7, Try.ntmps7
  go_wp2_with (go_at_call 8; refine (big_any _ _ _ _).mono ?_; rintro e w' ⟨rfl, rfl⟩)
  refine (DrawClamp_any a n c _ hn HC.out).mono ?_
  rintro e w1 ⟨x, y, t, u, rfl, w1b⟩
  have A1 : Below w1.heap.size w1 (w1.alloc (.cells #[.int .i64 x, .int .i64 y] 43)) := Below.al _ _
  have D1 := Box.new w1 x y 43
  have B1 : Below w.heap.size w (w1.alloc (.cells #[.int .i64 x, .int .i64 y] 43)) := w1b.trans (A1.mono w1b.size)
  go_wp2_with fail
  refine (implClamp_any _ _ _ _ _).mono ?_
  rintro e w2 ⟨rfl, w2b⟩
  have D2 := D1.below w2b
  have B2 : Below w.heap.size w w2 := B1.trans (w2b.mono B1.size)
  clear D1 B1 w1b A1 w2b
  obtain ⟨g1, g2, g3, g4, g5⟩ := id D2
  go_wp2_with fail
  refine (specClamp_any _ _ _ _ _).mono ?_
  rintro e w3 ⟨rfl, w3b⟩
  have D3 := D2.below w3b
  have B3 : Below w.heap.size w w3 := B2.trans (w3b.mono B2.size)
  clear D2 B2 w3b g1 g2 g3 g4 g5
  obtain ⟨g1, g2, g3, g4, g5⟩ := id D3
  cases hg : ctB x y t
  · have f1 : okD 2 3 = false := by decide
    have f2 : okD 1 2 = true := by decide
    go_wp2_with fail
    refine (implDriftOk_any _ _ _).mono ?_
    rintro e w4 ⟨rfl, w4b⟩
    have B4 : Below w.heap.size w w4 := B3.trans (w4b.mono B3.size)
    go_wp2_with fail
    refine (implDriftOk_any _ _ _).mono ?_
    rintro e w5 ⟨rfl, w5b⟩
    have B5 : Below w.heap.size w w5 := B4.trans (w5b.mono B4.size)
    go_wp2_with fail
    go_ret
    exact ⟨rfl, B5⟩
  · have hh : rB x y t (upI (t * (y - x)) y) = true ∧ rB x y t (dnI (t * (y + x)) y) = true := by simpa [ctB] using hg
    have ho := (rB_o hh.1).1
    have ⟨tt1, tt2⟩ := okT_t (rB_o hh.1).2.1
    have ⟨c1, c2, c3, c4⟩ := cl_facts (t := u) hh.1 hh.2
    have ⟨l1, l2⟩ := okT_t (rB_o hh.1).2.2
    have ⟨m1, m2⟩ := okT_t (rB_o hh.2).2.2
    have f1 : mcB x y t (clI x y t u) = true := mc_in hh.1 hh.2 c1 c2
    have f2 : clI x y t u < u → mcB x y t (clI x y t u + 1) = false := fun h => mc_out ho (by have := c3 h; omega)
    have f3 : u < clI x y t u → mcB x y t (clI x y t u - 1) = false := fun h => mc_out ho (by have := c4 h; omega)
    have r1 : 0 ≤ clI x y t u := by omega
    have r2 : clI x y t u ≤ 1000000000000 := by omega
    have e1 : sel true (clI x y t u) = clI x y t u := rfl
    rw [e1]
    clear hh c1 c2 c3 c4 l1 l2 m1 m2 e1 hg
    generalize clI x y t u = z at *
    go_wp2_with fail
    refine (implMayCount_any _ _ _ _ _).mono ?_; rintro e w4 ⟨rfl, w4b⟩; (have D4 := D3.below w4b); (have B4 : Below w.heap.size w w4 := B3.trans (w4b.mono B3.size)); clear g1 g2 g3 g4 g5 D3 w4b B3; obtain ⟨g1, g2, g3, g4, g5⟩ := id D4
    rcases Int.lt_trichotomy u z with hl | he | hl
    · have f4 := f3 hl
      have d1 : decide (z < u) = false := by simp; omega
      have d2 : decide (u < z) = true := by simp; omega
      clear f2 f3
      go_wp2_with fail
      refine (implMayCount_any _ _ _ _ _).mono ?_; rintro e w5 ⟨rfl, w5b⟩; (have D5 := D4.below w5b); (have B5 : Below w.heap.size w w5 := B4.trans (w5b.mono B4.size)); clear g1 g2 g3 g4 g5 D4 w5b B4; obtain ⟨g1, g2, g3, g4, g5⟩ := id D5
      go_wp2_with fail
      have HV : Hid (CodeB w5 w.heap.size a n) := HC.out.below B5
      refine (at_any _ _ _ 4 w.heap.size _ hn (by omega) HV.out).mono ?_
      rintro e w' ⟨p, rfl, p1, p2, rfl⟩
      go_wp2_with fail
      go_region_with (first | (go_at_call 19; refine (at_any _ _ _ 5 w.heap.size _ hn (by omega) (by first | exact HV.out | exact CodeB.drew5 HV.out)).mono ?_; rintro e w' ⟨q, rfl, q1, q2, rfl⟩) | (go_at_call 34; refine (implClamp_any _ _ _ _ _).mono ?_; rintro e w8 ⟨rfl, w8b⟩; (have w8b : Below w5.heap.size w5 w8 := Below.undrew w8b); (have D8 := D5.below w8b); (have B8 : Below w.heap.size w w8 := B5.trans (w8b.mono B5.size)); clear g1 g2 g3 g4 g5; obtain ⟨g1, g2, g3, g4, g5⟩ := id D8))
      all_goals (cases hg2 : ctB x y p)
      all_goals first
        | (have jj : ctB x y p = false := hg2; go_wp2_with fail
           go_ret
           exact ⟨rfl, B8⟩)
        | skip
      all_goals (have hh2 : rB x y p (upI (p * (y - x)) y) = true ∧ rB x y p (dnI (p * (y + x)) y) = true := by simpa [ctB] using hg2)
      all_goals (have cf := cl_facts (t := q) hh2.1 hh2.2)
      all_goals (have lb := okT_t (rB_o hh2.1).2.2)
      all_goals (have mb := okT_t (rB_o hh2.2).2.2)
      all_goals (have k1 : mcB x y p (clI x y p q) = true := mc_in hh2.1 hh2.2 cf.1 cf.2.1)
      all_goals (have s1 : 0 ≤ clI x y p q := by omega)
      all_goals (have s2 : clI x y p q ≤ 1000000000000 := by omega)
      all_goals (have e1 : sel true (clI x y p q) = clI x y p q := rfl)
      all_goals (rw [e1])
      all_goals (clear cf lb mb hh2 e1 hg2)
      all_goals (generalize clI x y p q = k at *)
      all_goals (cases j1 : decide ((1000000000000 : Int) < t + p))
      all_goals first
        | (have jj := of_decide_eq_true j1
           go_wp2_with fail
           go_ret
           exact ⟨rfl, B8⟩)
        | skip
      all_goals (have j1' := of_decide_eq_false j1)
      all_goals (cases j2 : decide ((1000000000000 : Int) < z + k))
      all_goals first
        | (have jj := of_decide_eq_true j2
           go_wp2_with fail
           go_ret
           exact ⟨rfl, B8⟩)
        | skip
      all_goals (have j2' := of_decide_eq_false j2)
      all_goals (have fin : mcB x y (t + p) (z + k) = true := mc_add f1 k1 (by omega) (by omega))
      all_goals go_wp2_with fail
      all_goals (refine (implMayCount_any _ _ _ _ _).mono ?_; rintro e w9 ⟨rfl, w9b⟩)
      all_goals (have B9 : Below w.heap.size w w9 := B8.trans (w9b.mono B8.size))
      all_goals go_wp2_with fail
      all_goals go_ret
      all_goals exact ⟨rfl, B9⟩
    · subst he
      have d1 : decide (u < u) = false := by simp
      clear f2 f3
      go_wp2_with fail
      have HV : Hid (CodeB w4 w.heap.size a n) := HC.out.below B4
      refine (at_any _ _ _ 4 w.heap.size _ hn (by omega) HV.out).mono ?_
      rintro e w' ⟨p, rfl, p1, p2, rfl⟩
      go_wp2_with fail
      go_region_with (first | (go_at_call 19; refine (at_any _ _ _ 5 w.heap.size _ hn (by omega) (by first | exact HV.out | exact CodeB.drew5 HV.out)).mono ?_; rintro e w' ⟨q, rfl, q1, q2, rfl⟩) | (go_at_call 34; refine (implClamp_any _ _ _ _ _).mono ?_; rintro e w8 ⟨rfl, w8b⟩; (have w8b : Below w4.heap.size w4 w8 := Below.undrew w8b); (have D8 := D4.below w8b); (have B8 : Below w.heap.size w w8 := B4.trans (w8b.mono B4.size)); clear g1 g2 g3 g4 g5; obtain ⟨g1, g2, g3, g4, g5⟩ := id D8))
      all_goals (cases hg2 : ctB x y p)
      all_goals first
        | (have jj : ctB x y p = false := hg2; go_wp2_with fail
           go_ret
           exact ⟨rfl, B8⟩)
        | skip
      all_goals (have hh2 : rB x y p (upI (p * (y - x)) y) = true ∧ rB x y p (dnI (p * (y + x)) y) = true := by simpa [ctB] using hg2)
      all_goals (have cf := cl_facts (t := q) hh2.1 hh2.2)
      all_goals (have lb := okT_t (rB_o hh2.1).2.2)
      all_goals (have mb := okT_t (rB_o hh2.2).2.2)
      all_goals (have k1 : mcB x y p (clI x y p q) = true := mc_in hh2.1 hh2.2 cf.1 cf.2.1)
      all_goals (have s1 : 0 ≤ clI x y p q := by omega)
      all_goals (have s2 : clI x y p q ≤ 1000000000000 := by omega)
      all_goals (have e1 : sel true (clI x y p q) = clI x y p q := rfl)
      all_goals (rw [e1])
      all_goals (clear cf lb mb hh2 e1 hg2)
      all_goals (generalize clI x y p q = k at *)
      all_goals (cases j1 : decide ((1000000000000 : Int) < t + p))
      all_goals first
        | (have jj := of_decide_eq_true j1
           go_wp2_with fail
           go_ret
           exact ⟨rfl, B8⟩)
        | skip
      all_goals (have j1' := of_decide_eq_false j1)
      all_goals (cases j2 : decide ((1000000000000 : Int) < u + k))
      all_goals first
        | (have jj := of_decide_eq_true j2
           go_wp2_with fail
           go_ret
           exact ⟨rfl, B8⟩)
        | skip
      all_goals (have j2' := of_decide_eq_false j2)
      all_goals (have fin : mcB x y (t + p) (u + k) = true := mc_add f1 k1 (by omega) (by omega))
      all_goals go_wp2_with fail
      all_goals (refine (implMayCount_any _ _ _ _ _).mono ?_; rintro e w9 ⟨rfl, w9b⟩)
      all_goals (have B9 : Below w.heap.size w w9 := B8.trans (w9b.mono B8.size))
      all_goals go_wp2_with fail
      all_goals go_ret
      all_goals exact ⟨rfl, B9⟩
    · have f4 := f2 hl
      have d1 : decide (z < u) = true := by simp; omega
      have d2 : decide (u < z) = false := by simp; omega
      clear f2 f3
      go_wp2_with fail
      refine (implMayCount_any _ _ _ _ _).mono ?_; rintro e w5 ⟨rfl, w5b⟩; (have D5 := D4.below w5b); (have B5 : Below w.heap.size w w5 := B4.trans (w5b.mono B4.size)); clear g1 g2 g3 g4 g5 D4 w5b B4; obtain ⟨g1, g2, g3, g4, g5⟩ := id D5
      go_wp2_with fail
      have HV : Hid (CodeB w5 w.heap.size a n) := HC.out.below B5
      refine (at_any _ _ _ 4 w.heap.size _ hn (by omega) HV.out).mono ?_
      rintro e w' ⟨p, rfl, p1, p2, rfl⟩
      go_wp2_with fail
      go_region_with (first | (go_at_call 19; refine (at_any _ _ _ 5 w.heap.size _ hn (by omega) (by first | exact HV.out | exact CodeB.drew5 HV.out)).mono ?_; rintro e w' ⟨q, rfl, q1, q2, rfl⟩) | (go_at_call 34; refine (implClamp_any _ _ _ _ _).mono ?_; rintro e w8 ⟨rfl, w8b⟩; (have w8b : Below w5.heap.size w5 w8 := Below.undrew w8b); (have D8 := D5.below w8b); (have B8 : Below w.heap.size w w8 := B5.trans (w8b.mono B5.size)); clear g1 g2 g3 g4 g5; obtain ⟨g1, g2, g3, g4, g5⟩ := id D8))
      all_goals (cases hg2 : ctB x y p)
      all_goals first
        | (have jj : ctB x y p = false := hg2; go_wp2_with fail
           go_ret
           exact ⟨rfl, B8⟩)
        | skip
      all_goals (have hh2 : rB x y p (upI (p * (y - x)) y) = true ∧ rB x y p (dnI (p * (y + x)) y) = true := by simpa [ctB] using hg2)
      all_goals (have cf := cl_facts (t := q) hh2.1 hh2.2)
      all_goals (have lb := okT_t (rB_o hh2.1).2.2)
      all_goals (have mb := okT_t (rB_o hh2.2).2.2)
      all_goals (have k1 : mcB x y p (clI x y p q) = true := mc_in hh2.1 hh2.2 cf.1 cf.2.1)
      all_goals (have s1 : 0 ≤ clI x y p q := by omega)
      all_goals (have s2 : clI x y p q ≤ 1000000000000 := by omega)
      all_goals (have e1 : sel true (clI x y p q) = clI x y p q := rfl)
      all_goals (rw [e1])
      all_goals (clear cf lb mb hh2 e1 hg2)
      all_goals (generalize clI x y p q = k at *)
      all_goals (cases j1 : decide ((1000000000000 : Int) < t + p))
      all_goals first
        | (have jj := of_decide_eq_true j1
           go_wp2_with fail
           go_ret
           exact ⟨rfl, B8⟩)
        | skip
      all_goals (have j1' := of_decide_eq_false j1)
      all_goals (cases j2 : decide ((1000000000000 : Int) < z + k))
      all_goals first
        | (have jj := of_decide_eq_true j2
           go_wp2_with fail
           go_ret
           exact ⟨rfl, B8⟩)
        | skip
      all_goals (have j2' := of_decide_eq_false j2)
      all_goals (have fin : mcB x y (t + p) (z + k) = true := mc_add f1 k1 (by omega) (by omega))
      all_goals go_wp2_with fail
      all_goals (refine (implMayCount_any _ _ _ _ _).mono ?_; rintro e w9 ⟨rfl, w9b⟩)
      all_goals (have B9 : Below w.heap.size w w9 := B8.trans (w9b.mono B8.size))
      all_goals go_wp2_with fail
      all_goals go_ret
      all_goals exact ⟨rfl, B9⟩
end Go.Proofs.Ytogapogkdgaobaa
