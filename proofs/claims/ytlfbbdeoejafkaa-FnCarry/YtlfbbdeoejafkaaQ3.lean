/- Contracts of Rebase, Learn, Narrow, WidthAt. -/
import Derived.Test.YtlfbbdeoejafkaaQ2b
import Derived.WalkKit
import Derived.WalkSpells
import Derived.WalkLawsBesides
import Derived.Deep.RegionHeld
namespace Go.Proofs.Ytlfbbdeoejafkaa
open Go.RowKit
set_option linter.unusedVariables false
theorem cr_zero {kn : Bool} {lo hi a n d c : Int} (h : crC kn lo hi a n d c ≠ 0) : crL kn lo hi a n d c = 0 ∧ crH kn lo hi a n d c = 0 := by
  simp [crL, crH, h]
theorem cr_cases (kn : Bool) (lo hi a n d c : Int) : (crP kn lo hi a n d c = false ∧ crC kn lo hi a n d c = 1) ∨ (crP kn lo hi a n d c = true ∧ kn = false ∧ crC kn lo hi a n d c = 2) ∨ (crP kn lo hi a n d c = true ∧ kn = true ∧ (crC kn lo hi a n d c = 3 ∨ crC kn lo hi a n d c = 4 ∨ crC kn lo hi a n d c = 0)) := by
  cases hp : crP kn lo hi a n d c
  · exact .inl ⟨rfl, (crC_1 hp).1⟩
  cases kn
  · exact .inr (.inl ⟨rfl, rfl, (crC_2 hp).1⟩)
  refine .inr (.inr ⟨rfl, rfl, ?_⟩)
  by_cases h4 : c < a
  · exact .inl (crC_3 hp h4).1
  cases h5 : btB n d (c - a)
  · exact .inr (.inl (crC_4 hp h4 h5).1)
  cases h6 : plusB lo hi (upI ((c - a) * d) (d + n)) (dnI ((c - a) * d) (d - n))
  · exact .inr (.inl (crC_5 hp h4 h5 h6).1)
  · exact .inr (.inr (crC_0 hp h4 h5 h6).1)
theorem cr_ok {lo hi a n d c : Int} {kn : Bool} (h : crC kn lo hi a n d c = 0) : kn = true ∧ okT c = true ∧ okI (crL kn lo hi a n d c) (crH kn lo hi a n d c) = true := by
  rcases cr_cases kn lo hi a n d c with ⟨_, e⟩ | ⟨_, _, e⟩ | ⟨hp, hk, _⟩
  · rw [e] at h; exact absurd h (by decide)
  · rw [e] at h; exact absurd h (by decide)
  subst hk
  have p4 := (crP_p hp).2.2.2
  refine ⟨rfl, p4, ?_⟩
  by_cases h4 : c < a
  · rw [(crC_3 hp h4).1] at h; exact absurd h (by decide)
  cases h5 : btB n d (c - a)
  · rw [(crC_4 hp h4 h5).1] at h; exact absurd h (by decide)
  cases h6 : plusB lo hi (upI ((c - a) * d) (d + n)) (dnI ((c - a) * d) (d - n))
  · rw [(crC_5 hp h4 h5 h6).1] at h; exact absurd h (by decide)
  · obtain ⟨_, e2, e3⟩ := crC_0 hp h4 h5 h6
    rw [e2, e3]; unfold plusB at h6; simp at h6; exact h6.2
def rbB (kn : Bool) (lo hi a n d c : Int) : Bool := decide (crC kn lo hi a n d c = 0)
set_option maxHeartbeats 1000000 in
theorem knownAt_any (lo hi c : Int) (w : World) :
    Calls Try.prog 38 #[.agg #[.int .i64 lo, .int .i64 hi], .int .i64 c] w fun e w' => e = .returned (.agg #[.bool true, .int .i64 lo, .int .i64 hi, .int .i64 c]) ∧ Below w.heap.size w w' := by
  go_enter Try.func38, Try.ntmps38
  go_wp2
  exact bodyPost_ret (v := .agg #[.bool true, .int .i64 lo, .int .i64 hi, .int .i64 c]) (by simp (maxDischargeDepth := 6) [results, Try.results38, go_sem, *]) rfl ⟨rfl, by repeat (first | exact Below.refl _ _ | refine Below.drew ?_ | refine Below.alloc ?_ (by first | (simp; done) | (simp; omega) | omega) _ | refine Below.setCell ?_ (by first | (simp; done) | (simp; omega) | omega) _ | refine Below.trans ?_ (Below.mono (by assumption) (by first | (simp; done) | (simp; omega) | omega)))⟩
set_option maxHeartbeats 4000000 in
theorem implRebase_any (kn : Bool) (lo hi a n d c : Int) (w : World) :
    Calls Try.prog 12 #[.agg #[.bool kn, .int .i64 lo, .int .i64 hi, .int .i64 a], .agg #[.int .i64 n, .int .i64 d], .int .i64 c] w fun e w' => e = .returned (.tuple #[.agg #[.bool (rbB kn lo hi a n d c), .int .i64 (crL kn lo hi a n d c), .int .i64 (crH kn lo hi a n d c), .int .i64 (sel (rbB kn lo hi a n d c) c)], .int .i64 (crC kn lo hi a n d c)]) ∧ Below w.heap.size w w' := by
  have CC := fun v H' => carry_any w.heap.size kn lo hi a n d c v H'
  have B : Below w.heap.size w (((w.alloc (.cells #[.bool kn, .int .i64 lo, .int .i64 hi, .int .i64 a] 39)).alloc (.cells #[.int .i64 n, .int .i64 d] 25)).alloc (.cells #[.bool false, .int .i64 0, .int .i64 0, .int .i64 0] 39)) := ((Below.alc _ _).alloc (by first | (simp; done) | (simp; omega) | omega) _).alloc (by first | (simp; done) | (simp; omega) | omega) _
  have H := ((BoxL.new w kn lo hi a 39).alloc (.cells #[.int .i64 n, .int .i64 d] 25)).alloc (.cells #[.bool false, .int .i64 0, .int .i64 0, .int .i64 0] 39)
  have R := BoxL.new ((w.alloc (.cells #[.bool kn, .int .i64 lo, .int .i64 hi, .int .i64 a] 39)).alloc (.cells #[.int .i64 n, .int .i64 d] 25)) false 0 0 0 39
  simp only [World.size_alloc] at R
  by_cases hz : crC kn lo hi a n d c = 0
  · have hr : rbB kn lo hi a n d c = true := decide_eq_true hz
    rw [hr, hz, sel_t rfl]
    rw [hz] at CC
    clear hr hz
    generalize crL kn lo hi a n d c = X at *
    generalize crH kn lo hi a n d c = Y at *
    go_enter Try.func12, Try.ntmps12
    go_wp2_with fail
    refine (CC _ H).mono ?_
    rintro e v ⟨rfl, hb⟩
    replace B := B.trans (hb.mono B.size)
    replace R := R.below hb
    clear hb H CC
    go_wp2_with fail
    refine (knownAt_any _ _ _ _).mono ?_
    rintro e v2 ⟨rfl, hb⟩
    replace R := (R.alloc _).below hb
    replace B := (B.alloc B.size (.cells #[.int .i64 X, .int .i64 Y] 35)).trans (hb.mono (by have := B.size; simp; omega))
    obtain ⟨r0, r1, r2, r3, r4, r5, r6, r7, r8⟩ := R
    clear hb
    go_wp2
    exact bodyPost_ret (v := .tuple #[.agg #[.bool true, .int .i64 X, .int .i64 Y, .int .i64 c], .int .i64 0]) (by simp (maxDischargeDepth := 6) [results, Try.results12, go_sem, *]) rfl ⟨rfl, by repeat (first | exact B | refine Below.drew ?_ | refine Below.alloc ?_ (by first | (simp; done) | (simp; omega) | omega) _ | refine Below.setCell ?_ (by first | (simp; done) | (simp; omega) | omega) _)⟩
  obtain ⟨e1, e2⟩ := cr_zero hz
  have hr : rbB kn lo hi a n d c = false := decide_eq_false hz
  rw [hr, e1, e2, sel_f rfl]
  rw [e1, e2] at CC
  clear hr e1 e2
  generalize crC kn lo hi a n d c = Z at *
  go_enter Try.func12, Try.ntmps12
  go_wp2_with fail
  refine (CC _ H).mono ?_
  rintro e v ⟨rfl, hb⟩
  replace B := B.trans (hb.mono B.size)
  replace R := (R.below hb).alloc (.cells #[.int .i64 0, .int .i64 0] 35)
  have hv := B.size
  obtain ⟨r0, r1, r2, r3, r4, r5, r6, r7, r8⟩ := R
  clear hb H CC
  go_wp2
  exact bodyPost_ret (v := .tuple #[.agg #[.bool false, .int .i64 0, .int .i64 0, .int .i64 0], .int .i64 Z]) (by simp (maxDischargeDepth := 6) [results, Try.results12, go_sem, *]) rfl ⟨rfl, by repeat (first | exact B | refine Below.drew ?_ | refine Below.alloc ?_ (by first | (simp; done) | (simp; omega) | omega) _ | refine Below.setCell ?_ (by first | (simp; done) | (simp; omega) | omega) _)⟩
def lnB (lo hi c : Int) : Bool := okL true lo hi c
end Go.Proofs.Ytlfbbdeoejafkaa
