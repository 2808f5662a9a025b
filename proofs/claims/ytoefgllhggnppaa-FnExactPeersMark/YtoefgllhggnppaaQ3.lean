/- Contracts of Rebase, Learn, Narrow, WidthAt. -/
import Derived.Test.YtoefgllhggnppaaQ2b
import Derived.WalkKit
import Derived.WalkSpells
import Derived.WalkLawsBesides
import Derived.Deep.RegionHeld
namespace Go.Proofs.Ytoefgllhggnppaa
open Go.RowKit
set_option linter.unusedVariables false
theorem cr_zero {kn : Bool} {lo hi a n d c : Int} (h : crC kn lo hi a n d c ≠ 0) : crL kn lo hi a n d c = 0 ∧ crH kn lo hi a n d c = 0 := by
  simp [crL, crH, h]
theorem cr_cases (kn : Bool) (lo hi a n d c : Int) : (crP kn lo hi a n d c = false ∧ crC kn lo hi a n d c = 1) ∨ (crP kn lo hi a n d c = true ∧ kn = false ∧ crC kn lo hi a n d c = 2) ∨ (crP kn lo hi a n d c = true ∧ kn = true ∧ (crC kn lo hi a n d c = 3 ∨ crC kn lo hi a n d c = 4 ∨ crC kn lo hi a n d c = 0)) := by
  cases hp : crP kn lo hi a n d c
  · exact .inl ⟨rfl, (crC_1 hp).1⟩
  cases kn
  · exact .inr (.inl ⟨rfl, rfl, (crC_2 hp).1⟩)
  refine .inr (.inr ⟨rfl, rfl, ?_⟩)
  by_cases h4 : c < a
  · exact .inl (crC_3 hp h4).1
  cases h5 : btB n d (c - a)
  · exact .inr (.inl (crC_4 hp h4 h5).1)
  cases h6 : plusB lo hi (upI ((c - a) * d) (d + n)) (dnI ((c - a) * d) (d - n))
  · exact .inr (.inl (crC_5 hp h4 h5 h6).1)
  · exact .inr (.inr (crC_0 hp h4 h5 h6).1)
theorem cr_ok {lo hi a n d c : Int} {kn : Bool} (h : crC kn lo hi a n d c = 0) : kn = true ∧ okT c = true ∧ okI (crL kn lo hi a n d c) (crH kn lo hi a n d c) = true := by
  rcases cr_cases kn lo hi a n d c with ⟨_, e⟩ | ⟨_, _, e⟩ | ⟨hp, hk, _⟩
  · rw [e] at h; exact absurd h (by decide)
  · rw [e] at h; exact absurd h (by decide)
  subst hk
  have p4 := (crP_p hp).2.2.2
  refine ⟨rfl, p4, ?_⟩
  by_cases h4 : c < a
  · rw [(crC_3 hp h4).1] at h; exact absurd h (by decide)
  cases h5 : btB n d (c - a)
  · rw [(crC_4 hp h4 h5).1] at h; exact absurd h (by decide)
  cases h6 : plusB lo hi (upI ((c - a) * d) (d + n)) (dnI ((c - a) * d) (d - n))
  · rw [(crC_5 hp h4 h5 h6).1] at h; exact absurd h (by decide)
  · obtain ⟨_, e2, e3⟩ := crC_0 hp h4 h5 h6
    rw [e2, e3]; unfold plusB at h6; simp at h6; exact h6.2
def rbB (kn : Bool) (lo hi a n d c : Int) : Bool := decide (crC kn lo hi a n d c = 0)
set_option maxHeartbeats 1000000 in
theorem knownAt_any (lo hi c : Int) (w : World) :
    Calls Try.prog 68 #[.agg #[.int .i64 lo, .int .i64 hi], .int .i64 c] w fun e w' => e = .returned (.agg #[.bool true, .int .i64 lo, .int .i64 hi, .int .i64 c]) ∧ Below w.heap.size w w' := by
  go_enter Try.func68, Try.ntmps68
  go_wp2
  exact bodyPost_ret (v := .agg #[.bool true, .int .i64 lo, .int .i64 hi, .int .i64 c]) (by simp (maxDischargeDepth := 6) [results, Try.results68, go_sem, *]) rfl ⟨rfl, by repeat (first | exact Below.refl _ _ | refine Below.drew ?_ | refine Below.alloc ?_ (by first | (simp; done) | (simp; omega) | omega) _ | refine Below.setCell ?_ (by first | (simp; done) | (simp; omega) | omega) _ | refine Below.trans ?_ (Below.mono (by assumption) (by first | (simp; done) | (simp; omega) | omega)))⟩
def lnB (lo hi c : Int) : Bool := okL true lo hi c
end Go.Proofs.Ytoefgllhggnppaa
