/- What TripOk, TripBound, CarryTrip tell; their contracts in the specification. -/
import Derived.Test.YtnkgdohccdcipaaR81
import Derived.Test.YtnkgdohccdcipaaG8
import Derived.Test.YtnkgdohccdcipaaQ3
import Derived.WalkKit
import Derived.WalkSpells
import Derived.WalkLawsBesides
import Derived.Deep.RegionHeld
namespace Go.Proofs.Ytnkgdohccdcipaa
open Go.RowKit
set_option linter.unusedVariables false
def trB (fr lo hi s g : Int) : Bool := nodB fr && okI lo hi && decide (0 ≤ s ∧ s ≤ g ∧ g ≤ 1000000000000)
theorem trB_t {fr lo hi s g : Int} (h : trB fr lo hi s g = true) : nodB fr = true ∧ okI lo hi = true ∧ 0 ≤ s ∧ s ≤ g ∧ g ≤ 1000000000000 := by
  simp [trB] at h; exact ⟨h.1.1, h.1.2, h.2⟩
set_option maxHeartbeats 2000000 in
theorem specTripOk_any (fr lo hi s g : Int) (w : World) :
    Calls Try.prog 29 #[.agg #[.int .i64 fr, .int .i64 lo, .int .i64 hi, .int .i64 s, .int .i64 g]] w fun e w' => e = .returned (.bool (trB fr lo hi s g)) ∧ Below w.heap.size w w' := by
  cases h1 : nodB fr
  · rw [show trB fr lo hi s g = false by simp [trB, h1]]
    go_enter Try.func29, Try.ntmps29
    go_wp2_with (first | (go_at_call 57; refine (specIvalOk_any _ _ _).mono ?_; rintro e w' ⟨rfl, hb⟩; obtain ⟨hc, hf⟩ := bcell hb; (first | have hB := Below.trans (Below.trans hB (by repeat (first | exact Below.refl _ _ | refine Below.drew ?_ | refine Below.alloc ?_ (by first | (simp; done) | (simp; omega) | omega) _ | refine Below.setCell ?_ (by first | (simp; done) | (simp; omega) | omega) _ | refine Below.trans ?_ (Below.mono (by assumption) (by first | (simp; done) | (simp; omega) | omega))))) (Below.mono hb (by first | (simp; done) | (simp; omega) | omega)) | have hB := hb); obtain ⟨hC, hF⟩ := bcell hB; have hz := hb.size; (try simp at hz); (try (have hz0 : w.heap.size < w'.heap.size := by omega)); (try (have hz1 : w.heap.size + 1 < w'.heap.size := by omega)); (try (have hz2 : w.heap.size + 1 + 1 < w'.heap.size := by omega)); (try (have hz3 : w.heap.size + 1 + 1 + 1 < w'.heap.size := by omega))) | (go_at_call 31; refine (l2Time_any _ _).mono ?_; rintro e w' ⟨rfl, rfl⟩) | (go_at_call 65; refine (l4Node_any _ _).mono ?_; rintro e w' ⟨rfl, rfl⟩))
    go_ret
    exact ⟨rfl, by repeat (first | exact Below.refl _ _ | refine Below.drew ?_ | refine Below.alloc ?_ (by first | (simp; done) | (simp; omega) | omega) _ | refine Below.setCell ?_ (by first | (simp; done) | (simp; omega) | omega) _ | refine Below.trans ?_ (Below.mono (by assumption) (by first | (simp; done) | (simp; omega) | omega)))⟩
  cases h2 : okI lo hi
  · rw [show trB fr lo hi s g = false by simp [trB, h2]]
    go_enter Try.func29, Try.ntmps29
    go_wp2_with (first | (go_at_call 57; refine (specIvalOk_any _ _ _).mono ?_; rintro e w' ⟨rfl, hb⟩; obtain ⟨hc, hf⟩ := bcell hb; (first | have hB := Below.trans (Below.trans hB (by repeat (first | exact Below.refl _ _ | refine Below.drew ?_ | refine Below.alloc ?_ (by first | (simp; done) | (simp; omega) | omega) _ | refine Below.setCell ?_ (by first | (simp; done) | (simp; omega) | omega) _ | refine Below.trans ?_ (Below.mono (by assumption) (by first | (simp; done) | (simp; omega) | omega))))) (Below.mono hb (by first | (simp; done) | (simp; omega) | omega)) | have hB := hb); obtain ⟨hC, hF⟩ := bcell hB; have hz := hb.size; (try simp at hz); (try (have hz0 : w.heap.size < w'.heap.size := by omega)); (try (have hz1 : w.heap.size + 1 < w'.heap.size := by omega)); (try (have hz2 : w.heap.size + 1 + 1 < w'.heap.size := by omega)); (try (have hz3 : w.heap.size + 1 + 1 + 1 < w'.heap.size := by omega))) | (go_at_call 31; refine (l2Time_any _ _).mono ?_; rintro e w' ⟨rfl, rfl⟩) | (go_at_call 65; refine (l4Node_any _ _).mono ?_; rintro e w' ⟨rfl, rfl⟩))
    go_ret
    exact ⟨rfl, by repeat (first | exact Below.refl _ _ | refine Below.drew ?_ | refine Below.alloc ?_ (by first | (simp; done) | (simp; omega) | omega) _ | refine Below.setCell ?_ (by first | (simp; done) | (simp; omega) | omega) _ | refine Below.trans ?_ (Below.mono (by assumption) (by first | (simp; done) | (simp; omega) | omega)))⟩
  cases h3 : okT s
  · have k := okT_f h3
    rw [show trB fr lo hi s g = false by simp [trB]; omega]
    clear k
    go_enter Try.func29, Try.ntmps29
    go_wp2_with (first | (go_at_call 57; refine (specIvalOk_any _ _ _).mono ?_; rintro e w' ⟨rfl, hb⟩; obtain ⟨hc, hf⟩ := bcell hb; (first | have hB := Below.trans (Below.trans hB (by repeat (first | exact Below.refl _ _ | refine Below.drew ?_ | refine Below.alloc ?_ (by first | (simp; done) | (simp; omega) | omega) _ | refine Below.setCell ?_ (by first | (simp; done) | (simp; omega) | omega) _ | refine Below.trans ?_ (Below.mono (by assumption) (by first | (simp; done) | (simp; omega) | omega))))) (Below.mono hb (by first | (simp; done) | (simp; omega) | omega)) | have hB := hb); obtain ⟨hC, hF⟩ := bcell hB; have hz := hb.size; (try simp at hz); (try (have hz0 : w.heap.size < w'.heap.size := by omega)); (try (have hz1 : w.heap.size + 1 < w'.heap.size := by omega)); (try (have hz2 : w.heap.size + 1 + 1 < w'.heap.size := by omega)); (try (have hz3 : w.heap.size + 1 + 1 + 1 < w'.heap.size := by omega))) | (go_at_call 31; refine (l2Time_any _ _).mono ?_; rintro e w' ⟨rfl, rfl⟩) | (go_at_call 65; refine (l4Node_any _ _).mono ?_; rintro e w' ⟨rfl, rfl⟩))
    go_ret
    exact ⟨rfl, by repeat (first | exact Below.refl _ _ | refine Below.drew ?_ | refine Below.alloc ?_ (by first | (simp; done) | (simp; omega) | omega) _ | refine Below.setCell ?_ (by first | (simp; done) | (simp; omega) | omega) _ | refine Below.trans ?_ (Below.mono (by assumption) (by first | (simp; done) | (simp; omega) | omega)))⟩
  cases h4 : okT g
  · have k := okT_f h4
    rw [show trB fr lo hi s g = false by have := okT_t h3; simp [trB]; omega]
    clear k
    go_enter Try.func29, Try.ntmps29
    go_wp2_with (first | (go_at_call 57; refine (specIvalOk_any _ _ _).mono ?_; rintro e w' ⟨rfl, hb⟩; obtain ⟨hc, hf⟩ := bcell hb; (first | have hB := Below.trans (Below.trans hB (by repeat (first | exact Below.refl _ _ | refine Below.drew ?_ | refine Below.alloc ?_ (by first | (simp; done) | (simp; omega) | omega) _ | refine Below.setCell ?_ (by first | (simp; done) | (simp; omega) | omega) _ | refine Below.trans ?_ (Below.mono (by assumption) (by first | (simp; done) | (simp; omega) | omega))))) (Below.mono hb (by first | (simp; done) | (simp; omega) | omega)) | have hB := hb); obtain ⟨hC, hF⟩ := bcell hB; have hz := hb.size; (try simp at hz); (try (have hz0 : w.heap.size < w'.heap.size := by omega)); (try (have hz1 : w.heap.size + 1 < w'.heap.size := by omega)); (try (have hz2 : w.heap.size + 1 + 1 < w'.heap.size := by omega)); (try (have hz3 : w.heap.size + 1 + 1 + 1 < w'.heap.size := by omega))) | (go_at_call 31; refine (l2Time_any _ _).mono ?_; rintro e w' ⟨rfl, rfl⟩) | (go_at_call 65; refine (l4Node_any _ _).mono ?_; rintro e w' ⟨rfl, rfl⟩))
    go_ret
    exact ⟨rfl, by repeat (first | exact Below.refl _ _ | refine Below.drew ?_ | refine Below.alloc ?_ (by first | (simp; done) | (simp; omega) | omega) _ | refine Below.setCell ?_ (by first | (simp; done) | (simp; omega) | omega) _ | refine Below.trans ?_ (Below.mono (by assumption) (by first | (simp; done) | (simp; omega) | omega)))⟩
  rw [show trB fr lo hi s g = decide (s ≤ g) by have := okT_t h3; have := okT_t h4; rw [Bool.eq_iff_iff]; simp [trB, h1, h2]; omega]
  go_enter Try.func29, Try.ntmps29
  go_wp2_with (first | (go_at_call 57; refine (specIvalOk_any _ _ _).mono ?_; rintro e w' ⟨rfl, hb⟩; obtain ⟨hc, hf⟩ := bcell hb; (first | have hB := Below.trans (Below.trans hB (by repeat (first | exact Below.refl _ _ | refine Below.drew ?_ | refine Below.alloc ?_ (by first | (simp; done) | (simp; omega) | omega) _ | refine Below.setCell ?_ (by first | (simp; done) | (simp; omega) | omega) _ | refine Below.trans ?_ (Below.mono (by assumption) (by first | (simp; done) | (simp; omega) | omega))))) (Below.mono hb (by first | (simp; done) | (simp; omega) | omega)) | have hB := hb); obtain ⟨hC, hF⟩ := bcell hB; have hz := hb.size; (try simp at hz); (try (have hz0 : w.heap.size < w'.heap.size := by omega)); (try (have hz1 : w.heap.size + 1 < w'.heap.size := by omega)); (try (have hz2 : w.heap.size + 1 + 1 < w'.heap.size := by omega)); (try (have hz3 : w.heap.size + 1 + 1 + 1 < w'.heap.size := by omega))) | (go_at_call 31; refine (l2Time_any _ _).mono ?_; rintro e w' ⟨rfl, rfl⟩) | (go_at_call 65; refine (l4Node_any _ _).mono ?_; rintro e w' ⟨rfl, rfl⟩))
  go_ret
  exact ⟨rfl, by repeat (first | exact Below.refl _ _ | refine Below.drew ?_ | refine Below.alloc ?_ (by first | (simp; done) | (simp; omega) | omega) _ | refine Below.setCell ?_ (by first | (simp; done) | (simp; omega) | omega) _ | refine Below.trans ?_ (Below.mono (by assumption) (by first | (simp; done) | (simp; omega) | omega)))⟩
def tbC (n d fr lo hi s g : Int) : Int := if trB fr lo hi s g then rdC n d lo hi (g - s) else 1
def tbL (n d fr lo hi s g : Int) : Int := sel (trB fr lo hi s g) (rdL n d lo hi (g - s))
def tbH (n d fr lo hi s g : Int) : Int := sel (trB fr lo hi s g) (rdH n d lo hi (g - s))
theorem tb_f {n d fr lo hi s g : Int} (h : trB fr lo hi s g = false) : tbC n d fr lo hi s g = 1 ∧ tbL n d fr lo hi s g = 0 ∧ tbH n d fr lo hi s g = 0 := ⟨by simp [tbC, h], sel_f h _, sel_f h _⟩
theorem tb_t {n d fr lo hi s g : Int} (h : trB fr lo hi s g = true) : tbC n d fr lo hi s g = rdC n d lo hi (g - s) ∧ tbL n d fr lo hi s g = rdL n d lo hi (g - s) ∧ tbH n d fr lo hi s g = rdH n d lo hi (g - s) := ⟨by simp [tbC, h], sel_t h _, sel_t h _⟩
theorem rdB_p {n d lo hi t : Int} (h : rdB n d lo hi t = true) : rdP n d lo hi t = true ∧ okT (rdM n d t) = true ∧ okI lo (hi + rdM n d t) = true := by simp [rdB] at h; exact ⟨h.1.1, h.1.2, h.2⟩
theorem rdC_z {n d lo hi t : Int} (h : rdC n d lo hi t = 0) : rdB n d lo hi t = true := by
  cases e : rdB n d lo hi t
  · cases p : rdP n d lo hi t
    · rw [(rd_bad p).1] at h; exact absurd h (by decide)
    · rw [(rd_over p e).1] at h; exact absurd h (by decide)
  · rfl
theorem tb_zero {n d fr lo hi s g : Int} (h : tbC n d fr lo hi s g ≠ 0) : tbL n d fr lo hi s g = 0 ∧ tbH n d fr lo hi s g = 0 := by
  cases k : trB fr lo hi s g
  · exact (tb_f k).2
  · obtain ⟨e1, e2, e3⟩ := tb_t (n := n) (d := d) k
    rw [e2, e3]
    cases e : rdB n d lo hi (g - s)
    · exact ⟨sel_f e _, sel_f e _⟩
    · rw [e1, (rd_well e).1] at h; exact absurd rfl h
theorem tb_ok {n d fr lo hi s g : Int} (h : tbC n d fr lo hi s g = 0) : trB fr lo hi s g = true ∧ okD n d = true ∧ okT g = true ∧ okI lo hi = true ∧ okI (tbL n d fr lo hi s g) (tbH n d fr lo hi s g) = true := by
  cases k : trB fr lo hi s g
  · rw [(tb_f k).1] at h; exact absurd h (by decide)
  obtain ⟨e1, e2, e3⟩ := tb_t (n := n) (d := d) k
  rw [e1] at h
  have b := rdC_z h
  obtain ⟨p, _, q⟩ := rdB_p b
  obtain ⟨_, r2, r3⟩ := rd_well b
  rw [e2, e3, r2, r3]
  obtain ⟨_, t2, t3, t4, t5⟩ := trB_t k
  exact ⟨rfl, (rdP_p p).1, decide_eq_true ⟨by omega, t5⟩, t2, q⟩
set_option maxHeartbeats 2000000 in
theorem specTripBound_any (n d fr lo hi s g : Int) (w : World) :
    Calls Try.prog 10 #[.agg #[.int .i64 n, .int .i64 d], .agg #[.int .i64 fr, .int .i64 lo, .int .i64 hi, .int .i64 s, .int .i64 g]] w fun e w' => e = .returned (.tuple #[.agg #[.int .i64 (tbL n d fr lo hi s g), .int .i64 (tbH n d fr lo hi s g)], .int .i64 (tbC n d fr lo hi s g)]) ∧ Below w.heap.size w w' := by
  have CT := fun w' => specTripOk_any fr lo hi s g w'
  cases h : trB fr lo hi s g
  · obtain ⟨e1, e2, e3⟩ := tb_f (n := n) (d := d) h
    rw [e1, e2, e3]
    rw [h] at CT
    clear e1 e2 e3 h
    go_enter Try.func10, Try.ntmps10
    go_wp2_with (go_at_call 29; refine (CT _).mono ?_; rintro e w' ⟨rfl, hb⟩; obtain ⟨hc, hf⟩ := bcell hb; (first | have hB := Below.trans (Below.trans hB (by repeat (first | exact Below.refl _ _ | refine Below.drew ?_ | refine Below.alloc ?_ (by first | (simp; done) | (simp; omega) | omega) _ | refine Below.setCell ?_ (by first | (simp; done) | (simp; omega) | omega) _ | refine Below.trans ?_ (Below.mono (by assumption) (by first | (simp; done) | (simp; omega) | omega))))) (Below.mono hb (by first | (simp; done) | (simp; omega) | omega)) | have hB := hb); obtain ⟨hC, hF⟩ := bcell hB; have hz := hb.size; (try simp at hz); (try (have hz0 : w.heap.size < w'.heap.size := by omega)); (try (have hz1 : w.heap.size + 1 < w'.heap.size := by omega)); (try (have hz2 : w.heap.size + 1 + 1 < w'.heap.size := by omega)); (try (have hz3 : w.heap.size + 1 + 1 + 1 < w'.heap.size := by omega)))
    exact bodyPost_ret (v := .tuple #[.agg #[.int .i64 0, .int .i64 0], .int .i64 1]) (by simp (maxDischargeDepth := 6) [results, Try.results10, go_sem, *]) rfl ⟨rfl, by repeat (first | exact Below.refl _ _ | refine Below.drew ?_ | refine Below.alloc ?_ (by first | (simp; done) | (simp; omega) | omega) _ | refine Below.setCell ?_ (by first | (simp; done) | (simp; omega) | omega) _ | refine Below.trans ?_ (Below.mono (by assumption) (by first | (simp; done) | (simp; omega) | omega)))⟩
  · obtain ⟨e1, e2, e3⟩ := tb_t (n := n) (d := d) h
    rw [e1, e2, e3]
    obtain ⟨_, _, t3, t4, t5⟩ := trB_t h
    rw [h] at CT
    have CR := fun w' => specRoundBound_any n d lo hi (g - s) w'
    clear e1 e2 e3 h
    generalize rdL n d lo hi (g - s) = X at *
    generalize rdH n d lo hi (g - s) = Y at *
    generalize rdC n d lo hi (g - s) = Z at *
    go_enter Try.func10, Try.ntmps10
    go_wp2_with (first | (go_at_call 29; refine (CT _).mono ?_; rintro e w' ⟨rfl, hb⟩; obtain ⟨hc, hf⟩ := bcell hb; (first | have hB := Below.trans (Below.trans hB (by repeat (first | exact Below.refl _ _ | refine Below.drew ?_ | refine Below.alloc ?_ (by first | (simp; done) | (simp; omega) | omega) _ | refine Below.setCell ?_ (by first | (simp; done) | (simp; omega) | omega) _ | refine Below.trans ?_ (Below.mono (by assumption) (by first | (simp; done) | (simp; omega) | omega))))) (Below.mono hb (by first | (simp; done) | (simp; omega) | omega)) | have hB := hb); obtain ⟨hC, hF⟩ := bcell hB; have hz := hb.size; (try simp at hz); (try (have hz0 : w.heap.size < w'.heap.size := by omega)); (try (have hz1 : w.heap.size + 1 < w'.heap.size := by omega)); (try (have hz2 : w.heap.size + 1 + 1 < w'.heap.size := by omega)); (try (have hz3 : w.heap.size + 1 + 1 + 1 < w'.heap.size := by omega))) | (go_at_call 35; refine (CR _).mono ?_; rintro e w' ⟨rfl, hb⟩; obtain ⟨hc, hf⟩ := bcell hb; (first | have hB := Below.trans (Below.trans hB (by repeat (first | exact Below.refl _ _ | refine Below.drew ?_ | refine Below.alloc ?_ (by first | (simp; done) | (simp; omega) | omega) _ | refine Below.setCell ?_ (by first | (simp; done) | (simp; omega) | omega) _ | refine Below.trans ?_ (Below.mono (by assumption) (by first | (simp; done) | (simp; omega) | omega))))) (Below.mono hb (by first | (simp; done) | (simp; omega) | omega)) | have hB := hb); obtain ⟨hC, hF⟩ := bcell hB; have hz := hb.size; (try simp at hz); (try (have hz0 : w.heap.size < w'.heap.size := by omega)); (try (have hz1 : w.heap.size + 1 < w'.heap.size := by omega)); (try (have hz2 : w.heap.size + 1 + 1 < w'.heap.size := by omega)); (try (have hz3 : w.heap.size + 1 + 1 + 1 < w'.heap.size := by omega))))
    exact bodyPost_ret (v := .tuple #[.agg #[.int .i64 X, .int .i64 Y], .int .i64 Z]) (by simp (maxDischargeDepth := 6) [results, Try.results10, go_sem, *]) rfl ⟨rfl, by repeat (first | exact Below.refl _ _ | refine Below.drew ?_ | refine Below.alloc ?_ (by first | (simp; done) | (simp; omega) | omega) _ | refine Below.setCell ?_ (by first | (simp; done) | (simp; omega) | omega) _ | refine Below.trans ?_ (Below.mono (by assumption) (by first | (simp; done) | (simp; omega) | omega)))⟩
def ctC (n d fr lo hi s g a : Int) : Int := if tbC n d fr lo hi s g = 0 then (if g ≤ a ∧ a ≤ 1000000000000 then (if crC true (tbL n d fr lo hi s g) (tbH n d fr lo hi s g) g n d a = 0 then 0 else 2) else 1) else tbC n d fr lo hi s g
def ctL (n d fr lo hi s g a : Int) : Int := if ctC n d fr lo hi s g a = 0 then crL true (tbL n d fr lo hi s g) (tbH n d fr lo hi s g) g n d a else 0
def ctH (n d fr lo hi s g a : Int) : Int := if ctC n d fr lo hi s g a = 0 then crH true (tbL n d fr lo hi s g) (tbH n d fr lo hi s g) g n d a else 0
theorem ct_cases (n d fr lo hi s g a : Int) : (tbC n d fr lo hi s g ≠ 0 ∧ ctC n d fr lo hi s g a = tbC n d fr lo hi s g ∧ ctL n d fr lo hi s g a = 0 ∧ ctH n d fr lo hi s g a = 0) ∨ (tbC n d fr lo hi s g = 0 ∧ ¬ (g ≤ a ∧ a ≤ 1000000000000) ∧ (crC true (tbL n d fr lo hi s g) (tbH n d fr lo hi s g) g n d a = 1 ∨ crC true (tbL n d fr lo hi s g) (tbH n d fr lo hi s g) g n d a = 3) ∧ ctC n d fr lo hi s g a = 1 ∧ ctL n d fr lo hi s g a = 0 ∧ ctH n d fr lo hi s g a = 0) ∨ (tbC n d fr lo hi s g = 0 ∧ (g ≤ a ∧ a ≤ 1000000000000) ∧ crC true (tbL n d fr lo hi s g) (tbH n d fr lo hi s g) g n d a = 4 ∧ ctC n d fr lo hi s g a = 2 ∧ ctL n d fr lo hi s g a = 0 ∧ ctH n d fr lo hi s g a = 0) ∨ (tbC n d fr lo hi s g = 0 ∧ (g ≤ a ∧ a ≤ 1000000000000) ∧ crC true (tbL n d fr lo hi s g) (tbH n d fr lo hi s g) g n d a = 0 ∧ ctC n d fr lo hi s g a = 0 ∧ ctL n d fr lo hi s g a = crL true (tbL n d fr lo hi s g) (tbH n d fr lo hi s g) g n d a ∧ ctH n d fr lo hi s g a = crH true (tbL n d fr lo hi s g) (tbH n d fr lo hi s g) g n d a) := by
  by_cases h : tbC n d fr lo hi s g = 0
  · obtain ⟨k1, k2, k3, _, k4⟩ := tb_ok h
    by_cases hi' : g ≤ a ∧ a ≤ 1000000000000
    · have hp : crP true (tbL n d fr lo hi s g) (tbH n d fr lo hi s g) g n d a = true := by
        have : okT a = true := decide_eq_true ⟨by have := (okT_t k3).1; omega, hi'.2⟩
        simp [crP, okL, k4, k3, k2, this]
      by_cases hz : crC true (tbL n d fr lo hi s g) (tbH n d fr lo hi s g) g n d a = 0
      · have e : ctC n d fr lo hi s g a = 0 := by unfold ctC; rw [if_pos h, if_pos hi', if_pos hz]
        exact .inr (.inr (.inr ⟨h, hi', hz, e, by unfold ctL; rw [if_pos e], by unfold ctH; rw [if_pos e]⟩))
      · have e : ctC n d fr lo hi s g a = 2 := by unfold ctC; rw [if_pos h, if_pos hi', if_neg hz]
        have h4 : crC true (tbL n d fr lo hi s g) (tbH n d fr lo hi s g) g n d a = 4 := by
          rcases cr_cases true (tbL n d fr lo hi s g) (tbH n d fr lo hi s g) g n d a with ⟨q, _⟩ | ⟨_, q, _⟩ | ⟨_, _, q | q | q⟩
          · rw [hp] at q; exact absurd q (by decide)
          · exact absurd q (by decide)
          · exfalso
            have h5 : ¬ a < g := by omega
            cases h6 : btB n d (a - g)
            · rw [(crC_4 hp h5 h6).1] at q; exact absurd q (by decide)
            · cases h7 : plusB (tbL n d fr lo hi s g) (tbH n d fr lo hi s g) (upI ((a - g) * d) (d + n)) (dnI ((a - g) * d) (d - n))
              · rw [(crC_5 hp h5 h6 h7).1] at q; exact absurd q (by decide)
              · rw [(crC_0 hp h5 h6 h7).1] at q; exact absurd q (by decide)
          · exact q
          · exact absurd q hz
        exact .inr (.inr (.inl ⟨h, hi', h4, e, by unfold ctL; rw [if_neg (by rw [e]; decide)], by unfold ctH; rw [if_neg (by rw [e]; decide)]⟩))
    · have e : ctC n d fr lo hi s g a = 1 := by unfold ctC; rw [if_pos h, if_neg hi']
      have h4 : crC true (tbL n d fr lo hi s g) (tbH n d fr lo hi s g) g n d a = 1 ∨ crC true (tbL n d fr lo hi s g) (tbH n d fr lo hi s g) g n d a = 3 := by
        cases hp : crP true (tbL n d fr lo hi s g) (tbH n d fr lo hi s g) g n d a
        · exact .inl (crC_1 hp).1
        · exact .inr (crC_3 hp (by have := okT_t (crP_p hp).2.2.2; omega)).1
      exact .inr (.inl ⟨h, hi', h4, e, by unfold ctL; rw [if_neg (by rw [e]; decide)], by unfold ctH; rw [if_neg (by rw [e]; decide)]⟩)
  · have e : ctC n d fr lo hi s g a = tbC n d fr lo hi s g := by unfold ctC; rw [if_neg h]
    exact .inl ⟨h, e, by unfold ctL; rw [if_neg (by rw [e]; exact h)], by unfold ctH; rw [if_neg (by rw [e]; exact h)]⟩
set_option maxHeartbeats 4000000 in
theorem specCarryTrip_any (n d fr lo hi s g a : Int) (w : World) :
    Calls Try.prog 15 #[.agg #[.int .i64 n, .int .i64 d], .agg #[.int .i64 fr, .int .i64 lo, .int .i64 hi, .int .i64 s, .int .i64 g], .int .i64 a] w fun e w' => e = .returned (.tuple #[.agg #[.int .i64 (ctL n d fr lo hi s g a), .int .i64 (ctH n d fr lo hi s g a)], .int .i64 (ctC n d fr lo hi s g a)]) ∧ Below w.heap.size w w' := by
  have CT := fun w' => specTripBound_any n d fr lo hi s g w'
  have CC := fun w' => specCarryOn_any true (tbL n d fr lo hi s g) (tbH n d fr lo hi s g) g n d a w'
  rcases ct_cases n d fr lo hi s g a with ⟨h, e1, e2, e3⟩ | ⟨h, _, h4, e1, e2, e3⟩ | ⟨h, _, h4, e1, e2, e3⟩ | ⟨h, _, h4, e1, e2, e3⟩
  · obtain ⟨k1, k2⟩ := tb_zero h
    rw [e1, e2, e3]
    rw [k1, k2] at CT
    clear CC e1 e2 e3 k1 k2
    generalize tbC n d fr lo hi s g = Z at *
    go_enter Try.func15, Try.ntmps15
    go_wp2_with (go_at_call 10; refine (CT _).mono ?_; rintro e w' ⟨rfl, hb⟩; obtain ⟨hc, hf⟩ := bcell hb; (first | have hB := Below.trans (Below.trans hB (by repeat (first | exact Below.refl _ _ | refine Below.drew ?_ | refine Below.alloc ?_ (by first | (simp; done) | (simp; omega) | omega) _ | refine Below.setCell ?_ (by first | (simp; done) | (simp; omega) | omega) _ | refine Below.trans ?_ (Below.mono (by assumption) (by first | (simp; done) | (simp; omega) | omega))))) (Below.mono hb (by first | (simp; done) | (simp; omega) | omega)) | have hB := hb); obtain ⟨hC, hF⟩ := bcell hB; have hz := hb.size; (try simp at hz); (try (have hz0 : w.heap.size < w'.heap.size := by omega)); (try (have hz1 : w.heap.size + 1 < w'.heap.size := by omega)); (try (have hz2 : w.heap.size + 1 + 1 < w'.heap.size := by omega)); (try (have hz3 : w.heap.size + 1 + 1 + 1 < w'.heap.size := by omega)))
    exact bodyPost_ret (v := .tuple #[.agg #[.int .i64 0, .int .i64 0], .int .i64 Z]) (by simp (maxDischargeDepth := 6) [results, Try.results15, go_sem, *]) rfl ⟨rfl, by repeat (first | exact Below.refl _ _ | refine Below.drew ?_ | refine Below.alloc ?_ (by first | (simp; done) | (simp; omega) | omega) _ | refine Below.setCell ?_ (by first | (simp; done) | (simp; omega) | omega) _ | refine Below.trans ?_ (Below.mono (by assumption) (by first | (simp; done) | (simp; omega) | omega)))⟩
  · rw [e1, e2, e3]
    rw [h] at CT
    rcases h4 with h4 | h4
    all_goals rw [h4] at CC
    all_goals clear e1 e2 e3 h h4
    all_goals generalize crL true (tbL n d fr lo hi s g) (tbH n d fr lo hi s g) g n d a = X at *
    all_goals generalize crH true (tbL n d fr lo hi s g) (tbH n d fr lo hi s g) g n d a = Y at *
    all_goals generalize tbL n d fr lo hi s g = U at *
    all_goals generalize tbH n d fr lo hi s g = V at *
    all_goals go_enter Try.func15, Try.ntmps15
    all_goals go_wp2_with (first | (go_at_call 10; refine (CT _).mono ?_; rintro e w' ⟨rfl, hb⟩; obtain ⟨hc, hf⟩ := bcell hb; (first | have hB := Below.trans (Below.trans hB (by repeat (first | exact Below.refl _ _ | refine Below.drew ?_ | refine Below.alloc ?_ (by first | (simp; done) | (simp; omega) | omega) _ | refine Below.setCell ?_ (by first | (simp; done) | (simp; omega) | omega) _ | refine Below.trans ?_ (Below.mono (by assumption) (by first | (simp; done) | (simp; omega) | omega))))) (Below.mono hb (by first | (simp; done) | (simp; omega) | omega)) | have hB := hb); obtain ⟨hC, hF⟩ := bcell hB; have hz := hb.size; (try simp at hz); (try (have hz0 : w.heap.size < w'.heap.size := by omega)); (try (have hz1 : w.heap.size + 1 < w'.heap.size := by omega)); (try (have hz2 : w.heap.size + 1 + 1 < w'.heap.size := by omega)); (try (have hz3 : w.heap.size + 1 + 1 + 1 < w'.heap.size := by omega))) | (go_at_call 42; refine (CC _).mono ?_; rintro e w' ⟨rfl, hb⟩; obtain ⟨hc, hf⟩ := bcell hb; (first | have hB := Below.trans (Below.trans hB (by repeat (first | exact Below.refl _ _ | refine Below.drew ?_ | refine Below.alloc ?_ (by first | (simp; done) | (simp; omega) | omega) _ | refine Below.setCell ?_ (by first | (simp; done) | (simp; omega) | omega) _ | refine Below.trans ?_ (Below.mono (by assumption) (by first | (simp; done) | (simp; omega) | omega))))) (Below.mono hb (by first | (simp; done) | (simp; omega) | omega)) | have hB := hb); obtain ⟨hC, hF⟩ := bcell hB; have hz := hb.size; (try simp at hz); (try (have hz0 : w.heap.size < w'.heap.size := by omega)); (try (have hz1 : w.heap.size + 1 < w'.heap.size := by omega)); (try (have hz2 : w.heap.size + 1 + 1 < w'.heap.size := by omega)); (try (have hz3 : w.heap.size + 1 + 1 + 1 < w'.heap.size := by omega))))
    all_goals exact bodyPost_ret (v := .tuple #[.agg #[.int .i64 0, .int .i64 0], .int .i64 1]) (by simp (maxDischargeDepth := 6) [results, Try.results15, go_sem, *]) rfl ⟨rfl, by repeat (first | exact Below.refl _ _ | refine Below.drew ?_ | refine Below.alloc ?_ (by first | (simp; done) | (simp; omega) | omega) _ | refine Below.setCell ?_ (by first | (simp; done) | (simp; omega) | omega) _ | refine Below.trans ?_ (Below.mono (by assumption) (by first | (simp; done) | (simp; omega) | omega)))⟩
  · rw [e1, e2, e3]
    rw [h] at CT
    rw [h4] at CC
    clear e1 e2 e3 h h4
    generalize crL true (tbL n d fr lo hi s g) (tbH n d fr lo hi s g) g n d a = X at *
    generalize crH true (tbL n d fr lo hi s g) (tbH n d fr lo hi s g) g n d a = Y at *
    generalize tbL n d fr lo hi s g = U at *
    generalize tbH n d fr lo hi s g = V at *
    go_enter Try.func15, Try.ntmps15
    go_wp2_with (first | (go_at_call 10; refine (CT _).mono ?_; rintro e w' ⟨rfl, hb⟩; obtain ⟨hc, hf⟩ := bcell hb; (first | have hB := Below.trans (Below.trans hB (by repeat (first | exact Below.refl _ _ | refine Below.drew ?_ | refine Below.alloc ?_ (by first | (simp; done) | (simp; omega) | omega) _ | refine Below.setCell ?_ (by first | (simp; done) | (simp; omega) | omega) _ | refine Below.trans ?_ (Below.mono (by assumption) (by first | (simp; done) | (simp; omega) | omega))))) (Below.mono hb (by first | (simp; done) | (simp; omega) | omega)) | have hB := hb); obtain ⟨hC, hF⟩ := bcell hB; have hz := hb.size; (try simp at hz); (try (have hz0 : w.heap.size < w'.heap.size := by omega)); (try (have hz1 : w.heap.size + 1 < w'.heap.size := by omega)); (try (have hz2 : w.heap.size + 1 + 1 < w'.heap.size := by omega)); (try (have hz3 : w.heap.size + 1 + 1 + 1 < w'.heap.size := by omega))) | (go_at_call 42; refine (CC _).mono ?_; rintro e w' ⟨rfl, hb⟩; obtain ⟨hc, hf⟩ := bcell hb; (first | have hB := Below.trans (Below.trans hB (by repeat (first | exact Below.refl _ _ | refine Below.drew ?_ | refine Below.alloc ?_ (by first | (simp; done) | (simp; omega) | omega) _ | refine Below.setCell ?_ (by first | (simp; done) | (simp; omega) | omega) _ | refine Below.trans ?_ (Below.mono (by assumption) (by first | (simp; done) | (simp; omega) | omega))))) (Below.mono hb (by first | (simp; done) | (simp; omega) | omega)) | have hB := hb); obtain ⟨hC, hF⟩ := bcell hB; have hz := hb.size; (try simp at hz); (try (have hz0 : w.heap.size < w'.heap.size := by omega)); (try (have hz1 : w.heap.size + 1 < w'.heap.size := by omega)); (try (have hz2 : w.heap.size + 1 + 1 < w'.heap.size := by omega)); (try (have hz3 : w.heap.size + 1 + 1 + 1 < w'.heap.size := by omega))))
    exact bodyPost_ret (v := .tuple #[.agg #[.int .i64 0, .int .i64 0], .int .i64 2]) (by simp (maxDischargeDepth := 6) [results, Try.results15, go_sem, *]) rfl ⟨rfl, by repeat (first | exact Below.refl _ _ | refine Below.drew ?_ | refine Below.alloc ?_ (by first | (simp; done) | (simp; omega) | omega) _ | refine Below.setCell ?_ (by first | (simp; done) | (simp; omega) | omega) _ | refine Below.trans ?_ (Below.mono (by assumption) (by first | (simp; done) | (simp; omega) | omega)))⟩
  · rw [e1, e2, e3]
    rw [h] at CT
    rw [h4] at CC
    clear e1 e2 e3 h h4
    generalize crL true (tbL n d fr lo hi s g) (tbH n d fr lo hi s g) g n d a = X at *
    generalize crH true (tbL n d fr lo hi s g) (tbH n d fr lo hi s g) g n d a = Y at *
    generalize tbL n d fr lo hi s g = U at *
    generalize tbH n d fr lo hi s g = V at *
    go_enter Try.func15, Try.ntmps15
    go_wp2_with (first | (go_at_call 10; refine (CT _).mono ?_; rintro e w' ⟨rfl, hb⟩; obtain ⟨hc, hf⟩ := bcell hb; (first | have hB := Below.trans (Below.trans hB (by repeat (first | exact Below.refl _ _ | refine Below.drew ?_ | refine Below.alloc ?_ (by first | (simp; done) | (simp; omega) | omega) _ | refine Below.setCell ?_ (by first | (simp; done) | (simp; omega) | omega) _ | refine Below.trans ?_ (Below.mono (by assumption) (by first | (simp; done) | (simp; omega) | omega))))) (Below.mono hb (by first | (simp; done) | (simp; omega) | omega)) | have hB := hb); obtain ⟨hC, hF⟩ := bcell hB; have hz := hb.size; (try simp at hz); (try (have hz0 : w.heap.size < w'.heap.size := by omega)); (try (have hz1 : w.heap.size + 1 < w'.heap.size := by omega)); (try (have hz2 : w.heap.size + 1 + 1 < w'.heap.size := by omega)); (try (have hz3 : w.heap.size + 1 + 1 + 1 < w'.heap.size := by omega))) | (go_at_call 42; refine (CC _).mono ?_; rintro e w' ⟨rfl, hb⟩; obtain ⟨hc, hf⟩ := bcell hb; (first | have hB := Below.trans (Below.trans hB (by repeat (first | exact Below.refl _ _ | refine Below.drew ?_ | refine Below.alloc ?_ (by first | (simp; done) | (simp; omega) | omega) _ | refine Below.setCell ?_ (by first | (simp; done) | (simp; omega) | omega) _ | refine Below.trans ?_ (Below.mono (by assumption) (by first | (simp; done) | (simp; omega) | omega))))) (Below.mono hb (by first | (simp; done) | (simp; omega) | omega)) | have hB := hb); obtain ⟨hC, hF⟩ := bcell hB; have hz := hb.size; (try simp at hz); (try (have hz0 : w.heap.size < w'.heap.size := by omega)); (try (have hz1 : w.heap.size + 1 < w'.heap.size := by omega)); (try (have hz2 : w.heap.size + 1 + 1 < w'.heap.size := by omega)); (try (have hz3 : w.heap.size + 1 + 1 + 1 < w'.heap.size := by omega))))
    exact bodyPost_ret (v := .tuple #[.agg #[.int .i64 X, .int .i64 Y], .int .i64 0]) (by simp (maxDischargeDepth := 6) [results, Try.results15, go_sem, *]) rfl ⟨rfl, by repeat (first | exact Below.refl _ _ | refine Below.drew ?_ | refine Below.alloc ?_ (by first | (simp; done) | (simp; omega) | omega) _ | refine Below.setCell ?_ (by first | (simp; done) | (simp; omega) | omega) _ | refine Below.trans ?_ (Below.mono (by assumption) (by first | (simp; done) | (simp; omega) | omega)))⟩
end Go.Proofs.Ytnkgdohccdcipaa
