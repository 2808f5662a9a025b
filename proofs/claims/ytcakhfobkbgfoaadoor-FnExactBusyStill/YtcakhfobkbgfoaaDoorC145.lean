/- How long a frame takes at most: what the program makes of it (numbers alone). -/
import Derived.Test.YtcakhfobkbgfoaaDoorC140
import Derived.WalkKit
import Derived.WalkSpells
import Derived.WalkLawsBesides
import Derived.Deep.RegionHeld
namespace Go.Proofs.YtcakhfobkbgfoaaDoor
open Go.RowKit
set_option linter.unusedVariables false
/- How long a frame takes at most, where this is told at all. -/
def frB (n d x : Int) : Bool := okD n d && lgB x
def mzB (n d x : Int) : Bool := moB n d x && !decide (x < 1)
def mzT (n d x : Int) : Int := sel (mzB n d x) (moT n d x)
theorem mo_parts {n d x : Int} (h : moB n d x = true) : okD n d = true ∧ (0 ≤ x ∧ x ≤ 1000000000000) ∧ 0 ≤ moT n d x ∧ moT n d x ≤ 1000000000000 := by
  have h0 := h
  unfold moB rB at h
  simp only [Bool.and_eq_true] at h
  refine ⟨h.1.1, okT_t h.1.2, ?_⟩
  unfold moT
  rw [sel_t h0]
  exact okT_t h.2
theorem fr_of {n d x : Int} (h : mzB n d x = true) : frB n d x = true := by
  unfold mzB at h
  simp only [Bool.and_eq_true, Bool.not_eq_true', decide_eq_false_iff_not] at h
  obtain ⟨h1, h2, _⟩ := mo_parts h.1
  unfold frB lgB
  rw [h1, decide_eq_true (by omega)]
  rfl
theorem mz_bad {n d x : Int} (h : frB n d x = false) : mzB n d x = false ∧ mzT n d x = 0 := by
  have e : mzB n d x = false := by
    cases q : mzB n d x
    · rfl
    · rw [fr_of q] at h; exact h
  exact ⟨e, sel_f e _⟩
theorem mz_fr {n d x : Int} (h : frB n d x = true) : mzB n d x = moB n d x ∧ mzT n d x = moT n d x := by
  have e : mzB n d x = moB n d x := by
    unfold frB at h
    simp only [Bool.and_eq_true] at h
    have h2 := of_decide_eq_true h.2
    unfold mzB
    rw [decide_eq_false (by omega)]
    simp
  refine ⟨e, ?_⟩
  unfold mzT
  rw [e]
  cases q : moB n d x
  · unfold moT; rw [q]; rfl
  · rfl
theorem mz_in {n d x : Int} (h : mzB n d x = true) : moB n d x = true ∧ ¬ x < 1 ∧ mzT n d x = moT n d x := by
  have e := sel_t h (moT n d x)
  unfold mzB at h
  simp only [Bool.and_eq_true, Bool.not_eq_true', decide_eq_false_iff_not] at h
  exact ⟨h.1, h.2, e⟩
theorem dn_one {n d x : Int} (h : ¬ x < 1) (q : 1 ≤ d ∧ d ≤ 1000000 ∧ 0 ≤ n ∧ 2 * n ≤ d) : 1 ≤ dnI (x * d) (d - n) := by
  unfold dnI
  refine (Int.le_ediv_iff_mul_le (by omega)).2 ?_
  have h2 : 1 * d ≤ x * d := Int.mul_le_mul_of_nonneg_right (by omega) (by omega)
  omega
theorem mz_pos {n d x : Int} (h : mzB n d x = true) : 1 ≤ mzT n d x ∧ mzT n d x ≤ 1000000000000 := by
  obtain ⟨h1, h2, h3⟩ := mz_in h
  obtain ⟨q1, q2, q3, q4⟩ := mo_parts h1
  have q5 := okD_t q1
  rw [h3]
  refine ⟨?_, q4⟩
  unfold moT
  rw [sel_t h1]
  exact dn_one h2 q5
theorem gs_no {lo hi n d x : Int} (e : gsB lo hi n d x = false) : gsL lo hi n d x = 0 ∧ gsH lo hi n d x = 0 := ⟨sel_f e _, sel_f e _⟩
theorem gs_mz {lo hi n d x : Int} (h : mzB n d x = false) : gsB lo hi n d x = false := by
  unfold gsB
  unfold mzB at h
  rw [h]
  rfl
theorem gs_eq {lo hi n d x : Int} (h : mzB n d x = true) : gsB lo hi n d x = spreadB lo hi 0 (mzT n d x) := by
  obtain ⟨h1, h2, h3⟩ := mz_in h
  rw [(gs_sp (lo := lo) (hi := hi) h1 h2).1, h3]
theorem gs_iv {lo hi n d x : Int} (h : mzB n d x = true) (e : okI lo hi = false) : gsB lo hi n d x = false := by
  rw [gs_eq h]
  unfold spreadB
  rw [e]
  rfl
theorem gs_far {lo hi n d x : Int} (h : mzB n d x = true) (e : 1000000000000 < hi + mzT n d x) : gsB lo hi n d x = false := by
  rw [gs_eq h]
  unfold spreadB
  have q : okI (lo - 0) (hi + mzT n d x) = false := decide_eq_false (by omega)
  rw [q]
  simp
theorem gs_in {lo hi n d x : Int} (h : mzB n d x = true) (hi' : okI lo hi = true) (e : ¬ 1000000000000 < hi + mzT n d x) : gsB lo hi n d x = true ∧ gsL lo hi n d x = lo ∧ gsH lo hi n d x = hi + mzT n d x := by
  have p := mz_pos h
  have o := okI_t hi'
  obtain ⟨h1, h2, h3⟩ := mz_in h
  have b : gsB lo hi n d x = true := by
    rw [gs_eq h]
    unfold spreadB
    have q : okI (lo - 0) (hi + mzT n d x) = true := decide_eq_true (by omega)
    rw [hi', q, decide_eq_true (by omega)]
    rfl
  unfold gsL gsH
  rw [b]
  refine ⟨rfl, Int.sub_zero lo, ?_⟩
  rw [h3]
  rfl
/- Whether a frame may still be on its way, as the program finds it. -/
theorem bs_mz {n d f x c : Int} (h : mzB n d x = false) : bsB n d f x c = true := by
  unfold bsB
  cases q : bsG f x c
  · rfl
  have e : moB n d x = false := by
    unfold bsG at q
    simp only [Bool.and_eq_true] at q
    have q2 := of_decide_eq_true q.2.2.2
    unfold mzB at h
    rw [decide_eq_false (by omega)] at h
    simpa using h
  rw [e]
  simp
theorem bs_f {n d f x c : Int} (h : okT f = false) : bsB n d f x c = true := by unfold bsB bsG; rw [h]; rfl
theorem bs_c {n d f x c : Int} (h : okT c = false) : bsB n d f x c = true := by
  unfold bsB
  have e : bsG f x c = false := by unfold bsG; rw [h]; simp
  rw [e]
theorem bs_lt {n d f x c : Int} (h : c < f) : bsB n d f x c = true := by
  unfold bsB
  have e : bsG f x c = false := by unfold bsG; rw [decide_eq_true h]; simp
  rw [e]
theorem bs_in {n d f x c : Int} (h : mzB n d x = true) (hf : okT f = true) (hc : okT c = true) (hl : ¬ c < f) : bsB n d f x c = decide (leT n d (c - f) < mzT n d x) := by
  have p := mz_pos h
  have g := fr_of h
  obtain ⟨h1, h2, h3⟩ := mz_in h
  unfold frB at g
  simp only [Bool.and_eq_true] at g
  have e : bsG f x c = true := by unfold bsG; rw [hf, hc, g.2, decide_eq_false hl]; rfl
  unfold bsB
  rw [e, h1, h3]
  rw [h3] at p
  cases q : leB n d (c - f)
  · have z : leT n d (c - f) = 0 := sel_f q _
    rw [z, decide_eq_true (by omega)]
    simp
  · simp
/- What the longest slot leaves, as the program finds it. -/
def loI (s g : Int) (M : Nat → SlT) (m : Nat) (o : Int) : Int := sel (plB s g M m) (bst M o m)
theorem gb_mz {s g : Int} {M : Nat → SlT} {m : Nat} {o n d x : Int} (h : mzB n d x = false) : gbB s g M m o n d x = false ∧ gbI s g M m o n d x = 0 := by
  have e : gbB s g M m o n d x = false := by
    cases q : gbB s g M m o n d x
    · rfl
    · unfold gbB at q
      simp only [Bool.and_eq_true] at q
      unfold mzB at h
      rw [q.2.2.2.1, q.2.2.1] at h
      exact h
  exact ⟨e, sel_f e _⟩
theorem gb_lt {s g : Int} {M : Nat → SlT} {m : Nat} {o n d x : Int} (h : mzB n d x = true) (hl : loI s g M m o < mzT n d x) : gbB s g M m o n d x = false ∧ gbI s g M m o n d x = 0 := by
  obtain ⟨h1, h2, h3⟩ := mz_in h
  rw [h3] at hl
  have e : gbB s g M m o n d x = false := by
    cases q : gbB s g M m o n d x
    · rfl
    · unfold gbB at q
      simp only [Bool.and_eq_true, Bool.not_eq_true', decide_eq_false_iff_not] at q
      unfold loI at hl
      rw [sel_t q.1] at hl
      exact absurd hl q.2.2.2.2
  exact ⟨e, sel_f e _⟩
theorem gb_in {s g : Int} {M : Nat → SlT} {m : Nat} {o n d x : Int} (h : mzB n d x = true) (hl : ¬ loI s g M m o < mzT n d x) : gbB s g M m o n d x = true ∧ gbI s g M m o n d x = loI s g M m o - mzT n d x := by
  have p := mz_pos h
  obtain ⟨h1, h2, h3⟩ := mz_in h
  have hp : plB s g M m = true := by
    cases q : plB s g M m
    · unfold loI at hl
      rw [sel_f q] at hl
      omega
    · rfl
  have hL : loI s g M m o = bst M o m := sel_t hp _
  rw [hL] at hl ⊢
  rw [h3] at hl ⊢
  rw [h3] at p
  have b : gbB s g M m o n d x = true := by
    unfold gbB
    have z : (bst M o m == 0) = false := by
      cases q : (bst M o m == 0)
      · rfl
      · have := eq_of_beq q; omega
    rw [hp, z, h1, decide_eq_false h2, decide_eq_false hl]
    rfl
  exact ⟨b, sel_t b _⟩
end Go.Proofs.YtcakhfobkbgfoaaDoor
