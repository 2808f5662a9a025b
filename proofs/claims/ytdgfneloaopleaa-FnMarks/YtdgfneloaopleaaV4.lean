/- What marks of a run say: numbers. -/
import Derived.Test.YtdgfneloaopleaaR3
import Derived.Test.YtdgfneloaopleaaU5
import Derived.Test.YtdgfneloaopleaaN1
import Derived.WalkKit
import Derived.WalkSpells
import Derived.WalkLawsBesides
import Derived.Deep.RegionHeld
import Derived.Deep.RegionHeld3
namespace Go.Proofs.Ytdgfneloaopleaa
open Go.RowKit
set_option linter.unusedVariables false
theorem holds_mk3 {lo hi t : Int} (h : okI lo hi = true) (h1 : lo ≤ t) (h2 : t ≤ hi) : holdsI lo hi t = true := by simp [holdsI, h, h1, h2]
theorem okI_of {lo hi : Int} (h1 : lo ≤ hi) (h2 : -1000000000000 ≤ lo) (h3 : hi ≤ 1000000000000) : okI lo hi = true := decide_eq_true ⟨h1, h2, h3⟩
theorem mul_zero_le {c d : Int} (hd : 1 ≤ d) (hc : 0 ≤ c) (h : c * d ≤ 0) : c = 0 := by
  rcases Int.lt_or_eq_of_le hc with h1 | h1
  · have : 1 * d ≤ c * d := Int.mul_le_mul_of_nonneg_right (by omega) (by omega)
    omega
  · exact h1.symm
theorem when_holds {n d : Int} {f : Nat → Int × Int} {m i : Nat} (h : cwB n d f m (f i).1 = true) (hi : i < m) : holdsI (cwL n d f m (f i).1) (cwH n d f m (f i).1) (f i).2 = true := by
  simp only [cwB, Bool.and_eq_true] at h
  obtain ⟨hr, hw⟩ := h
  have ⟨hD, u1, u2, hok⟩ := mkB_t (mrB_t hr).1
  have ⟨d1, d2, d3, d4⟩ := okD_t hD
  have l1 : lastLe (t1 f) (f i).1 m < m := lastLe_lt u1
  have l2 : (f (lastLe (t1 f) (f i).1 m)).1 ≤ (f i).1 := lastLe_le (g := t1 f) u1 (up_time hr (Nat.zero_le i) hi).1
  have l3 : i ≤ lastLe (t1 f) (f i).1 m := by
    rcases Nat.lt_or_ge (lastLe (t1 f) (f i).1 m) i with h | h
    · have := lastLe_gt (g := t1 f) h hi
      simp only [t1] at this
      omega
    · exact h
  generalize hI : lastLe (t1 f) (f i).1 m = I at *
  have e1 : (f I).1 = (f i).1 := by have := (up_time hr l3 l1).1; omega
  have e2 : (f I).2 = (f i).2 := by
    by_cases e : i = I
    · rw [e]
    · have ⟨_, _, a3, _, a5⟩ := mcB_y (two_lt hr (show i < I by omega) l1)
      rw [e1, Int.sub_self, Int.zero_mul] at a5
      have A3 := okT_t a3
      have := mul_zero_le d1 A3.1 a5
      omega
  have ⟨v1, v2⟩ := okT_t (hok i hi).2
  have z1 : upI (((f i).1 - t1 f I) * (d - n)) d = 0 := by
    simp only [t1, e1, Int.sub_self, Int.zero_mul, upI]
    exact Int.ediv_eq_zero_of_lt (by omega) (by omega)
  have z2 : dnI (((f i).1 - t1 f I) * (d + n)) d = 0 := by
    simp only [t1, e1, Int.sub_self, Int.zero_mul, dnI, Int.zero_ediv]
  have z3 : t2 f I = (f i).2 := e2
  by_cases hl : I + 1 = m
  · have w1 : cwL n d f m (f i).1 = (f i).2 := by unfold cwL; rw [whLo_last hI hl, z1, z3]; omega
    have w2 : cwH n d f m (f i).1 = (f i).2 := by unfold cwH; rw [whHi_last hI hl, z2, z3]; omega
    rw [w1, w2]
    exact holds_mk3 (okI_of (Int.le_refl _) (by omega) (by omega)) (Int.le_refl _) (Int.le_refl _)
  · have ⟨_, b2, b3, b4, b5⟩ := mcB_y (two_lt hr (show I < I + 1 by omega) (show I + 1 < m by omega))
    rw [e1, e2] at b4 b5
    have g1 := le_upI (show (0 : Int) < d by omega) b4
    have g2 := dnI_le (show (0 : Int) < d by omega) b5
    have w1 : cwL n d f m (f i).1 = (f i).2 := by
      unfold cwL; rw [whLo_next hI hl, z1, z3]; simp only [t1, t2]; unfold imx; split <;> omega
    have w2 : cwH n d f m (f i).1 = (f i).2 := by
      unfold cwH; rw [whHi_next hI hl, z2, z3]; simp only [t1, t2]; unfold imn; split <;> omega
    rw [w1, w2]
    exact holds_mk3 (okI_of (Int.le_refl _) (by omega) (by omega)) (Int.le_refl _) (Int.le_refl _)
theorem tw_le {n d : Int} {f : Nat → Int × Int} {m : Nat} {x : Int} (h : twB n d f m x = true) : twL n d f m x ≤ twH n d f m x := by
  simp only [twB, whB, Bool.and_eq_true, decide_eq_true_eq] at h
  exact h.2.2
theorem of_upI {x n t : Int} (hn : 0 < n) (h : upI x n ≤ t) : x ≤ t * n := by
  rw [← upI_neg hn] at h
  have h2 : -t ≤ -x / n := by omega
  have h3 := (Int.le_ediv_iff_mul_le hn).1 h2
  rw [Int.neg_mul] at h3
  omega
theorem of_dnI {x n t : Int} (hn : 0 < n) (h : t ≤ dnI x n) : t * n ≤ x := (Int.le_ediv_iff_mul_le hn).1 h
theorem cl_may {n d b v : Int} (h : ctB n d b = true) : mcB n d b (clI n d b v) = true := by
  have ⟨h1, h2, h3, h4, h5⟩ := clI_in (t := v) h
  have ⟨d1, d2, d3, d4⟩ := okD_t h2
  exact mcB_of h2 h1 h3 (of_upI (by omega) h4) (of_dnI (by omega) h5)
theorem mkL_get (n d t c : Int) (f : Nat → Int × Int) (k i : Nat) (hi : i ≤ k) : (mkL n d t c f k).getD i (0, 0) = mkM n d t c f i := by
  have : i < k + 1 := by omega
  simp [mkL, List.getD_eq_getElem?_getD, this]
theorem run_marks {n d t c : Int} {f : Nat → Int × Int} {m : Nat} (h : (runL n d t c f m).length ≠ 0) : mrB n d (fun i => (runL n d t c f m).getD i (0, 0)) (runL n d t c f m).length 1 = true := by
  cases hg : runG n d t c m
  · simp [runL, hg] at h
  have e : runL n d t c f m = mkL n d t c f (runN n d t c f m) := by simp [runL, hg]
  rw [e, mkL_len]
  simp only [runG, Bool.and_eq_true, decide_eq_true_eq] at hg
  have hle := runN_le (n := n) (d := d) (t := t) (c := c) (f := f) m
  have hst := runN_step (n := n) (d := d) (t := t) (c := c) (f := f) m
  generalize runN n d t c f m = k at *
  have hok : ∀ i, i ≤ k → okO n d (mkM n d t c f i).1 (mkM n d t c f i).2 = true := fun i hi => mkM_ok hg.1 fun j hj => hst j (by omega)
  refine mrB_of (mkB_of (okO_t hg.1).1 (by omega) (by omega) fun i hi => ?_) (prB_of fun i hi j hj hb => ?_)
  · rw [mkL_get _ _ _ _ _ _ _ (by omega)]; exact (okO_t (hok i (by omega))).2
  · have ej : i = j + 1 := by omega
    subst ej
    unfold two; dsimp only
    rw [mkL_get _ _ _ _ _ _ _ (by omega), mkL_get _ _ _ _ _ _ _ (by omega)]
    have hs := hst j (by omega)
    simp only [stepAt, stepB, Bool.and_eq_true] at hs
    have e1 : (mkM n d t c f (j + 1)).1 - (mkM n d t c f j).1 = (f j).1 := by simp only [mkM]; omega
    have e2 : (mkM n d t c f (j + 1)).2 - (mkM n d t c f j).2 = clI n d (f j).1 (f j).2 := by simp only [mkM]; omega
    rw [e1, e2]
    exact cl_may hs.1.1.2
theorem elapsed_holds {n d : Int} {f : Nat → Int × Int} {m i j : Nat} (hr : mrB n d f m 1 = true) (hij : i ≤ j) (hj : j < m) (hb : btB n d ((f j).2 - (f i).2) = true) :
    holdsI (upI (((f j).2 - (f i).2) * d) (d + n)) (dnI (((f j).2 - (f i).2) * d) (d - n)) ((f j).1 - (f i).1) = true := by
  have ⟨hD, _, _, _⟩ := mkB_t (mrB_t hr).1
  have ⟨d1, d2, d3, d4⟩ := okD_t hD
  have hm : ((f j).1 - (f i).1) * (d - n) ≤ ((f j).2 - (f i).2) * d ∧ ((f j).2 - (f i).2) * d ≤ ((f j).1 - (f i).1) * (d + n) := by
    by_cases e : i = j
    · subst e; simp
    · have ⟨_, _, _, a4, a5⟩ := mcB_y (two_lt hr (show i < j by omega) hj)
      exact ⟨a4, a5⟩
  have g1 := le_upI (show (0 : Int) < d + n by omega) hm.2
  have g2 := dnI_le (show (0 : Int) < d - n by omega) hm.1
  have ⟨k1, k2⟩ := bt_ok hb
  have ⟨a1, a2⟩ := okT_t k1
  have ⟨b1, b2⟩ := okT_t k2
  exact holds_mk3 (okI_of (by omega) (by omega) (by omega)) g1 g2
theorem mr_zero (n d : Int) (f : Nat → Int × Int) (b : Nat) : mrB n d f 0 b = false := mrB_k (mkB_n (by omega))
theorem tmod_in {x : Int} {k : Nat} (h0 : 0 ≤ x) (hk : 1 ≤ k) : ∃ r : Nat, x.tmod (k : Int) = (r : Int) ∧ r < k := by
  have e : x.tmod (k : Int) = x % (k : Int) := Int.tmod_eq_emod_of_nonneg h0
  have a := Int.emod_nonneg x (b := (k : Int)) (by omega)
  have b := Int.emod_lt_of_pos x (show (0 : Int) < (k : Int) by omega)
  exact ⟨(x % (k : Int)).toNat, by rw [e]; omega, by omega⟩
end Go.Proofs.Ytdgfneloaopleaa
