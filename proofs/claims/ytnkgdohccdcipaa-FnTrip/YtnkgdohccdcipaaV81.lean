/- Numbers: what a trip bounds holds the time at which it came, and what is carried on each later one. -/
import Derived.Test.YtnkgdohccdcipaaR84
import Derived.Test.YtnkgdohccdcipaaR82
import Derived.Test.YtnkgdohccdcipaaM1
import Derived.WalkKit
import Derived.WalkSpells
import Derived.WalkLawsBesides
import Derived.Deep.RegionHeld
namespace Go.Proofs.Ytnkgdohccdcipaa
open Go.RowKit
set_option linter.unusedVariables false
theorem of_up8 {x n t : Int} (hn : 0 < n) (h : upI x n ≤ t) : x ≤ t * n := by
  rw [← upI_neg hn] at h
  have h2 : -t ≤ -x / n := by omega
  have h3 := (Int.le_ediv_iff_mul_le hn).1 h2
  rw [Int.neg_mul] at h3
  omega
theorem of_dn8 {x n t : Int} (hn : 0 < n) (h : t ≤ dnI x n) : t * n ≤ x := (Int.le_ediv_iff_mul_le hn).1 h
theorem clI_in8 {n d x t : Int} (h : ctB n d x = true) : okT x = true ∧ okD n d = true ∧ okT (clI n d x t) = true ∧ upI (x * (d - n)) d ≤ clI n d x t ∧ clI n d x t ≤ dnI (x * (d + n)) d := by
  have ⟨h1, h2⟩ : rB n d x (upI (x * (d - n)) d) = true ∧ rB n d x (dnI (x * (d + n)) d) = true := by simp [ctB] at h; exact h
  have ⟨a1, a2, a3⟩ := rB_o h1
  have ⟨b1, b2, b3⟩ := rB_o h2
  have ⟨c1, c2⟩ := okT_t a3
  have ⟨e1, e2⟩ := okT_t b3
  have ⟨l1, l2⟩ := lc_le a1 a2
  have hm : upI (x * (d - n)) d ≤ clI n d x t ∧ clI n d x t ≤ dnI (x * (d + n)) d := by
    unfold clI imn imx; split <;> split <;> constructor <;> omega
  exact ⟨a2, a1, decide_eq_true ⟨by omega, by omega⟩, hm.1, hm.2⟩
theorem cl_may8 {n d b v : Int} (h : ctB n d b = true) : mcB n d b (clI n d b v) = true := by
  have ⟨h1, h2, h3, h4, h5⟩ := clI_in8 (t := v) h
  have ⟨d1, d2, d3, d4⟩ := okD_t h2
  exact mcB_of h2 h1 h3 (of_up8 (by omega) h4) (of_dn8 (by omega) h5)
theorem tf_all {n d fr lo hi s g p m q : Int} (h : tfB n d fr lo hi s g p m q = true) : trB fr lo hi s g = true ∧ okD n d = true ∧ (0 ≤ p ∧ p ≤ m ∧ m ≤ q ∧ q ≤ 1000000000000) ∧ holdsI lo hi m = true ∧ mcB n d (q - p) (g - s) = true := by
  simp only [tfB, Bool.and_eq_true, decide_eq_true_eq] at h
  exact ⟨h.1.1.1.1, h.1.1.1.2, h.1.1.2, h.1.2, h.2⟩
theorem mc_all {n d t c : Int} (h : mcB n d t c = true) : okD n d = true ∧ okT t = true ∧ okT c = true ∧ t * (d - n) ≤ c * d ∧ c * d ≤ t * (d + n) := by
  simp only [mcB, Bool.and_eq_true, decide_eq_true_eq] at h
  exact ⟨h.1.1.1.1, h.1.1.1.2, h.1.1.2, h.1.2, h.2⟩
theorem ho_all {lo hi t : Int} (h : holdsI lo hi t = true) : okI lo hi = true ∧ lo ≤ t ∧ t ≤ hi := by
  simp only [holdsI, Bool.and_eq_true, decide_eq_true_eq] at h
  exact h
theorem ho_of {lo hi t : Int} (h : okI lo hi = true) (h1 : lo ≤ t) (h2 : t ≤ hi) : holdsI lo hi t = true := by
  simp only [holdsI, Bool.and_eq_true, decide_eq_true_eq]
  exact ⟨h, h1, h2⟩
theorem trip_holds {n d fr lo hi s g p m q : Int} (h : tfB n d fr lo hi s g p m q = true) (hz : tbC n d fr lo hi s g = 0) : holdsI (tbL n d fr lo hi s g) (tbH n d fr lo hi s g) q = true := by
  obtain ⟨t1, t2, ⟨t3, t4, t5, t6⟩, t7, t8⟩ := tf_all h
  obtain ⟨_, k2, k3⟩ := ho_all t7
  obtain ⟨m1, m2, m3, m4, m5⟩ := mc_all t8
  obtain ⟨d1, d2, d3, d4⟩ := okD_t m1
  obtain ⟨_, _, _, _, o⟩ := tb_ok hz
  obtain ⟨e1, e2, e3⟩ := tb_t (n := n) (d := d) t1
  rw [e1] at hz
  obtain ⟨_, r2, r3⟩ := rd_well (rdC_z hz)
  refine ho_of o ?_ ?_
  · rw [e2, r2]; omega
  · rw [e3, r3]
    have : q - p ≤ rdM n d (g - s) := dnI_le (by omega) m4
    omega
theorem trip_later {n d fr lo hi s g p m q t v : Int} (h : tfB n d fr lo hi s g p m q = true) (hz : tbC n d fr lo hi s g = 0) (hc : ctB n d t = true) (hl : ctC n d fr lo hi s g (g + clI n d t v) = 0) :
    holdsI (ctL n d fr lo hi s g (g + clI n d t v)) (ctH n d fr lo hi s g (g + clI n d t v)) (q + t) = true := by
  obtain ⟨m1, m2, m3, m4, m5⟩ := mc_all (cl_may8 (v := v) hc)
  obtain ⟨d1, d2, d3, d4⟩ := okD_t m1
  obtain ⟨_, k2, k3⟩ := ho_all (trip_holds h hz)
  rcases ct_cases n d fr lo hi s g (g + clI n d t v) with ⟨q1, _, _, _⟩ | ⟨_, _, _, q1, _, _⟩ | ⟨_, _, _, q1, _, _⟩ | ⟨_, _, q1, _, q2, q3⟩
  · exact absurd hz q1
  · rw [q1] at hl; exact absurd hl (by decide)
  · rw [q1] at hl; exact absurd hl (by decide)
  · obtain ⟨_, _, o⟩ := cr_ok q1
    rw [q2, q3]
    refine ho_of o ?_ ?_
    · rw [crL, if_pos q1, show g + clI n d t v - g = clI n d t v by omega]
      have := le_upI (x := clI n d t v * d) (n := d + n) (t := t) (by omega) m5
      omega
    · rw [crH, if_pos q1, show g + clI n d t v - g = clI n d t v by omega]
      have := dnI_le (x := clI n d t v * d) (n := d - n) (t := t) (by omega) m4
      omega
theorem fits_one : tfB 0 1 0 2 3 0 5 0 2 5 = true := by decide
end Go.Proofs.Ytnkgdohccdcipaa
