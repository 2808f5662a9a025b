/- Numbers: what lies Between may be counted, and no others; clamped counts may be, and add up. -/
import Derived.Test.YtogapogkdgaobaaE3
import Derived.WalkKit
import Derived.WalkSpells
import Derived.WalkLawsBesides
import Derived.Deep.RegionHeld
import Derived.RegionTactic
import Derived.Deep.QuietTactic
import Derived.BigQuiet
namespace Go.Proofs.Ytogapogkdgaobaa
open Go.RowKit
set_option linter.unusedVariables false
theorem upI_lo {y m : Int} (hm : 0 < m) : y ≤ upI y m * m := by
  have h := Int.lt_ediv_add_one_mul_self (y + m - 1) hm
  unfold upI
  rw [Int.add_mul, Int.one_mul] at h
  omega
theorem upI_hi {y m : Int} (hm : 0 < m) : (upI y m - 1) * m < y := by
  have h := Int.ediv_mul_le (y + m - 1) (b := m) (by omega)
  unfold upI
  rw [Int.sub_mul, Int.one_mul]
  omega
theorem dnI_lo {y m : Int} (hm : 0 < m) : dnI y m * m ≤ y := Int.ediv_mul_le y (by omega)
theorem dnI_hi {y m : Int} (hm : 0 < m) : y < (dnI y m + 1) * m := Int.lt_ediv_add_one_mul_self y hm
theorem mul_l {x y z : Int} (hz : 0 ≤ z) (h : x ≤ y) : x * z ≤ y * z := Int.mul_le_mul_of_nonneg_right h hz
theorem mul_r {x y z : Int} (hz : 0 ≤ z) (h : x ≤ y) : z * x ≤ z * y := Int.mul_le_mul_of_nonneg_left h hz
theorem mcB_mk {n d t c : Int} (h1 : okD n d = true) (h2 : okT t = true) (h3 : okT c = true) (h4 : t * (d - n) ≤ c * d) (h5 : c * d ≤ t * (d + n)) : mcB n d t c = true := by
  rw [mcB_r h1 h2 h3 (decide_eq_true h4)]; exact decide_eq_true h5
theorem mcB_o {n d t c : Int} (h : mcB n d t c = true) : okD n d = true ∧ okT t = true ∧ okT c = true ∧ t * (d - n) ≤ c * d ∧ c * d ≤ t * (d + n) := by
  simp [mcB] at h; exact ⟨h.1.1.1.1, h.1.1.1.2, h.1.1.2, h.1.2, h.2⟩
theorem mcB_no {n d t c : Int} (h : ¬ (t * (d - n) ≤ c * d ∧ c * d ≤ t * (d + n))) : mcB n d t c = false := by
  cases e : mcB n d t c
  · rfl
  · exact absurd ⟨(mcB_o e).2.2.2.1, (mcB_o e).2.2.2.2⟩ h
theorem okT_mk {t : Int} (h1 : 0 ≤ t) (h2 : t ≤ 1000000000000) : okT t = true := decide_eq_true ⟨h1, h2⟩
theorem mc_same {n d x : Int} (h1 : okD n d = true) (h2 : okT x = true) : mcB n d x x = true := by
  have ⟨d1, d2, d3, d4⟩ := okD_t h1
  have ⟨t1, t2⟩ := okT_t h2
  exact mcB_mk h1 h2 h2 (mul_r t1 (by omega)) (mul_r t1 (by omega))
theorem bt_facts {n d x : Int} (h1 : rB n d x (upI (x * d) (d + n)) = true) (h2 : rB n d x (dnI (x * d) (d - n)) = true) :
    mcB n d (upI (x * d) (d + n)) x = true ∧ mcB n d (dnI (x * d) (d - n)) x = true ∧ mcB n d ((upI (x * d) (d + n)) - 1) x = false ∧ mcB n d ((dnI (x * d) (d - n)) + 1) x = false ∧ mcB n d x x = true := by
  have ⟨ho, ht, hl⟩ := rB_o h1
  have ⟨_, _, hm⟩ := rB_o h2
  have ⟨d1, d2, d3, d4⟩ := okD_t ho
  have ⟨t1, t2⟩ := okT_t ht
  have ⟨l1, l2⟩ := okT_t hl
  have ⟨m1, m2⟩ := okT_t hm
  have a1 : x * d ≤ x * (d + n) := mul_r t1 (by omega)
  have a2 : x * (d - n) ≤ x * d := mul_r t1 (by omega)
  have b1 : (upI (x * d) (d + n)) ≤ x := le_upI (by omega) a1
  have b2 : x ≤ (dnI (x * d) (d - n)) := dnI_le (by omega) a2
  have c1 := upI_lo (y := x * d) (m := d + n) (by omega)
  have c2 := upI_hi (y := x * d) (m := d + n) (by omega)
  have c3 := dnI_lo (y := x * d) (m := d - n) (by omega)
  have c4 := dnI_hi (y := x * d) (m := d - n) (by omega)
  have e1 := mul_l (z := d - n) (by omega) b1
  have e2 := mul_l (z := d + n) (by omega) b2
  refine ⟨mcB_mk ho hl ht (by omega) c1, mcB_mk ho hm ht c3 (by omega), mcB_no ?_, mcB_no ?_, mc_same ho ht⟩
  · intro h; omega
  · intro h; omega
theorem mc_in {n d x c : Int} (h1 : rB n d x (upI (x * (d - n)) d) = true) (h2 : rB n d x (dnI (x * (d + n)) d) = true) (hl : (upI (x * (d - n)) d) ≤ c) (hm : c ≤ (dnI (x * (d + n)) d)) : mcB n d x c = true := by
  have ⟨ho, ht, hl'⟩ := rB_o h1
  have ⟨_, _, hm'⟩ := rB_o h2
  have ⟨d1, d2, d3, d4⟩ := okD_t ho
  have ⟨l1, l2⟩ := okT_t hl'
  have ⟨m1, m2⟩ := okT_t hm'
  have c1 := upI_lo (y := x * (d - n)) (m := d) (by omega)
  have c3 := dnI_lo (y := x * (d + n)) (m := d) (by omega)
  have e1 := mul_l (z := d) (by omega) hl
  have e2 := mul_l (z := d) (by omega) hm
  exact mcB_mk ho ht (okT_mk (by omega) (by omega)) (by omega) (by omega)
theorem mc_out {n d x c : Int} (h : okD n d = true) (hc : c < (upI (x * (d - n)) d) ∨ (dnI (x * (d + n)) d) < c) : mcB n d x c = false := by
  have ⟨d1, d2, d3, d4⟩ := okD_t h
  refine mcB_no fun hh => ?_
  have a := le_upI (x := x * (d - n)) (n := d) (t := c) (by omega) hh.1
  have b := dnI_le (x := x * (d + n)) (n := d) (t := c) (by omega) hh.2
  omega
theorem cl_facts {n d x t : Int} (h1 : rB n d x (upI (x * (d - n)) d) = true) (h2 : rB n d x (dnI (x * (d + n)) d) = true) :
    (upI (x * (d - n)) d) ≤ clI n d x t ∧ clI n d x t ≤ (dnI (x * (d + n)) d) ∧ (clI n d x t < t → clI n d x t = (dnI (x * (d + n)) d)) ∧ (t < clI n d x t → clI n d x t = (upI (x * (d - n)) d)) := by
  have hk := (okI_t (ct_near h1 h2)).1
  unfold clI imn imx
  split <;> split <;> omega
theorem mc_add {n d x c y k : Int} (h1 : mcB n d x c = true) (h2 : mcB n d y k = true) (h3 : x + y ≤ 1000000000000) (h4 : c + k ≤ 1000000000000) : mcB n d (x + y) (c + k) = true := by
  have ⟨a1, a2, a3, a4, a5⟩ := mcB_o h1
  have ⟨b1, b2, b3, b4, b5⟩ := mcB_o h2
  have ⟨t1, t2⟩ := okT_t a2
  have ⟨u1, u2⟩ := okT_t a3
  have ⟨v1, v2⟩ := okT_t b2
  have ⟨w1, w2⟩ := okT_t b3
  refine mcB_mk a1 (okT_mk (by omega) (by omega)) (okT_mk (by omega) (by omega)) ?_ ?_
  · rw [Int.add_mul, Int.add_mul]; omega
  · rw [Int.add_mul, Int.add_mul]; omega
end Go.Proofs.Ytogapogkdgaobaa
