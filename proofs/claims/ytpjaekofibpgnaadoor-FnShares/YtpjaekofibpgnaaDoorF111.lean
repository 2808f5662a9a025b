/- Fractions: their order without any bound, lowest terms. -/
import Derived.Test.YtpjaekofibpgnaaDoorW1
import Derived.WalkKit
import Derived.WalkSpells
import Derived.WalkLawsBesides
import Derived.Deep.RegionHeld
namespace Go.Proofs.YtpjaekofibpgnaaDoor
open Go.RowKit
set_option linter.unusedVariables false
/- The sign of a number; how two fractions stand to one another, without any bound. -/
def sgn (z : Int) : Int := if z < 0 then -1 else if 0 < z then 1 else 0
def cmpF (a b p q : Int) : Int := sgn (a * q - p * b)
theorem sgn_neg {z : Int} (h : z < 0) : sgn z = -1 := if_pos h
theorem sgn_pos {z : Int} (h : 0 < z) : sgn z = 1 := by rw [sgn, if_neg (by omega), if_pos h]
theorem sgn_zero {z : Int} (h : z = 0) : sgn z = 0 := by rw [sgn, if_neg (by omega), if_neg (by omega)]
theorem sgn_opp (z : Int) : sgn (-z) = -sgn z := by unfold sgn; split <;> split <;> (try split) <;> (try split) <;> omega
theorem cmp_opp (a b p q : Int) : cmpF p q a b = -cmpF a b p q := by
  rw [cmpF, cmpF, ← sgn_opp]
  congr 1
  omega
/- One step of the comparison: the whole parts, then what is left, turned round. -/
theorem cmp_parts {a b p q : Int} (hb : 0 < b) (hq : 0 < q) : a * q - p * b = (a / b - p / q) * (b * q) + ((a - a / b * b) * q - (p - p / q * q) * b) := by
  generalize a / b = x
  generalize p / q = y
  rw [Int.sub_mul, Int.sub_mul, Int.sub_mul, Int.mul_assoc x b q, Int.mul_assoc y q b, Int.mul_comm q b]
  omega
theorem left_in {a b : Int} (hb : 0 < b) : 0 ≤ a - a / b * b ∧ a - a / b * b < b := by
  have h1 := Int.emod_nonneg a (b := b) (by omega)
  have h2 := Int.emod_lt_of_pos a hb
  have h3 := Int.mul_ediv_add_emod a b
  rw [Int.mul_comm] at h3
  omega
theorem cmp_less {a b p q : Int} (hb : 0 < b) (hq : 0 < q) (h : a / b < p / q) : cmpF a b p q = -1 := by
  refine sgn_neg ?_
  rw [cmp_parts hb hq]
  obtain ⟨r0, r1⟩ := left_in (a := a) hb
  obtain ⟨s0, _⟩ := left_in (a := p) hq
  generalize a - a / b * b = r at *
  generalize p - p / q * q = s at *
  have hbq : 0 < b * q := Int.mul_pos hb hq
  have e1 : (a / b - p / q) * (b * q) ≤ -1 * (b * q) := Int.mul_le_mul_of_nonneg_right (by omega) (by omega)
  have e2 : r * q ≤ (b - 1) * q := Int.mul_le_mul_of_nonneg_right (by omega) (by omega)
  have e3 : 0 ≤ s * b := Int.mul_nonneg s0 (by omega)
  rw [Int.sub_mul] at e2
  omega
theorem cmp_more {a b p q : Int} (hb : 0 < b) (hq : 0 < q) (h : p / q < a / b) : cmpF a b p q = 1 := by
  have := cmp_less hq hb h
  rw [cmp_opp a b p q] at this
  omega
theorem cmp_same {a b p q : Int} (hb : 0 < b) (hq : 0 < q) (h : a / b = p / q) : cmpF a b p q = sgn ((a - a / b * b) * q - (p - p / q * q) * b) := by
  rw [cmpF, cmp_parts hb hq, h, Int.sub_self, Int.zero_mul, Int.zero_add]
theorem cmp_turn (q s b r : Int) : sgn (r * q - s * b) = cmpF q s b r := by
  rw [cmpF]
  congr 1
  rw [Int.mul_comm r q, Int.mul_comm s b]
/- The greatest common divisor by remainders that may be below 0. -/
theorem gcd_step (a b : Int) : Int.gcd b (a.tmod b) = Int.gcd a b := by
  rw [Int.gcd, Int.gcd, Int.natAbs_tmod, Nat.gcd_comm, ← Nat.gcd_rec, Nat.gcd_comm]
theorem gcd_end (a : Int) : (Int.gcd a 0 : Int) = if a < 0 then -a else a := by
  rw [Int.gcd_zero_right]
  split <;> omega
theorem gcd_less {a b : Int} (hb : b ≠ 0) : (a.tmod b).natAbs < b.natAbs := by
  rw [Int.natAbs_tmod]
  exact Nat.mod_lt _ (by omega)
theorem gcd_pos {a b : Int} (hb : b ≠ 0) : 0 < (Int.gcd a b : Int) := by
  have := Int.gcd_pos_of_ne_zero_right a hb
  omega
/- A fraction in lowest terms: what FracOf comes to. -/
def foG (x y : Int) : Int := if y < 0 then -(Int.gcd x y : Int) else (Int.gcd x y : Int)
def foN (x y : Int) : Int := x.tdiv (foG x y)
def foD (x y : Int) : Int := y.tdiv (foG x y)
theorem foG_ne {x y : Int} (hy : y ≠ 0) : foG x y ≠ 0 := by
  have := gcd_pos (a := x) hy
  unfold foG
  split <;> omega
theorem fo_exact {x y : Int} : foN x y * foG x y = x ∧ foD x y * foG x y = y := by
  have h1 : foG x y ∣ x := by
    unfold foG
    split
    · exact Int.neg_dvd.2 (Int.gcd_dvd_left ..)
    · exact Int.gcd_dvd_left ..
  have h2 : foG x y ∣ y := by
    unfold foG
    split
    · exact Int.neg_dvd.2 (Int.gcd_dvd_right ..)
    · exact Int.gcd_dvd_right ..
  exact ⟨Int.tdiv_mul_cancel h1, Int.tdiv_mul_cancel h2⟩
theorem fo_pos {x y : Int} (hy : y ≠ 0) : 0 < foD x y := by
  have h := (fo_exact (x := x) (y := y)).2
  have hg := gcd_pos (a := x) hy
  unfold foG at h
  by_cases hn : y < 0
  · rw [if_pos hn] at h
    refine Int.lt_of_not_ge fun hc => ?_
    have := Int.mul_nonneg_of_nonpos_of_nonpos hc (show -(Int.gcd x y : Int) ≤ 0 by omega)
    omega
  · rw [if_neg hn] at h
    refine Int.lt_of_not_ge fun hc => ?_
    have := Int.mul_nonneg (show 0 ≤ -foD x y by omega) (show 0 ≤ (Int.gcd x y : Int) by omega)
    rw [Int.neg_mul] at this
    omega
theorem fo_low {x y : Int} (hy : y ≠ 0) : Int.gcd (foN x y) (foD x y) = 1 := by
  obtain ⟨h1, h2⟩ := fo_exact (x := x) (y := y)
  have hg : 0 < Int.gcd x y := Int.gcd_pos_of_ne_zero_right x hy
  have e : Int.gcd (foN x y * foG x y) (foD x y * foG x y) = Int.gcd (foN x y) (foD x y) * (foG x y).natAbs := Int.gcd_mul_right ..
  rw [h1, h2] at e
  have eg : (foG x y).natAbs = Int.gcd x y := by unfold foG; split <;> simp
  rw [eg] at e
  exact Nat.eq_of_mul_eq_mul_right hg (by rw [Nat.one_mul]; exact e.symm)
theorem dn_scale {x n g : Int} (hg : 0 < g) : (x * g) / (n * g) = x / n := Int.mul_ediv_mul_of_pos_left x n hg
theorem cmp_le {a b p q : Int} : cmpF a b p q ≤ 0 ↔ a * q ≤ p * b := by unfold cmpF sgn; split <;> (try split) <;> omega
theorem cmp_ge {a b p q : Int} : 0 ≤ cmpF a b p q ↔ p * b ≤ a * q := by unfold cmpF sgn; split <;> (try split) <;> omega
theorem cmp_trans {x y t c u v : Int} (hy : 0 < y) (hc : 0 < c) (hv : 0 < v) (h1 : cmpF x y t c ≤ 0) (h2 : cmpF t c u v ≤ 0) : cmpF x y u v ≤ 0 := by
  rw [cmp_le] at h1 h2 ⊢
  have a1 := Int.mul_le_mul_of_nonneg_right h1 (show 0 ≤ v by omega)
  have a2 := Int.mul_le_mul_of_nonneg_right h2 (show 0 ≤ y by omega)
  have e : t * y * v = t * v * y := by rw [Int.mul_assoc, Int.mul_comm y v, ← Int.mul_assoc]
  have e1 : x * c * v = x * v * c := by rw [Int.mul_assoc, Int.mul_comm c v, ← Int.mul_assoc]
  have e2 : u * c * y = u * y * c := by rw [Int.mul_assoc, Int.mul_comm c y, ← Int.mul_assoc]
  exact Int.le_of_mul_le_mul_right (show x * v * c ≤ u * y * c by omega) hc
theorem cmp_scale {a b p q g : Int} (hg : 0 < g) : cmpF (a * g) (b * g) p q = cmpF a b p q := by
  have e : a * g * q - p * (b * g) = (a * q - p * b) * g := by
    rw [Int.sub_mul, Int.mul_assoc a g q, Int.mul_comm g q, ← Int.mul_assoc a q g, ← Int.mul_assoc p b g]
  rw [cmpF, cmpF, e]
  generalize a * q - p * b = z
  rcases Int.lt_trichotomy z 0 with h | h | h
  · rw [sgn_neg h, sgn_neg (Int.mul_neg_of_neg_of_pos h hg)]
  · rw [h, Int.zero_mul]
  · rw [sgn_pos h, sgn_pos (Int.mul_pos h hg)]
theorem foG_pos {x y : Int} (hy : 0 < y) : 0 < foG x y := by
  have := gcd_pos (a := x) (b := y) (by omega)
  rw [foG, if_neg (by omega)]
  exact this
/- A fraction in lowest terms stands where it stood. -/
theorem cmp_fo {x y p q : Int} (hy : 0 < y) : cmpF (foN x y) (foD x y) p q = cmpF x y p q := by
  obtain ⟨h1, h2⟩ := fo_exact (x := x) (y := y)
  rw [← cmp_scale (foG_pos hy), h1, h2]
theorem cmp_fo' {x y p q : Int} (hy : 0 < y) : cmpF p q (foN x y) (foD x y) = cmpF p q x y := by
  rw [cmp_opp, cmp_fo hy, ← cmp_opp]
end Go.Proofs.YtpjaekofibpgnaaDoor
