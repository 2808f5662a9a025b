/- Numbers of FnFracs: fractions that stand alike are the same. -/
import Derived.Test.YtblappilppfkiaaDoorF133
import Derived.WalkKit
import Derived.WalkSpells
import Derived.WalkLawsBesides
import Derived.Deep.RegionHeld
namespace Go.Proofs.YtblappilppfkiaaDoor
open Go.RowKit
set_option linter.unusedVariables false
/- Two fractions in lowest terms that stand alike are the same. -/
theorem low_dvd {a b p q : Int} (hb : 0 < b) (h : Int.gcd a b = 1) (e : a * q = p * b) : b ∣ q := by
  have h1 : b ∣ a * q := ⟨p, by rw [e, Int.mul_comm]⟩
  have h2 : b.natAbs ∣ a.natAbs * q.natAbs := by rw [← Int.natAbs_mul]; exact Int.natAbs_dvd_natAbs.2 h1
  have h3 : Nat.Coprime b.natAbs a.natAbs := by
    rw [Nat.Coprime, Nat.gcd_comm]
    exact h
  exact Int.natAbs_dvd_natAbs.1 (h3.dvd_of_dvd_mul_left h2)
theorem low_same {a b p q : Int} (h1 : okF a b = true) (h2 : okF p q = true) (h : cmpF a b p q = 0) : a = p ∧ b = q := by
  obtain ⟨_, b1, g1⟩ := okF_t h1
  obtain ⟨_, q1, g2⟩ := okF_t h2
  have e1 : a * q ≤ p * b := cmp_le.1 (by omega)
  have e2 : p * b ≤ a * q := cmp_ge.1 (by omega)
  have e : a * q = p * b := by omega
  have d1 := low_dvd (by omega) g1 e
  have d2 := low_dvd (by omega) g2 e.symm
  have hbq : b = q := Int.dvd_antisymm (by omega) (by omega) d1 d2
  subst hbq
  exact ⟨Int.eq_of_mul_eq_mul_right (by omega) e, rfl⟩
theorem cmp_self (a b : Int) : cmpF a b a b = 0 := sgn_zero (by omega)
theorem cmp_three {a b p q : Int} : cmpF a b p q = -1 ∨ cmpF a b p q = 0 ∨ cmpF a b p q = 1 := by
  unfold cmpF
  rcases Int.lt_trichotomy (a * q - p * b) 0 with h | h | h
  · exact .inl (sgn_neg h)
  · exact .inr (.inl (sgn_zero h))
  · exact .inr (.inr (sgn_pos h))
theorem sgn_gt {z : Int} : (0 < sgn z) ↔ 0 < z := by unfold sgn; split <;> (try split) <;> omega
/- What was and its lowest terms are worth the same. -/
theorem fo_worth {x y : Int} (h : foB x y = true) : foX x y * y = x * foY x y := by
  rw [(fo_t h).1, (fo_t h).2]
  obtain ⟨h1, h2⟩ := fo_exact (x := x) (y := y)
  have e1 : foN x y * y = foN x y * (foD x y * foG x y) := by rw [h2]
  have e2 : x * foD x y = foN x y * foG x y * foD x y := by rw [h1]
  rw [e1, e2, Int.mul_assoc, Int.mul_comm (foG x y)]
theorem fo_bd {x y : Int} (h : foB x y = true) : (foX x y).natAbs ≤ x.natAbs ∧ (foY x y).natAbs ≤ y.natAbs := by
  rw [(fo_t h).1, (fo_t h).2]
  unfold foN foD
  rw [Int.natAbs_tdiv, Int.natAbs_tdiv]
  exact ⟨Nat.div_le_self _ _, Nat.div_le_self _ _⟩
def siz (x : Int) : Int := if x < 0 then -x else x
theorem siz_bd {x m : Int} (h : siz x < m) : -m < x ∧ x < m := by
  unfold siz at h
  split at h <;> omega
theorem prod_bd {x y : Int} (h1 : -1000000 < x) (h2 : x < 1000000) (h3 : -1000000 < y) (h4 : y < 1000000) : -1000000000000 ≤ x * y ∧ x * y ≤ 1000000000000 := by
  have a1 : (x * y).natAbs ≤ 1000000 * 1000000 := by rw [Int.natAbs_mul]; exact Nat.mul_le_mul (by omega) (by omega)
  omega
end Go.Proofs.YtblappilppfkiaaDoor
