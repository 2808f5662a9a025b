/- Contracts of the small functions of chapter 2 (drift) in the specification and in the program. -/
import Derived.Test.YtddjiamollfplaaDoorW6
import Derived.WalkKit
import Derived.WalkSpells
import Derived.WalkLawsBesides
import Derived.Deep.RegionHeld
namespace Go.Proofs.YtddjiamollfplaaDoor
open Go.RowKit
set_option linter.unusedVariables false
theorem mul_bd {x y X Y : Int} (h1 : 0 ≤ x) (h2 : x ≤ X) (h3 : 0 ≤ y) (h4 : y ≤ Y) : 0 ≤ x * y ∧ x * y ≤ X * Y :=
  ⟨Int.mul_nonneg h1 h3, Int.mul_le_mul h2 h4 h3 (Int.le_trans h1 h2)⟩
def okD (n d : Int) : Bool := decide (1 ≤ d ∧ d ≤ 1000000 ∧ 0 ≤ n ∧ 2 * n ≤ d)
theorem okD_t {n d : Int} (h : okD n d = true) : 1 ≤ d ∧ d ≤ 1000000 ∧ 0 ≤ n ∧ 2 * n ≤ d := of_decide_eq_true h
theorem okD_f {n d : Int} (h : okD n d = false) : ¬ (1 ≤ d ∧ d ≤ 1000000 ∧ 0 ≤ n ∧ 2 * n ≤ d) := of_decide_eq_false h
def okT (t : Int) : Bool := decide (0 ≤ t ∧ t ≤ 1000000000000)
theorem okT_t {t : Int} (h : okT t = true) : 0 ≤ t ∧ t ≤ 1000000000000 := of_decide_eq_true h
theorem okT_f {t : Int} (h : okT t = false) : ¬ (0 ≤ t ∧ t ≤ 1000000000000) := of_decide_eq_false h
def dnI (x n : Int) : Int := x / n
def upI (x n : Int) : Int := (x + n - 1) / n
theorem div_bd {x n : Int} (hx : 0 ≤ x) (hn : 0 < n) : 0 ≤ x / n ∧ x / n ≤ x :=
  ⟨Int.ediv_nonneg hx (by omega), Int.ediv_le_self n hx⟩
theorem dnI_bd {x n : Int} (hx : 0 ≤ x) (hn : 0 < n) : 0 ≤ dnI x n ∧ dnI x n ≤ x := div_bd hx hn
theorem upI_neg {x n : Int} (hn : 0 < n) : -(-x / n) = upI x n := by
  have a := Int.emod_add_mul_ediv (-x) n
  have b := Int.emod_nonneg (-x) (b := n) (by omega)
  have c := Int.emod_lt_of_pos (-x) hn
  unfold upI
  generalize -x / n = q at a ⊢
  generalize -x % n = r at a b c
  have e : x + n - 1 = (n - 1 - r) + n * -q := by rw [Int.mul_neg]; omega
  have z : (n - 1 - r) / n = 0 := Int.ediv_eq_zero_of_lt (by omega) (by omega)
  rw [e, Int.add_mul_ediv_left _ _ (by omega), z]
  omega
theorem upI_bd {x n : Int} (hx : 0 ≤ x) (hn : 0 < n) : 0 ≤ upI x n ∧ upI x n ≤ x := by
  have h0 : 0 ≤ upI x n := Int.ediv_nonneg (by omega) (by omega)
  refine ⟨h0, ?_⟩
  rw [← upI_neg hn] at h0 ⊢
  have a := Int.emod_add_mul_ediv (-x) n
  have b := Int.emod_nonneg (-x) (b := n) (by omega)
  have d := Int.emod_lt_of_pos (-x) hn
  generalize -x / n = q at a h0 ⊢
  generalize -x % n = r at a b d
  by_cases hq : q = 0
  · omega
  · have c : (n - 1) * 1 ≤ (n - 1) * -q := Int.mul_le_mul_of_nonneg_left (by omega) (by omega)
    rw [Int.sub_mul n 1 (-q), Int.mul_neg, Int.one_mul] at c
    omega
end Go.Proofs.YtddjiamollfplaaDoor
