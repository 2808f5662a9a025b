/- Contracts of Apart and Middle. -/
import Derived.Test.YtddjiamollfplaaDoorW2
import Derived.WalkKit
import Derived.WalkSpells
import Derived.WalkLawsBesides
import Derived.Deep.RegionHeld
namespace Go.Proofs.YtddjiamollfplaaDoor
open Go.RowKit
set_option linter.unusedVariables false
theorem i64wrap {x : Int} (h1 : -9000000000000000000 ≤ x) (h2 : x ≤ 9000000000000000000) : IntKind.i64.wrap x = x := Go.IntWalk.i64_in _ ⟨by omega, by omega⟩
def apartI (al ah bl bh : Int) : Int := match okII al ah bl bh with | true => imx 0 (imx al bl - imn ah bh) | false => -1
theorem apartI_t {al ah bl bh : Int} (h : okII al ah bl bh = true) : apartI al ah bl bh = imx 0 (imx al bl - imn ah bh) := by rw [apartI, h]
theorem apartI_f {al ah bl bh : Int} (h : okII al ah bl bh = false) : apartI al ah bl bh = -1 := by rw [apartI, h]
theorem imx_bd {x y : Int} (h1 : -1000000000000 ≤ x) (h2 : x ≤ 1000000000000) (h3 : -1000000000000 ≤ y) (h4 : y ≤ 1000000000000) : -1000000000000 ≤ imx x y ∧ imx x y ≤ 1000000000000 := by unfold imx; split <;> omega
theorem imn_bd {x y : Int} (h1 : -1000000000000 ≤ x) (h2 : x ≤ 1000000000000) (h3 : -1000000000000 ≤ y) (h4 : y ≤ 1000000000000) : -1000000000000 ≤ imn x y ∧ imn x y ≤ 1000000000000 := by unfold imn; split <;> omega
theorem tdiv_bd (x n : Int) (h : 0 < n) : -(if x < 0 then -x else x) ≤ x.tdiv n ∧ x.tdiv n ≤ (if x < 0 then -x else x) := by
  have e : (x.tdiv n).natAbs = x.natAbs / n.natAbs := Int.natAbs_tdiv x n
  have l : x.natAbs / n.natAbs ≤ x.natAbs := Nat.div_le_self _ _
  generalize x.natAbs / n.natAbs = q at e l
  generalize x.tdiv n = y at e
  split <;> omega
theorem tdown (x n : Int) (h : 0 < n) (hm : x.tmod n < 0) : x / n = x.tdiv n - 1 := by
  rw [Int.tmod_eq_emod] at hm
  rw [Int.tdiv_eq_ediv]
  have hs : n.sign = 1 := Int.sign_eq_one_of_pos h
  have hr := Int.emod_nonneg x (b := n) (by omega)
  split at hm
  · omega
  · next hc => rw [if_neg hc, hs]; omega
theorem tdown' (x n : Int) (h : 0 < n) (hm : 0 ≤ x.tmod n) : x / n = x.tdiv n := by
  rw [Int.tmod_eq_emod] at hm
  rw [Int.tdiv_eq_ediv]
  have hs : n.sign = 1 := Int.sign_eq_one_of_pos h
  have hr := Int.emod_lt_of_pos x h
  split at hm
  · next hc => rw [if_pos hc]; omega
  · omega
def midI (lo hi : Int) : Int := match okI lo hi with | true => (lo + hi) / 2 | false => 0
theorem midI_t {lo hi : Int} (h : okI lo hi = true) : midI lo hi = (lo + hi) / 2 := by rw [midI, h]
theorem midI_f {lo hi : Int} (h : okI lo hi = false) : midI lo hi = 0 := by rw [midI, h]
end Go.Proofs.YtddjiamollfplaaDoor
