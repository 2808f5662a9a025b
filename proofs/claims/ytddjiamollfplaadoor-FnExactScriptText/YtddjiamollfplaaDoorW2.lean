/- Contracts of the helpers of chapter 1 (told intervals, least and greatest, meet and join). -/
import Derived.Test.YtddjiamollfplaaDoorW1
import Derived.WalkKit
import Derived.WalkSpells
import Derived.WalkLawsBesides
namespace Go.Proofs.YtddjiamollfplaaDoor
open Go.RowKit
set_option linter.unusedVariables false
def sel (b : Bool) (x : Int) : Int := match b with | true => x | false => 0
theorem sel_t {b : Bool} (h : b = true) (x : Int) : sel b x = x := by rw [h]; rfl
theorem sel_f {b : Bool} (h : b = false) (x : Int) : sel b x = 0 := by rw [h]; rfl
def imn (x y : Int) : Int := if y < x then y else x
def imx (x y : Int) : Int := if y < x then x else y
theorem imn_l {x y : Int} (h : y < x) : imn x y = y := by simp [imn, h]
theorem imn_g {x y : Int} (h : ¬ y < x) : imn x y = x := by simp [imn, h]
theorem imx_l {x y : Int} (h : y < x) : imx x y = x := by simp [imx, h]
theorem imx_g {x y : Int} (h : ¬ y < x) : imx x y = y := by simp [imx, h]
theorem imn_comm (x y : Int) : imn x y = imn y x := by unfold imn; split <;> split <;> omega
theorem imx_comm (x y : Int) : imx x y = imx y x := by unfold imx; split <;> split <;> omega
def okII (al ah bl bh : Int) : Bool := okI al ah && okI bl bh
theorem okII_t {al ah bl bh : Int} (h : okII al ah bl bh = true) : okI al ah = true ∧ okI bl bh = true := by simpa [okII] using h
def shiftB (lo hi b : Int) : Bool := okI lo hi && decide (-2000000000000 ≤ b ∧ b ≤ 2000000000000) && okI (lo + b) (hi + b)
def spreadB (lo hi l g : Int) : Bool := okI lo hi && decide (0 ≤ l ∧ l ≤ 2000000000000 ∧ 0 ≤ g ∧ g ≤ 2000000000000) && okI (lo - l) (hi + g)
def meetB (al ah bl bh : Int) : Bool := okII al ah bl bh && okI (imx al bl) (imn ah bh)
def joinB (al ah bl bh : Int) : Bool := okII al ah bl bh
def plusB (al ah bl bh : Int) : Bool := okII al ah bl bh && okI (al + bl) (ah + bh)
def lessB (al ah bl bh : Int) : Bool := okII al ah bl bh && okI (al - bh) (ah - bl)
theorem join_ok {al ah bl bh : Int} (h : okII al ah bl bh = true) : okI (imn al bl) (imx ah bh) = true := by
  have ⟨h1, h2⟩ := okII_t h
  have ⟨a1, a2, a3⟩ := okI_t h1
  have ⟨b1, b2, b3⟩ := okI_t h2
  have : imn al bl ≤ imx ah bh ∧ -1000000000000 ≤ imn al bl ∧ imx ah bh ≤ 1000000000000 := by unfold imn imx; split <;> split <;> omega
  exact decide_eq_true this
end Go.Proofs.YtddjiamollfplaaDoor
