/- RateOf in the specification. -/
import Derived.Test.YtblappilppfkiaaDoorF115
import Derived.Test.YtblappilppfkiaaDoorW2
import Derived.WalkKit
import Derived.WalkSpells
import Derived.WalkLawsBesides
import Derived.Deep.RegionHeld
namespace Go.Proofs.YtblappilppfkiaaDoor
open Go.RowKit
set_option linter.unusedVariables false
def roB (al ah ca bl bh cb : Int) : Bool := okI al ah && okI bl bh && decide (0 ≤ ca ∧ ca < cb ∧ cb ≤ 1000000000000 ∧ al ≤ bh)
def roX (al ah ca bl bh cb : Int) : Int := if roB al ah ca bl bh cb = true then foX (imx 0 (bl - ah)) (cb - ca) else 0
def roY (al ah ca bl bh cb : Int) : Int := if roB al ah ca bl bh cb = true then foY (imx 0 (bl - ah)) (cb - ca) else 0
def roZ (al ah ca bl bh cb : Int) : Int := if roB al ah ca bl bh cb = true then foX (bh - al) (cb - ca) else 0
def roU (al ah ca bl bh cb : Int) : Int := if roB al ah ca bl bh cb = true then foY (bh - al) (cb - ca) else 0
theorem ro_t {al ah ca bl bh cb : Int} (h : roB al ah ca bl bh cb = true) : roX al ah ca bl bh cb = foX (imx 0 (bl - ah)) (cb - ca) ∧ roY al ah ca bl bh cb = foY (imx 0 (bl - ah)) (cb - ca) ∧ roZ al ah ca bl bh cb = foX (bh - al) (cb - ca) ∧ roU al ah ca bl bh cb = foY (bh - al) (cb - ca) := ⟨if_pos h, if_pos h, if_pos h, if_pos h⟩
theorem ro_f {al ah ca bl bh cb : Int} (h : roB al ah ca bl bh cb = false) : roX al ah ca bl bh cb = 0 ∧ roY al ah ca bl bh cb = 0 ∧ roZ al ah ca bl bh cb = 0 ∧ roU al ah ca bl bh cb = 0 := by
  have h' : ¬ roB al ah ca bl bh cb = true := by rw [h]; decide
  exact ⟨if_neg h', if_neg h', if_neg h', if_neg h'⟩
end Go.Proofs.YtblappilppfkiaaDoor
