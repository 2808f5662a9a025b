/- Contracts of Nearest and Within. -/
import Derived.Test.YtcakhfobkbgfoaaDoorW2
import Derived.WalkKit
import Derived.WalkSpells
import Derived.WalkLawsBesides
import Derived.Deep.RegionHeld
namespace Go.Proofs.YtcakhfobkbgfoaaDoor
open Go.RowKit
set_option linter.unusedVariables false
def nearI (lo hi t : Int) : Int := match okI lo hi with | true => imn (imx t lo) hi | false => 0
theorem nearI_t {lo hi t : Int} (h : okI lo hi = true) : nearI lo hi t = imn (imx t lo) hi := by rw [nearI, h]
theorem nearI_f {lo hi t : Int} (h : okI lo hi = false) : nearI lo hi t = 0 := by rw [nearI, h]
def withinI (al ah bl bh : Int) : Bool := okII al ah bl bh && decide (bl ≤ al ∧ ah ≤ bh)
end Go.Proofs.YtcakhfobkbgfoaaDoor
