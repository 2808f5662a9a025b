/- The programs contracts of chapter 15 that stand without a goroutine. -/
import Derived.Test.YtnjoldjefknpbaaQ164
import Derived.Test.YtnjoldjefknpbaaQ165
import Derived.WalkKit
import Derived.WalkSpells
import Derived.WalkLawsBesides
import Derived.Deep.RegionHeld
namespace Go.Proofs.Ytnjoldjefknpbaa
open Go.RowKit
set_option linter.unusedVariables false
/- What stands of the program: FrameOk, BusOk, BusClashes, BusPut. -/
end Go.Proofs.Ytnjoldjefknpbaa
