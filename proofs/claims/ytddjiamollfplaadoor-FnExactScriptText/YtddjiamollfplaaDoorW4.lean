/- Contracts of Meet and Join. -/
import Derived.Test.YtddjiamollfplaaDoorW2
import Derived.WalkKit
import Derived.WalkSpells
import Derived.WalkLawsBesides
import Derived.Deep.RegionHeld
namespace Go.Proofs.YtddjiamollfplaaDoor
open Go.RowKit
set_option linter.unusedVariables false
end Go.Proofs.YtddjiamollfplaaDoor
