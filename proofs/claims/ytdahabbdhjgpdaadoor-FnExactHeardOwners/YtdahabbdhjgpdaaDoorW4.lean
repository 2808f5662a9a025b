/- Contracts of Meet and Join. -/
import Derived.Test.YtdahabbdhjgpdaaDoorW2
import Derived.WalkKit
import Derived.WalkSpells
import Derived.WalkLawsBesides
import Derived.Deep.RegionHeld
namespace Go.Proofs.YtdahabbdhjgpdaaDoor
open Go.RowKit
set_option linter.unusedVariables false
end Go.Proofs.YtdahabbdhjgpdaaDoor
