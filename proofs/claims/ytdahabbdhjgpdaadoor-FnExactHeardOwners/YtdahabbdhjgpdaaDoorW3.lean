/- Contracts of Shift and Spread. -/
import Derived.Test.YtdahabbdhjgpdaaDoorW2
import Derived.WalkKit
import Derived.WalkSpells
import Derived.WalkLawsBesides
namespace Go.Proofs.YtdahabbdhjgpdaaDoor
open Go.RowKit
set_option linter.unusedVariables false
end Go.Proofs.YtdahabbdhjgpdaaDoor
