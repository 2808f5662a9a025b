/- Contracts of Shift and Spread. -/
import Derived.Test.YtddjiamollfplaaDoorW2
import Derived.WalkKit
import Derived.WalkSpells
import Derived.WalkLawsBesides
namespace Go.Proofs.YtddjiamollfplaaDoor
open Go.RowKit
set_option linter.unusedVariables false
end Go.Proofs.YtddjiamollfplaaDoor
