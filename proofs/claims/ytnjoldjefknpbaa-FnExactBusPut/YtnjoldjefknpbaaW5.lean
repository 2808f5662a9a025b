/- Contracts of PlusIval and LessIval. -/
import Derived.Test.YtnjoldjefknpbaaW2
import Derived.WalkKit
import Derived.WalkSpells
import Derived.WalkLawsBesides
namespace Go.Proofs.Ytnjoldjefknpbaa
open Go.RowKit
set_option linter.unusedVariables false
end Go.Proofs.Ytnjoldjefknpbaa
