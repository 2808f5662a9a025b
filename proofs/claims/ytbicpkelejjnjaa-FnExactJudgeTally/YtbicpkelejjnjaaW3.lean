/- Contracts of Shift and Spread. -/
import Derived.Test.YtbicpkelejjnjaaW2
import Derived.WalkKit
import Derived.WalkSpells
import Derived.WalkLawsBesides
namespace Go.Proofs.Ytbicpkelejjnjaa
open Go.RowKit
set_option linter.unusedVariables false
end Go.Proofs.Ytbicpkelejjnjaa
