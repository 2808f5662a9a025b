/- Contracts of Shift and Spread. -/
import Derived.Test.YteifibajafdnlaaW2
import Derived.WalkKit
import Derived.WalkSpells
import Derived.WalkLawsBesides
namespace Go.Proofs.Yteifibajafdnlaa
open Go.RowKit
set_option linter.unusedVariables false
end Go.Proofs.Yteifibajafdnlaa
