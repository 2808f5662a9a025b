/- Contracts of Shift and Spread. -/
import Derived.Test.YtkdbgchmknanlaaW2
import Derived.WalkKit
import Derived.WalkSpells
import Derived.WalkLawsBesides
namespace Go.Proofs.Ytkdbgchmknanlaa
open Go.RowKit
set_option linter.unusedVariables false
end Go.Proofs.Ytkdbgchmknanlaa
