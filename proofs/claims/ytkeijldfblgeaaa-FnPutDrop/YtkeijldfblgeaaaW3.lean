/- Contracts of Shift and Spread. -/
import Derived.Test.YtkeijldfblgeaaaW2
import Derived.WalkKit
import Derived.WalkSpells
import Derived.WalkLawsBesides
namespace Go.Proofs.Ytkeijldfblgeaaa
open Go.RowKit
set_option linter.unusedVariables false
end Go.Proofs.Ytkeijldfblgeaaa
