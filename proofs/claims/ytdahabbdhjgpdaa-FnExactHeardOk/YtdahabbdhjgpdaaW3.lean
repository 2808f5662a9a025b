/- Contracts of Shift and Spread. -/
import Derived.Test.YtdahabbdhjgpdaaW2
import Derived.WalkKit
import Derived.WalkSpells
import Derived.WalkLawsBesides
namespace Go.Proofs.Ytdahabbdhjgpdaa
open Go.RowKit
set_option linter.unusedVariables false
end Go.Proofs.Ytdahabbdhjgpdaa
