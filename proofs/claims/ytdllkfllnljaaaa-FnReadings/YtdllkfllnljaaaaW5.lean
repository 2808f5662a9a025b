/- Contracts of PlusIval and LessIval. -/
import Derived.Test.YtdllkfllnljaaaaW2
import Derived.WalkKit
import Derived.WalkSpells
import Derived.WalkLawsBesides
namespace Go.Proofs.Ytdllkfllnljaaaa
open Go.RowKit
set_option linter.unusedVariables false
end Go.Proofs.Ytdllkfllnljaaaa
