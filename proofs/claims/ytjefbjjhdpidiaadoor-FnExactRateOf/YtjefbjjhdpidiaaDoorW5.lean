/- Contracts of PlusIval and LessIval. -/
import Derived.Test.YtjefbjjhdpidiaaDoorW2
import Derived.WalkKit
import Derived.WalkSpells
import Derived.WalkLawsBesides
namespace Go.Proofs.YtjefbjjhdpidiaaDoor
open Go.RowKit
set_option linter.unusedVariables false
end Go.Proofs.YtjefbjjhdpidiaaDoor
