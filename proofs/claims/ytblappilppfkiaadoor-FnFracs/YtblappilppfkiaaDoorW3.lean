/- Contracts of Shift and Spread. -/
import Derived.Test.YtblappilppfkiaaDoorW2
import Derived.WalkKit
import Derived.WalkSpells
import Derived.WalkLawsBesides
namespace Go.Proofs.YtblappilppfkiaaDoor
open Go.RowKit
set_option linter.unusedVariables false
end Go.Proofs.YtblappilppfkiaaDoor
