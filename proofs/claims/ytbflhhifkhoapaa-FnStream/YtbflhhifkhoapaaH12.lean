/- The walk of the exact law of Unpack. -/
import Derived.Test.YtbflhhifkhoapaaH6
import Derived.Test.YtbflhhifkhoapaaH11
import Derived.Test.YtbflhhifkhoapaaW2
import Derived.WalkKit
import Derived.WalkSpells
import Derived.WalkLawsBesides
import Derived.Deep.RegionHeld
namespace Go.Proofs.Ytbflhhifkhoapaa
open Go.RowKit
set_option linter.unusedVariables false
end Go.Proofs.Ytbflhhifkhoapaa
