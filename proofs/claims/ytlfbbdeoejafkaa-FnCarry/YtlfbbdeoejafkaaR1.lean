/- The contract of impl.OscRun. -/
import Derived.Test.YtlfbbdeoejafkaaR0
import Derived.WalkKit
import Derived.WalkSpells
import Derived.WalkLawsBesides
import Derived.Deep.RegionHeld
namespace Go.Proofs.Ytlfbbdeoejafkaa
open Go.RowKit
set_option linter.unusedVariables false
end Go.Proofs.Ytlfbbdeoejafkaa
