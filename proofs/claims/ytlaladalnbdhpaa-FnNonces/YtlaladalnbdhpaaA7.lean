/- The walk of the exact law of TableOk. -/
import Derived.Test.YtlaladalnbdhpaaA5
import Derived.Test.YtlaladalnbdhpaaA6
import Derived.WalkKit
import Derived.WalkSpells
import Derived.WalkLawsBesides
import Derived.Deep.RegionHeld
namespace Go.Proofs.Ytlaladalnbdhpaa
open Go.RowKit
set_option linter.unusedVariables false
end Go.Proofs.Ytlaladalnbdhpaa
