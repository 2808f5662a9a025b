/- Tables: what the laws make of them. -/
import Derived.Test.YtlaladalnbdhpaaA2
import Derived.WalkKit
import Derived.WalkSpells
import Derived.WalkLawsBesides
import Derived.Deep.RegionHeld
namespace Go.Proofs.Ytlaladalnbdhpaa
open Go.RowKit
set_option linter.unusedVariables false
end Go.Proofs.Ytlaladalnbdhpaa
