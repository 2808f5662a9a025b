/- Nets: what the laws make of them. -/
import Derived.Test.YtfdcjfebfbpliaaN52
import Derived.WalkKit
import Derived.WalkSpells
import Derived.WalkLawsBesides
import Derived.Deep.RegionHeld
namespace Go.Proofs.Ytfdcjfebfbpliaa
open Go.RowKit
set_option linter.unusedVariables false
end Go.Proofs.Ytfdcjfebfbpliaa
