/- The program's contracts of chapter 17, gathered. -/
import Derived.Test.YteifibajafdnlaaT175
import Derived.Test.YteifibajafdnlaaT176
import Derived.Test.YteifibajafdnlaaT177
import Derived.WalkKit
import Derived.WalkSpells
import Derived.WalkLawsBesides
import Derived.Deep.RegionHeld
namespace Go.Proofs.Yteifibajafdnlaa
open Go.RowKit
set_option linter.unusedVariables false
end Go.Proofs.Yteifibajafdnlaa
