/- spec.MeetAll where all intervals are such. -/
import Derived.Test.YtaggohibfghnmaaS3
import Derived.Deep.DeepCutAuto
import Derived.Deep.OwnRows
import Derived.Test.YtaggohibfghnmaaW4
import Derived.WalkKit
import Derived.WalkSpells
import Derived.WalkLawsBesides
import Derived.Deep.RegionHeld
namespace Go.Proofs.Ytaggohibfghnmaa
open Go.RowKit
set_option linter.unusedVariables false
end Go.Proofs.Ytaggohibfghnmaa
