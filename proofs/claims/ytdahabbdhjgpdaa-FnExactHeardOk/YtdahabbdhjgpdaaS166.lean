/- HeardUnlike in the specification. -/
import Derived.Test.YtdahabbdhjgpdaaS165
import Derived.Deep.RegionHeld3
import Derived.Deep.DeepCutAuto
import Derived.WalkKit
import Derived.WalkSpells
import Derived.WalkLawsBesides
import Derived.Deep.RegionHeld
namespace Go.Proofs.Ytdahabbdhjgpdaa
open Go.RowKit
set_option linter.unusedVariables false
/- The slots that are in one of two rows alone, in the specification. -/
end Go.Proofs.Ytdahabbdhjgpdaa
