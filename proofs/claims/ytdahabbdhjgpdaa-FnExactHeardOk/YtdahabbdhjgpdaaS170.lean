/- The program's contracts of chapter 16: HeardOk, Hear. -/
import Derived.Test.YtdahabbdhjgpdaaS172
import Derived.Test.YtdahabbdhjgpdaaS177
import Derived.WalkKit
import Derived.WalkSpells
import Derived.WalkLawsBesides
import Derived.Deep.RegionHeld
namespace Go.Proofs.Ytdahabbdhjgpdaa
open Go.RowKit
set_option linter.unusedVariables false
end Go.Proofs.Ytdahabbdhjgpdaa
