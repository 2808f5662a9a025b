/- Contracts of PlusIval and LessIval. -/
import Derived.Test.YtpjaekofibpgnaaDoorW2
import Derived.WalkKit
import Derived.WalkSpells
import Derived.WalkLawsBesides
namespace Go.Proofs.YtpjaekofibpgnaaDoor
open Go.RowKit
set_option linter.unusedVariables false
end Go.Proofs.YtpjaekofibpgnaaDoor
