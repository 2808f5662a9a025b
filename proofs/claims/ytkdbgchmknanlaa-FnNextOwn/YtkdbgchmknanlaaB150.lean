/- The contracts of chapter 13, gathered. -/
import Derived.Test.YtkdbgchmknanlaaB147
import Derived.Test.YtkdbgchmknanlaaB148
import Derived.Test.YtkdbgchmknanlaaB149
import Derived.Test.YtkdbgchmknanlaaB134
import Derived.Test.YtkdbgchmknanlaaB135
import Derived.Test.YtkdbgchmknanlaaB136
import Derived.Test.YtkdbgchmknanlaaB137
import Derived.WalkKit
import Derived.WalkSpells
import Derived.WalkLawsBesides
import Derived.Deep.RegionHeld
namespace Go.Proofs.Ytkdbgchmknanlaa
open Go.RowKit
set_option linter.unusedVariables false
/- Nothing of its own: it gathers what the laws of chapter 13 ask for. -/
end Go.Proofs.Ytkdbgchmknanlaa
