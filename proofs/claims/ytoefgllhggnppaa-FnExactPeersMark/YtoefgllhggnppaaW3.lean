/- Contracts of Shift and Spread. -/
import Derived.Test.YtoefgllhggnppaaW2
import Derived.WalkKit
import Derived.WalkSpells
import Derived.WalkLawsBesides
namespace Go.Proofs.Ytoefgllhggnppaa
open Go.RowKit
set_option linter.unusedVariables false
end Go.Proofs.Ytoefgllhggnppaa
