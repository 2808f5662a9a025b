/- Contracts of the functions of chapter 1 (intervals) in the specification and in the program, and the walks of its first exact laws. -/
import Derived.Test.YtnidbfedgblngaaRows
import Derived.WalkKit
import Derived.WalkSpells
import Derived.WalkLawsBesides
namespace Go.Proofs.Ytnidbfedgblngaa
open Go.RowKit
set_option linter.unusedVariables false
theorem ret_bool {a b : Bool} (h : a = b) : Ending.returned (.bool a) = .returned (.bool b) := by rw [h]
end Go.Proofs.Ytnidbfedgblngaa
