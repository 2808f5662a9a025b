/- Asks and rows of asks: what the laws make of them, and whether two are the same. -/
import Derived.Test.YtgempaoamamaeaaGreatM11
namespace Go.Proofs.YtgempaoamamaeaaGreat
open Go.RowKit
set_option linter.unusedVariables false
def kT (x0 x1 x2 x3 : Int) : KT := (x0, x1, x2, x3)
end Go.Proofs.YtgempaoamamaeaaGreat
