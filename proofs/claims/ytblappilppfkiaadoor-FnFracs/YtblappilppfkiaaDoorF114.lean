/- FracCmp in the specification. -/
import Derived.Test.YtblappilppfkiaaDoorF113
import Derived.WalkKit
import Derived.WalkSpells
import Derived.WalkLawsBesides
import Derived.Deep.RegionHeld
namespace Go.Proofs.YtblappilppfkiaaDoor
open Go.RowKit
set_option linter.unusedVariables false
def fcI (a b p q : Int) : Int := if (okF a b && okF p q) = true then cmpF a b p q else 0
theorem fcI_t {a b p q : Int} (h1 : okF a b = true) (h2 : okF p q = true) : fcI a b p q = cmpF a b p q := if_pos (by rw [h1, h2]; rfl)
theorem fcI_1 {a b p q : Int} (h1 : okF a b = false) : fcI a b p q = 0 := if_neg (by rw [h1]; simp)
theorem fcI_2 {a b p q : Int} (h2 : okF p q = false) : fcI a b p q = 0 := if_neg (by rw [h2]; simp)
end Go.Proofs.YtblappilppfkiaaDoor
