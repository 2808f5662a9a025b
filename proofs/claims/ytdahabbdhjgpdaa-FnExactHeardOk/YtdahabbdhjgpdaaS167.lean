/- HeardOwners in the specification. -/
import Derived.Test.YtdahabbdhjgpdaaS165
import Derived.Deep.RegionHeld3
import Derived.Deep.DeepCutAuto
import Derived.WalkKit
import Derived.WalkSpells
import Derived.WalkLawsBesides
import Derived.Deep.RegionHeld
namespace Go.Proofs.Ytdahabbdhjgpdaa
open Go.RowKit
set_option linter.unusedVariables false
/- The owners of heard slots, in the specification. -/
theorem ofS_t {M : Nat → VT} {n : Nat} {PM : Nat → SlT} {o : Int} {i : Nat} (h : ofS M n PM o i = true) : ofS M n PM o (i + 1) = true := by rw [ofS, h]; rfl
theorem ofS_f {M : Nat → VT} {n : Nat} {PM : Nat → SlT} {o : Int} {i : Nat} (h : ofS M n PM o i = false) : ofS M n PM o (i + 1) = ((PM i).1 == o && hasJ (slS M) (i : Int) n) := by rw [ofS, h, Bool.false_or]
end Go.Proofs.Ytdahabbdhjgpdaa
