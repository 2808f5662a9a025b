/- RoundOf and SlotFrom in the specification. -/
import Derived.Test.YtdahabbdhjgpdaaB133
import Derived.Deep.QuietTactic
import Derived.BigQuiet
import Derived.WalkKit
import Derived.WalkSpells
import Derived.WalkLawsBesides
import Derived.Deep.RegionHeld
namespace Go.Proofs.Ytdahabbdhjgpdaa
open Go.RowKit
set_option linter.unusedVariables false
theorem below_drewN13 {B : Nat} {w w' : World} (h : Below B w w') (nq : Nat) : Below B w (w'.drewN nq) := ⟨h.os, h.tape, h.output, h.size, h.block⟩
/- How long the first slots are, in the specification. -/
end Go.Proofs.Ytdahabbdhjgpdaa
