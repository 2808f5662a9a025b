/- Contracts of PeerAge, PeersSure, PeerDrop in the specification. -/
import Derived.Test.YtkeijldfblgeaaaI107
import Derived.WalkKit
import Derived.WalkSpells
import Derived.WalkLawsBesides
import Derived.Deep.RegionHeld
namespace Go.Proofs.Ytkeijldfblgeaaa
open Go.RowKit
set_option linter.unusedVariables false
end Go.Proofs.Ytkeijldfblgeaaa
