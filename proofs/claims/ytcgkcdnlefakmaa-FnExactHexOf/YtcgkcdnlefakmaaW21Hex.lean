/- The walks of the exact laws of HexOf and FromHex, whole. -/
import Derived.Test.YtcgkcdnlefakmaaL21Text
import Derived.Test.YtcgkcdnlefakmaaX220
import Derived.WalkKit
import Derived.WalkSpells
import Derived.WalkLawsBesides
import Derived.Deep.RegionHeld
namespace Go.Proofs.Ytcgkcdnlefakmaa
open Go.RowKit
set_option linter.unusedVariables false
theorem walkHexOf (s : ByteArray) (w : World) (hm : s.size ≤ maxLen) :
    Calls Try.prog 3 #[.string s] w fun x w' => x = .returned (.bool true) ∧ Below w.heap.size w w' := lawHexOf s w hm fun w' => implHexOf_any s w' hm
theorem walkFromHex (s : ByteArray) (w : World) (hm : s.size ≤ maxLen) :
    Calls Try.prog 4 #[.string s] w fun x w' => x = .returned (.bool true) ∧ Below w.heap.size w w' := lawFromHex s w hm fun w' => implFromHex_any s w' hm
end Go.Proofs.Ytcgkcdnlefakmaa
