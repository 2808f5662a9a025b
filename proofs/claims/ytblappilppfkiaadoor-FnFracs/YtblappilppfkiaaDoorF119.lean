/- RateBroken in the specification. -/
import Derived.Test.YtblappilppfkiaaDoorF116
import Derived.Test.YtblappilppfkiaaDoorF117
import Derived.Deep.RegionHeld3
import Derived.WalkKit
import Derived.WalkSpells
import Derived.WalkLawsBesides
import Derived.Deep.RegionHeld
namespace Go.Proofs.YtblappilppfkiaaDoor
open Go.RowKit
set_option linter.unusedVariables false
/- Whether what two rates have in common is nothing. -/
def brB (n d al ah ca bl bh cb : Int) : Bool := roB al ah ca bl bh cb && okD n d && !mtB (roX al ah ca bl bh cb) (roY al ah ca bl bh cb) (roZ al ah ca bl bh cb) (roU al ah ca bl bh cb) (rdX n d) (rdY n d) (rdZ n d) (rdU n d)
end Go.Proofs.YtblappilppfkiaaDoor
