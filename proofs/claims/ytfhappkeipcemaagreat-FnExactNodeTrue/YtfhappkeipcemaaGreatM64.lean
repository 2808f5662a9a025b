/- The exact law of NodeTrue. -/
import Derived.Test.YtfhappkeipcemaaGreatRows
import Derived.WalkKit
import Derived.WalkSpells
import Derived.WalkLawsBesides
import Derived.Deep.QuietTactic
import Derived.BigQuiet
import Derived.Deep.OwnRows
import Derived.Deep.RegionHeld
import Derived.Laws.BytesArg
import Derived.Deep.RegionHeld3
import Derived.Deep.DeepCutAuto
import Derived.WalkSmall
import Derived.Deep.DeepAppendRoom
import Derived.Laws.OwnMore
import Derived.Lib.SmallJoins
import Derived.WalkMore
import Derived.ScopeJumps
import Derived.Lib.MinMax
import Derived.Laws.EntriesVeiled
import Derived.Test.YtfhappkeipcemaaGreatM22
import Derived.Test.YtfhappkeipcemaaGreatM26
import Derived.Test.YtfhappkeipcemaaGreatM41
import Derived.Test.YtfhappkeipcemaaGreatM48
import Derived.Test.YtfhappkeipcemaaGreatM55
import Derived.Test.YtfhappkeipcemaaGreatM61
import Derived.Test.YtfhappkeipcemaaGreatM63
namespace Go.Proofs.YtfhappkeipcemaaGreat
open Go.RowKit
set_option linter.unusedVariables false
theorem walkNodeTrue (AC : Array Value) (y : CfX) (AN : Array Value) (x : NdX) (ct : Int) (xt : Int) (w : World) (HC : CfW w AC y) (HN : NdW w AN x) (hwf : wfX x) (hc : (Lit.int .i64 ct).wf = true) (hx : (Lit.int .i64 xt).wf = true) :
    Calls Tryz.prog 9 #[.agg AC, .agg AN, .int .i64 ct, .int .i64 xt] w fun e w' => e = .returned (.bool true) ∧ Below w.heap.size w w' :=
  lawNodeTrue (trueX) (fun AC AN y x ct xt w h h' _ => specTrueX AC AN y x ct xt w h h') (fun AC AN y x ct xt w h h' hw => implTrueX AC AN y x ct xt w h h' hw) AC AN y x ct xt w HC HN hwf
end Go.Proofs.YtfhappkeipcemaaGreat
