/- The exact law of NodeNow. -/
import Derived.Test.YtfhappkeipcemaaGreatRows
import Derived.WalkKit
import Derived.WalkSpells
import Derived.WalkLawsBesides
import Derived.Deep.QuietTactic
import Derived.BigQuiet
import Derived.Deep.OwnRows
import Derived.Deep.RegionHeld
import Derived.Laws.BytesArg
import Derived.Deep.RegionHeld3
import Derived.Deep.DeepCutAuto
import Derived.WalkSmall
import Derived.Deep.DeepAppendRoom
import Derived.Laws.OwnMore
import Derived.Lib.SmallJoins
import Derived.WalkMore
import Derived.ScopeJumps
import Derived.Lib.MinMax
import Derived.Laws.EntriesVeiled
import Derived.Test.YtfhappkeipcemaaGreatM22
import Derived.Test.YtfhappkeipcemaaGreatM26
import Derived.Test.YtfhappkeipcemaaGreatM40
import Derived.Test.YtfhappkeipcemaaGreatM41
import Derived.Test.YtfhappkeipcemaaGreatM42
import Derived.Test.YtfhappkeipcemaaGreatM48
import Derived.Test.YtfhappkeipcemaaGreatM56
namespace Go.Proofs.YtfhappkeipcemaaGreat
open Go.RowKit
set_option linter.unusedVariables false
theorem walkNodeNow (AC : Array Value) (y : CfX) (AN : Array Value) (x : NdX) (ct : Int) (w : World) (HC : CfW w AC y) (HN : NdW w AN x) (hwf : wfX x) (hc : (Lit.int .i64 ct).wf = true) :
    Calls Tryz.prog 3 #[.agg AC, .agg AN, .int .i64 ct] w fun e w' => e = .returned (.bool true) ∧ Below w.heap.size w w' :=
  lawNodeNow (fun y x ct => (nowL y x ct, nowH y x ct, nowC y x ct)) (fun AC AN y x ct w h h' _ => specNowX AC AN y x ct w h h') (fun AC AN y x ct w h h' hw => implNowX AC AN y x ct w h h' hw) AC AN y x ct w HC HN hwf
end Go.Proofs.YtfhappkeipcemaaGreat
