/- The exact law of NodeNow. -/
import Derived.Test.YtfhappkeipcemaaGreatM44
import Derived.Test.YtfhappkeipcemaaGreatM56
namespace Go.Proofs.YtfhappkeipcemaaGreat
open Go.RowKit
set_option linter.unusedVariables false
theorem walkNodeNow (AC : Array Value) (y : CfX) (AN : Array Value) (x : NdX) (ct : Int) (w : World) (HC : CfW w AC y) (HN : NdW w AN x) (hwf : wfX x) (hc : (Lit.int .i64 ct).wf = true) :
    Calls Tryz.prog 3 #[.agg AC, .agg AN, .int .i64 ct] w fun e w' => e = .returned (.bool true) ∧ Below w.heap.size w w' :=
  lawNodeNow (fun y x ct => (nowL y x ct, nowH y x ct, nowC y x ct)) (fun AC AN y x ct w h h' _ => specNowX AC AN y x ct w h h') (fun AC AN y x ct w h h' hw => implNowX AC AN y x ct w h h' hw) AC AN y x ct w HC HN hwf
end Go.Proofs.YtfhappkeipcemaaGreat
