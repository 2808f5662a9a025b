/- The exact law of NodeTrue. -/
import Derived.Test.YtfhappkeipcemaaGreatM59
import Derived.Test.YtfhappkeipcemaaGreatM61
namespace Go.Proofs.YtfhappkeipcemaaGreat
open Go.RowKit
set_option linter.unusedVariables false
theorem walkNodeTrue (AC : Array Value) (y : CfX) (AN : Array Value) (x : NdX) (ct : Int) (xt : Int) (w : World) (HC : CfW w AC y) (HN : NdW w AN x) (hwf : wfX x) (hc : (Lit.int .i64 ct).wf = true) (hx : (Lit.int .i64 xt).wf = true) :
    Calls Tryz.prog 9 #[.agg AC, .agg AN, .int .i64 ct, .int .i64 xt] w fun e w' => e = .returned (.bool true) ∧ Below w.heap.size w w' :=
  lawNodeTrue (trueX) (fun AC AN y x ct xt w h h' _ => specTrueX AC AN y x ct xt w h h') (fun AC AN y x ct xt w h h' hw => implTrueX AC AN y x ct xt w h h' hw) AC AN y x ct xt w HC HN hwf
end Go.Proofs.YtfhappkeipcemaaGreat
