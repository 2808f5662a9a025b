/- The exact law of NodeAsk. -/
import Derived.Test.YtgempaoamamaeaaGreatM53
import Derived.Test.YtgempaoamamaeaaGreatM70
namespace Go.Proofs.YtgempaoamamaeaaGreat
open Go.RowKit
set_option linter.unusedVariables false
theorem walkNodeAsk (AC : Array Value) (y : CfX) (AN : Array Value) (x : NdX) (ct : Int) (xt : Int) (w : World) (HC : CfW w AC y) (HN : NdW w AN x) (hwf : wfX x) (hc : (Lit.int .i64 ct).wf = true) (hx : (Lit.int .i64 xt).wf = true) :
    Calls Tryz.prog 3 #[.agg AC, .agg AN, .int .i64 ct, .int .i64 xt] w fun e w' => e = .returned (.bool true) ∧ Below w.heap.size w w' :=
  lawNodeAsk askX (fun AC AN y x ct xt w h h' _ => specAskX AC AN y x ct xt w h h') (fun AC AN y x ct xt w h h' hw => implAskX AC AN y x ct xt w h h' hw) AC AN y x ct xt w HC HN hwf
end Go.Proofs.YtgempaoamamaeaaGreat
