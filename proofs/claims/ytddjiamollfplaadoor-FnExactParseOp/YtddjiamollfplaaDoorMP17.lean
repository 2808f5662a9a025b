/- An append of one element to a row of ones own. -/
import Derived.Deep.RegionHeld3
import Derived.Deep.DeepCutAuto
import Derived.Deep.DeepAppendRoom
import Derived.Test.YtddjiamollfplaaDoorMP4
namespace Go.Proofs.YtddjiamollfplaaDoor
open Go.RowKit
set_option linter.unusedVariables false
theorem info_int : (Tryd.prog.info? 3).map (fun i => (i.zero, i.size, i.bytes)) = some (some (.int .i64 0), 1, 8) := by kernel_rfl
end Go.Proofs.YtddjiamollfplaaDoor
