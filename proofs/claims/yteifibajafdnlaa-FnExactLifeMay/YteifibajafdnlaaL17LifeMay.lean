/- The walk of the exact law of LifeMay. -/
import Derived.Test.YteifibajafdnlaaT172
import Derived.Test.YteifibajafdnlaaT180
import Derived.Test.YteifibajafdnlaaT171
import Derived.Deep.RegionHeld3
import Derived.Deep.DeepCutAuto
import Derived.WalkKit
import Derived.WalkSpells
import Derived.WalkLawsBesides
import Derived.Deep.RegionHeld
namespace Go.Proofs.Yteifibajafdnlaa
open Go.RowKit
set_option linter.unusedVariables false
set_option maxHeartbeats 4000000 in
theorem lawLifeMay (m k : Int) (w : World) (wm : (Lit.int .i64 m).wf = true) (wk : (Lit.int .i64 k).wf = true) :
    Calls Try.prog 5 #[.int .i64 m, .int .i64 k] w fun x w' => x = .returned (.bool true) ∧ Below w.heap.size w w' := by
  have CS := fun w' => specLifeMay_any m k w'
  have CI := fun w' => implLifeMay_any m k w'
  clear wm wk
  generalize lmB m k = V at *
  have hvv : (V != V) = false := by simp
  go_enter Try.func5, Try.ntmps5
  go_wp2_with fail
  refine (CS _).mono ?_
  rintro x w' ⟨rfl, rfl⟩
  go_wp2_with fail
  refine (CI _).mono ?_
  rintro x w1 ⟨rfl, hb⟩
  go_wp2_with fail
  go_ret
  exact ⟨rfl, hb⟩
end Go.Proofs.Yteifibajafdnlaa
