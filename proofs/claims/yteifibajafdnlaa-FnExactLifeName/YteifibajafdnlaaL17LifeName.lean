/- The walk of the exact law of LifeName. -/
import Derived.Test.YteifibajafdnlaaT172
import Derived.Test.YteifibajafdnlaaT180
import Derived.Test.YteifibajafdnlaaT171
import Derived.Deep.RegionHeld3
import Derived.Deep.DeepCutAuto
import Derived.WalkKit
import Derived.WalkSpells
import Derived.WalkLawsBesides
import Derived.Deep.RegionHeld
namespace Go.Proofs.Yteifibajafdnlaa
open Go.RowKit
set_option linter.unusedVariables false
set_option maxHeartbeats 4000000 in
theorem lawLifeName (m : Int) (w : World) (wm : (Lit.int .i64 m).wf = true) :
    Calls Try.prog 10 #[.int .i64 m] w fun x w' => x = .returned (.bool true) ∧ Below w.heap.size w w' := by
  have CS := fun w' => specLifeName_any m w'
  have CI := fun w' => implLifeName_any m w'
  clear wm
  generalize nmS m = V at *
  go_enter Try.func10, Try.ntmps10
  go_wp2_with fail
  refine (CS _).mono ?_
  rintro x w' ⟨rfl, rfl⟩
  go_wp2_with fail
  refine (CI _).mono ?_
  rintro x w1 ⟨rfl, hb⟩
  go_wp2_with fail
  go_ret
  exact ⟨rfl, hb⟩
end Go.Proofs.Yteifibajafdnlaa
