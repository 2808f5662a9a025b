/- The walks of the exact laws of TextOf and NumOf, whole. -/
import Derived.Test.YtddjiamollfplaaDoorX222
import Derived.Deep.RegionHeld3
import Derived.WalkKit
import Derived.WalkSpells
import Derived.WalkLawsBesides
import Derived.Deep.RegionHeld
namespace Go.Proofs.YtddjiamollfplaaDoor
open Go.RowKit
set_option linter.unusedVariables false
theorem wfI {n : Int} (h : (Lit.int .i64 n).wf = true) : -9223372036854775808 ≤ n ∧ n ≤ 9223372036854775807 := by
  simp only [Lit.wf, Bool.and_eq_true, decide_eq_true_eq] at h
  exact h
set_option maxHeartbeats 4000000 in
theorem walkTextOf (n : Int) (w : World) (E0 : T10 w) (h0 : (Lit.int .i64 n).wf = true) :
    Calls Tryd.prog 4 #[.int .i64 n] w fun x w' => x = .returned (.bool true) ∧ Below w.heap.size w w' := by
  obtain ⟨n0, n1⟩ := wfI h0
  have CS := fun w' => specTextOf_any n w' n0 n1
  have HE : Hid (T10 w) := E0
  have CI := fun (v : World) (h : Below w.heap.size w v) => implTextOf_any n v n0 n1 (HE.out.below h)
  clear E0 h0
  generalize txI n = V at CS CI
  go_enter Tryd.func4, Tryd.ntmps4
  go_wp2_with fail
  refine (CS _).mono ?_
  rintro x w1 ⟨rfl, B1⟩
  go_wp2_with fail
  refine (CI _ B1).mono ?_
  rintro x w2 ⟨rfl, B2⟩
  go_wp2_with fail
  go_ret
  exact ⟨rfl, B1.trans (B2.mono B1.size)⟩
set_option maxHeartbeats 4000000 in
theorem walkNumOf (s : ByteArray) (w : World) (E0 : VN w) (hm : s.size ≤ maxLen) :
    Calls Tryd.prog 5 #[.string s] w fun x w' => x = .returned (.bool true) ∧ Below w.heap.size w w' := by
  have CS := fun w' => specNumOf_any s w' hm
  have HE : Hid (VN w) := E0
  clear E0
  by_cases hl : (1048576 : Int) < s.size
  · clear CS
    go_enter Tryd.func5, Tryd.ntmps5
    go_wp2_with fail
    go_ret
    exact ⟨rfl, Below.refl _ _⟩
  have CI := fun (v : World) (h : Below w.heap.size w v) => implNumOf_any s v (by omega) (HE.out.below h)
  generalize nuI s = V at CS CI
  generalize nuB s = b at CS CI
  go_enter Tryd.func5, Tryd.ntmps5
  go_wp2_with fail
  refine (CS _).mono ?_
  rintro x w1 ⟨rfl, B1⟩
  go_wp2_with fail
  refine (CI _ B1).mono ?_
  rintro x w2 ⟨rfl, B2⟩
  go_wp2_with fail
  go_ret
  exact ⟨rfl, B1.trans (B2.mono B1.size)⟩
end Go.Proofs.YtddjiamollfplaaDoor
