/- What the laws make of a life and of an event. -/
import Derived.Test.YteifibajafdnlaaT170
import Derived.WalkKit
import Derived.WalkSpells
import Derived.WalkLawsBesides
import Derived.Deep.RegionHeld
namespace Go.Proofs.Yteifibajafdnlaa
open Go.RowKit
set_option linter.unusedVariables false
/- What the laws make of a life and of an event. -/
set_option maxHeartbeats 2000000 in
theorem toLife_any (m e s : Int) (w : World) :
    Calls Try.prog 22 #[.agg #[.int .i64 m, .int .i64 e, .int .i64 s]] w fun x w' => x = .returned (.agg #[.int .i64 m, .int .i64 e, .int .i64 s]) ∧ Below w.heap.size w w' := by
  go_enter Try.func22, Try.ntmps22
  go_wp2_with fail
  exact bodyPost_ret (v := .agg #[.int .i64 m, .int .i64 e, .int .i64 s]) (by simp (maxDischargeDepth := 6) [results, Try.results22, go_sem, *]) rfl ⟨rfl, by repeat (first | exact Below.refl _ _ | refine Below.drew ?_ | refine Below.alloc ?_ (by first | (simp; done) | (simp; omega) | omega) _ | refine Below.setCell ?_ (by first | (simp; done) | (simp; omega) | omega) _ | refine Below.trans ?_ (Below.mono (by assumption) (by first | (simp; done) | (simp; omega) | omega)))⟩
set_option maxHeartbeats 2000000 in
theorem eqLife_same (m e s : Int) (w : World) :
    Calls Try.prog 25 #[.agg #[.int .i64 m, .int .i64 e, .int .i64 s], .agg #[.int .i64 m, .int .i64 e, .int .i64 s]] w fun x w' => x = .returned (.bool true) ∧ Below w.heap.size w w' := by
  go_enter Try.func25, Try.ntmps25
  go_wp2_with fail
  go_ret
  exact ⟨rfl, by repeat (first | exact Below.refl _ _ | refine Below.drew ?_ | refine Below.alloc ?_ (by first | (simp; done) | (simp; omega) | omega) _ | refine Below.setCell ?_ (by first | (simp; done) | (simp; omega) | omega) _ | refine Below.trans ?_ (Below.mono (by assumption) (by first | (simp; done) | (simp; omega) | omega)))⟩
set_option maxHeartbeats 2000000 in
theorem toEvent_any (k t : Int) (w : World) :
    Calls Try.prog 24 #[.agg #[.int .i64 k, .int .i64 t]] w fun x w' => x = .returned (.agg #[.int .i64 k, .int .i64 t]) ∧ Below w.heap.size w w' := by
  go_enter Try.func24, Try.ntmps24
  go_wp2_with fail
  exact bodyPost_ret (v := .agg #[.int .i64 k, .int .i64 t]) (by simp (maxDischargeDepth := 6) [results, Try.results24, go_sem, *]) rfl ⟨rfl, by repeat (first | exact Below.refl _ _ | refine Below.drew ?_ | refine Below.alloc ?_ (by first | (simp; done) | (simp; omega) | omega) _ | refine Below.setCell ?_ (by first | (simp; done) | (simp; omega) | omega) _ | refine Below.trans ?_ (Below.mono (by assumption) (by first | (simp; done) | (simp; omega) | omega)))⟩
end Go.Proofs.Yteifibajafdnlaa
