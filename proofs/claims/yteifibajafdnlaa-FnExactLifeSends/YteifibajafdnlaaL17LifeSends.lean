/- The walk of the exact law of LifeSends. -/
import Derived.Test.YteifibajafdnlaaT172
import Derived.Test.YteifibajafdnlaaT180
import Derived.Test.YteifibajafdnlaaT171
import Derived.Deep.RegionHeld3
import Derived.Deep.DeepCutAuto
import Derived.WalkKit
import Derived.WalkSpells
import Derived.WalkLawsBesides
import Derived.Deep.RegionHeld
namespace Go.Proofs.Yteifibajafdnlaa
open Go.RowKit
set_option linter.unusedVariables false
set_option maxHeartbeats 4000000 in
theorem lawLifeSends (m e s : Int) (w : World) :
    Calls Try.prog 9 #[.agg #[.int .i64 m, .int .i64 e, .int .i64 s]] w fun x w' => x = .returned (.bool true) ∧ Below w.heap.size w w' := by
  have B := Below.nw w (.cells #[.int .i64 m, .int .i64 e, .int .i64 s] 39)
  have N := Tx3.new w (.int .i64 m) (.int .i64 e) (.int .i64 s) 39
  have CT := fun w' => toLife_any m e s w'
  have CS := fun w' => specLifeSends_any m e s w'
  have CI := fun w' => implLifeSends_any m e s w'
  generalize seB m e s = V at *
  have hvv : (V != V) = false := by simp
  go_enter Try.func9, Try.ntmps9
  go_upto_region 1 with fail
  generalize w.alloc (.cells #[.int .i64 m, .int .i64 e, .int .i64 s] 39) = v at *
  obtain ⟨n0, n1, n2, n3, n4, n5, n6⟩ := id N
  go_wp2_with fail
  refine (CT _).mono ?_
  rintro x w1 ⟨rfl, hb⟩
  clear n0 n1 n2 n3 n4 n5 n6
  replace B := B.trans (hb.mono B.size)
  replace N := N.below hb
  clear hb
  skip
  go_wp2_with fail
  refine (CS _).mono ?_
  rintro x w2 ⟨rfl, hb⟩
  skip
  replace B := B.trans (hb.mono B.size)
  replace N := N.below hb
  clear hb
  obtain ⟨n0, n1, n2, n3, n4, n5, n6⟩ := id N
  go_wp2_with fail
  refine (CT _).mono ?_
  rintro x w3 ⟨rfl, hb⟩
  clear n0 n1 n2 n3 n4 n5 n6
  replace B := B.trans (hb.mono B.size)
  replace N := N.below hb
  clear hb
  skip
  go_wp2_with fail
  refine (CI _).mono ?_
  rintro x w4 ⟨rfl, hb⟩
  skip
  replace B := B.trans (hb.mono B.size)
  replace N := N.below hb
  clear hb
  go_wp2_with fail
  go_ret
  exact ⟨rfl, B⟩
end Go.Proofs.Yteifibajafdnlaa
