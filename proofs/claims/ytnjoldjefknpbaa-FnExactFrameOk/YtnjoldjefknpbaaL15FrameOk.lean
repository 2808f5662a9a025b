/- The walk of the exact law of FrameOk. -/
import Derived.Test.YtnjoldjefknpbaaL150
import Derived.Test.YtnjoldjefknpbaaQ170
import Derived.WalkKit
import Derived.WalkSpells
import Derived.WalkLawsBesides
import Derived.Deep.RegionHeld
namespace Go.Proofs.Ytnjoldjefknpbaa
open Go.RowKit
set_option linter.unusedVariables false
set_option maxRecDepth 100000 in
set_option maxHeartbeats 8000000 in
theorem lawFrameOk (x0 x1 x2 x3 x4 : Int) (x5 : ByteArray) (w : World) (hs : x5.size ≤ maxLen) :
    Calls Try.prog 6 #[.agg #[.int .i64 x0, .int .i64 x1, .int .i64 x2, .int .i64 x3, .int .i64 x4, .string x5]] w fun e w' => e = .returned (.bool true) ∧ Below w.heap.size w w' := by
  have B := Below.nw w (.cells #[.int .i64 x0, .int .i64 x1, .int .i64 x2, .int .i64 x3, .int .i64 x4, .string x5] 51)
  have N := Box6.new w x0 x1 x2 x3 x4 x5 51
  have CZ := fun w' => szFrame_left x0 x1 x2 x3 x4 x5 1048576 w' hs (by decide) (by decide)
  have CT := fun w' => toFrame_any x0 x1 x2 x3 x4 x5 w'
  have CS := fun w' => specFrameOk_any x0 x1 x2 x3 x4 x5 w' hs
  have CI := fun w' => implFrameOk_any x0 x1 x2 x3 x4 x5 w' hs
  clear hs
  generalize frB x0 x1 x2 x3 x4 x5 = V at *
  have hvv : (V != V) = false := by simp
  generalize (if (x5.size : Int) ≤ 1048576 then 1048576 - (x5.size : Int) else -1) = Z at *
  go_enter Try.func6, Try.ntmps6
  go_upto_region 2 with fail
  generalize w.alloc (.cells #[.int .i64 x0, .int .i64 x1, .int .i64 x2, .int .i64 x3, .int .i64 x4, .string x5] 51) = v at *
  obtain ⟨n0, n1, n2, n3, n4, n5, n6⟩ := id N
  go_wp2_with fail
  refine (CZ _).mono ?_
  rintro e v1 ⟨rfl, hb⟩
  clear n0 n1 n2 n3 n4 n5 n6
  replace B := B.trans (hb.mono B.size)
  replace N := N.below hb
  clear hb CZ
  by_cases hz0 : Z < 0
  · clear CT CS CI N
    go_wp2_with fail
    go_ret
    exact ⟨rfl, B⟩
  obtain ⟨n0, n1, n2, n3, n4, n5, n6⟩ := id N
  go_wp2_with fail
  refine (CT _).mono ?_
  rintro e v2 ⟨rfl, hb⟩
  clear n0 n1 n2 n3 n4 n5 n6
  replace B := B.trans (hb.mono B.size)
  replace N := N.below hb
  clear hb
  go_wp2_with fail
  refine (CS _).mono ?_
  rintro e v3 ⟨rfl, hb⟩
  replace B := B.trans (hb.mono B.size)
  replace N := N.below hb
  clear hb
  obtain ⟨n0, n1, n2, n3, n4, n5, n6⟩ := id N
  go_wp2_with fail
  refine (CT _).mono ?_
  rintro e v4 ⟨rfl, hb⟩
  clear n0 n1 n2 n3 n4 n5 n6
  replace B := B.trans (hb.mono B.size)
  clear hb N
  go_wp2_with fail
  refine (CI _).mono ?_
  rintro e v5 ⟨rfl, hb⟩
  replace B := B.trans (hb.mono B.size)
  clear hb
  go_wp2_with fail
  go_ret
  exact ⟨rfl, B⟩
end Go.Proofs.Ytnjoldjefknpbaa
