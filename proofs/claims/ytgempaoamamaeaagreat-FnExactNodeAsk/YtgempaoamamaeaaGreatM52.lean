/- Two messages that are the same (the laws). -/
import Derived.Test.YtgempaoamamaeaaGreatM51
namespace Go.Proofs.YtgempaoamamaeaaGreat
open Go.RowKit
set_option linter.unusedVariables false
set_option maxHeartbeats 4000000 in
theorem eqMsg_same (k fr tu no lo hi sl : Int) (s : ByteArray) (w : World) :
    Calls Tryz.prog 13 #[.agg #[.int .i64 k, .int .i64 fr, .int .i64 tu, .int .i64 no, .int .i64 lo, .int .i64 hi, .int .i64 sl, .string s], .agg #[.int .i64 k, .int .i64 fr, .int .i64 tu, .int .i64 no, .int .i64 lo, .int .i64 hi, .int .i64 sl, .string s]] w fun e w' => e = .returned (.bool true) ∧ Below w.heap.size w w' := by
  have z1 : (w.alloc (.cells #[.int .i64 k, .int .i64 fr, .int .i64 tu, .int .i64 no, .int .i64 lo, .int .i64 hi, .int .i64 sl, .string s] 59)).heap.size = w.heap.size + 1 := by simp
  have P0 := (Box8.new w k fr tu no lo hi sl s 59).alloc (.cells #[.int .i64 k, .int .i64 fr, .int .i64 tu, .int .i64 no, .int .i64 lo, .int .i64 hi, .int .i64 sl, .string s] 59)
  have P1 := Box8.new (w.alloc (.cells #[.int .i64 k, .int .i64 fr, .int .i64 tu, .int .i64 no, .int .i64 lo, .int .i64 hi, .int .i64 sl, .string s] 59)) k fr tu no lo hi sl s 59
  rw [z1] at P1
  have B := ((Below.refl w.heap.size w).alloc (Nat.le_refl _) (.cells #[.int .i64 k, .int .i64 fr, .int .i64 tu, .int .i64 no, .int .i64 lo, .int .i64 hi, .int .i64 sl, .string s] 59)).alloc (by simp) (.cells #[.int .i64 k, .int .i64 fr, .int .i64 tu, .int .i64 no, .int .i64 lo, .int .i64 hi, .int .i64 sl, .string s] 59)
  clear z1
  go_enter Tryz.func13, Tryz.ntmps13
  go_wp2_with fail
  refine (eqIval_same _ _ _).mono ?_
  rintro e v ⟨rfl, hb⟩
  replace P0 := P0.below hb
  replace P1 := P1.below hb
  replace B := B.trans (hb.mono B.size)
  clear hb
  obtain ⟨a0, a1, a2, a3, a4, a5, a6, a7, a8⟩ := P0
  obtain ⟨b0, b1, b2, b3, b4, b5, b6, b7, b8⟩ := P1
  go_wp2_with fail
  go_ret
  exact ⟨rfl, B⟩
end Go.Proofs.YtgempaoamamaeaaGreat
