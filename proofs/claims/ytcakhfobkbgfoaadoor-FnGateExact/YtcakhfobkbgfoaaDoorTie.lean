/-
  DERIVED. GIVEN WITH THE SEED: THE PROGRAM's TIES (one call each: nine closed facts by the kernel) AND EACH ROW's TIE, after the 31st guide's Derived/Test/Toyas{Tie, Card}.lean. No idea stands in it: it is a product of the set-up. Laid BY PROGRAM, IN A SANDBOX (cutbox-door.mjs). By AI agents, Wed Nov 11 2026. No macro, syntax, notation, axiom, sorry.
-/
import Derived.Test.YtcakhfobkbgfoaaDoorRows
import Derived.LaidByTextLater
import Derived.SevenTiedAt
import Derived.LaidSub
import Derived.LaidOnce
namespace Go.Proofs.YtcakhfobkbgfoaaDoor
open Go
set_option maxRecDepth 100000
theorem seatTie1 : Tryd.prog.laidByTextLater [("errors.errorType", Rows.laid_errors_errorType), ("loop.example/g00072/impl.errNoIval", Rows.laid_loop_example_g00072_impl_errNoIval), ("loop.example/g00072/impl.errNoDrift", Rows.laid_loop_example_g00072_impl_errNoDrift), ("loop.example/g00072/impl.errNoLong", Rows.laid_loop_example_g00072_impl_errNoLong), ("loop.example/g00072/impl.errNoPlan", Rows.laid_loop_example_g00072_impl_errNoPlan), ("loop.example/g00072/impl.errNoNode", Rows.laid_loop_example_g00072_impl_errNoNode), ("loop.example/g00072/impl.errUnknown", Rows.laid_loop_example_g00072_impl_errUnknown), ("loop.example/g00072/impl.errBeyond", Rows.laid_loop_example_g00072_impl_errBeyond), ("loop.example/g00072/impl.errOutside", Rows.laid_loop_example_g00072_impl_errOutside)] [.handle, .sentinel, .sentinel, .sentinel, .sentinel, .sentinel, .sentinel, .sentinel, .sentinel] true :=
  Program.laidByTextLater_by_one 168 8 2 (by kernel_rfl) (by kernel_rfl) (by kernel_rfl) (by kernel_rfl) (by kernel_rfl) (by kernel_rfl) (fun _ _ => by kernel_rfl)
theorem noOwnUnsafe : Tryd.pinned.checked.prog.headLifts.contains "ownunsafe" = false := by kernel_rfl
theorem tie : Tryd.prog.laidByTextLater [("errors.errorType", Rows.laid_errors_errorType), ("loop.example/g00072/impl.errNoIval", Rows.laid_loop_example_g00072_impl_errNoIval), ("loop.example/g00072/impl.errNoDrift", Rows.laid_loop_example_g00072_impl_errNoDrift), ("loop.example/g00072/impl.errNoLong", Rows.laid_loop_example_g00072_impl_errNoLong), ("loop.example/g00072/impl.errNoPlan", Rows.laid_loop_example_g00072_impl_errNoPlan), ("loop.example/g00072/impl.errNoNode", Rows.laid_loop_example_g00072_impl_errNoNode), ("loop.example/g00072/impl.errUnknown", Rows.laid_loop_example_g00072_impl_errUnknown), ("loop.example/g00072/impl.errBeyond", Rows.laid_loop_example_g00072_impl_errBeyond), ("loop.example/g00072/impl.errOutside", Rows.laid_loop_example_g00072_impl_errOutside)] [.handle, .sentinel, .sentinel, .sentinel, .sentinel, .sentinel, .sentinel, .sentinel, .sentinel] true :=
  Program.laidByTextLater.sub seatTie1 ["errors.errorType", "loop.example/g00072/impl.errNoIval", "loop.example/g00072/impl.errNoDrift", "loop.example/g00072/impl.errNoLong", "loop.example/g00072/impl.errNoPlan", "loop.example/g00072/impl.errNoNode", "loop.example/g00072/impl.errUnknown", "loop.example/g00072/impl.errBeyond", "loop.example/g00072/impl.errOutside"] (by kernel_rfl) (by kernel_rfl)
theorem fnGateTruth_row_tie : Rows.fnGateTruthRow.laidByTextAt .later Tryd.pinned [.handle, .sentinel, .sentinel, .sentinel, .sentinel, .sentinel, .sentinel, .sentinel, .sentinel] true :=
  OpenClaim.laidByTextAt_later rfl rfl tie noOwnUnsafe
theorem fnGateExact_row_tie : Rows.fnGateExactRow.laidByTextAt .later Tryd.pinned [.handle, .sentinel, .sentinel, .sentinel, .sentinel, .sentinel, .sentinel, .sentinel, .sentinel] true :=
  OpenClaim.laidByTextAt_later rfl rfl tie noOwnUnsafe
theorem fnExactGateAsk_row_tie : Rows.fnExactGateAskRow.laidByTextAt .later Tryd.pinned [.handle, .sentinel, .sentinel, .sentinel, .sentinel, .sentinel, .sentinel, .sentinel, .sentinel] true :=
  OpenClaim.laidByTextAt_later rfl rfl tie noOwnUnsafe
theorem tie2 : Tryd.prog.laidByTextLater [("loop.example/g00072/impl.errNoIval", Rows.laid_loop_example_g00072_impl_errNoIval), ("loop.example/g00072/impl.errNoDrift", Rows.laid_loop_example_g00072_impl_errNoDrift), ("loop.example/g00072/impl.errNoLong", Rows.laid_loop_example_g00072_impl_errNoLong), ("loop.example/g00072/impl.errBeyond", Rows.laid_loop_example_g00072_impl_errBeyond)] [.sentinel, .sentinel, .sentinel, .sentinel] true :=
  Program.laidByTextLater.sub seatTie1 ["loop.example/g00072/impl.errNoIval", "loop.example/g00072/impl.errNoDrift", "loop.example/g00072/impl.errNoLong", "loop.example/g00072/impl.errBeyond"] (by kernel_rfl) (by kernel_rfl)
theorem fnExactGateSpan_row_tie : Rows.fnExactGateSpanRow.laidByTextAt .later Tryd.pinned [.sentinel, .sentinel, .sentinel, .sentinel] true :=
  OpenClaim.laidByTextAt_later rfl rfl tie2 noOwnUnsafe
theorem tie3 : Tryd.prog.laidByTextLater [("loop.example/g00072/impl.errNoDrift", Rows.laid_loop_example_g00072_impl_errNoDrift), ("loop.example/g00072/impl.errNoLong", Rows.laid_loop_example_g00072_impl_errNoLong), ("loop.example/g00072/impl.errBeyond", Rows.laid_loop_example_g00072_impl_errBeyond)] [.sentinel, .sentinel, .sentinel] true :=
  Program.laidByTextLater.sub seatTie1 ["loop.example/g00072/impl.errNoDrift", "loop.example/g00072/impl.errNoLong", "loop.example/g00072/impl.errBeyond"] (by kernel_rfl) (by kernel_rfl)
theorem fnExactBusyStill_row_tie : Rows.fnExactBusyStillRow.laidByTextAt .later Tryd.pinned [.sentinel, .sentinel, .sentinel] true :=
  OpenClaim.laidByTextAt_later rfl rfl tie3 noOwnUnsafe
theorem fnExactGateBudget_row_tie : Rows.fnExactGateBudgetRow.laidByTextAt .later Tryd.pinned [.sentinel, .sentinel, .sentinel] true :=
  OpenClaim.laidByTextAt_later rfl rfl tie3 noOwnUnsafe
theorem tie4 : Tryd.prog.laidByTextLater [("loop.example/g00072/impl.errNoIval", Rows.laid_loop_example_g00072_impl_errNoIval), ("loop.example/g00072/impl.errNoDrift", Rows.laid_loop_example_g00072_impl_errNoDrift), ("loop.example/g00072/impl.errNoLong", Rows.laid_loop_example_g00072_impl_errNoLong), ("loop.example/g00072/impl.errNoPlan", Rows.laid_loop_example_g00072_impl_errNoPlan), ("loop.example/g00072/impl.errNoNode", Rows.laid_loop_example_g00072_impl_errNoNode), ("loop.example/g00072/impl.errUnknown", Rows.laid_loop_example_g00072_impl_errUnknown), ("loop.example/g00072/impl.errBeyond", Rows.laid_loop_example_g00072_impl_errBeyond), ("loop.example/g00072/impl.errOutside", Rows.laid_loop_example_g00072_impl_errOutside)] [.sentinel, .sentinel, .sentinel, .sentinel, .sentinel, .sentinel, .sentinel, .sentinel] true :=
  Program.laidByTextLater.sub seatTie1 ["loop.example/g00072/impl.errNoIval", "loop.example/g00072/impl.errNoDrift", "loop.example/g00072/impl.errNoLong", "loop.example/g00072/impl.errNoPlan", "loop.example/g00072/impl.errNoNode", "loop.example/g00072/impl.errUnknown", "loop.example/g00072/impl.errBeyond", "loop.example/g00072/impl.errOutside"] (by kernel_rfl) (by kernel_rfl)
theorem fnExactGateWait_row_tie : Rows.fnExactGateWaitRow.laidByTextAt .later Tryd.pinned [.sentinel, .sentinel, .sentinel, .sentinel, .sentinel, .sentinel, .sentinel, .sentinel] true :=
  OpenClaim.laidByTextAt_later rfl rfl tie4 noOwnUnsafe
theorem fnGateTruthUpto_row_tie : Rows.fnGateTruthUptoRow.laidByTextAt .later Tryd.pinned [.handle, .sentinel, .sentinel, .sentinel, .sentinel, .sentinel, .sentinel, .sentinel, .sentinel] true :=
  OpenClaim.laidByTextAt_later rfl rfl tie noOwnUnsafe
theorem fnGateExactUpto_row_tie : Rows.fnGateExactUptoRow.laidByTextAt .later Tryd.pinned [.handle, .sentinel, .sentinel, .sentinel, .sentinel, .sentinel, .sentinel, .sentinel, .sentinel] true :=
  OpenClaim.laidByTextAt_later rfl rfl tie noOwnUnsafe
theorem fnExactGateSpanUpto_row_tie : Rows.fnExactGateSpanUptoRow.laidByTextAt .later Tryd.pinned [.sentinel, .sentinel, .sentinel, .sentinel] true :=
  OpenClaim.laidByTextAt_later rfl rfl tie2 noOwnUnsafe
theorem fnExactGateAskUpto_row_tie : Rows.fnExactGateAskUptoRow.laidByTextAt .later Tryd.pinned [.handle, .sentinel, .sentinel, .sentinel, .sentinel, .sentinel, .sentinel, .sentinel, .sentinel] true :=
  OpenClaim.laidByTextAt_later rfl rfl tie noOwnUnsafe
theorem fnExactBusyStillUpto_row_tie : Rows.fnExactBusyStillUptoRow.laidByTextAt .later Tryd.pinned [.sentinel, .sentinel, .sentinel] true :=
  OpenClaim.laidByTextAt_later rfl rfl tie3 noOwnUnsafe
theorem fnExactGateWaitUpto_row_tie : Rows.fnExactGateWaitUptoRow.laidByTextAt .later Tryd.pinned [.sentinel, .sentinel, .sentinel, .sentinel, .sentinel, .sentinel, .sentinel, .sentinel] true :=
  OpenClaim.laidByTextAt_later rfl rfl tie4 noOwnUnsafe
theorem fnExactGateBudgetUpto_row_tie : Rows.fnExactGateBudgetUptoRow.laidByTextAt .later Tryd.pinned [.sentinel, .sentinel, .sentinel] true :=
  OpenClaim.laidByTextAt_later rfl rfl tie3 noOwnUnsafe
end Go.Proofs.YtcakhfobkbgfoaaDoor
