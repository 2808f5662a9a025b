/-
  DERIVED. GIVEN WITH THE SEED: THE PROGRAM's TIES (one call each: nine closed facts by the kernel) AND EACH ROW's TIE, after the 31st guide's Derived/Test/Toyas{Tie, Card}.lean. No idea stands in it: it is a product of the set-up. Laid BY PROGRAM, IN A SANDBOX (cutbox-door.mjs). By AI agents, Wed Nov 11 2026. No macro, syntax, notation, axiom, sorry.
-/
import Derived.Test.YtcakhfobkbgfoaaGreatDoorRows
import Derived.LaidByTextLater
import Derived.SevenTiedAt
import Derived.LaidSub
import Derived.LaidOnce
namespace Go.Proofs.YtcakhfobkbgfoaaGreatDoor
open Go
set_option maxRecDepth 100000
theorem seatTie1 : Tryz.prog.laidByTextLater [("errors.errorType", Rows.laid_errors_errorType), ("loop.example/g00072/impl.errNoIval", Rows.laid_loop_example_g00072_impl_errNoIval), ("loop.example/g00072/impl.errNoDrift", Rows.laid_loop_example_g00072_impl_errNoDrift), ("loop.example/g00072/impl.errNoLong", Rows.laid_loop_example_g00072_impl_errNoLong), ("loop.example/g00072/impl.errNoPlan", Rows.laid_loop_example_g00072_impl_errNoPlan), ("loop.example/g00072/impl.errNoNode", Rows.laid_loop_example_g00072_impl_errNoNode), ("loop.example/g00072/impl.errUnknown", Rows.laid_loop_example_g00072_impl_errUnknown), ("loop.example/g00072/impl.errBeyond", Rows.laid_loop_example_g00072_impl_errBeyond), ("loop.example/g00072/impl.errOutside", Rows.laid_loop_example_g00072_impl_errOutside)] [.handle, .sentinel, .sentinel, .sentinel, .sentinel, .sentinel, .sentinel, .sentinel, .sentinel] true :=
  Program.laidByTextLater_by_one 168 8 2 (by kernel_rfl) (by kernel_rfl) (by kernel_rfl) (by kernel_rfl) (by kernel_rfl) (by kernel_rfl) (fun _ _ => by kernel_rfl)
theorem noOwnUnsafe : Tryz.pinned.checked.prog.headLifts.contains "ownunsafe" = false := by kernel_rfl
theorem tie : Tryz.prog.laidByTextLater [("errors.errorType", Rows.laid_errors_errorType), ("loop.example/g00072/impl.errNoIval", Rows.laid_loop_example_g00072_impl_errNoIval), ("loop.example/g00072/impl.errNoDrift", Rows.laid_loop_example_g00072_impl_errNoDrift), ("loop.example/g00072/impl.errNoLong", Rows.laid_loop_example_g00072_impl_errNoLong), ("loop.example/g00072/impl.errNoPlan", Rows.laid_loop_example_g00072_impl_errNoPlan), ("loop.example/g00072/impl.errNoNode", Rows.laid_loop_example_g00072_impl_errNoNode), ("loop.example/g00072/impl.errUnknown", Rows.laid_loop_example_g00072_impl_errUnknown), ("loop.example/g00072/impl.errBeyond", Rows.laid_loop_example_g00072_impl_errBeyond), ("loop.example/g00072/impl.errOutside", Rows.laid_loop_example_g00072_impl_errOutside)] [.handle, .sentinel, .sentinel, .sentinel, .sentinel, .sentinel, .sentinel, .sentinel, .sentinel] true :=
  Program.laidByTextLater.sub seatTie1 ["errors.errorType", "loop.example/g00072/impl.errNoIval", "loop.example/g00072/impl.errNoDrift", "loop.example/g00072/impl.errNoLong", "loop.example/g00072/impl.errNoPlan", "loop.example/g00072/impl.errNoNode", "loop.example/g00072/impl.errUnknown", "loop.example/g00072/impl.errBeyond", "loop.example/g00072/impl.errOutside"] (by kernel_rfl) (by kernel_rfl)
theorem fnBudget_row_tie : Rows.fnBudgetRow.laidByTextAt .later Tryz.pinned [.handle, .sentinel, .sentinel, .sentinel, .sentinel, .sentinel, .sentinel, .sentinel, .sentinel] true :=
  OpenClaim.laidByTextAt_later rfl rfl tie noOwnUnsafe
theorem fnBudgetUpto_row_tie : Rows.fnBudgetUptoRow.laidByTextAt .later Tryz.pinned [.handle, .sentinel, .sentinel, .sentinel, .sentinel, .sentinel, .sentinel, .sentinel, .sentinel] true :=
  OpenClaim.laidByTextAt_later rfl rfl tie noOwnUnsafe
end Go.Proofs.YtcakhfobkbgfoaaGreatDoor
