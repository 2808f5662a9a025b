/-
  NARROWER THAN 'FOR EVERY INPUT', by the rows' own cells (each row's printed sentence says how): FnGateTruth: ifaces, laid · FnGateExact: ifaces, laid · FnExactGateSpan: ifaces, laid · FnExactGateAsk: ifaces, laid · FnExactBusyStill: ifaces, laid · FnExactGateWait: ifaces, laid · FnExactGateBudget: ifaces, laid.
  DERIVED. THE GIVEN ROWS OF THIS SEAT. 7 by the template 'for every input the law returns true; each argument reads behind the call as it read before'; 0 by the template 'total and deterministic' (their statements: YtcakhfobkbgfoaaDoorTotals.lean).
  GIVEN WITH THE SEED: the statements are not yours to turn. If you find one false, say at which input.
  Laid BY PROGRAM, IN A SANDBOX (cutbox-rows.mjs): the forced cells as the released guide's own fill.sh prints them over the translation c628ef362ed5b2c2… (all of the seat's roots in one cut). By AI agents, Wed Nov 11 2026. No macro, syntax, notation, axiom, sorry.
-/
import Derived.Test.YtcakhfobkbgfoaaDoorChecked
import GoSem.Claim
import GoSem.ClaimJoined
import GoSem.ClaimMapViews
import Derived.JoinedTies
import Derived.KernelRfl
namespace Go.Proofs.YtcakhfobkbgfoaaDoor
/- THE CELL 'sum', in the pinned program and in every row, IS THE sha256 OF THE DUMP (.gsa) THAT YtcakhfobkbgfoaaDoorProg.lean LOADS. Nothing in Lean hashes anything: it is a label: what it is worth is what the hold of that sum in a sandbox is worth. -/
noncomputable def Tryd.pinned : Pinned := { name := "ytcakhfobkbgfoaadoor", sum := "c628ef362ed5b2c2159e75b1808ec72f1088f21495730dfaf088daaacdc99377", checked := Tryd.checked }
namespace Rows
def none {H : Type} : Left H := { results := [], args := [] }

/- WHAT THE LISTED PACKAGE-LEVEL VARIABLES READ AS WHEN THE CALL BEGINS. Each datum BY PROGRAM (the guide's laid-datum.mjs) off the statement by which the dump's own 'gosem.cut.vars' lays the variable. In a bare row this is a premise. The card (YtcakhfobkbgfoaaDoorCards.lean) ties it to the program's text. -/
def laid_errors_errorType {H : Type} : DataW H := .iface "internal/reflectlite.rtype" (.agg [.ptr (.lit (.string [101, 114, 114, 111, 114]))])
def laid_loop_example_g00072_impl_errNoIval {H : Type} : DataW H := .iface "*errors.errorString" (.ptr (.agg [.lit (.string [116, 104, 105, 115, 32, 105, 115, 32, 110, 111, 32, 105, 110, 116, 101, 114, 118, 97, 108])]))
def laid_loop_example_g00072_impl_errNoDrift {H : Type} : DataW H := .iface "*errors.errorString" (.ptr (.agg [.lit (.string [116, 104, 105, 115, 32, 105, 115, 32, 110, 111, 32, 100, 114, 105, 102, 116])]))
def laid_loop_example_g00072_impl_errNoLong {H : Type} : DataW H := .iface "*errors.errorString" (.ptr (.agg [.lit (.string [110, 111, 32, 102, 114, 97, 109, 101, 32, 105, 115, 32, 115, 111, 32, 108, 111, 110, 103])]))
def laid_loop_example_g00072_impl_errNoPlan {H : Type} : DataW H := .iface "*errors.errorString" (.ptr (.agg [.lit (.string [116, 104, 105, 115, 32, 105, 115, 32, 110, 111, 32, 112, 108, 97, 110])]))
def laid_loop_example_g00072_impl_errNoNode {H : Type} : DataW H := .iface "*errors.errorString" (.ptr (.agg [.lit (.string [116, 104, 105, 115, 32, 105, 115, 32, 110, 111, 32, 110, 111, 100, 101])]))
def laid_loop_example_g00072_impl_errUnknown {H : Type} : DataW H := .iface "*errors.errorString" (.ptr (.agg [.lit (.string [110, 111, 116, 104, 105, 110, 103, 32, 105, 115, 32, 107, 110, 111, 119, 110, 32, 111, 102, 32, 116, 114, 117, 101, 32, 116, 105, 109, 101])]))
def laid_loop_example_g00072_impl_errBeyond {H : Type} : DataW H := .iface "*errors.errorString" (.ptr (.agg [.lit (.string [116, 104, 105, 115, 32, 114, 101, 97, 99, 104, 101, 115, 32, 98, 101, 121, 111, 110, 100, 32, 97, 108, 108, 32, 116, 105, 109, 101, 115])]))
def laid_loop_example_g00072_impl_errOutside {H : Type} : DataW H := .iface "*errors.errorString" (.ptr (.agg [.lit (.string [110, 111, 32, 115, 108, 111, 116, 32, 111, 102, 32, 105, 116, 115, 32, 111, 119, 110, 101, 114, 32, 104, 97, 115, 32, 116, 104, 101, 32, 119, 104, 111, 108, 101, 32, 111, 102, 32, 105, 116])]))

/-- 'laws.FnGateTruth': WHATEVER THE INPUT: true; the input reads as it did. -/
def fnGateTruthSpec : ChangeSpec := { name := "fnGateTruth", vars := ["loop.example/g00072/impl.errNoIval", "loop.example/g00072/impl.errNoPlan", "loop.example/g00072/impl.errNoNode", "loop.example/g00072/impl.errNoDrift", "loop.example/g00072/impl.errNoLong", "loop.example/g00072/impl.errUnknown", "loop.example/g00072/impl.errOutside", "loop.example/g00072/impl.errBeyond"], fn := fun _ => fun
  | [d, g1, g2, g3, g4, g5, g6, g7, g8] => { results := [.lit (.bool true)], args := [d], vars := [g1, g2, g3, g4, g5, g6, g7, g8] }
  | _ => none }
def fnGateTruthRow : OpenClaim := { program := "ytcakhfobkbgfoaadoor", sum := "c628ef362ed5b2c2159e75b1808ec72f1088f21495730dfaf088daaacdc99377", func := "loop.example/g00072/laws.FnGateTruth", spec := "fnGateTruth", inPlace := ["internal/reflectlite.ValueOf", "(internal/reflectlite.Value).Type", "(internal/reflectlite.Value).IsNil", "internal/reflectlite.TypeOf", "(internal/reflectlite.Value).Elem", "(internal/reflectlite.Value).Set"], unfollowed := true, recurses := true, named := ["loop.example/g00072/impl.errNoIval", "loop.example/g00072/impl.errNoPlan", "loop.example/g00072/impl.errNoNode", "loop.example/g00072/impl.errNoDrift", "loop.example/g00072/impl.errNoLong", "loop.example/g00072/impl.errUnknown", "loop.example/g00072/impl.errOutside", "loop.example/g00072/impl.errBeyond", "errors.errorType"], ifaces := true, apart := false, laid := [("errors.errorType", laid_errors_errorType), ("loop.example/g00072/impl.errNoIval", laid_loop_example_g00072_impl_errNoIval), ("loop.example/g00072/impl.errNoDrift", laid_loop_example_g00072_impl_errNoDrift), ("loop.example/g00072/impl.errNoLong", laid_loop_example_g00072_impl_errNoLong), ("loop.example/g00072/impl.errNoPlan", laid_loop_example_g00072_impl_errNoPlan), ("loop.example/g00072/impl.errNoNode", laid_loop_example_g00072_impl_errNoNode), ("loop.example/g00072/impl.errUnknown", laid_loop_example_g00072_impl_errUnknown), ("loop.example/g00072/impl.errBeyond", laid_loop_example_g00072_impl_errBeyond), ("loop.example/g00072/impl.errOutside", laid_loop_example_g00072_impl_errOutside)] }
def FnGateTruthSaid : Prop := fnGateTruthRow.holds Tryd.pinned (OpenSpec.ofChange fnGateTruthSpec)

/-- ITS FALSE NEIGHBOUR: 'it returns false'. Refute it at one input. -/
def fnGateTruthWrong : ChangeSpec := { name := "fnGateTruth", vars := ["loop.example/g00072/impl.errNoIval", "loop.example/g00072/impl.errNoPlan", "loop.example/g00072/impl.errNoNode", "loop.example/g00072/impl.errNoDrift", "loop.example/g00072/impl.errNoLong", "loop.example/g00072/impl.errUnknown", "loop.example/g00072/impl.errOutside", "loop.example/g00072/impl.errBeyond"], fn := fun _ => fun
  | [d, g1, g2, g3, g4, g5, g6, g7, g8] => { results := [.lit (.bool false)], args := [d], vars := [g1, g2, g3, g4, g5, g6, g7, g8] }
  | _ => none }
def FnGateTruthWrongFalsely : Prop := fnGateTruthRow.holds Tryd.pinned (OpenSpec.ofChange fnGateTruthWrong)

/-- 'laws.FnGateExact': WHATEVER THE INPUT: true; the input reads as it did. -/
def fnGateExactSpec : ChangeSpec := { name := "fnGateExact", vars := ["loop.example/g00072/impl.errNoIval", "loop.example/g00072/impl.errNoPlan", "loop.example/g00072/impl.errNoNode", "loop.example/g00072/impl.errNoDrift", "loop.example/g00072/impl.errNoLong", "loop.example/g00072/impl.errUnknown", "loop.example/g00072/impl.errOutside", "loop.example/g00072/impl.errBeyond"], fn := fun _ => fun
  | [d, g1, g2, g3, g4, g5, g6, g7, g8] => { results := [.lit (.bool true)], args := [d], vars := [g1, g2, g3, g4, g5, g6, g7, g8] }
  | _ => none }
def fnGateExactRow : OpenClaim := { program := "ytcakhfobkbgfoaadoor", sum := "c628ef362ed5b2c2159e75b1808ec72f1088f21495730dfaf088daaacdc99377", func := "loop.example/g00072/laws.FnGateExact", spec := "fnGateExact", inPlace := ["internal/reflectlite.ValueOf", "(internal/reflectlite.Value).Type", "(internal/reflectlite.Value).IsNil", "internal/reflectlite.TypeOf", "(internal/reflectlite.Value).Elem", "(internal/reflectlite.Value).Set"], unfollowed := true, recurses := true, named := ["loop.example/g00072/impl.errNoIval", "loop.example/g00072/impl.errNoPlan", "loop.example/g00072/impl.errNoNode", "loop.example/g00072/impl.errNoDrift", "loop.example/g00072/impl.errNoLong", "loop.example/g00072/impl.errUnknown", "loop.example/g00072/impl.errOutside", "loop.example/g00072/impl.errBeyond", "errors.errorType"], ifaces := true, apart := false, laid := [("errors.errorType", laid_errors_errorType), ("loop.example/g00072/impl.errNoIval", laid_loop_example_g00072_impl_errNoIval), ("loop.example/g00072/impl.errNoDrift", laid_loop_example_g00072_impl_errNoDrift), ("loop.example/g00072/impl.errNoLong", laid_loop_example_g00072_impl_errNoLong), ("loop.example/g00072/impl.errNoPlan", laid_loop_example_g00072_impl_errNoPlan), ("loop.example/g00072/impl.errNoNode", laid_loop_example_g00072_impl_errNoNode), ("loop.example/g00072/impl.errUnknown", laid_loop_example_g00072_impl_errUnknown), ("loop.example/g00072/impl.errBeyond", laid_loop_example_g00072_impl_errBeyond), ("loop.example/g00072/impl.errOutside", laid_loop_example_g00072_impl_errOutside)] }
def FnGateExactSaid : Prop := fnGateExactRow.holds Tryd.pinned (OpenSpec.ofChange fnGateExactSpec)

/-- ITS FALSE NEIGHBOUR: 'it returns false'. Refute it at one input. -/
def fnGateExactWrong : ChangeSpec := { name := "fnGateExact", vars := ["loop.example/g00072/impl.errNoIval", "loop.example/g00072/impl.errNoPlan", "loop.example/g00072/impl.errNoNode", "loop.example/g00072/impl.errNoDrift", "loop.example/g00072/impl.errNoLong", "loop.example/g00072/impl.errUnknown", "loop.example/g00072/impl.errOutside", "loop.example/g00072/impl.errBeyond"], fn := fun _ => fun
  | [d, g1, g2, g3, g4, g5, g6, g7, g8] => { results := [.lit (.bool false)], args := [d], vars := [g1, g2, g3, g4, g5, g6, g7, g8] }
  | _ => none }
def FnGateExactWrongFalsely : Prop := fnGateExactRow.holds Tryd.pinned (OpenSpec.ofChange fnGateExactWrong)

/-- 'laws.FnExactGateSpan': WHATEVER THE INPUT: true; the input reads as it did. -/
def fnExactGateSpanSpec : ChangeSpec := { name := "fnExactGateSpan", vars := ["loop.example/g00072/impl.errNoIval", "loop.example/g00072/impl.errBeyond", "loop.example/g00072/impl.errNoDrift", "loop.example/g00072/impl.errNoLong"], fn := fun _ => fun
  | [d1, d2, d3, g1, g2, g3, g4] => { results := [.lit (.bool true)], args := [d1, d2, d3], vars := [g1, g2, g3, g4] }
  | _ => none }
def fnExactGateSpanRow : OpenClaim := { program := "ytcakhfobkbgfoaadoor", sum := "c628ef362ed5b2c2159e75b1808ec72f1088f21495730dfaf088daaacdc99377", func := "loop.example/g00072/laws.FnExactGateSpan", spec := "fnExactGateSpan", unfollowed := true, recurses := true, named := ["loop.example/g00072/impl.errNoIval", "loop.example/g00072/impl.errBeyond", "loop.example/g00072/impl.errNoDrift", "loop.example/g00072/impl.errNoLong"], ifaces := true, apart := false, laid := [("loop.example/g00072/impl.errNoIval", laid_loop_example_g00072_impl_errNoIval), ("loop.example/g00072/impl.errNoDrift", laid_loop_example_g00072_impl_errNoDrift), ("loop.example/g00072/impl.errNoLong", laid_loop_example_g00072_impl_errNoLong), ("loop.example/g00072/impl.errBeyond", laid_loop_example_g00072_impl_errBeyond)] }
def FnExactGateSpanSaid : Prop := fnExactGateSpanRow.holds Tryd.pinned (OpenSpec.ofChange fnExactGateSpanSpec)

/-- ITS FALSE NEIGHBOUR: 'it returns false'. Refute it at one input. -/
def fnExactGateSpanWrong : ChangeSpec := { name := "fnExactGateSpan", vars := ["loop.example/g00072/impl.errNoIval", "loop.example/g00072/impl.errBeyond", "loop.example/g00072/impl.errNoDrift", "loop.example/g00072/impl.errNoLong"], fn := fun _ => fun
  | [d1, d2, d3, g1, g2, g3, g4] => { results := [.lit (.bool false)], args := [d1, d2, d3], vars := [g1, g2, g3, g4] }
  | _ => none }
def FnExactGateSpanWrongFalsely : Prop := fnExactGateSpanRow.holds Tryd.pinned (OpenSpec.ofChange fnExactGateSpanWrong)

/-- 'laws.FnExactGateAsk': WHATEVER THE INPUT: true; the input reads as it did. -/
def fnExactGateAskSpec : ChangeSpec := { name := "fnExactGateAsk", vars := ["loop.example/g00072/impl.errNoIval", "loop.example/g00072/impl.errNoPlan", "loop.example/g00072/impl.errNoNode", "loop.example/g00072/impl.errNoDrift", "loop.example/g00072/impl.errNoLong", "loop.example/g00072/impl.errUnknown", "loop.example/g00072/impl.errOutside", "loop.example/g00072/impl.errBeyond"], fn := fun _ => fun
  | [d1, d2, d3, d4, d5, d6, g1, g2, g3, g4, g5, g6, g7, g8] => { results := [.lit (.bool true)], args := [d1, d2, d3, d4, d5, d6], vars := [g1, g2, g3, g4, g5, g6, g7, g8] }
  | _ => none }
def fnExactGateAskRow : OpenClaim := { program := "ytcakhfobkbgfoaadoor", sum := "c628ef362ed5b2c2159e75b1808ec72f1088f21495730dfaf088daaacdc99377", func := "loop.example/g00072/laws.FnExactGateAsk", spec := "fnExactGateAsk", inPlace := ["internal/reflectlite.ValueOf", "(internal/reflectlite.Value).Type", "(internal/reflectlite.Value).IsNil", "internal/reflectlite.TypeOf", "(internal/reflectlite.Value).Elem", "(internal/reflectlite.Value).Set"], unfollowed := true, recurses := true, named := ["loop.example/g00072/impl.errNoIval", "loop.example/g00072/impl.errNoPlan", "loop.example/g00072/impl.errNoNode", "loop.example/g00072/impl.errNoDrift", "loop.example/g00072/impl.errNoLong", "loop.example/g00072/impl.errUnknown", "loop.example/g00072/impl.errOutside", "loop.example/g00072/impl.errBeyond", "errors.errorType"], ifaces := true, apart := false, laid := [("errors.errorType", laid_errors_errorType), ("loop.example/g00072/impl.errNoIval", laid_loop_example_g00072_impl_errNoIval), ("loop.example/g00072/impl.errNoDrift", laid_loop_example_g00072_impl_errNoDrift), ("loop.example/g00072/impl.errNoLong", laid_loop_example_g00072_impl_errNoLong), ("loop.example/g00072/impl.errNoPlan", laid_loop_example_g00072_impl_errNoPlan), ("loop.example/g00072/impl.errNoNode", laid_loop_example_g00072_impl_errNoNode), ("loop.example/g00072/impl.errUnknown", laid_loop_example_g00072_impl_errUnknown), ("loop.example/g00072/impl.errBeyond", laid_loop_example_g00072_impl_errBeyond), ("loop.example/g00072/impl.errOutside", laid_loop_example_g00072_impl_errOutside)] }
def FnExactGateAskSaid : Prop := fnExactGateAskRow.holds Tryd.pinned (OpenSpec.ofChange fnExactGateAskSpec)

/-- ITS FALSE NEIGHBOUR: 'it returns false'. Refute it at one input. -/
def fnExactGateAskWrong : ChangeSpec := { name := "fnExactGateAsk", vars := ["loop.example/g00072/impl.errNoIval", "loop.example/g00072/impl.errNoPlan", "loop.example/g00072/impl.errNoNode", "loop.example/g00072/impl.errNoDrift", "loop.example/g00072/impl.errNoLong", "loop.example/g00072/impl.errUnknown", "loop.example/g00072/impl.errOutside", "loop.example/g00072/impl.errBeyond"], fn := fun _ => fun
  | [d1, d2, d3, d4, d5, d6, g1, g2, g3, g4, g5, g6, g7, g8] => { results := [.lit (.bool false)], args := [d1, d2, d3, d4, d5, d6], vars := [g1, g2, g3, g4, g5, g6, g7, g8] }
  | _ => none }
def FnExactGateAskWrongFalsely : Prop := fnExactGateAskRow.holds Tryd.pinned (OpenSpec.ofChange fnExactGateAskWrong)

/-- 'laws.FnExactBusyStill': WHATEVER THE INPUT: true; the input reads as it did. -/
def fnExactBusyStillSpec : ChangeSpec := { name := "fnExactBusyStill", vars := ["loop.example/g00072/impl.errBeyond", "loop.example/g00072/impl.errNoDrift", "loop.example/g00072/impl.errNoLong"], fn := fun _ => fun
  | [d1, d2, d3, d4, g1, g2, g3] => { results := [.lit (.bool true)], args := [d1, d2, d3, d4], vars := [g1, g2, g3] }
  | _ => none }
def fnExactBusyStillRow : OpenClaim := { program := "ytcakhfobkbgfoaadoor", sum := "c628ef362ed5b2c2159e75b1808ec72f1088f21495730dfaf088daaacdc99377", func := "loop.example/g00072/laws.FnExactBusyStill", spec := "fnExactBusyStill", unfollowed := true, recurses := true, named := ["loop.example/g00072/impl.errBeyond", "loop.example/g00072/impl.errNoDrift", "loop.example/g00072/impl.errNoLong"], ifaces := true, apart := false, laid := [("loop.example/g00072/impl.errNoDrift", laid_loop_example_g00072_impl_errNoDrift), ("loop.example/g00072/impl.errNoLong", laid_loop_example_g00072_impl_errNoLong), ("loop.example/g00072/impl.errBeyond", laid_loop_example_g00072_impl_errBeyond)] }
def FnExactBusyStillSaid : Prop := fnExactBusyStillRow.holds Tryd.pinned (OpenSpec.ofChange fnExactBusyStillSpec)

/-- ITS FALSE NEIGHBOUR: 'it returns false'. Refute it at one input. -/
def fnExactBusyStillWrong : ChangeSpec := { name := "fnExactBusyStill", vars := ["loop.example/g00072/impl.errBeyond", "loop.example/g00072/impl.errNoDrift", "loop.example/g00072/impl.errNoLong"], fn := fun _ => fun
  | [d1, d2, d3, d4, g1, g2, g3] => { results := [.lit (.bool false)], args := [d1, d2, d3, d4], vars := [g1, g2, g3] }
  | _ => none }
def FnExactBusyStillWrongFalsely : Prop := fnExactBusyStillRow.holds Tryd.pinned (OpenSpec.ofChange fnExactBusyStillWrong)

/-- 'laws.FnExactGateWait': WHATEVER THE INPUT: true; the input reads as it did. -/
def fnExactGateWaitSpec : ChangeSpec := { name := "fnExactGateWait", vars := ["loop.example/g00072/impl.errNoIval", "loop.example/g00072/impl.errNoPlan", "loop.example/g00072/impl.errNoNode", "loop.example/g00072/impl.errNoDrift", "loop.example/g00072/impl.errNoLong", "loop.example/g00072/impl.errUnknown", "loop.example/g00072/impl.errOutside", "loop.example/g00072/impl.errBeyond"], fn := fun _ => fun
  | [d1, d2, d3, d4, d5, d6, d7, g1, g2, g3, g4, g5, g6, g7, g8] => { results := [.lit (.bool true)], args := [d1, d2, d3, d4, d5, d6, d7], vars := [g1, g2, g3, g4, g5, g6, g7, g8] }
  | _ => none }
def fnExactGateWaitRow : OpenClaim := { program := "ytcakhfobkbgfoaadoor", sum := "c628ef362ed5b2c2159e75b1808ec72f1088f21495730dfaf088daaacdc99377", func := "loop.example/g00072/laws.FnExactGateWait", spec := "fnExactGateWait", unfollowed := true, recurses := true, named := ["loop.example/g00072/impl.errNoIval", "loop.example/g00072/impl.errNoPlan", "loop.example/g00072/impl.errNoNode", "loop.example/g00072/impl.errNoDrift", "loop.example/g00072/impl.errNoLong", "loop.example/g00072/impl.errUnknown", "loop.example/g00072/impl.errOutside", "loop.example/g00072/impl.errBeyond"], ifaces := true, apart := false, laid := [("loop.example/g00072/impl.errNoIval", laid_loop_example_g00072_impl_errNoIval), ("loop.example/g00072/impl.errNoDrift", laid_loop_example_g00072_impl_errNoDrift), ("loop.example/g00072/impl.errNoLong", laid_loop_example_g00072_impl_errNoLong), ("loop.example/g00072/impl.errNoPlan", laid_loop_example_g00072_impl_errNoPlan), ("loop.example/g00072/impl.errNoNode", laid_loop_example_g00072_impl_errNoNode), ("loop.example/g00072/impl.errUnknown", laid_loop_example_g00072_impl_errUnknown), ("loop.example/g00072/impl.errBeyond", laid_loop_example_g00072_impl_errBeyond), ("loop.example/g00072/impl.errOutside", laid_loop_example_g00072_impl_errOutside)] }
def FnExactGateWaitSaid : Prop := fnExactGateWaitRow.holds Tryd.pinned (OpenSpec.ofChange fnExactGateWaitSpec)

/-- ITS FALSE NEIGHBOUR: 'it returns false'. Refute it at one input. -/
def fnExactGateWaitWrong : ChangeSpec := { name := "fnExactGateWait", vars := ["loop.example/g00072/impl.errNoIval", "loop.example/g00072/impl.errNoPlan", "loop.example/g00072/impl.errNoNode", "loop.example/g00072/impl.errNoDrift", "loop.example/g00072/impl.errNoLong", "loop.example/g00072/impl.errUnknown", "loop.example/g00072/impl.errOutside", "loop.example/g00072/impl.errBeyond"], fn := fun _ => fun
  | [d1, d2, d3, d4, d5, d6, d7, g1, g2, g3, g4, g5, g6, g7, g8] => { results := [.lit (.bool false)], args := [d1, d2, d3, d4, d5, d6, d7], vars := [g1, g2, g3, g4, g5, g6, g7, g8] }
  | _ => none }
def FnExactGateWaitWrongFalsely : Prop := fnExactGateWaitRow.holds Tryd.pinned (OpenSpec.ofChange fnExactGateWaitWrong)

/-- 'laws.FnExactGateBudget': WHATEVER THE INPUT: true; the input reads as it did. -/
def fnExactGateBudgetSpec : ChangeSpec := { name := "fnExactGateBudget", vars := ["loop.example/g00072/impl.errBeyond", "loop.example/g00072/impl.errNoDrift", "loop.example/g00072/impl.errNoLong"], fn := fun _ => fun
  | [d1, d2, d3, d4, g1, g2, g3] => { results := [.lit (.bool true)], args := [d1, d2, d3, d4], vars := [g1, g2, g3] }
  | _ => none }
def fnExactGateBudgetRow : OpenClaim := { program := "ytcakhfobkbgfoaadoor", sum := "c628ef362ed5b2c2159e75b1808ec72f1088f21495730dfaf088daaacdc99377", func := "loop.example/g00072/laws.FnExactGateBudget", spec := "fnExactGateBudget", unfollowed := true, recurses := true, named := ["loop.example/g00072/impl.errBeyond", "loop.example/g00072/impl.errNoDrift", "loop.example/g00072/impl.errNoLong"], ifaces := true, apart := false, laid := [("loop.example/g00072/impl.errNoDrift", laid_loop_example_g00072_impl_errNoDrift), ("loop.example/g00072/impl.errNoLong", laid_loop_example_g00072_impl_errNoLong), ("loop.example/g00072/impl.errBeyond", laid_loop_example_g00072_impl_errBeyond)] }
def FnExactGateBudgetSaid : Prop := fnExactGateBudgetRow.holds Tryd.pinned (OpenSpec.ofChange fnExactGateBudgetSpec)

/-- ITS FALSE NEIGHBOUR: 'it returns false'. Refute it at one input. -/
def fnExactGateBudgetWrong : ChangeSpec := { name := "fnExactGateBudget", vars := ["loop.example/g00072/impl.errBeyond", "loop.example/g00072/impl.errNoDrift", "loop.example/g00072/impl.errNoLong"], fn := fun _ => fun
  | [d1, d2, d3, d4, g1, g2, g3] => { results := [.lit (.bool false)], args := [d1, d2, d3, d4], vars := [g1, g2, g3] }
  | _ => none }
def FnExactGateBudgetWrongFalsely : Prop := fnExactGateBudgetRow.holds Tryd.pinned (OpenSpec.ofChange fnExactGateBudgetWrong)

/- THE SECOND FORM. 'bulk': how many values and letters a reading holds, each counted each time it is reached (what is shared counts as often as it is met; a slice's spare places count too). A statement '..UptoSaid' is the law's where the arguments, and the package variables that the reading takes, are together of bulk at most 1048576: NARROWER than '..Said'. Prove '..Said' where nothing that the law and all that it calls make is longer than what came in: it says more and counts as full. Else prove '..UptoSaid'. A law counts once. -/
mutual
def uptoBulk {H : Type} : DataW H → Nat
  | .lit (.string bytes) => bytes.length + 1
  | .lit _ => 1
  | .nil => 1
  | .ptr d => uptoBulk d + 1
  | .slice elems spare => uptoBulkAll elems + uptoBulkAll spare + 1
  | .agg parts => uptoBulkAll parts + 1
  | .iface _ d => uptoBulk d + 1
  | .map entries => uptoBulkEntries entries + 1
  | .held _ => 1
def uptoBulkAll {H : Type} : List (DataW H) → Nat
  | [] => 0
  | d :: r => uptoBulk d + uptoBulkAll r
def uptoBulkEntries {H : Type} : List (Lit × DataW H) → Nat
  | [] => 0
  | x :: r => uptoBulkEntry x + uptoBulkEntries r
def uptoBulkEntry {H : Type} : Lit × DataW H → Nat
  | (.string bytes, d) => bytes.length + uptoBulk d + 1
  | (_, d) => uptoBulk d + 1
 end
def uptoSmall : (H : Type) → List (DataW H) → Bool := fun _ ds => decide (uptoBulkAll ds ≤ 1048576)
def OpenSpec.upto (s : _root_.Go.ChangeSpec) : _root_.Go.OpenSpec := { _root_.Go.OpenSpec.ofChange s with cond := some uptoSmall }

/-- 'laws.FnGateTruth', WHERE WHAT IT READS IS OF BULK AT MOST 1048576: true; the input reads as it did. -/
def fnGateTruthUptoRow : OpenClaim := { program := "ytcakhfobkbgfoaadoor", sum := "c628ef362ed5b2c2159e75b1808ec72f1088f21495730dfaf088daaacdc99377", func := "loop.example/g00072/laws.FnGateTruth", spec := "fnGateTruth", inPlace := ["internal/reflectlite.ValueOf", "(internal/reflectlite.Value).Type", "(internal/reflectlite.Value).IsNil", "internal/reflectlite.TypeOf", "(internal/reflectlite.Value).Elem", "(internal/reflectlite.Value).Set"], unfollowed := true, recurses := true, named := ["loop.example/g00072/impl.errNoIval", "loop.example/g00072/impl.errNoPlan", "loop.example/g00072/impl.errNoNode", "loop.example/g00072/impl.errNoDrift", "loop.example/g00072/impl.errNoLong", "loop.example/g00072/impl.errUnknown", "loop.example/g00072/impl.errOutside", "loop.example/g00072/impl.errBeyond", "errors.errorType"], ifaces := true, apart := false, laid := [("errors.errorType", laid_errors_errorType), ("loop.example/g00072/impl.errNoIval", laid_loop_example_g00072_impl_errNoIval), ("loop.example/g00072/impl.errNoDrift", laid_loop_example_g00072_impl_errNoDrift), ("loop.example/g00072/impl.errNoLong", laid_loop_example_g00072_impl_errNoLong), ("loop.example/g00072/impl.errNoPlan", laid_loop_example_g00072_impl_errNoPlan), ("loop.example/g00072/impl.errNoNode", laid_loop_example_g00072_impl_errNoNode), ("loop.example/g00072/impl.errUnknown", laid_loop_example_g00072_impl_errUnknown), ("loop.example/g00072/impl.errBeyond", laid_loop_example_g00072_impl_errBeyond), ("loop.example/g00072/impl.errOutside", laid_loop_example_g00072_impl_errOutside)], narrowed := true }
def FnGateTruthUptoSaid : Prop := fnGateTruthUptoRow.holds Tryd.pinned (OpenSpec.upto fnGateTruthSpec)

/-- 'laws.FnGateExact', WHERE WHAT IT READS IS OF BULK AT MOST 1048576: true; the input reads as it did. -/
def fnGateExactUptoRow : OpenClaim := { program := "ytcakhfobkbgfoaadoor", sum := "c628ef362ed5b2c2159e75b1808ec72f1088f21495730dfaf088daaacdc99377", func := "loop.example/g00072/laws.FnGateExact", spec := "fnGateExact", inPlace := ["internal/reflectlite.ValueOf", "(internal/reflectlite.Value).Type", "(internal/reflectlite.Value).IsNil", "internal/reflectlite.TypeOf", "(internal/reflectlite.Value).Elem", "(internal/reflectlite.Value).Set"], unfollowed := true, recurses := true, named := ["loop.example/g00072/impl.errNoIval", "loop.example/g00072/impl.errNoPlan", "loop.example/g00072/impl.errNoNode", "loop.example/g00072/impl.errNoDrift", "loop.example/g00072/impl.errNoLong", "loop.example/g00072/impl.errUnknown", "loop.example/g00072/impl.errOutside", "loop.example/g00072/impl.errBeyond", "errors.errorType"], ifaces := true, apart := false, laid := [("errors.errorType", laid_errors_errorType), ("loop.example/g00072/impl.errNoIval", laid_loop_example_g00072_impl_errNoIval), ("loop.example/g00072/impl.errNoDrift", laid_loop_example_g00072_impl_errNoDrift), ("loop.example/g00072/impl.errNoLong", laid_loop_example_g00072_impl_errNoLong), ("loop.example/g00072/impl.errNoPlan", laid_loop_example_g00072_impl_errNoPlan), ("loop.example/g00072/impl.errNoNode", laid_loop_example_g00072_impl_errNoNode), ("loop.example/g00072/impl.errUnknown", laid_loop_example_g00072_impl_errUnknown), ("loop.example/g00072/impl.errBeyond", laid_loop_example_g00072_impl_errBeyond), ("loop.example/g00072/impl.errOutside", laid_loop_example_g00072_impl_errOutside)], narrowed := true }
def FnGateExactUptoSaid : Prop := fnGateExactUptoRow.holds Tryd.pinned (OpenSpec.upto fnGateExactSpec)

/-- 'laws.FnExactGateSpan', WHERE WHAT IT READS IS OF BULK AT MOST 1048576: true; the input reads as it did. -/
def fnExactGateSpanUptoRow : OpenClaim := { program := "ytcakhfobkbgfoaadoor", sum := "c628ef362ed5b2c2159e75b1808ec72f1088f21495730dfaf088daaacdc99377", func := "loop.example/g00072/laws.FnExactGateSpan", spec := "fnExactGateSpan", unfollowed := true, recurses := true, named := ["loop.example/g00072/impl.errNoIval", "loop.example/g00072/impl.errBeyond", "loop.example/g00072/impl.errNoDrift", "loop.example/g00072/impl.errNoLong"], ifaces := true, apart := false, laid := [("loop.example/g00072/impl.errNoIval", laid_loop_example_g00072_impl_errNoIval), ("loop.example/g00072/impl.errNoDrift", laid_loop_example_g00072_impl_errNoDrift), ("loop.example/g00072/impl.errNoLong", laid_loop_example_g00072_impl_errNoLong), ("loop.example/g00072/impl.errBeyond", laid_loop_example_g00072_impl_errBeyond)], narrowed := true }
def FnExactGateSpanUptoSaid : Prop := fnExactGateSpanUptoRow.holds Tryd.pinned (OpenSpec.upto fnExactGateSpanSpec)

/-- 'laws.FnExactGateAsk', WHERE WHAT IT READS IS OF BULK AT MOST 1048576: true; the input reads as it did. -/
def fnExactGateAskUptoRow : OpenClaim := { program := "ytcakhfobkbgfoaadoor", sum := "c628ef362ed5b2c2159e75b1808ec72f1088f21495730dfaf088daaacdc99377", func := "loop.example/g00072/laws.FnExactGateAsk", spec := "fnExactGateAsk", inPlace := ["internal/reflectlite.ValueOf", "(internal/reflectlite.Value).Type", "(internal/reflectlite.Value).IsNil", "internal/reflectlite.TypeOf", "(internal/reflectlite.Value).Elem", "(internal/reflectlite.Value).Set"], unfollowed := true, recurses := true, named := ["loop.example/g00072/impl.errNoIval", "loop.example/g00072/impl.errNoPlan", "loop.example/g00072/impl.errNoNode", "loop.example/g00072/impl.errNoDrift", "loop.example/g00072/impl.errNoLong", "loop.example/g00072/impl.errUnknown", "loop.example/g00072/impl.errOutside", "loop.example/g00072/impl.errBeyond", "errors.errorType"], ifaces := true, apart := false, laid := [("errors.errorType", laid_errors_errorType), ("loop.example/g00072/impl.errNoIval", laid_loop_example_g00072_impl_errNoIval), ("loop.example/g00072/impl.errNoDrift", laid_loop_example_g00072_impl_errNoDrift), ("loop.example/g00072/impl.errNoLong", laid_loop_example_g00072_impl_errNoLong), ("loop.example/g00072/impl.errNoPlan", laid_loop_example_g00072_impl_errNoPlan), ("loop.example/g00072/impl.errNoNode", laid_loop_example_g00072_impl_errNoNode), ("loop.example/g00072/impl.errUnknown", laid_loop_example_g00072_impl_errUnknown), ("loop.example/g00072/impl.errBeyond", laid_loop_example_g00072_impl_errBeyond), ("loop.example/g00072/impl.errOutside", laid_loop_example_g00072_impl_errOutside)], narrowed := true }
def FnExactGateAskUptoSaid : Prop := fnExactGateAskUptoRow.holds Tryd.pinned (OpenSpec.upto fnExactGateAskSpec)

/-- 'laws.FnExactBusyStill', WHERE WHAT IT READS IS OF BULK AT MOST 1048576: true; the input reads as it did. -/
def fnExactBusyStillUptoRow : OpenClaim := { program := "ytcakhfobkbgfoaadoor", sum := "c628ef362ed5b2c2159e75b1808ec72f1088f21495730dfaf088daaacdc99377", func := "loop.example/g00072/laws.FnExactBusyStill", spec := "fnExactBusyStill", unfollowed := true, recurses := true, named := ["loop.example/g00072/impl.errBeyond", "loop.example/g00072/impl.errNoDrift", "loop.example/g00072/impl.errNoLong"], ifaces := true, apart := false, laid := [("loop.example/g00072/impl.errNoDrift", laid_loop_example_g00072_impl_errNoDrift), ("loop.example/g00072/impl.errNoLong", laid_loop_example_g00072_impl_errNoLong), ("loop.example/g00072/impl.errBeyond", laid_loop_example_g00072_impl_errBeyond)], narrowed := true }
def FnExactBusyStillUptoSaid : Prop := fnExactBusyStillUptoRow.holds Tryd.pinned (OpenSpec.upto fnExactBusyStillSpec)

/-- 'laws.FnExactGateWait', WHERE WHAT IT READS IS OF BULK AT MOST 1048576: true; the input reads as it did. -/
def fnExactGateWaitUptoRow : OpenClaim := { program := "ytcakhfobkbgfoaadoor", sum := "c628ef362ed5b2c2159e75b1808ec72f1088f21495730dfaf088daaacdc99377", func := "loop.example/g00072/laws.FnExactGateWait", spec := "fnExactGateWait", unfollowed := true, recurses := true, named := ["loop.example/g00072/impl.errNoIval", "loop.example/g00072/impl.errNoPlan", "loop.example/g00072/impl.errNoNode", "loop.example/g00072/impl.errNoDrift", "loop.example/g00072/impl.errNoLong", "loop.example/g00072/impl.errUnknown", "loop.example/g00072/impl.errOutside", "loop.example/g00072/impl.errBeyond"], ifaces := true, apart := false, laid := [("loop.example/g00072/impl.errNoIval", laid_loop_example_g00072_impl_errNoIval), ("loop.example/g00072/impl.errNoDrift", laid_loop_example_g00072_impl_errNoDrift), ("loop.example/g00072/impl.errNoLong", laid_loop_example_g00072_impl_errNoLong), ("loop.example/g00072/impl.errNoPlan", laid_loop_example_g00072_impl_errNoPlan), ("loop.example/g00072/impl.errNoNode", laid_loop_example_g00072_impl_errNoNode), ("loop.example/g00072/impl.errUnknown", laid_loop_example_g00072_impl_errUnknown), ("loop.example/g00072/impl.errBeyond", laid_loop_example_g00072_impl_errBeyond), ("loop.example/g00072/impl.errOutside", laid_loop_example_g00072_impl_errOutside)], narrowed := true }
def FnExactGateWaitUptoSaid : Prop := fnExactGateWaitUptoRow.holds Tryd.pinned (OpenSpec.upto fnExactGateWaitSpec)

/-- 'laws.FnExactGateBudget', WHERE WHAT IT READS IS OF BULK AT MOST 1048576: true; the input reads as it did. -/
def fnExactGateBudgetUptoRow : OpenClaim := { program := "ytcakhfobkbgfoaadoor", sum := "c628ef362ed5b2c2159e75b1808ec72f1088f21495730dfaf088daaacdc99377", func := "loop.example/g00072/laws.FnExactGateBudget", spec := "fnExactGateBudget", unfollowed := true, recurses := true, named := ["loop.example/g00072/impl.errBeyond", "loop.example/g00072/impl.errNoDrift", "loop.example/g00072/impl.errNoLong"], ifaces := true, apart := false, laid := [("loop.example/g00072/impl.errNoDrift", laid_loop_example_g00072_impl_errNoDrift), ("loop.example/g00072/impl.errNoLong", laid_loop_example_g00072_impl_errNoLong), ("loop.example/g00072/impl.errBeyond", laid_loop_example_g00072_impl_errBeyond)], narrowed := true }
def FnExactGateBudgetUptoSaid : Prop := fnExactGateBudgetUptoRow.holds Tryd.pinned (OpenSpec.upto fnExactGateBudgetSpec)

end Rows
end Go.Proofs.YtcakhfobkbgfoaaDoor
