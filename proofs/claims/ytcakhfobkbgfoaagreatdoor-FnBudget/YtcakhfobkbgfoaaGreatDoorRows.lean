/-
  NARROWER THAN 'FOR EVERY INPUT', by the rows' own cells (each row's printed sentence says how): FnBudget: ifaces, laid.
  DERIVED. THE GIVEN ROWS OF THIS SEAT. 1 by the template 'for every input the law returns true; each argument reads behind the call as it read before'; 0 by the template 'total and deterministic' (their statements: YtcakhfobkbgfoaaGreatDoorTotals.lean).
  GIVEN WITH THE SEED: the statements are not yours to turn. If you find one false, say at which input.
  Laid BY PROGRAM, IN A SANDBOX (cutbox-rows.mjs): the forced cells as the released guide's own fill.sh prints them over the translation fa123aee9aa25628… (all of the seat's roots in one cut). By AI agents, Wed Nov 11 2026. No macro, syntax, notation, axiom, sorry.
-/
import Derived.Test.YtcakhfobkbgfoaaGreatDoorChecked
import GoSem.Claim
import GoSem.ClaimJoined
import GoSem.ClaimMapViews
import Derived.JoinedTies
import Derived.KernelRfl
namespace Go.Proofs.YtcakhfobkbgfoaaGreatDoor
/- THE CELL 'sum', in the pinned program and in every row, IS THE sha256 OF THE DUMP (.gsa) THAT YtcakhfobkbgfoaaGreatDoorProg.lean LOADS. Nothing in Lean hashes anything: it is a label: what it is worth is what the hold of that sum in a sandbox is worth. -/
noncomputable def Tryz.pinned : Pinned := { name := "ytcakhfobkbgfoaagreatdoor", sum := "fa123aee9aa25628018f3b9b565e190fa73088179b8e7f30960e981c10cb93ad", checked := Tryz.checked }
namespace Rows
def none {H : Type} : Left H := { results := [], args := [] }

/- WHAT THE LISTED PACKAGE-LEVEL VARIABLES READ AS WHEN THE CALL BEGINS. Each datum BY PROGRAM (the guide's laid-datum.mjs) off the statement by which the dump's own 'gosem.cut.vars' lays the variable. In a bare row this is a premise. The card (YtcakhfobkbgfoaaGreatDoorCards.lean) ties it to the program's text. -/
def laid_errors_errorType {H : Type} : DataW H := .iface "internal/reflectlite.rtype" (.agg [.ptr (.lit (.string [101, 114, 114, 111, 114]))])
def laid_loop_example_g00072_impl_errNoIval {H : Type} : DataW H := .iface "*errors.errorString" (.ptr (.agg [.lit (.string [116, 104, 105, 115, 32, 105, 115, 32, 110, 111, 32, 105, 110, 116, 101, 114, 118, 97, 108])]))
def laid_loop_example_g00072_impl_errNoDrift {H : Type} : DataW H := .iface "*errors.errorString" (.ptr (.agg [.lit (.string [116, 104, 105, 115, 32, 105, 115, 32, 110, 111, 32, 100, 114, 105, 102, 116])]))
def laid_loop_example_g00072_impl_errNoLong {H : Type} : DataW H := .iface "*errors.errorString" (.ptr (.agg [.lit (.string [110, 111, 32, 102, 114, 97, 109, 101, 32, 105, 115, 32, 115, 111, 32, 108, 111, 110, 103])]))
def laid_loop_example_g00072_impl_errNoPlan {H : Type} : DataW H := .iface "*errors.errorString" (.ptr (.agg [.lit (.string [116, 104, 105, 115, 32, 105, 115, 32, 110, 111, 32, 112, 108, 97, 110])]))
def laid_loop_example_g00072_impl_errNoNode {H : Type} : DataW H := .iface "*errors.errorString" (.ptr (.agg [.lit (.string [116, 104, 105, 115, 32, 105, 115, 32, 110, 111, 32, 110, 111, 100, 101])]))
def laid_loop_example_g00072_impl_errUnknown {H : Type} : DataW H := .iface "*errors.errorString" (.ptr (.agg [.lit (.string [110, 111, 116, 104, 105, 110, 103, 32, 105, 115, 32, 107, 110, 111, 119, 110, 32, 111, 102, 32, 116, 114, 117, 101, 32, 116, 105, 109, 101])]))
def laid_loop_example_g00072_impl_errBeyond {H : Type} : DataW H := .iface "*errors.errorString" (.ptr (.agg [.lit (.string [116, 104, 105, 115, 32, 114, 101, 97, 99, 104, 101, 115, 32, 98, 101, 121, 111, 110, 100, 32, 97, 108, 108, 32, 116, 105, 109, 101, 115])]))
def laid_loop_example_g00072_impl_errOutside {H : Type} : DataW H := .iface "*errors.errorString" (.ptr (.agg [.lit (.string [110, 111, 32, 115, 108, 111, 116, 32, 111, 102, 32, 105, 116, 115, 32, 111, 119, 110, 101, 114, 32, 104, 97, 115, 32, 116, 104, 101, 32, 119, 104, 111, 108, 101, 32, 111, 102, 32, 105, 116])]))

/-- 'laws.FnBudget': WHATEVER THE INPUT: true; the input reads as it did. -/
def fnBudgetSpec : ChangeSpec := { name := "fnBudget", vars := ["loop.example/g00072/impl.errNoIval", "loop.example/g00072/impl.errNoPlan", "loop.example/g00072/impl.errNoNode", "loop.example/g00072/impl.errNoDrift", "loop.example/g00072/impl.errNoLong", "loop.example/g00072/impl.errUnknown", "loop.example/g00072/impl.errOutside", "loop.example/g00072/impl.errBeyond"], fn := fun _ => fun
  | [d, g1, g2, g3, g4, g5, g6, g7, g8] => { results := [.lit (.bool true)], args := [d], vars := [g1, g2, g3, g4, g5, g6, g7, g8] }
  | _ => none }
def fnBudgetRow : OpenClaim := { program := "ytcakhfobkbgfoaagreatdoor", sum := "fa123aee9aa25628018f3b9b565e190fa73088179b8e7f30960e981c10cb93ad", func := "loop.example/g00072/laws.FnBudget", spec := "fnBudget", inPlace := ["internal/reflectlite.ValueOf", "(internal/reflectlite.Value).Type", "(internal/reflectlite.Value).IsNil", "internal/reflectlite.TypeOf", "(internal/reflectlite.Value).Elem", "(internal/reflectlite.Value).Set"], unfollowed := true, recurses := true, named := ["loop.example/g00072/impl.errNoIval", "loop.example/g00072/impl.errNoPlan", "loop.example/g00072/impl.errNoNode", "loop.example/g00072/impl.errNoDrift", "loop.example/g00072/impl.errNoLong", "loop.example/g00072/impl.errUnknown", "loop.example/g00072/impl.errOutside", "loop.example/g00072/impl.errBeyond", "errors.errorType"], ifaces := true, apart := false, laid := [("errors.errorType", laid_errors_errorType), ("loop.example/g00072/impl.errNoIval", laid_loop_example_g00072_impl_errNoIval), ("loop.example/g00072/impl.errNoDrift", laid_loop_example_g00072_impl_errNoDrift), ("loop.example/g00072/impl.errNoLong", laid_loop_example_g00072_impl_errNoLong), ("loop.example/g00072/impl.errNoPlan", laid_loop_example_g00072_impl_errNoPlan), ("loop.example/g00072/impl.errNoNode", laid_loop_example_g00072_impl_errNoNode), ("loop.example/g00072/impl.errUnknown", laid_loop_example_g00072_impl_errUnknown), ("loop.example/g00072/impl.errBeyond", laid_loop_example_g00072_impl_errBeyond), ("loop.example/g00072/impl.errOutside", laid_loop_example_g00072_impl_errOutside)] }
def FnBudgetSaid : Prop := fnBudgetRow.holds Tryz.pinned (OpenSpec.ofChange fnBudgetSpec)

/-- ITS FALSE NEIGHBOUR: 'it returns false'. Refute it at one input. -/
def fnBudgetWrong : ChangeSpec := { name := "fnBudget", vars := ["loop.example/g00072/impl.errNoIval", "loop.example/g00072/impl.errNoPlan", "loop.example/g00072/impl.errNoNode", "loop.example/g00072/impl.errNoDrift", "loop.example/g00072/impl.errNoLong", "loop.example/g00072/impl.errUnknown", "loop.example/g00072/impl.errOutside", "loop.example/g00072/impl.errBeyond"], fn := fun _ => fun
  | [d, g1, g2, g3, g4, g5, g6, g7, g8] => { results := [.lit (.bool false)], args := [d], vars := [g1, g2, g3, g4, g5, g6, g7, g8] }
  | _ => none }
def FnBudgetWrongFalsely : Prop := fnBudgetRow.holds Tryz.pinned (OpenSpec.ofChange fnBudgetWrong)

/- THE SECOND FORM. 'bulk': how many values and letters a reading holds, each counted each time it is reached (what is shared counts as often as it is met; a slice's spare places count too). A statement '..UptoSaid' is the law's where the arguments, and the package variables that the reading takes, are together of bulk at most 1048576: NARROWER than '..Said'. Prove '..Said' where nothing that the law and all that it calls make is longer than what came in: it says more and counts as full. Else prove '..UptoSaid'. A law counts once. -/
mutual
def uptoBulk {H : Type} : DataW H → Nat
  | .lit (.string bytes) => bytes.length + 1
  | .lit _ => 1
  | .nil => 1
  | .ptr d => uptoBulk d + 1
  | .slice elems spare => uptoBulkAll elems + uptoBulkAll spare + 1
  | .agg parts => uptoBulkAll parts + 1
  | .iface _ d => uptoBulk d + 1
  | .map entries => uptoBulkEntries entries + 1
  | .held _ => 1
def uptoBulkAll {H : Type} : List (DataW H) → Nat
  | [] => 0
  | d :: r => uptoBulk d + uptoBulkAll r
def uptoBulkEntries {H : Type} : List (Lit × DataW H) → Nat
  | [] => 0
  | x :: r => uptoBulkEntry x + uptoBulkEntries r
def uptoBulkEntry {H : Type} : Lit × DataW H → Nat
  | (.string bytes, d) => bytes.length + uptoBulk d + 1
  | (_, d) => uptoBulk d + 1
 end
def uptoSmall : (H : Type) → List (DataW H) → Bool := fun _ ds => decide (uptoBulkAll ds ≤ 1048576)
def OpenSpec.upto (s : _root_.Go.ChangeSpec) : _root_.Go.OpenSpec := { _root_.Go.OpenSpec.ofChange s with cond := some uptoSmall }

/-- 'laws.FnBudget', WHERE WHAT IT READS IS OF BULK AT MOST 1048576: true; the input reads as it did. -/
def fnBudgetUptoRow : OpenClaim := { program := "ytcakhfobkbgfoaagreatdoor", sum := "fa123aee9aa25628018f3b9b565e190fa73088179b8e7f30960e981c10cb93ad", func := "loop.example/g00072/laws.FnBudget", spec := "fnBudget", inPlace := ["internal/reflectlite.ValueOf", "(internal/reflectlite.Value).Type", "(internal/reflectlite.Value).IsNil", "internal/reflectlite.TypeOf", "(internal/reflectlite.Value).Elem", "(internal/reflectlite.Value).Set"], unfollowed := true, recurses := true, named := ["loop.example/g00072/impl.errNoIval", "loop.example/g00072/impl.errNoPlan", "loop.example/g00072/impl.errNoNode", "loop.example/g00072/impl.errNoDrift", "loop.example/g00072/impl.errNoLong", "loop.example/g00072/impl.errUnknown", "loop.example/g00072/impl.errOutside", "loop.example/g00072/impl.errBeyond", "errors.errorType"], ifaces := true, apart := false, laid := [("errors.errorType", laid_errors_errorType), ("loop.example/g00072/impl.errNoIval", laid_loop_example_g00072_impl_errNoIval), ("loop.example/g00072/impl.errNoDrift", laid_loop_example_g00072_impl_errNoDrift), ("loop.example/g00072/impl.errNoLong", laid_loop_example_g00072_impl_errNoLong), ("loop.example/g00072/impl.errNoPlan", laid_loop_example_g00072_impl_errNoPlan), ("loop.example/g00072/impl.errNoNode", laid_loop_example_g00072_impl_errNoNode), ("loop.example/g00072/impl.errUnknown", laid_loop_example_g00072_impl_errUnknown), ("loop.example/g00072/impl.errBeyond", laid_loop_example_g00072_impl_errBeyond), ("loop.example/g00072/impl.errOutside", laid_loop_example_g00072_impl_errOutside)], narrowed := true }
def FnBudgetUptoSaid : Prop := fnBudgetUptoRow.holds Tryz.pinned (OpenSpec.upto fnBudgetSpec)

end Rows
end Go.Proofs.YtcakhfobkbgfoaaGreatDoor
