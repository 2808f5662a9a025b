/-
  No cell of these rows narrows 'for every input' (looked for: loops, veiled, ifaces, maps, wideKeys, modest, calm, conditions, laid).
  DERIVED. THE GIVEN ROWS OF THIS SEAT. 9 by the template 'for every input the law returns true; each argument reads behind the call as it read before'; 0 by the template 'total and deterministic' (their statements: YtjkcacloglobhaaTotals.lean).
  GIVEN WITH THE SEED: the statements are not yours to turn. If you find one false, say at which input.
  Laid BY PROGRAM, IN A SANDBOX (cutbox-rows.mjs): the forced cells as the released guide's own fill.sh prints them over the translation f1226c0dbcf193cf… (all of the seat's roots in one cut). By AI agents, Wed Nov 11 2026. No macro, syntax, notation, axiom, sorry.
-/
import Derived.Test.YtjkcacloglobhaaChecked
import GoSem.Claim
import GoSem.ClaimJoined
import GoSem.ClaimMapViews
import Derived.JoinedTies
import Derived.KernelRfl
namespace Go.Proofs.Ytjkcacloglobhaa
/- THE CELL 'sum', in the pinned program and in every row, IS THE sha256 OF THE DUMP (.gsa) THAT YtjkcacloglobhaaProg.lean LOADS. Nothing in Lean hashes anything: it is a label: what it is worth is what the hold of that sum in a sandbox is worth. -/
noncomputable def Try.pinned : Pinned := { name := "ytjkcacloglobhaa", sum := "f1226c0dbcf193cf8bb22a3bde5c5db11e249166c6dc3bd8ab3155041436e97c", checked := Try.checked }
namespace Rows
def none {H : Type} : Left H := { results := [], args := [] }

/-- 'laws.FnExactDriftOk': WHATEVER THE INPUT: true; the input reads as it did. -/
def fnExactDriftOkSpec : ChangeSpec := { name := "fnExactDriftOk", fn := fun _ => fun
  | [d] => { results := [.lit (.bool true)], args := [d] }
  | _ => none }
def fnExactDriftOkRow : OpenClaim := { program := "ytjkcacloglobhaa", sum := "f1226c0dbcf193cf8bb22a3bde5c5db11e249166c6dc3bd8ab3155041436e97c", func := "loop.example/g00072/laws.FnExactDriftOk", spec := "fnExactDriftOk", apart := false }
def FnExactDriftOkSaid : Prop := fnExactDriftOkRow.holds Try.pinned (OpenSpec.ofChange fnExactDriftOkSpec)

/-- ITS FALSE NEIGHBOUR: 'it returns false'. Refute it at one input. -/
def fnExactDriftOkWrong : ChangeSpec := { name := "fnExactDriftOk", fn := fun _ => fun
  | [d] => { results := [.lit (.bool false)], args := [d] }
  | _ => none }
def FnExactDriftOkWrongFalsely : Prop := fnExactDriftOkRow.holds Try.pinned (OpenSpec.ofChange fnExactDriftOkWrong)

/-- 'laws.FnExactMayCount': WHATEVER THE INPUT: true; the input reads as it did. -/
def fnExactMayCountSpec : ChangeSpec := { name := "fnExactMayCount", fn := fun _ => fun
  | [d1, d2, d3] => { results := [.lit (.bool true)], args := [d1, d2, d3] }
  | _ => none }
def fnExactMayCountRow : OpenClaim := { program := "ytjkcacloglobhaa", sum := "f1226c0dbcf193cf8bb22a3bde5c5db11e249166c6dc3bd8ab3155041436e97c", func := "loop.example/g00072/laws.FnExactMayCount", spec := "fnExactMayCount", apart := false }
def FnExactMayCountSaid : Prop := fnExactMayCountRow.holds Try.pinned (OpenSpec.ofChange fnExactMayCountSpec)

/-- ITS FALSE NEIGHBOUR: 'it returns false'. Refute it at one input. -/
def fnExactMayCountWrong : ChangeSpec := { name := "fnExactMayCount", fn := fun _ => fun
  | [d1, d2, d3] => { results := [.lit (.bool false)], args := [d1, d2, d3] }
  | _ => none }
def FnExactMayCountWrongFalsely : Prop := fnExactMayCountRow.holds Try.pinned (OpenSpec.ofChange fnExactMayCountWrong)

/-- 'laws.FnExactLeastTime': WHATEVER THE INPUT: true; the input reads as it did. -/
def fnExactLeastTimeSpec : ChangeSpec := { name := "fnExactLeastTime", fn := fun _ => fun
  | [d1, d2] => { results := [.lit (.bool true)], args := [d1, d2] }
  | _ => none }
def fnExactLeastTimeRow : OpenClaim := { program := "ytjkcacloglobhaa", sum := "f1226c0dbcf193cf8bb22a3bde5c5db11e249166c6dc3bd8ab3155041436e97c", func := "loop.example/g00072/laws.FnExactLeastTime", spec := "fnExactLeastTime", unfollowed := true, recurses := true, apart := false }
def FnExactLeastTimeSaid : Prop := fnExactLeastTimeRow.holds Try.pinned (OpenSpec.ofChange fnExactLeastTimeSpec)

/-- ITS FALSE NEIGHBOUR: 'it returns false'. Refute it at one input. -/
def fnExactLeastTimeWrong : ChangeSpec := { name := "fnExactLeastTime", fn := fun _ => fun
  | [d1, d2] => { results := [.lit (.bool false)], args := [d1, d2] }
  | _ => none }
def FnExactLeastTimeWrongFalsely : Prop := fnExactLeastTimeRow.holds Try.pinned (OpenSpec.ofChange fnExactLeastTimeWrong)

/-- 'laws.FnExactMostTime': WHATEVER THE INPUT: true; the input reads as it did. -/
def fnExactMostTimeSpec : ChangeSpec := { name := "fnExactMostTime", fn := fun _ => fun
  | [d1, d2] => { results := [.lit (.bool true)], args := [d1, d2] }
  | _ => none }
def fnExactMostTimeRow : OpenClaim := { program := "ytjkcacloglobhaa", sum := "f1226c0dbcf193cf8bb22a3bde5c5db11e249166c6dc3bd8ab3155041436e97c", func := "loop.example/g00072/laws.FnExactMostTime", spec := "fnExactMostTime", unfollowed := true, recurses := true, apart := false }
def FnExactMostTimeSaid : Prop := fnExactMostTimeRow.holds Try.pinned (OpenSpec.ofChange fnExactMostTimeSpec)

/-- ITS FALSE NEIGHBOUR: 'it returns false'. Refute it at one input. -/
def fnExactMostTimeWrong : ChangeSpec := { name := "fnExactMostTime", fn := fun _ => fun
  | [d1, d2] => { results := [.lit (.bool false)], args := [d1, d2] }
  | _ => none }
def FnExactMostTimeWrongFalsely : Prop := fnExactMostTimeRow.holds Try.pinned (OpenSpec.ofChange fnExactMostTimeWrong)

/-- 'laws.FnExactLeastCount': WHATEVER THE INPUT: true; the input reads as it did. -/
def fnExactLeastCountSpec : ChangeSpec := { name := "fnExactLeastCount", fn := fun _ => fun
  | [d1, d2] => { results := [.lit (.bool true)], args := [d1, d2] }
  | _ => none }
def fnExactLeastCountRow : OpenClaim := { program := "ytjkcacloglobhaa", sum := "f1226c0dbcf193cf8bb22a3bde5c5db11e249166c6dc3bd8ab3155041436e97c", func := "loop.example/g00072/laws.FnExactLeastCount", spec := "fnExactLeastCount", unfollowed := true, recurses := true, apart := false }
def FnExactLeastCountSaid : Prop := fnExactLeastCountRow.holds Try.pinned (OpenSpec.ofChange fnExactLeastCountSpec)

/-- ITS FALSE NEIGHBOUR: 'it returns false'. Refute it at one input. -/
def fnExactLeastCountWrong : ChangeSpec := { name := "fnExactLeastCount", fn := fun _ => fun
  | [d1, d2] => { results := [.lit (.bool false)], args := [d1, d2] }
  | _ => none }
def FnExactLeastCountWrongFalsely : Prop := fnExactLeastCountRow.holds Try.pinned (OpenSpec.ofChange fnExactLeastCountWrong)

/-- 'laws.FnExactMostCount': WHATEVER THE INPUT: true; the input reads as it did. -/
def fnExactMostCountSpec : ChangeSpec := { name := "fnExactMostCount", fn := fun _ => fun
  | [d1, d2] => { results := [.lit (.bool true)], args := [d1, d2] }
  | _ => none }
def fnExactMostCountRow : OpenClaim := { program := "ytjkcacloglobhaa", sum := "f1226c0dbcf193cf8bb22a3bde5c5db11e249166c6dc3bd8ab3155041436e97c", func := "loop.example/g00072/laws.FnExactMostCount", spec := "fnExactMostCount", unfollowed := true, recurses := true, apart := false }
def FnExactMostCountSaid : Prop := fnExactMostCountRow.holds Try.pinned (OpenSpec.ofChange fnExactMostCountSpec)

/-- ITS FALSE NEIGHBOUR: 'it returns false'. Refute it at one input. -/
def fnExactMostCountWrong : ChangeSpec := { name := "fnExactMostCount", fn := fun _ => fun
  | [d1, d2] => { results := [.lit (.bool false)], args := [d1, d2] }
  | _ => none }
def FnExactMostCountWrongFalsely : Prop := fnExactMostCountRow.holds Try.pinned (OpenSpec.ofChange fnExactMostCountWrong)

/-- 'laws.FnExactBetween': WHATEVER THE INPUT: true; the input reads as it did. -/
def fnExactBetweenSpec : ChangeSpec := { name := "fnExactBetween", fn := fun _ => fun
  | [d1, d2] => { results := [.lit (.bool true)], args := [d1, d2] }
  | _ => none }
def fnExactBetweenRow : OpenClaim := { program := "ytjkcacloglobhaa", sum := "f1226c0dbcf193cf8bb22a3bde5c5db11e249166c6dc3bd8ab3155041436e97c", func := "loop.example/g00072/laws.FnExactBetween", spec := "fnExactBetween", unfollowed := true, recurses := true, apart := false }
def FnExactBetweenSaid : Prop := fnExactBetweenRow.holds Try.pinned (OpenSpec.ofChange fnExactBetweenSpec)

/-- ITS FALSE NEIGHBOUR: 'it returns false'. Refute it at one input. -/
def fnExactBetweenWrong : ChangeSpec := { name := "fnExactBetween", fn := fun _ => fun
  | [d1, d2] => { results := [.lit (.bool false)], args := [d1, d2] }
  | _ => none }
def FnExactBetweenWrongFalsely : Prop := fnExactBetweenRow.holds Try.pinned (OpenSpec.ofChange fnExactBetweenWrong)

/-- 'laws.FnExactClamp': WHATEVER THE INPUT: true; the input reads as it did. -/
def fnExactClampSpec : ChangeSpec := { name := "fnExactClamp", fn := fun _ => fun
  | [d1, d2, d3] => { results := [.lit (.bool true)], args := [d1, d2, d3] }
  | _ => none }
def fnExactClampRow : OpenClaim := { program := "ytjkcacloglobhaa", sum := "f1226c0dbcf193cf8bb22a3bde5c5db11e249166c6dc3bd8ab3155041436e97c", func := "loop.example/g00072/laws.FnExactClamp", spec := "fnExactClamp", unfollowed := true, recurses := true, apart := false }
def FnExactClampSaid : Prop := fnExactClampRow.holds Try.pinned (OpenSpec.ofChange fnExactClampSpec)

/-- ITS FALSE NEIGHBOUR: 'it returns false'. Refute it at one input. -/
def fnExactClampWrong : ChangeSpec := { name := "fnExactClamp", fn := fun _ => fun
  | [d1, d2, d3] => { results := [.lit (.bool false)], args := [d1, d2, d3] }
  | _ => none }
def FnExactClampWrongFalsely : Prop := fnExactClampRow.holds Try.pinned (OpenSpec.ofChange fnExactClampWrong)

/-- 'laws.FnExactWorse': WHATEVER THE INPUT: true; the input reads as it did. -/
def fnExactWorseSpec : ChangeSpec := { name := "fnExactWorse", fn := fun _ => fun
  | [d1, d2] => { results := [.lit (.bool true)], args := [d1, d2] }
  | _ => none }
def fnExactWorseRow : OpenClaim := { program := "ytjkcacloglobhaa", sum := "f1226c0dbcf193cf8bb22a3bde5c5db11e249166c6dc3bd8ab3155041436e97c", func := "loop.example/g00072/laws.FnExactWorse", spec := "fnExactWorse", apart := false }
def FnExactWorseSaid : Prop := fnExactWorseRow.holds Try.pinned (OpenSpec.ofChange fnExactWorseSpec)

/-- ITS FALSE NEIGHBOUR: 'it returns false'. Refute it at one input. -/
def fnExactWorseWrong : ChangeSpec := { name := "fnExactWorse", fn := fun _ => fun
  | [d1, d2] => { results := [.lit (.bool false)], args := [d1, d2] }
  | _ => none }
def FnExactWorseWrongFalsely : Prop := fnExactWorseRow.holds Try.pinned (OpenSpec.ofChange fnExactWorseWrong)

/- THE SECOND FORM. 'bulk': how many values and letters a reading holds, each counted each time it is reached (what is shared counts as often as it is met; a slice's spare places count too). A statement '..UptoSaid' is the law's where the arguments, and the package variables that the reading takes, are together of bulk at most 1048576: NARROWER than '..Said'. Prove '..Said' where nothing that the law and all that it calls make is longer than what came in: it says more and counts as full. Else prove '..UptoSaid'. A law counts once. -/
mutual
def uptoBulk {H : Type} : DataW H → Nat
  | .lit (.string bytes) => bytes.length + 1
  | .lit _ => 1
  | .nil => 1
  | .ptr d => uptoBulk d + 1
  | .slice elems spare => uptoBulkAll elems + uptoBulkAll spare + 1
  | .agg parts => uptoBulkAll parts + 1
  | .iface _ d => uptoBulk d + 1
  | .map entries => uptoBulkEntries entries + 1
  | .held _ => 1
def uptoBulkAll {H : Type} : List (DataW H) → Nat
  | [] => 0
  | d :: r => uptoBulk d + uptoBulkAll r
def uptoBulkEntries {H : Type} : List (Lit × DataW H) → Nat
  | [] => 0
  | x :: r => uptoBulkEntry x + uptoBulkEntries r
def uptoBulkEntry {H : Type} : Lit × DataW H → Nat
  | (.string bytes, d) => bytes.length + uptoBulk d + 1
  | (_, d) => uptoBulk d + 1
 end
def uptoSmall : (H : Type) → List (DataW H) → Bool := fun _ ds => decide (uptoBulkAll ds ≤ 1048576)
def OpenSpec.upto (s : _root_.Go.ChangeSpec) : _root_.Go.OpenSpec := { _root_.Go.OpenSpec.ofChange s with cond := some uptoSmall }

/-- 'laws.FnExactDriftOk', WHERE WHAT IT READS IS OF BULK AT MOST 1048576: true; the input reads as it did. -/
def fnExactDriftOkUptoRow : OpenClaim := { program := "ytjkcacloglobhaa", sum := "f1226c0dbcf193cf8bb22a3bde5c5db11e249166c6dc3bd8ab3155041436e97c", func := "loop.example/g00072/laws.FnExactDriftOk", spec := "fnExactDriftOk", apart := false, narrowed := true }
def FnExactDriftOkUptoSaid : Prop := fnExactDriftOkUptoRow.holds Try.pinned (OpenSpec.upto fnExactDriftOkSpec)

/-- 'laws.FnExactMayCount', WHERE WHAT IT READS IS OF BULK AT MOST 1048576: true; the input reads as it did. -/
def fnExactMayCountUptoRow : OpenClaim := { program := "ytjkcacloglobhaa", sum := "f1226c0dbcf193cf8bb22a3bde5c5db11e249166c6dc3bd8ab3155041436e97c", func := "loop.example/g00072/laws.FnExactMayCount", spec := "fnExactMayCount", apart := false, narrowed := true }
def FnExactMayCountUptoSaid : Prop := fnExactMayCountUptoRow.holds Try.pinned (OpenSpec.upto fnExactMayCountSpec)

/-- 'laws.FnExactLeastTime', WHERE WHAT IT READS IS OF BULK AT MOST 1048576: true; the input reads as it did. -/
def fnExactLeastTimeUptoRow : OpenClaim := { program := "ytjkcacloglobhaa", sum := "f1226c0dbcf193cf8bb22a3bde5c5db11e249166c6dc3bd8ab3155041436e97c", func := "loop.example/g00072/laws.FnExactLeastTime", spec := "fnExactLeastTime", unfollowed := true, recurses := true, apart := false, narrowed := true }
def FnExactLeastTimeUptoSaid : Prop := fnExactLeastTimeUptoRow.holds Try.pinned (OpenSpec.upto fnExactLeastTimeSpec)

/-- 'laws.FnExactMostTime', WHERE WHAT IT READS IS OF BULK AT MOST 1048576: true; the input reads as it did. -/
def fnExactMostTimeUptoRow : OpenClaim := { program := "ytjkcacloglobhaa", sum := "f1226c0dbcf193cf8bb22a3bde5c5db11e249166c6dc3bd8ab3155041436e97c", func := "loop.example/g00072/laws.FnExactMostTime", spec := "fnExactMostTime", unfollowed := true, recurses := true, apart := false, narrowed := true }
def FnExactMostTimeUptoSaid : Prop := fnExactMostTimeUptoRow.holds Try.pinned (OpenSpec.upto fnExactMostTimeSpec)

/-- 'laws.FnExactLeastCount', WHERE WHAT IT READS IS OF BULK AT MOST 1048576: true; the input reads as it did. -/
def fnExactLeastCountUptoRow : OpenClaim := { program := "ytjkcacloglobhaa", sum := "f1226c0dbcf193cf8bb22a3bde5c5db11e249166c6dc3bd8ab3155041436e97c", func := "loop.example/g00072/laws.FnExactLeastCount", spec := "fnExactLeastCount", unfollowed := true, recurses := true, apart := false, narrowed := true }
def FnExactLeastCountUptoSaid : Prop := fnExactLeastCountUptoRow.holds Try.pinned (OpenSpec.upto fnExactLeastCountSpec)

/-- 'laws.FnExactMostCount', WHERE WHAT IT READS IS OF BULK AT MOST 1048576: true; the input reads as it did. -/
def fnExactMostCountUptoRow : OpenClaim := { program := "ytjkcacloglobhaa", sum := "f1226c0dbcf193cf8bb22a3bde5c5db11e249166c6dc3bd8ab3155041436e97c", func := "loop.example/g00072/laws.FnExactMostCount", spec := "fnExactMostCount", unfollowed := true, recurses := true, apart := false, narrowed := true }
def FnExactMostCountUptoSaid : Prop := fnExactMostCountUptoRow.holds Try.pinned (OpenSpec.upto fnExactMostCountSpec)

/-- 'laws.FnExactBetween', WHERE WHAT IT READS IS OF BULK AT MOST 1048576: true; the input reads as it did. -/
def fnExactBetweenUptoRow : OpenClaim := { program := "ytjkcacloglobhaa", sum := "f1226c0dbcf193cf8bb22a3bde5c5db11e249166c6dc3bd8ab3155041436e97c", func := "loop.example/g00072/laws.FnExactBetween", spec := "fnExactBetween", unfollowed := true, recurses := true, apart := false, narrowed := true }
def FnExactBetweenUptoSaid : Prop := fnExactBetweenUptoRow.holds Try.pinned (OpenSpec.upto fnExactBetweenSpec)

/-- 'laws.FnExactClamp', WHERE WHAT IT READS IS OF BULK AT MOST 1048576: true; the input reads as it did. -/
def fnExactClampUptoRow : OpenClaim := { program := "ytjkcacloglobhaa", sum := "f1226c0dbcf193cf8bb22a3bde5c5db11e249166c6dc3bd8ab3155041436e97c", func := "loop.example/g00072/laws.FnExactClamp", spec := "fnExactClamp", unfollowed := true, recurses := true, apart := false, narrowed := true }
def FnExactClampUptoSaid : Prop := fnExactClampUptoRow.holds Try.pinned (OpenSpec.upto fnExactClampSpec)

/-- 'laws.FnExactWorse', WHERE WHAT IT READS IS OF BULK AT MOST 1048576: true; the input reads as it did. -/
def fnExactWorseUptoRow : OpenClaim := { program := "ytjkcacloglobhaa", sum := "f1226c0dbcf193cf8bb22a3bde5c5db11e249166c6dc3bd8ab3155041436e97c", func := "loop.example/g00072/laws.FnExactWorse", spec := "fnExactWorse", apart := false, narrowed := true }
def FnExactWorseUptoSaid : Prop := fnExactWorseUptoRow.holds Try.pinned (OpenSpec.upto fnExactWorseSpec)

end Rows
end Go.Proofs.Ytjkcacloglobhaa
