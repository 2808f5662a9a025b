/-
  No cell of these rows narrows 'for every input' (looked for: loops, veiled, ifaces, maps, wideKeys, modest, calm, conditions, laid).
  DERIVED. THE GIVEN ROWS OF THIS SEAT. 5 by the template 'for every input the law returns true; each argument reads behind the call as it read before'; 0 by the template 'total and deterministic' (their statements: YtogapogkdgaobaaTotals.lean).
  GIVEN WITH THE SEED: the statements are not yours to turn. If you find one false, say at which input.
  Laid BY PROGRAM, IN A SANDBOX (cutbox-rows.mjs): the forced cells as the released guide's own fill.sh prints them over the translation 55fd298103ae97cd… (all of the seat's roots in one cut). By AI agents, Wed Nov 11 2026. No macro, syntax, notation, axiom, sorry.
-/
import Derived.Test.YtogapogkdgaobaaChecked
import GoSem.Claim
import GoSem.ClaimJoined
import GoSem.ClaimMapViews
import Derived.JoinedTies
import Derived.KernelRfl
namespace Go.Proofs.Ytogapogkdgaobaa
/- THE CELL 'sum', in the pinned program and in every row, IS THE sha256 OF THE DUMP (.gsa) THAT YtogapogkdgaobaaProg.lean LOADS. Nothing in Lean hashes anything: it is a label: what it is worth is what the hold of that sum in a sandbox is worth. -/
noncomputable def Try.pinned : Pinned := { name := "ytogapogkdgaobaa", sum := "55fd298103ae97cd4625679583c00a59a1b9b317c316f8d937f19b5fcba9cf4d", checked := Try.checked }
namespace Rows
def none {H : Type} : Left H := { results := [], args := [] }

/-- 'laws.FnMeets': WHATEVER THE INPUT: true; the input reads as it did. -/
def fnMeetsSpec : ChangeSpec := { name := "fnMeets", fn := fun _ => fun
  | [d] => { results := [.lit (.bool true)], args := [d] }
  | _ => none }
def fnMeetsRow : OpenClaim := { program := "ytogapogkdgaobaa", sum := "55fd298103ae97cd4625679583c00a59a1b9b317c316f8d937f19b5fcba9cf4d", func := "loop.example/g00072/laws.FnMeets", spec := "fnMeets", apart := false }
def FnMeetsSaid : Prop := fnMeetsRow.holds Try.pinned (OpenSpec.ofChange fnMeetsSpec)

/-- ITS FALSE NEIGHBOUR: 'it returns false'. Refute it at one input. -/
def fnMeetsWrong : ChangeSpec := { name := "fnMeets", fn := fun _ => fun
  | [d] => { results := [.lit (.bool false)], args := [d] }
  | _ => none }
def FnMeetsWrongFalsely : Prop := fnMeetsRow.holds Try.pinned (OpenSpec.ofChange fnMeetsWrong)

/-- 'laws.FnSums1': WHATEVER THE INPUT: true; the input reads as it did. -/
def fnSums1Spec : ChangeSpec := { name := "fnSums1", fn := fun _ => fun
  | [d] => { results := [.lit (.bool true)], args := [d] }
  | _ => none }
def fnSums1Row : OpenClaim := { program := "ytogapogkdgaobaa", sum := "55fd298103ae97cd4625679583c00a59a1b9b317c316f8d937f19b5fcba9cf4d", func := "loop.example/g00072/laws.FnSums1", spec := "fnSums1", apart := false }
def FnSums1Said : Prop := fnSums1Row.holds Try.pinned (OpenSpec.ofChange fnSums1Spec)

/-- ITS FALSE NEIGHBOUR: 'it returns false'. Refute it at one input. -/
def fnSums1Wrong : ChangeSpec := { name := "fnSums1", fn := fun _ => fun
  | [d] => { results := [.lit (.bool false)], args := [d] }
  | _ => none }
def FnSums1WrongFalsely : Prop := fnSums1Row.holds Try.pinned (OpenSpec.ofChange fnSums1Wrong)

/-- 'laws.FnAll1': WHATEVER THE INPUT: true; the input reads as it did. -/
def fnAll1Spec : ChangeSpec := { name := "fnAll1", fn := fun _ => fun
  | [d] => { results := [.lit (.bool true)], args := [d] }
  | _ => none }
def fnAll1Row : OpenClaim := { program := "ytogapogkdgaobaa", sum := "55fd298103ae97cd4625679583c00a59a1b9b317c316f8d937f19b5fcba9cf4d", func := "loop.example/g00072/laws.FnAll1", spec := "fnAll1", unfollowed := true, recurses := true, apart := false }
def FnAll1Said : Prop := fnAll1Row.holds Try.pinned (OpenSpec.ofChange fnAll1Spec)

/-- ITS FALSE NEIGHBOUR: 'it returns false'. Refute it at one input. -/
def fnAll1Wrong : ChangeSpec := { name := "fnAll1", fn := fun _ => fun
  | [d] => { results := [.lit (.bool false)], args := [d] }
  | _ => none }
def FnAll1WrongFalsely : Prop := fnAll1Row.holds Try.pinned (OpenSpec.ofChange fnAll1Wrong)

/-- 'laws.FnBetween': WHATEVER THE INPUT: true; the input reads as it did. -/
def fnBetweenSpec : ChangeSpec := { name := "fnBetween", fn := fun _ => fun
  | [d] => { results := [.lit (.bool true)], args := [d] }
  | _ => none }
def fnBetweenRow : OpenClaim := { program := "ytogapogkdgaobaa", sum := "55fd298103ae97cd4625679583c00a59a1b9b317c316f8d937f19b5fcba9cf4d", func := "loop.example/g00072/laws.FnBetween", spec := "fnBetween", unfollowed := true, recurses := true, apart := false }
def FnBetweenSaid : Prop := fnBetweenRow.holds Try.pinned (OpenSpec.ofChange fnBetweenSpec)

/-- ITS FALSE NEIGHBOUR: 'it returns false'. Refute it at one input. -/
def fnBetweenWrong : ChangeSpec := { name := "fnBetween", fn := fun _ => fun
  | [d] => { results := [.lit (.bool false)], args := [d] }
  | _ => none }
def FnBetweenWrongFalsely : Prop := fnBetweenRow.holds Try.pinned (OpenSpec.ofChange fnBetweenWrong)

/-- 'laws.FnStretches': WHATEVER THE INPUT: true; the input reads as it did. -/
def fnStretchesSpec : ChangeSpec := { name := "fnStretches", fn := fun _ => fun
  | [d] => { results := [.lit (.bool true)], args := [d] }
  | _ => none }
def fnStretchesRow : OpenClaim := { program := "ytogapogkdgaobaa", sum := "55fd298103ae97cd4625679583c00a59a1b9b317c316f8d937f19b5fcba9cf4d", func := "loop.example/g00072/laws.FnStretches", spec := "fnStretches", unfollowed := true, recurses := true, apart := false }
def FnStretchesSaid : Prop := fnStretchesRow.holds Try.pinned (OpenSpec.ofChange fnStretchesSpec)

/-- ITS FALSE NEIGHBOUR: 'it returns false'. Refute it at one input. -/
def fnStretchesWrong : ChangeSpec := { name := "fnStretches", fn := fun _ => fun
  | [d] => { results := [.lit (.bool false)], args := [d] }
  | _ => none }
def FnStretchesWrongFalsely : Prop := fnStretchesRow.holds Try.pinned (OpenSpec.ofChange fnStretchesWrong)

/- THE SECOND FORM. 'bulk': how many values and letters a reading holds, each counted each time it is reached (what is shared counts as often as it is met; a slice's spare places count too). A statement '..UptoSaid' is the law's where the arguments, and the package variables that the reading takes, are together of bulk at most 1048576: NARROWER than '..Said'. Prove '..Said' where nothing that the law and all that it calls make is longer than what came in: it says more and counts as full. Else prove '..UptoSaid'. A law counts once. -/
mutual
def uptoBulk {H : Type} : DataW H → Nat
  | .lit (.string bytes) => bytes.length + 1
  | .lit _ => 1
  | .nil => 1
  | .ptr d => uptoBulk d + 1
  | .slice elems spare => uptoBulkAll elems + uptoBulkAll spare + 1
  | .agg parts => uptoBulkAll parts + 1
  | .iface _ d => uptoBulk d + 1
  | .map entries => uptoBulkEntries entries + 1
  | .held _ => 1
def uptoBulkAll {H : Type} : List (DataW H) → Nat
  | [] => 0
  | d :: r => uptoBulk d + uptoBulkAll r
def uptoBulkEntries {H : Type} : List (Lit × DataW H) → Nat
  | [] => 0
  | x :: r => uptoBulkEntry x + uptoBulkEntries r
def uptoBulkEntry {H : Type} : Lit × DataW H → Nat
  | (.string bytes, d) => bytes.length + uptoBulk d + 1
  | (_, d) => uptoBulk d + 1
 end
def uptoSmall : (H : Type) → List (DataW H) → Bool := fun _ ds => decide (uptoBulkAll ds ≤ 1048576)
def OpenSpec.upto (s : _root_.Go.ChangeSpec) : _root_.Go.OpenSpec := { _root_.Go.OpenSpec.ofChange s with cond := some uptoSmall }

/-- 'laws.FnMeets', WHERE WHAT IT READS IS OF BULK AT MOST 1048576: true; the input reads as it did. -/
def fnMeetsUptoRow : OpenClaim := { program := "ytogapogkdgaobaa", sum := "55fd298103ae97cd4625679583c00a59a1b9b317c316f8d937f19b5fcba9cf4d", func := "loop.example/g00072/laws.FnMeets", spec := "fnMeets", apart := false, narrowed := true }
def FnMeetsUptoSaid : Prop := fnMeetsUptoRow.holds Try.pinned (OpenSpec.upto fnMeetsSpec)

/-- 'laws.FnSums1', WHERE WHAT IT READS IS OF BULK AT MOST 1048576: true; the input reads as it did. -/
def fnSums1UptoRow : OpenClaim := { program := "ytogapogkdgaobaa", sum := "55fd298103ae97cd4625679583c00a59a1b9b317c316f8d937f19b5fcba9cf4d", func := "loop.example/g00072/laws.FnSums1", spec := "fnSums1", apart := false, narrowed := true }
def FnSums1UptoSaid : Prop := fnSums1UptoRow.holds Try.pinned (OpenSpec.upto fnSums1Spec)

/-- 'laws.FnAll1', WHERE WHAT IT READS IS OF BULK AT MOST 1048576: true; the input reads as it did. -/
def fnAll1UptoRow : OpenClaim := { program := "ytogapogkdgaobaa", sum := "55fd298103ae97cd4625679583c00a59a1b9b317c316f8d937f19b5fcba9cf4d", func := "loop.example/g00072/laws.FnAll1", spec := "fnAll1", unfollowed := true, recurses := true, apart := false, narrowed := true }
def FnAll1UptoSaid : Prop := fnAll1UptoRow.holds Try.pinned (OpenSpec.upto fnAll1Spec)

/-- 'laws.FnBetween', WHERE WHAT IT READS IS OF BULK AT MOST 1048576: true; the input reads as it did. -/
def fnBetweenUptoRow : OpenClaim := { program := "ytogapogkdgaobaa", sum := "55fd298103ae97cd4625679583c00a59a1b9b317c316f8d937f19b5fcba9cf4d", func := "loop.example/g00072/laws.FnBetween", spec := "fnBetween", unfollowed := true, recurses := true, apart := false, narrowed := true }
def FnBetweenUptoSaid : Prop := fnBetweenUptoRow.holds Try.pinned (OpenSpec.upto fnBetweenSpec)

/-- 'laws.FnStretches', WHERE WHAT IT READS IS OF BULK AT MOST 1048576: true; the input reads as it did. -/
def fnStretchesUptoRow : OpenClaim := { program := "ytogapogkdgaobaa", sum := "55fd298103ae97cd4625679583c00a59a1b9b317c316f8d937f19b5fcba9cf4d", func := "loop.example/g00072/laws.FnStretches", spec := "fnStretches", unfollowed := true, recurses := true, apart := false, narrowed := true }
def FnStretchesUptoSaid : Prop := fnStretchesUptoRow.holds Try.pinned (OpenSpec.upto fnStretchesSpec)

end Rows
end Go.Proofs.Ytogapogkdgaobaa
