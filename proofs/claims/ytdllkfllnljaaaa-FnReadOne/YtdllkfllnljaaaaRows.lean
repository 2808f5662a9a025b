/-
  No cell of these rows narrows 'for every input' (looked for: loops, veiled, ifaces, maps, wideKeys, modest, calm, conditions, laid).
  DERIVED. THE GIVEN ROWS OF THIS SEAT. 7 by the template 'for every input the law returns true; each argument reads behind the call as it read before'; 0 by the template 'total and deterministic' (their statements: YtdllkfllnljaaaaTotals.lean).
  GIVEN WITH THE SEED: the statements are not yours to turn. If you find one false, say at which input.
  Laid BY PROGRAM, IN A SANDBOX (cutbox-rows.mjs): the forced cells as the released guide's own fill.sh prints them over the translation 76467540fcb35f01… (all of the seat's roots in one cut). By AI agents, Wed Nov 11 2026. No macro, syntax, notation, axiom, sorry.
-/
import Derived.Test.YtdllkfllnljaaaaChecked
import GoSem.Claim
import GoSem.ClaimJoined
import GoSem.ClaimMapViews
import Derived.JoinedTies
import Derived.KernelRfl
namespace Go.Proofs.Ytdllkfllnljaaaa
/- THE CELL 'sum', in the pinned program and in every row, IS THE sha256 OF THE DUMP (.gsa) THAT YtdllkfllnljaaaaProg.lean LOADS. Nothing in Lean hashes anything: it is a label: what it is worth is what the hold of that sum in a sandbox is worth. -/
noncomputable def Try.pinned : Pinned := { name := "ytdllkfllnljaaaa", sum := "76467540fcb35f01e306e0740bc865206cfdf9bb11180869b94875c93202293c", checked := Try.checked }
namespace Rows
def none {H : Type} : Left H := { results := [], args := [] }

/-- 'laws.FnReadings': WHATEVER THE INPUT: true; the input reads as it did. -/
def fnReadingsSpec : ChangeSpec := { name := "fnReadings", fn := fun _ => fun
  | [d] => { results := [.lit (.bool true)], args := [d] }
  | _ => none }
def fnReadingsRow : OpenClaim := { program := "ytdllkfllnljaaaa", sum := "76467540fcb35f01e306e0740bc865206cfdf9bb11180869b94875c93202293c", func := "loop.example/g00072/laws.FnReadings", spec := "fnReadings", unfollowed := true, recurses := true, apart := false }
def FnReadingsSaid : Prop := fnReadingsRow.holds Try.pinned (OpenSpec.ofChange fnReadingsSpec)

/-- ITS FALSE NEIGHBOUR: 'it returns false'. Refute it at one input. -/
def fnReadingsWrong : ChangeSpec := { name := "fnReadings", fn := fun _ => fun
  | [d] => { results := [.lit (.bool false)], args := [d] }
  | _ => none }
def FnReadingsWrongFalsely : Prop := fnReadingsRow.holds Try.pinned (OpenSpec.ofChange fnReadingsWrong)

/-- 'laws.FnReadOne': WHATEVER THE INPUT: true; the input reads as it did. -/
def fnReadOneSpec : ChangeSpec := { name := "fnReadOne", fn := fun _ => fun
  | [d] => { results := [.lit (.bool true)], args := [d] }
  | _ => none }
def fnReadOneRow : OpenClaim := { program := "ytdllkfllnljaaaa", sum := "76467540fcb35f01e306e0740bc865206cfdf9bb11180869b94875c93202293c", func := "loop.example/g00072/laws.FnReadOne", spec := "fnReadOne", unfollowed := true, recurses := true, apart := false }
def FnReadOneSaid : Prop := fnReadOneRow.holds Try.pinned (OpenSpec.ofChange fnReadOneSpec)

/-- ITS FALSE NEIGHBOUR: 'it returns false'. Refute it at one input. -/
def fnReadOneWrong : ChangeSpec := { name := "fnReadOne", fn := fun _ => fun
  | [d] => { results := [.lit (.bool false)], args := [d] }
  | _ => none }
def FnReadOneWrongFalsely : Prop := fnReadOneRow.holds Try.pinned (OpenSpec.ofChange fnReadOneWrong)

/-- 'laws.FnExactAppOk': WHATEVER THE INPUT: true; the input reads as it did. -/
def fnExactAppOkSpec : ChangeSpec := { name := "fnExactAppOk", fn := fun _ => fun
  | [d] => { results := [.lit (.bool true)], args := [d] }
  | _ => none }
def fnExactAppOkRow : OpenClaim := { program := "ytdllkfllnljaaaa", sum := "76467540fcb35f01e306e0740bc865206cfdf9bb11180869b94875c93202293c", func := "loop.example/g00072/laws.FnExactAppOk", spec := "fnExactAppOk", apart := false }
def FnExactAppOkSaid : Prop := fnExactAppOkRow.holds Try.pinned (OpenSpec.ofChange fnExactAppOkSpec)

/-- ITS FALSE NEIGHBOUR: 'it returns false'. Refute it at one input. -/
def fnExactAppOkWrong : ChangeSpec := { name := "fnExactAppOk", fn := fun _ => fun
  | [d] => { results := [.lit (.bool false)], args := [d] }
  | _ => none }
def FnExactAppOkWrongFalsely : Prop := fnExactAppOkRow.holds Try.pinned (OpenSpec.ofChange fnExactAppOkWrong)

/-- 'laws.FnExactAppRead': WHATEVER THE INPUT: true; the input reads as it did. -/
def fnExactAppReadSpec : ChangeSpec := { name := "fnExactAppRead", fn := fun _ => fun
  | [d1, d2, d3] => { results := [.lit (.bool true)], args := [d1, d2, d3] }
  | _ => none }
def fnExactAppReadRow : OpenClaim := { program := "ytdllkfllnljaaaa", sum := "76467540fcb35f01e306e0740bc865206cfdf9bb11180869b94875c93202293c", func := "loop.example/g00072/laws.FnExactAppRead", spec := "fnExactAppRead", unfollowed := true, recurses := true, apart := false }
def FnExactAppReadSaid : Prop := fnExactAppReadRow.holds Try.pinned (OpenSpec.ofChange fnExactAppReadSpec)

/-- ITS FALSE NEIGHBOUR: 'it returns false'. Refute it at one input. -/
def fnExactAppReadWrong : ChangeSpec := { name := "fnExactAppRead", fn := fun _ => fun
  | [d1, d2, d3] => { results := [.lit (.bool false)], args := [d1, d2, d3] }
  | _ => none }
def FnExactAppReadWrongFalsely : Prop := fnExactAppReadRow.holds Try.pinned (OpenSpec.ofChange fnExactAppReadWrong)

/-- 'laws.FnExactAppLag': WHATEVER THE INPUT: true; the input reads as it did. -/
def fnExactAppLagSpec : ChangeSpec := { name := "fnExactAppLag", fn := fun _ => fun
  | [d1, d2] => { results := [.lit (.bool true)], args := [d1, d2] }
  | _ => none }
def fnExactAppLagRow : OpenClaim := { program := "ytdllkfllnljaaaa", sum := "76467540fcb35f01e306e0740bc865206cfdf9bb11180869b94875c93202293c", func := "loop.example/g00072/laws.FnExactAppLag", spec := "fnExactAppLag", apart := false }
def FnExactAppLagSaid : Prop := fnExactAppLagRow.holds Try.pinned (OpenSpec.ofChange fnExactAppLagSpec)

/-- ITS FALSE NEIGHBOUR: 'it returns false'. Refute it at one input. -/
def fnExactAppLagWrong : ChangeSpec := { name := "fnExactAppLag", fn := fun _ => fun
  | [d1, d2] => { results := [.lit (.bool false)], args := [d1, d2] }
  | _ => none }
def FnExactAppLagWrongFalsely : Prop := fnExactAppLagRow.holds Try.pinned (OpenSpec.ofChange fnExactAppLagWrong)

/-- 'laws.FnExactAppRun': WHATEVER THE INPUT: true; the input reads as it did. -/
def fnExactAppRunSpec : ChangeSpec := { name := "fnExactAppRun", fn := fun _ => fun
  | [d1, d2] => { results := [.lit (.bool true)], args := [d1, d2] }
  | _ => none }
def fnExactAppRunRow : OpenClaim := { program := "ytdllkfllnljaaaa", sum := "76467540fcb35f01e306e0740bc865206cfdf9bb11180869b94875c93202293c", func := "loop.example/g00072/laws.FnExactAppRun", spec := "fnExactAppRun", unfollowed := true, recurses := true, apart := false }
def FnExactAppRunSaid : Prop := fnExactAppRunRow.holds Try.pinned (OpenSpec.ofChange fnExactAppRunSpec)

/-- ITS FALSE NEIGHBOUR: 'it returns false'. Refute it at one input. -/
def fnExactAppRunWrong : ChangeSpec := { name := "fnExactAppRun", fn := fun _ => fun
  | [d1, d2] => { results := [.lit (.bool false)], args := [d1, d2] }
  | _ => none }
def FnExactAppRunWrongFalsely : Prop := fnExactAppRunRow.holds Try.pinned (OpenSpec.ofChange fnExactAppRunWrong)

/-- 'laws.FnExactReadsOk': WHATEVER THE INPUT: true; the input reads as it did. -/
def fnExactReadsOkSpec : ChangeSpec := { name := "fnExactReadsOk", fn := fun _ => fun
  | [d1, d2] => { results := [.lit (.bool true)], args := [d1, d2] }
  | _ => none }
def fnExactReadsOkRow : OpenClaim := { program := "ytdllkfllnljaaaa", sum := "76467540fcb35f01e306e0740bc865206cfdf9bb11180869b94875c93202293c", func := "loop.example/g00072/laws.FnExactReadsOk", spec := "fnExactReadsOk", unfollowed := true, recurses := true, apart := false }
def FnExactReadsOkSaid : Prop := fnExactReadsOkRow.holds Try.pinned (OpenSpec.ofChange fnExactReadsOkSpec)

/-- ITS FALSE NEIGHBOUR: 'it returns false'. Refute it at one input. -/
def fnExactReadsOkWrong : ChangeSpec := { name := "fnExactReadsOk", fn := fun _ => fun
  | [d1, d2] => { results := [.lit (.bool false)], args := [d1, d2] }
  | _ => none }
def FnExactReadsOkWrongFalsely : Prop := fnExactReadsOkRow.holds Try.pinned (OpenSpec.ofChange fnExactReadsOkWrong)

/- THE SECOND FORM. 'bulk': how many values and letters a reading holds, each counted each time it is reached (what is shared counts as often as it is met; a slice's spare places count too). A statement '..UptoSaid' is the law's where the arguments, and the package variables that the reading takes, are together of bulk at most 1048576: NARROWER than '..Said'. Prove '..Said' where nothing that the law and all that it calls make is longer than what came in: it says more and counts as full. Else prove '..UptoSaid'. A law counts once. -/
mutual
def uptoBulk {H : Type} : DataW H → Nat
  | .lit (.string bytes) => bytes.length + 1
  | .lit _ => 1
  | .nil => 1
  | .ptr d => uptoBulk d + 1
  | .slice elems spare => uptoBulkAll elems + uptoBulkAll spare + 1
  | .agg parts => uptoBulkAll parts + 1
  | .iface _ d => uptoBulk d + 1
  | .map entries => uptoBulkEntries entries + 1
  | .held _ => 1
def uptoBulkAll {H : Type} : List (DataW H) → Nat
  | [] => 0
  | d :: r => uptoBulk d + uptoBulkAll r
def uptoBulkEntries {H : Type} : List (Lit × DataW H) → Nat
  | [] => 0
  | x :: r => uptoBulkEntry x + uptoBulkEntries r
def uptoBulkEntry {H : Type} : Lit × DataW H → Nat
  | (.string bytes, d) => bytes.length + uptoBulk d + 1
  | (_, d) => uptoBulk d + 1
 end
def uptoSmall : (H : Type) → List (DataW H) → Bool := fun _ ds => decide (uptoBulkAll ds ≤ 1048576)
def OpenSpec.upto (s : _root_.Go.ChangeSpec) : _root_.Go.OpenSpec := { _root_.Go.OpenSpec.ofChange s with cond := some uptoSmall }

/-- 'laws.FnReadings', WHERE WHAT IT READS IS OF BULK AT MOST 1048576: true; the input reads as it did. -/
def fnReadingsUptoRow : OpenClaim := { program := "ytdllkfllnljaaaa", sum := "76467540fcb35f01e306e0740bc865206cfdf9bb11180869b94875c93202293c", func := "loop.example/g00072/laws.FnReadings", spec := "fnReadings", unfollowed := true, recurses := true, apart := false, narrowed := true }
def FnReadingsUptoSaid : Prop := fnReadingsUptoRow.holds Try.pinned (OpenSpec.upto fnReadingsSpec)

/-- 'laws.FnReadOne', WHERE WHAT IT READS IS OF BULK AT MOST 1048576: true; the input reads as it did. -/
def fnReadOneUptoRow : OpenClaim := { program := "ytdllkfllnljaaaa", sum := "76467540fcb35f01e306e0740bc865206cfdf9bb11180869b94875c93202293c", func := "loop.example/g00072/laws.FnReadOne", spec := "fnReadOne", unfollowed := true, recurses := true, apart := false, narrowed := true }
def FnReadOneUptoSaid : Prop := fnReadOneUptoRow.holds Try.pinned (OpenSpec.upto fnReadOneSpec)

/-- 'laws.FnExactAppOk', WHERE WHAT IT READS IS OF BULK AT MOST 1048576: true; the input reads as it did. -/
def fnExactAppOkUptoRow : OpenClaim := { program := "ytdllkfllnljaaaa", sum := "76467540fcb35f01e306e0740bc865206cfdf9bb11180869b94875c93202293c", func := "loop.example/g00072/laws.FnExactAppOk", spec := "fnExactAppOk", apart := false, narrowed := true }
def FnExactAppOkUptoSaid : Prop := fnExactAppOkUptoRow.holds Try.pinned (OpenSpec.upto fnExactAppOkSpec)

/-- 'laws.FnExactAppRead', WHERE WHAT IT READS IS OF BULK AT MOST 1048576: true; the input reads as it did. -/
def fnExactAppReadUptoRow : OpenClaim := { program := "ytdllkfllnljaaaa", sum := "76467540fcb35f01e306e0740bc865206cfdf9bb11180869b94875c93202293c", func := "loop.example/g00072/laws.FnExactAppRead", spec := "fnExactAppRead", unfollowed := true, recurses := true, apart := false, narrowed := true }
def FnExactAppReadUptoSaid : Prop := fnExactAppReadUptoRow.holds Try.pinned (OpenSpec.upto fnExactAppReadSpec)

/-- 'laws.FnExactAppLag', WHERE WHAT IT READS IS OF BULK AT MOST 1048576: true; the input reads as it did. -/
def fnExactAppLagUptoRow : OpenClaim := { program := "ytdllkfllnljaaaa", sum := "76467540fcb35f01e306e0740bc865206cfdf9bb11180869b94875c93202293c", func := "loop.example/g00072/laws.FnExactAppLag", spec := "fnExactAppLag", apart := false, narrowed := true }
def FnExactAppLagUptoSaid : Prop := fnExactAppLagUptoRow.holds Try.pinned (OpenSpec.upto fnExactAppLagSpec)

/-- 'laws.FnExactAppRun', WHERE WHAT IT READS IS OF BULK AT MOST 1048576: true; the input reads as it did. -/
def fnExactAppRunUptoRow : OpenClaim := { program := "ytdllkfllnljaaaa", sum := "76467540fcb35f01e306e0740bc865206cfdf9bb11180869b94875c93202293c", func := "loop.example/g00072/laws.FnExactAppRun", spec := "fnExactAppRun", unfollowed := true, recurses := true, apart := false, narrowed := true }
def FnExactAppRunUptoSaid : Prop := fnExactAppRunUptoRow.holds Try.pinned (OpenSpec.upto fnExactAppRunSpec)

/-- 'laws.FnExactReadsOk', WHERE WHAT IT READS IS OF BULK AT MOST 1048576: true; the input reads as it did. -/
def fnExactReadsOkUptoRow : OpenClaim := { program := "ytdllkfllnljaaaa", sum := "76467540fcb35f01e306e0740bc865206cfdf9bb11180869b94875c93202293c", func := "loop.example/g00072/laws.FnExactReadsOk", spec := "fnExactReadsOk", unfollowed := true, recurses := true, apart := false, narrowed := true }
def FnExactReadsOkUptoSaid : Prop := fnExactReadsOkUptoRow.holds Try.pinned (OpenSpec.upto fnExactReadsOkSpec)

end Rows
end Go.Proofs.Ytdllkfllnljaaaa
