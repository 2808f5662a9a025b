/-
  No cell of these rows narrows 'for every input' (looked for: loops, veiled, ifaces, maps, wideKeys, modest, calm, conditions, laid).
  DERIVED. THE GIVEN ROWS OF THIS SEAT. 8 by the template 'for every input the law returns true; each argument reads behind the call as it read before'; 0 by the template 'total and deterministic' (their statements: YteifibajafdnlaaTotals.lean).
  GIVEN WITH THE SEED: the statements are not yours to turn. If you find one false, say at which input.
  Laid BY PROGRAM, IN A SANDBOX (cutbox-rows.mjs): the forced cells as the released guide's own fill.sh prints them over the translation ddca672507bb6e9a… (all of the seat's roots in one cut). By AI agents, Wed Nov 11 2026. No macro, syntax, notation, axiom, sorry.
-/
import Derived.Test.YteifibajafdnlaaChecked
import GoSem.Claim
import GoSem.ClaimJoined
import GoSem.ClaimMapViews
import Derived.JoinedTies
import Derived.KernelRfl
namespace Go.Proofs.Yteifibajafdnlaa
/- THE CELL 'sum', in the pinned program and in every row, IS THE sha256 OF THE DUMP (.gsa) THAT YteifibajafdnlaaProg.lean LOADS. Nothing in Lean hashes anything: it is a label: what it is worth is what the hold of that sum in a sandbox is worth. -/
noncomputable def Try.pinned : Pinned := { name := "yteifibajafdnlaa", sum := "ddca672507bb6e9a7a21b0526fbef2874bf323fdfb665a0406689fe9f070cb80", checked := Try.checked }
namespace Rows
def none {H : Type} : Left H := { results := [], args := [] }

/-- 'laws.FnEpochs': WHATEVER THE INPUT: true; the input reads as it did. -/
def fnEpochsSpec : ChangeSpec := { name := "fnEpochs", fn := fun _ => fun
  | [d] => { results := [.lit (.bool true)], args := [d] }
  | _ => none }
def fnEpochsRow : OpenClaim := { program := "yteifibajafdnlaa", sum := "ddca672507bb6e9a7a21b0526fbef2874bf323fdfb665a0406689fe9f070cb80", func := "loop.example/g00072/laws.FnEpochs", spec := "fnEpochs", apart := false }
def FnEpochsSaid : Prop := fnEpochsRow.holds Try.pinned (OpenSpec.ofChange fnEpochsSpec)

/-- ITS FALSE NEIGHBOUR: 'it returns false'. Refute it at one input. -/
def fnEpochsWrong : ChangeSpec := { name := "fnEpochs", fn := fun _ => fun
  | [d] => { results := [.lit (.bool false)], args := [d] }
  | _ => none }
def FnEpochsWrongFalsely : Prop := fnEpochsRow.holds Try.pinned (OpenSpec.ofChange fnEpochsWrong)

/-- 'laws.FnExactLifeOk': WHATEVER THE INPUT: true; the input reads as it did. -/
def fnExactLifeOkSpec : ChangeSpec := { name := "fnExactLifeOk", fn := fun _ => fun
  | [d] => { results := [.lit (.bool true)], args := [d] }
  | _ => none }
def fnExactLifeOkRow : OpenClaim := { program := "yteifibajafdnlaa", sum := "ddca672507bb6e9a7a21b0526fbef2874bf323fdfb665a0406689fe9f070cb80", func := "loop.example/g00072/laws.FnExactLifeOk", spec := "fnExactLifeOk", apart := false }
def FnExactLifeOkSaid : Prop := fnExactLifeOkRow.holds Try.pinned (OpenSpec.ofChange fnExactLifeOkSpec)

/-- ITS FALSE NEIGHBOUR: 'it returns false'. Refute it at one input. -/
def fnExactLifeOkWrong : ChangeSpec := { name := "fnExactLifeOk", fn := fun _ => fun
  | [d] => { results := [.lit (.bool false)], args := [d] }
  | _ => none }
def FnExactLifeOkWrongFalsely : Prop := fnExactLifeOkRow.holds Try.pinned (OpenSpec.ofChange fnExactLifeOkWrong)

/-- 'laws.FnExactLifeMay': WHATEVER THE INPUT: true; the input reads as it did. -/
def fnExactLifeMaySpec : ChangeSpec := { name := "fnExactLifeMay", fn := fun _ => fun
  | [d1, d2] => { results := [.lit (.bool true)], args := [d1, d2] }
  | _ => none }
def fnExactLifeMayRow : OpenClaim := { program := "yteifibajafdnlaa", sum := "ddca672507bb6e9a7a21b0526fbef2874bf323fdfb665a0406689fe9f070cb80", func := "loop.example/g00072/laws.FnExactLifeMay", spec := "fnExactLifeMay", apart := false }
def FnExactLifeMaySaid : Prop := fnExactLifeMayRow.holds Try.pinned (OpenSpec.ofChange fnExactLifeMaySpec)

/-- ITS FALSE NEIGHBOUR: 'it returns false'. Refute it at one input. -/
def fnExactLifeMayWrong : ChangeSpec := { name := "fnExactLifeMay", fn := fun _ => fun
  | [d1, d2] => { results := [.lit (.bool false)], args := [d1, d2] }
  | _ => none }
def FnExactLifeMayWrongFalsely : Prop := fnExactLifeMayRow.holds Try.pinned (OpenSpec.ofChange fnExactLifeMayWrong)

/-- 'laws.FnExactLifeStep': WHATEVER THE INPUT: true; the input reads as it did. -/
def fnExactLifeStepSpec : ChangeSpec := { name := "fnExactLifeStep", fn := fun _ => fun
  | [d1, d2] => { results := [.lit (.bool true)], args := [d1, d2] }
  | _ => none }
def fnExactLifeStepRow : OpenClaim := { program := "yteifibajafdnlaa", sum := "ddca672507bb6e9a7a21b0526fbef2874bf323fdfb665a0406689fe9f070cb80", func := "loop.example/g00072/laws.FnExactLifeStep", spec := "fnExactLifeStep", apart := false }
def FnExactLifeStepSaid : Prop := fnExactLifeStepRow.holds Try.pinned (OpenSpec.ofChange fnExactLifeStepSpec)

/-- ITS FALSE NEIGHBOUR: 'it returns false'. Refute it at one input. -/
def fnExactLifeStepWrong : ChangeSpec := { name := "fnExactLifeStep", fn := fun _ => fun
  | [d1, d2] => { results := [.lit (.bool false)], args := [d1, d2] }
  | _ => none }
def FnExactLifeStepWrongFalsely : Prop := fnExactLifeStepRow.holds Try.pinned (OpenSpec.ofChange fnExactLifeStepWrong)

/-- 'laws.FnExactLifeRun': WHATEVER THE INPUT: true; the input reads as it did. -/
def fnExactLifeRunSpec : ChangeSpec := { name := "fnExactLifeRun", fn := fun _ => fun
  | [d1, d2] => { results := [.lit (.bool true)], args := [d1, d2] }
  | _ => none }
def fnExactLifeRunRow : OpenClaim := { program := "yteifibajafdnlaa", sum := "ddca672507bb6e9a7a21b0526fbef2874bf323fdfb665a0406689fe9f070cb80", func := "loop.example/g00072/laws.FnExactLifeRun", spec := "fnExactLifeRun", apart := false }
def FnExactLifeRunSaid : Prop := fnExactLifeRunRow.holds Try.pinned (OpenSpec.ofChange fnExactLifeRunSpec)

/-- ITS FALSE NEIGHBOUR: 'it returns false'. Refute it at one input. -/
def fnExactLifeRunWrong : ChangeSpec := { name := "fnExactLifeRun", fn := fun _ => fun
  | [d1, d2] => { results := [.lit (.bool false)], args := [d1, d2] }
  | _ => none }
def FnExactLifeRunWrongFalsely : Prop := fnExactLifeRunRow.holds Try.pinned (OpenSpec.ofChange fnExactLifeRunWrong)

/-- 'laws.FnExactLifeKnows': WHATEVER THE INPUT: true; the input reads as it did. -/
def fnExactLifeKnowsSpec : ChangeSpec := { name := "fnExactLifeKnows", fn := fun _ => fun
  | [d] => { results := [.lit (.bool true)], args := [d] }
  | _ => none }
def fnExactLifeKnowsRow : OpenClaim := { program := "yteifibajafdnlaa", sum := "ddca672507bb6e9a7a21b0526fbef2874bf323fdfb665a0406689fe9f070cb80", func := "loop.example/g00072/laws.FnExactLifeKnows", spec := "fnExactLifeKnows", apart := false }
def FnExactLifeKnowsSaid : Prop := fnExactLifeKnowsRow.holds Try.pinned (OpenSpec.ofChange fnExactLifeKnowsSpec)

/-- ITS FALSE NEIGHBOUR: 'it returns false'. Refute it at one input. -/
def fnExactLifeKnowsWrong : ChangeSpec := { name := "fnExactLifeKnows", fn := fun _ => fun
  | [d] => { results := [.lit (.bool false)], args := [d] }
  | _ => none }
def FnExactLifeKnowsWrongFalsely : Prop := fnExactLifeKnowsRow.holds Try.pinned (OpenSpec.ofChange fnExactLifeKnowsWrong)

/-- 'laws.FnExactLifeSends': WHATEVER THE INPUT: true; the input reads as it did. -/
def fnExactLifeSendsSpec : ChangeSpec := { name := "fnExactLifeSends", fn := fun _ => fun
  | [d] => { results := [.lit (.bool true)], args := [d] }
  | _ => none }
def fnExactLifeSendsRow : OpenClaim := { program := "yteifibajafdnlaa", sum := "ddca672507bb6e9a7a21b0526fbef2874bf323fdfb665a0406689fe9f070cb80", func := "loop.example/g00072/laws.FnExactLifeSends", spec := "fnExactLifeSends", apart := false }
def FnExactLifeSendsSaid : Prop := fnExactLifeSendsRow.holds Try.pinned (OpenSpec.ofChange fnExactLifeSendsSpec)

/-- ITS FALSE NEIGHBOUR: 'it returns false'. Refute it at one input. -/
def fnExactLifeSendsWrong : ChangeSpec := { name := "fnExactLifeSends", fn := fun _ => fun
  | [d] => { results := [.lit (.bool false)], args := [d] }
  | _ => none }
def FnExactLifeSendsWrongFalsely : Prop := fnExactLifeSendsRow.holds Try.pinned (OpenSpec.ofChange fnExactLifeSendsWrong)

/-- 'laws.FnExactLifeName': WHATEVER THE INPUT: true; the input reads as it did. -/
def fnExactLifeNameSpec : ChangeSpec := { name := "fnExactLifeName", fn := fun _ => fun
  | [d] => { results := [.lit (.bool true)], args := [d] }
  | _ => none }
def fnExactLifeNameRow : OpenClaim := { program := "yteifibajafdnlaa", sum := "ddca672507bb6e9a7a21b0526fbef2874bf323fdfb665a0406689fe9f070cb80", func := "loop.example/g00072/laws.FnExactLifeName", spec := "fnExactLifeName", apart := false }
def FnExactLifeNameSaid : Prop := fnExactLifeNameRow.holds Try.pinned (OpenSpec.ofChange fnExactLifeNameSpec)

/-- ITS FALSE NEIGHBOUR: 'it returns false'. Refute it at one input. -/
def fnExactLifeNameWrong : ChangeSpec := { name := "fnExactLifeName", fn := fun _ => fun
  | [d] => { results := [.lit (.bool false)], args := [d] }
  | _ => none }
def FnExactLifeNameWrongFalsely : Prop := fnExactLifeNameRow.holds Try.pinned (OpenSpec.ofChange fnExactLifeNameWrong)

/- THE SECOND FORM. 'bulk': how many values and letters a reading holds, each counted each time it is reached (what is shared counts as often as it is met; a slice's spare places count too). A statement '..UptoSaid' is the law's where the arguments, and the package variables that the reading takes, are together of bulk at most 1048576: NARROWER than '..Said'. Prove '..Said' where nothing that the law and all that it calls make is longer than what came in: it says more and counts as full. Else prove '..UptoSaid'. A law counts once. -/
mutual
def uptoBulk {H : Type} : DataW H → Nat
  | .lit (.string bytes) => bytes.length + 1
  | .lit _ => 1
  | .nil => 1
  | .ptr d => uptoBulk d + 1
  | .slice elems spare => uptoBulkAll elems + uptoBulkAll spare + 1
  | .agg parts => uptoBulkAll parts + 1
  | .iface _ d => uptoBulk d + 1
  | .map entries => uptoBulkEntries entries + 1
  | .held _ => 1
def uptoBulkAll {H : Type} : List (DataW H) → Nat
  | [] => 0
  | d :: r => uptoBulk d + uptoBulkAll r
def uptoBulkEntries {H : Type} : List (Lit × DataW H) → Nat
  | [] => 0
  | x :: r => uptoBulkEntry x + uptoBulkEntries r
def uptoBulkEntry {H : Type} : Lit × DataW H → Nat
  | (.string bytes, d) => bytes.length + uptoBulk d + 1
  | (_, d) => uptoBulk d + 1
 end
def uptoSmall : (H : Type) → List (DataW H) → Bool := fun _ ds => decide (uptoBulkAll ds ≤ 1048576)
def OpenSpec.upto (s : _root_.Go.ChangeSpec) : _root_.Go.OpenSpec := { _root_.Go.OpenSpec.ofChange s with cond := some uptoSmall }

/-- 'laws.FnEpochs', WHERE WHAT IT READS IS OF BULK AT MOST 1048576: true; the input reads as it did. -/
def fnEpochsUptoRow : OpenClaim := { program := "yteifibajafdnlaa", sum := "ddca672507bb6e9a7a21b0526fbef2874bf323fdfb665a0406689fe9f070cb80", func := "loop.example/g00072/laws.FnEpochs", spec := "fnEpochs", apart := false, narrowed := true }
def FnEpochsUptoSaid : Prop := fnEpochsUptoRow.holds Try.pinned (OpenSpec.upto fnEpochsSpec)

/-- 'laws.FnExactLifeOk', WHERE WHAT IT READS IS OF BULK AT MOST 1048576: true; the input reads as it did. -/
def fnExactLifeOkUptoRow : OpenClaim := { program := "yteifibajafdnlaa", sum := "ddca672507bb6e9a7a21b0526fbef2874bf323fdfb665a0406689fe9f070cb80", func := "loop.example/g00072/laws.FnExactLifeOk", spec := "fnExactLifeOk", apart := false, narrowed := true }
def FnExactLifeOkUptoSaid : Prop := fnExactLifeOkUptoRow.holds Try.pinned (OpenSpec.upto fnExactLifeOkSpec)

/-- 'laws.FnExactLifeMay', WHERE WHAT IT READS IS OF BULK AT MOST 1048576: true; the input reads as it did. -/
def fnExactLifeMayUptoRow : OpenClaim := { program := "yteifibajafdnlaa", sum := "ddca672507bb6e9a7a21b0526fbef2874bf323fdfb665a0406689fe9f070cb80", func := "loop.example/g00072/laws.FnExactLifeMay", spec := "fnExactLifeMay", apart := false, narrowed := true }
def FnExactLifeMayUptoSaid : Prop := fnExactLifeMayUptoRow.holds Try.pinned (OpenSpec.upto fnExactLifeMaySpec)

/-- 'laws.FnExactLifeStep', WHERE WHAT IT READS IS OF BULK AT MOST 1048576: true; the input reads as it did. -/
def fnExactLifeStepUptoRow : OpenClaim := { program := "yteifibajafdnlaa", sum := "ddca672507bb6e9a7a21b0526fbef2874bf323fdfb665a0406689fe9f070cb80", func := "loop.example/g00072/laws.FnExactLifeStep", spec := "fnExactLifeStep", apart := false, narrowed := true }
def FnExactLifeStepUptoSaid : Prop := fnExactLifeStepUptoRow.holds Try.pinned (OpenSpec.upto fnExactLifeStepSpec)

/-- 'laws.FnExactLifeRun', WHERE WHAT IT READS IS OF BULK AT MOST 1048576: true; the input reads as it did. -/
def fnExactLifeRunUptoRow : OpenClaim := { program := "yteifibajafdnlaa", sum := "ddca672507bb6e9a7a21b0526fbef2874bf323fdfb665a0406689fe9f070cb80", func := "loop.example/g00072/laws.FnExactLifeRun", spec := "fnExactLifeRun", apart := false, narrowed := true }
def FnExactLifeRunUptoSaid : Prop := fnExactLifeRunUptoRow.holds Try.pinned (OpenSpec.upto fnExactLifeRunSpec)

/-- 'laws.FnExactLifeKnows', WHERE WHAT IT READS IS OF BULK AT MOST 1048576: true; the input reads as it did. -/
def fnExactLifeKnowsUptoRow : OpenClaim := { program := "yteifibajafdnlaa", sum := "ddca672507bb6e9a7a21b0526fbef2874bf323fdfb665a0406689fe9f070cb80", func := "loop.example/g00072/laws.FnExactLifeKnows", spec := "fnExactLifeKnows", apart := false, narrowed := true }
def FnExactLifeKnowsUptoSaid : Prop := fnExactLifeKnowsUptoRow.holds Try.pinned (OpenSpec.upto fnExactLifeKnowsSpec)

/-- 'laws.FnExactLifeSends', WHERE WHAT IT READS IS OF BULK AT MOST 1048576: true; the input reads as it did. -/
def fnExactLifeSendsUptoRow : OpenClaim := { program := "yteifibajafdnlaa", sum := "ddca672507bb6e9a7a21b0526fbef2874bf323fdfb665a0406689fe9f070cb80", func := "loop.example/g00072/laws.FnExactLifeSends", spec := "fnExactLifeSends", apart := false, narrowed := true }
def FnExactLifeSendsUptoSaid : Prop := fnExactLifeSendsUptoRow.holds Try.pinned (OpenSpec.upto fnExactLifeSendsSpec)

/-- 'laws.FnExactLifeName', WHERE WHAT IT READS IS OF BULK AT MOST 1048576: true; the input reads as it did. -/
def fnExactLifeNameUptoRow : OpenClaim := { program := "yteifibajafdnlaa", sum := "ddca672507bb6e9a7a21b0526fbef2874bf323fdfb665a0406689fe9f070cb80", func := "loop.example/g00072/laws.FnExactLifeName", spec := "fnExactLifeName", apart := false, narrowed := true }
def FnExactLifeNameUptoSaid : Prop := fnExactLifeNameUptoRow.holds Try.pinned (OpenSpec.upto fnExactLifeNameSpec)

end Rows
end Go.Proofs.Yteifibajafdnlaa
