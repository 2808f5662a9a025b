/-
  No cell of these rows narrows 'for every input' (looked for: loops, veiled, ifaces, maps, wideKeys, modest, calm, conditions, laid).
  DERIVED. THE GIVEN ROWS OF THIS SEAT. 8 by the template 'for every input the law returns true; each argument reads behind the call as it read before'; 0 by the template 'total and deterministic' (their statements: YtlgpalhgpihgnaaTotals.lean).
  GIVEN WITH THE SEED: the statements are not yours to turn. If you find one false, say at which input.
  Laid BY PROGRAM, IN A SANDBOX (cutbox-rows.mjs): the forced cells as the released guide's own fill.sh prints them over the translation 2ea0389cca8a525f… (all of the seat's roots in one cut). By AI agents, Wed Nov 11 2026. No macro, syntax, notation, axiom, sorry.
-/
import Derived.Test.YtlgpalhgpihgnaaChecked
import GoSem.Claim
import GoSem.ClaimJoined
import GoSem.ClaimMapViews
import Derived.JoinedTies
import Derived.KernelRfl
namespace Go.Proofs.Ytlgpalhgpihgnaa
/- THE CELL 'sum', in the pinned program and in every row, IS THE sha256 OF THE DUMP (.gsa) THAT YtlgpalhgpihgnaaProg.lean LOADS. Nothing in Lean hashes anything: it is a label: what it is worth is what the hold of that sum in a sandbox is worth. -/
noncomputable def Try.pinned : Pinned := { name := "ytlgpalhgpihgnaa", sum := "2ea0389cca8a525f8619b2ca3bece3e7580fbc62d7ac1a8110996a8dedd66b90", checked := Try.checked }
namespace Rows
def none {H : Type} : Left H := { results := [], args := [] }

/-- 'laws.FnExactOscOk': WHATEVER THE INPUT: true; the input reads as it did. -/
def fnExactOscOkSpec : ChangeSpec := { name := "fnExactOscOk", fn := fun _ => fun
  | [d] => { results := [.lit (.bool true)], args := [d] }
  | _ => none }
def fnExactOscOkRow : OpenClaim := { program := "ytlgpalhgpihgnaa", sum := "2ea0389cca8a525f8619b2ca3bece3e7580fbc62d7ac1a8110996a8dedd66b90", func := "loop.example/g00072/laws.FnExactOscOk", spec := "fnExactOscOk", apart := false }
def FnExactOscOkSaid : Prop := fnExactOscOkRow.holds Try.pinned (OpenSpec.ofChange fnExactOscOkSpec)

/-- ITS FALSE NEIGHBOUR: 'it returns false'. Refute it at one input. -/
def fnExactOscOkWrong : ChangeSpec := { name := "fnExactOscOk", fn := fun _ => fun
  | [d] => { results := [.lit (.bool false)], args := [d] }
  | _ => none }
def FnExactOscOkWrongFalsely : Prop := fnExactOscOkRow.holds Try.pinned (OpenSpec.ofChange fnExactOscOkWrong)

/-- 'laws.FnExactOscStep': WHATEVER THE INPUT: true; the input reads as it did. -/
def fnExactOscStepSpec : ChangeSpec := { name := "fnExactOscStep", fn := fun _ => fun
  | [d1, d2] => { results := [.lit (.bool true)], args := [d1, d2] }
  | _ => none }
def fnExactOscStepRow : OpenClaim := { program := "ytlgpalhgpihgnaa", sum := "2ea0389cca8a525f8619b2ca3bece3e7580fbc62d7ac1a8110996a8dedd66b90", func := "loop.example/g00072/laws.FnExactOscStep", spec := "fnExactOscStep", unfollowed := true, recurses := true, apart := false }
def FnExactOscStepSaid : Prop := fnExactOscStepRow.holds Try.pinned (OpenSpec.ofChange fnExactOscStepSpec)

/-- ITS FALSE NEIGHBOUR: 'it returns false'. Refute it at one input. -/
def fnExactOscStepWrong : ChangeSpec := { name := "fnExactOscStep", fn := fun _ => fun
  | [d1, d2] => { results := [.lit (.bool false)], args := [d1, d2] }
  | _ => none }
def FnExactOscStepWrongFalsely : Prop := fnExactOscStepRow.holds Try.pinned (OpenSpec.ofChange fnExactOscStepWrong)

/-- 'laws.FnExactOscRun': WHATEVER THE INPUT: true; the input reads as it did. -/
def fnExactOscRunSpec : ChangeSpec := { name := "fnExactOscRun", fn := fun _ => fun
  | [d1, d2] => { results := [.lit (.bool true)], args := [d1, d2] }
  | _ => none }
def fnExactOscRunRow : OpenClaim := { program := "ytlgpalhgpihgnaa", sum := "2ea0389cca8a525f8619b2ca3bece3e7580fbc62d7ac1a8110996a8dedd66b90", func := "loop.example/g00072/laws.FnExactOscRun", spec := "fnExactOscRun", unfollowed := true, recurses := true, apart := false }
def FnExactOscRunSaid : Prop := fnExactOscRunRow.holds Try.pinned (OpenSpec.ofChange fnExactOscRunSpec)

/-- ITS FALSE NEIGHBOUR: 'it returns false'. Refute it at one input. -/
def fnExactOscRunWrong : ChangeSpec := { name := "fnExactOscRun", fn := fun _ => fun
  | [d1, d2] => { results := [.lit (.bool false)], args := [d1, d2] }
  | _ => none }
def FnExactOscRunWrongFalsely : Prop := fnExactOscRunRow.holds Try.pinned (OpenSpec.ofChange fnExactOscRunWrong)

/-- 'laws.FnExactMarksOk': WHATEVER THE INPUT: true; the input reads as it did. -/
def fnExactMarksOkSpec : ChangeSpec := { name := "fnExactMarksOk", fn := fun _ => fun
  | [d1, d2] => { results := [.lit (.bool true)], args := [d1, d2] }
  | _ => none }
def fnExactMarksOkRow : OpenClaim := { program := "ytlgpalhgpihgnaa", sum := "2ea0389cca8a525f8619b2ca3bece3e7580fbc62d7ac1a8110996a8dedd66b90", func := "loop.example/g00072/laws.FnExactMarksOk", spec := "fnExactMarksOk", apart := false }
def FnExactMarksOkSaid : Prop := fnExactMarksOkRow.holds Try.pinned (OpenSpec.ofChange fnExactMarksOkSpec)

/-- ITS FALSE NEIGHBOUR: 'it returns false'. Refute it at one input. -/
def fnExactMarksOkWrong : ChangeSpec := { name := "fnExactMarksOk", fn := fun _ => fun
  | [d1, d2] => { results := [.lit (.bool false)], args := [d1, d2] }
  | _ => none }
def FnExactMarksOkWrongFalsely : Prop := fnExactMarksOkRow.holds Try.pinned (OpenSpec.ofChange fnExactMarksOkWrong)

/-- 'laws.FnExactMarksAll': WHATEVER THE INPUT: true; the input reads as it did. -/
def fnExactMarksAllSpec : ChangeSpec := { name := "fnExactMarksAll", fn := fun _ => fun
  | [d1, d2] => { results := [.lit (.bool true)], args := [d1, d2] }
  | _ => none }
def fnExactMarksAllRow : OpenClaim := { program := "ytlgpalhgpihgnaa", sum := "2ea0389cca8a525f8619b2ca3bece3e7580fbc62d7ac1a8110996a8dedd66b90", func := "loop.example/g00072/laws.FnExactMarksAll", spec := "fnExactMarksAll", apart := false }
def FnExactMarksAllSaid : Prop := fnExactMarksAllRow.holds Try.pinned (OpenSpec.ofChange fnExactMarksAllSpec)

/-- ITS FALSE NEIGHBOUR: 'it returns false'. Refute it at one input. -/
def fnExactMarksAllWrong : ChangeSpec := { name := "fnExactMarksAll", fn := fun _ => fun
  | [d1, d2] => { results := [.lit (.bool false)], args := [d1, d2] }
  | _ => none }
def FnExactMarksAllWrongFalsely : Prop := fnExactMarksAllRow.holds Try.pinned (OpenSpec.ofChange fnExactMarksAllWrong)

/-- 'laws.FnExactElapsedAt': WHATEVER THE INPUT: true; the input reads as it did. -/
def fnExactElapsedAtSpec : ChangeSpec := { name := "fnExactElapsedAt", fn := fun _ => fun
  | [d1, d2, d3, d4] => { results := [.lit (.bool true)], args := [d1, d2, d3, d4] }
  | _ => none }
def fnExactElapsedAtRow : OpenClaim := { program := "ytlgpalhgpihgnaa", sum := "2ea0389cca8a525f8619b2ca3bece3e7580fbc62d7ac1a8110996a8dedd66b90", func := "loop.example/g00072/laws.FnExactElapsedAt", spec := "fnExactElapsedAt", unfollowed := true, recurses := true, apart := false }
def FnExactElapsedAtSaid : Prop := fnExactElapsedAtRow.holds Try.pinned (OpenSpec.ofChange fnExactElapsedAtSpec)

/-- ITS FALSE NEIGHBOUR: 'it returns false'. Refute it at one input. -/
def fnExactElapsedAtWrong : ChangeSpec := { name := "fnExactElapsedAt", fn := fun _ => fun
  | [d1, d2, d3, d4] => { results := [.lit (.bool false)], args := [d1, d2, d3, d4] }
  | _ => none }
def FnExactElapsedAtWrongFalsely : Prop := fnExactElapsedAtRow.holds Try.pinned (OpenSpec.ofChange fnExactElapsedAtWrong)

/-- 'laws.FnExactCountWhen': WHATEVER THE INPUT: true; the input reads as it did. -/
def fnExactCountWhenSpec : ChangeSpec := { name := "fnExactCountWhen", fn := fun _ => fun
  | [d1, d2, d3] => { results := [.lit (.bool true)], args := [d1, d2, d3] }
  | _ => none }
def fnExactCountWhenRow : OpenClaim := { program := "ytlgpalhgpihgnaa", sum := "2ea0389cca8a525f8619b2ca3bece3e7580fbc62d7ac1a8110996a8dedd66b90", func := "loop.example/g00072/laws.FnExactCountWhen", spec := "fnExactCountWhen", unfollowed := true, recurses := true, apart := false }
def FnExactCountWhenSaid : Prop := fnExactCountWhenRow.holds Try.pinned (OpenSpec.ofChange fnExactCountWhenSpec)

/-- ITS FALSE NEIGHBOUR: 'it returns false'. Refute it at one input. -/
def fnExactCountWhenWrong : ChangeSpec := { name := "fnExactCountWhen", fn := fun _ => fun
  | [d1, d2, d3] => { results := [.lit (.bool false)], args := [d1, d2, d3] }
  | _ => none }
def FnExactCountWhenWrongFalsely : Prop := fnExactCountWhenRow.holds Try.pinned (OpenSpec.ofChange fnExactCountWhenWrong)

/-- 'laws.FnExactTimeWhen': WHATEVER THE INPUT: true; the input reads as it did. -/
def fnExactTimeWhenSpec : ChangeSpec := { name := "fnExactTimeWhen", fn := fun _ => fun
  | [d1, d2, d3] => { results := [.lit (.bool true)], args := [d1, d2, d3] }
  | _ => none }
def fnExactTimeWhenRow : OpenClaim := { program := "ytlgpalhgpihgnaa", sum := "2ea0389cca8a525f8619b2ca3bece3e7580fbc62d7ac1a8110996a8dedd66b90", func := "loop.example/g00072/laws.FnExactTimeWhen", spec := "fnExactTimeWhen", unfollowed := true, recurses := true, apart := false }
def FnExactTimeWhenSaid : Prop := fnExactTimeWhenRow.holds Try.pinned (OpenSpec.ofChange fnExactTimeWhenSpec)

/-- ITS FALSE NEIGHBOUR: 'it returns false'. Refute it at one input. -/
def fnExactTimeWhenWrong : ChangeSpec := { name := "fnExactTimeWhen", fn := fun _ => fun
  | [d1, d2, d3] => { results := [.lit (.bool false)], args := [d1, d2, d3] }
  | _ => none }
def FnExactTimeWhenWrongFalsely : Prop := fnExactTimeWhenRow.holds Try.pinned (OpenSpec.ofChange fnExactTimeWhenWrong)

/- THE SECOND FORM. 'bulk': how many values and letters a reading holds, each counted each time it is reached (what is shared counts as often as it is met; a slice's spare places count too). A statement '..UptoSaid' is the law's where the arguments, and the package variables that the reading takes, are together of bulk at most 1048576: NARROWER than '..Said'. Prove '..Said' where nothing that the law and all that it calls make is longer than what came in: it says more and counts as full. Else prove '..UptoSaid'. A law counts once. -/
mutual
def uptoBulk {H : Type} : DataW H → Nat
  | .lit (.string bytes) => bytes.length + 1
  | .lit _ => 1
  | .nil => 1
  | .ptr d => uptoBulk d + 1
  | .slice elems spare => uptoBulkAll elems + uptoBulkAll spare + 1
  | .agg parts => uptoBulkAll parts + 1
  | .iface _ d => uptoBulk d + 1
  | .map entries => uptoBulkEntries entries + 1
  | .held _ => 1
def uptoBulkAll {H : Type} : List (DataW H) → Nat
  | [] => 0
  | d :: r => uptoBulk d + uptoBulkAll r
def uptoBulkEntries {H : Type} : List (Lit × DataW H) → Nat
  | [] => 0
  | x :: r => uptoBulkEntry x + uptoBulkEntries r
def uptoBulkEntry {H : Type} : Lit × DataW H → Nat
  | (.string bytes, d) => bytes.length + uptoBulk d + 1
  | (_, d) => uptoBulk d + 1
 end
def uptoSmall : (H : Type) → List (DataW H) → Bool := fun _ ds => decide (uptoBulkAll ds ≤ 1048576)
def OpenSpec.upto (s : _root_.Go.ChangeSpec) : _root_.Go.OpenSpec := { _root_.Go.OpenSpec.ofChange s with cond := some uptoSmall }

/-- 'laws.FnExactOscOk', WHERE WHAT IT READS IS OF BULK AT MOST 1048576: true; the input reads as it did. -/
def fnExactOscOkUptoRow : OpenClaim := { program := "ytlgpalhgpihgnaa", sum := "2ea0389cca8a525f8619b2ca3bece3e7580fbc62d7ac1a8110996a8dedd66b90", func := "loop.example/g00072/laws.FnExactOscOk", spec := "fnExactOscOk", apart := false, narrowed := true }
def FnExactOscOkUptoSaid : Prop := fnExactOscOkUptoRow.holds Try.pinned (OpenSpec.upto fnExactOscOkSpec)

/-- 'laws.FnExactOscStep', WHERE WHAT IT READS IS OF BULK AT MOST 1048576: true; the input reads as it did. -/
def fnExactOscStepUptoRow : OpenClaim := { program := "ytlgpalhgpihgnaa", sum := "2ea0389cca8a525f8619b2ca3bece3e7580fbc62d7ac1a8110996a8dedd66b90", func := "loop.example/g00072/laws.FnExactOscStep", spec := "fnExactOscStep", unfollowed := true, recurses := true, apart := false, narrowed := true }
def FnExactOscStepUptoSaid : Prop := fnExactOscStepUptoRow.holds Try.pinned (OpenSpec.upto fnExactOscStepSpec)

/-- 'laws.FnExactOscRun', WHERE WHAT IT READS IS OF BULK AT MOST 1048576: true; the input reads as it did. -/
def fnExactOscRunUptoRow : OpenClaim := { program := "ytlgpalhgpihgnaa", sum := "2ea0389cca8a525f8619b2ca3bece3e7580fbc62d7ac1a8110996a8dedd66b90", func := "loop.example/g00072/laws.FnExactOscRun", spec := "fnExactOscRun", unfollowed := true, recurses := true, apart := false, narrowed := true }
def FnExactOscRunUptoSaid : Prop := fnExactOscRunUptoRow.holds Try.pinned (OpenSpec.upto fnExactOscRunSpec)

/-- 'laws.FnExactMarksOk', WHERE WHAT IT READS IS OF BULK AT MOST 1048576: true; the input reads as it did. -/
def fnExactMarksOkUptoRow : OpenClaim := { program := "ytlgpalhgpihgnaa", sum := "2ea0389cca8a525f8619b2ca3bece3e7580fbc62d7ac1a8110996a8dedd66b90", func := "loop.example/g00072/laws.FnExactMarksOk", spec := "fnExactMarksOk", apart := false, narrowed := true }
def FnExactMarksOkUptoSaid : Prop := fnExactMarksOkUptoRow.holds Try.pinned (OpenSpec.upto fnExactMarksOkSpec)

/-- 'laws.FnExactMarksAll', WHERE WHAT IT READS IS OF BULK AT MOST 1048576: true; the input reads as it did. -/
def fnExactMarksAllUptoRow : OpenClaim := { program := "ytlgpalhgpihgnaa", sum := "2ea0389cca8a525f8619b2ca3bece3e7580fbc62d7ac1a8110996a8dedd66b90", func := "loop.example/g00072/laws.FnExactMarksAll", spec := "fnExactMarksAll", apart := false, narrowed := true }
def FnExactMarksAllUptoSaid : Prop := fnExactMarksAllUptoRow.holds Try.pinned (OpenSpec.upto fnExactMarksAllSpec)

/-- 'laws.FnExactElapsedAt', WHERE WHAT IT READS IS OF BULK AT MOST 1048576: true; the input reads as it did. -/
def fnExactElapsedAtUptoRow : OpenClaim := { program := "ytlgpalhgpihgnaa", sum := "2ea0389cca8a525f8619b2ca3bece3e7580fbc62d7ac1a8110996a8dedd66b90", func := "loop.example/g00072/laws.FnExactElapsedAt", spec := "fnExactElapsedAt", unfollowed := true, recurses := true, apart := false, narrowed := true }
def FnExactElapsedAtUptoSaid : Prop := fnExactElapsedAtUptoRow.holds Try.pinned (OpenSpec.upto fnExactElapsedAtSpec)

/-- 'laws.FnExactCountWhen', WHERE WHAT IT READS IS OF BULK AT MOST 1048576: true; the input reads as it did. -/
def fnExactCountWhenUptoRow : OpenClaim := { program := "ytlgpalhgpihgnaa", sum := "2ea0389cca8a525f8619b2ca3bece3e7580fbc62d7ac1a8110996a8dedd66b90", func := "loop.example/g00072/laws.FnExactCountWhen", spec := "fnExactCountWhen", unfollowed := true, recurses := true, apart := false, narrowed := true }
def FnExactCountWhenUptoSaid : Prop := fnExactCountWhenUptoRow.holds Try.pinned (OpenSpec.upto fnExactCountWhenSpec)

/-- 'laws.FnExactTimeWhen', WHERE WHAT IT READS IS OF BULK AT MOST 1048576: true; the input reads as it did. -/
def fnExactTimeWhenUptoRow : OpenClaim := { program := "ytlgpalhgpihgnaa", sum := "2ea0389cca8a525f8619b2ca3bece3e7580fbc62d7ac1a8110996a8dedd66b90", func := "loop.example/g00072/laws.FnExactTimeWhen", spec := "fnExactTimeWhen", unfollowed := true, recurses := true, apart := false, narrowed := true }
def FnExactTimeWhenUptoSaid : Prop := fnExactTimeWhenUptoRow.holds Try.pinned (OpenSpec.upto fnExactTimeWhenSpec)

end Rows
end Go.Proofs.Ytlgpalhgpihgnaa
