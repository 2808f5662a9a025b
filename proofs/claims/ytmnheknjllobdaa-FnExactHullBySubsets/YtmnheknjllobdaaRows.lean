/-
  No cell of these rows narrows 'for every input' (looked for: loops, veiled, ifaces, maps, wideKeys, modest, calm, conditions, laid).
  DERIVED. THE GIVEN ROWS OF THIS SEAT. 8 by the template 'for every input the law returns true; each argument reads behind the call as it read before'; 0 by the template 'total and deterministic' (their statements: YtmnheknjllobdaaTotals.lean).
  GIVEN WITH THE SEED: the statements are not yours to turn. If you find one false, say at which input.
  Laid BY PROGRAM, IN A SANDBOX (cutbox-rows.mjs): the forced cells as the released guide's own fill.sh prints them over the translation 5be5034cfcded276… (all of the seat's roots in one cut). By AI agents, Wed Nov 11 2026. No macro, syntax, notation, axiom, sorry.
-/
import Derived.Test.YtmnheknjllobdaaChecked
import GoSem.Claim
import GoSem.ClaimJoined
import GoSem.ClaimMapViews
import Derived.JoinedTies
import Derived.KernelRfl
namespace Go.Proofs.Ytmnheknjllobdaa
/- THE CELL 'sum', in the pinned program and in every row, IS THE sha256 OF THE DUMP (.gsa) THAT YtmnheknjllobdaaProg.lean LOADS. Nothing in Lean hashes anything: it is a label: what it is worth is what the hold of that sum in a sandbox is worth. -/
noncomputable def Try.pinned : Pinned := { name := "ytmnheknjllobdaa", sum := "5be5034cfcded276fd51f9c1ad942c10a599e34f03fcca8afa4cf49d92961516", checked := Try.checked }
namespace Rows
def none {H : Type} : Left H := { results := [], args := [] }

/-- 'laws.FnExactSourcesOk': WHATEVER THE INPUT: true; the input reads as it did. -/
def fnExactSourcesOkSpec : ChangeSpec := { name := "fnExactSourcesOk", fn := fun _ => fun
  | [d] => { results := [.lit (.bool true)], args := [d] }
  | _ => none }
def fnExactSourcesOkRow : OpenClaim := { program := "ytmnheknjllobdaa", sum := "5be5034cfcded276fd51f9c1ad942c10a599e34f03fcca8afa4cf49d92961516", func := "loop.example/g00072/laws.FnExactSourcesOk", spec := "fnExactSourcesOk", apart := false }
def FnExactSourcesOkSaid : Prop := fnExactSourcesOkRow.holds Try.pinned (OpenSpec.ofChange fnExactSourcesOkSpec)

/-- ITS FALSE NEIGHBOUR: 'it returns false'. Refute it at one input. -/
def fnExactSourcesOkWrong : ChangeSpec := { name := "fnExactSourcesOk", fn := fun _ => fun
  | [d] => { results := [.lit (.bool false)], args := [d] }
  | _ => none }
def FnExactSourcesOkWrongFalsely : Prop := fnExactSourcesOkRow.holds Try.pinned (OpenSpec.ofChange fnExactSourcesOkWrong)

/-- 'laws.FnExactCoverAt': WHATEVER THE INPUT: true; the input reads as it did. -/
def fnExactCoverAtSpec : ChangeSpec := { name := "fnExactCoverAt", fn := fun _ => fun
  | [d1, d2] => { results := [.lit (.bool true)], args := [d1, d2] }
  | _ => none }
def fnExactCoverAtRow : OpenClaim := { program := "ytmnheknjllobdaa", sum := "5be5034cfcded276fd51f9c1ad942c10a599e34f03fcca8afa4cf49d92961516", func := "loop.example/g00072/laws.FnExactCoverAt", spec := "fnExactCoverAt", apart := false }
def FnExactCoverAtSaid : Prop := fnExactCoverAtRow.holds Try.pinned (OpenSpec.ofChange fnExactCoverAtSpec)

/-- ITS FALSE NEIGHBOUR: 'it returns false'. Refute it at one input. -/
def fnExactCoverAtWrong : ChangeSpec := { name := "fnExactCoverAt", fn := fun _ => fun
  | [d1, d2] => { results := [.lit (.bool false)], args := [d1, d2] }
  | _ => none }
def FnExactCoverAtWrongFalsely : Prop := fnExactCoverAtRow.holds Try.pinned (OpenSpec.ofChange fnExactCoverAtWrong)

/-- 'laws.FnExactCoverRuns': WHATEVER THE INPUT: true; the input reads as it did. -/
def fnExactCoverRunsSpec : ChangeSpec := { name := "fnExactCoverRuns", fn := fun _ => fun
  | [d1, d2] => { results := [.lit (.bool true)], args := [d1, d2] }
  | _ => none }
def fnExactCoverRunsRow : OpenClaim := { program := "ytmnheknjllobdaa", sum := "5be5034cfcded276fd51f9c1ad942c10a599e34f03fcca8afa4cf49d92961516", func := "loop.example/g00072/laws.FnExactCoverRuns", spec := "fnExactCoverRuns", unfollowed := true, recurses := true, apart := false }
def FnExactCoverRunsSaid : Prop := fnExactCoverRunsRow.holds Try.pinned (OpenSpec.ofChange fnExactCoverRunsSpec)

/-- ITS FALSE NEIGHBOUR: 'it returns false'. Refute it at one input. -/
def fnExactCoverRunsWrong : ChangeSpec := { name := "fnExactCoverRuns", fn := fun _ => fun
  | [d1, d2] => { results := [.lit (.bool false)], args := [d1, d2] }
  | _ => none }
def FnExactCoverRunsWrongFalsely : Prop := fnExactCoverRunsRow.holds Try.pinned (OpenSpec.ofChange fnExactCoverRunsWrong)

/-- 'laws.FnExactHullOf': WHATEVER THE INPUT: true; the input reads as it did. -/
def fnExactHullOfSpec : ChangeSpec := { name := "fnExactHullOf", fn := fun _ => fun
  | [d1, d2] => { results := [.lit (.bool true)], args := [d1, d2] }
  | _ => none }
def fnExactHullOfRow : OpenClaim := { program := "ytmnheknjllobdaa", sum := "5be5034cfcded276fd51f9c1ad942c10a599e34f03fcca8afa4cf49d92961516", func := "loop.example/g00072/laws.FnExactHullOf", spec := "fnExactHullOf", unfollowed := true, recurses := true, apart := false }
def FnExactHullOfSaid : Prop := fnExactHullOfRow.holds Try.pinned (OpenSpec.ofChange fnExactHullOfSpec)

/-- ITS FALSE NEIGHBOUR: 'it returns false'. Refute it at one input. -/
def fnExactHullOfWrong : ChangeSpec := { name := "fnExactHullOf", fn := fun _ => fun
  | [d1, d2] => { results := [.lit (.bool false)], args := [d1, d2] }
  | _ => none }
def FnExactHullOfWrongFalsely : Prop := fnExactHullOfRow.holds Try.pinned (OpenSpec.ofChange fnExactHullOfWrong)

/-- 'laws.FnExactHullBySubsets': WHATEVER THE INPUT: true; the input reads as it did. -/
def fnExactHullBySubsetsSpec : ChangeSpec := { name := "fnExactHullBySubsets", fn := fun _ => fun
  | [d1, d2] => { results := [.lit (.bool true)], args := [d1, d2] }
  | _ => none }
def fnExactHullBySubsetsRow : OpenClaim := { program := "ytmnheknjllobdaa", sum := "5be5034cfcded276fd51f9c1ad942c10a599e34f03fcca8afa4cf49d92961516", func := "loop.example/g00072/laws.FnExactHullBySubsets", spec := "fnExactHullBySubsets", unfollowed := true, recurses := true, apart := false }
def FnExactHullBySubsetsSaid : Prop := fnExactHullBySubsetsRow.holds Try.pinned (OpenSpec.ofChange fnExactHullBySubsetsSpec)

/-- ITS FALSE NEIGHBOUR: 'it returns false'. Refute it at one input. -/
def fnExactHullBySubsetsWrong : ChangeSpec := { name := "fnExactHullBySubsets", fn := fun _ => fun
  | [d1, d2] => { results := [.lit (.bool false)], args := [d1, d2] }
  | _ => none }
def FnExactHullBySubsetsWrongFalsely : Prop := fnExactHullBySubsetsRow.holds Try.pinned (OpenSpec.ofChange fnExactHullBySubsetsWrong)

/-- 'laws.FnExactMostCover': WHATEVER THE INPUT: true; the input reads as it did. -/
def fnExactMostCoverSpec : ChangeSpec := { name := "fnExactMostCover", fn := fun _ => fun
  | [d] => { results := [.lit (.bool true)], args := [d] }
  | _ => none }
def fnExactMostCoverRow : OpenClaim := { program := "ytmnheknjllobdaa", sum := "5be5034cfcded276fd51f9c1ad942c10a599e34f03fcca8afa4cf49d92961516", func := "loop.example/g00072/laws.FnExactMostCover", spec := "fnExactMostCover", unfollowed := true, recurses := true, apart := false }
def FnExactMostCoverSaid : Prop := fnExactMostCoverRow.holds Try.pinned (OpenSpec.ofChange fnExactMostCoverSpec)

/-- ITS FALSE NEIGHBOUR: 'it returns false'. Refute it at one input. -/
def fnExactMostCoverWrong : ChangeSpec := { name := "fnExactMostCover", fn := fun _ => fun
  | [d] => { results := [.lit (.bool false)], args := [d] }
  | _ => none }
def FnExactMostCoverWrongFalsely : Prop := fnExactMostCoverRow.holds Try.pinned (OpenSpec.ofChange fnExactMostCoverWrong)

/-- 'laws.FnExactFuseInto': WHATEVER THE INPUT: true; the input reads as it did. -/
def fnExactFuseIntoSpec : ChangeSpec := { name := "fnExactFuseInto", fn := fun _ => fun
  | [d1, d2, d3, d4, d5] => { results := [.lit (.bool true)], args := [d1, d2, d3, d4, d5] }
  | _ => none }
def fnExactFuseIntoRow : OpenClaim := { program := "ytmnheknjllobdaa", sum := "5be5034cfcded276fd51f9c1ad942c10a599e34f03fcca8afa4cf49d92961516", func := "loop.example/g00072/laws.FnExactFuseInto", spec := "fnExactFuseInto", unfollowed := true, recurses := true, apart := false }
def FnExactFuseIntoSaid : Prop := fnExactFuseIntoRow.holds Try.pinned (OpenSpec.ofChange fnExactFuseIntoSpec)

/-- ITS FALSE NEIGHBOUR: 'it returns false'. Refute it at one input. -/
def fnExactFuseIntoWrong : ChangeSpec := { name := "fnExactFuseInto", fn := fun _ => fun
  | [d1, d2, d3, d4, d5] => { results := [.lit (.bool false)], args := [d1, d2, d3, d4, d5] }
  | _ => none }
def FnExactFuseIntoWrongFalsely : Prop := fnExactFuseIntoRow.holds Try.pinned (OpenSpec.ofChange fnExactFuseIntoWrong)

/-- 'laws.FnExactMissing': WHATEVER THE INPUT: true; the input reads as it did. -/
def fnExactMissingSpec : ChangeSpec := { name := "fnExactMissing", fn := fun _ => fun
  | [d1, d2] => { results := [.lit (.bool true)], args := [d1, d2] }
  | _ => none }
def fnExactMissingRow : OpenClaim := { program := "ytmnheknjllobdaa", sum := "5be5034cfcded276fd51f9c1ad942c10a599e34f03fcca8afa4cf49d92961516", func := "loop.example/g00072/laws.FnExactMissing", spec := "fnExactMissing", apart := false }
def FnExactMissingSaid : Prop := fnExactMissingRow.holds Try.pinned (OpenSpec.ofChange fnExactMissingSpec)

/-- ITS FALSE NEIGHBOUR: 'it returns false'. Refute it at one input. -/
def fnExactMissingWrong : ChangeSpec := { name := "fnExactMissing", fn := fun _ => fun
  | [d1, d2] => { results := [.lit (.bool false)], args := [d1, d2] }
  | _ => none }
def FnExactMissingWrongFalsely : Prop := fnExactMissingRow.holds Try.pinned (OpenSpec.ofChange fnExactMissingWrong)

/- THE SECOND FORM. 'bulk': how many values and letters a reading holds, each counted each time it is reached (what is shared counts as often as it is met; a slice's spare places count too). A statement '..UptoSaid' is the law's where the arguments, and the package variables that the reading takes, are together of bulk at most 1048576: NARROWER than '..Said'. Prove '..Said' where nothing that the law and all that it calls make is longer than what came in: it says more and counts as full. Else prove '..UptoSaid'. A law counts once. -/
mutual
def uptoBulk {H : Type} : DataW H → Nat
  | .lit (.string bytes) => bytes.length + 1
  | .lit _ => 1
  | .nil => 1
  | .ptr d => uptoBulk d + 1
  | .slice elems spare => uptoBulkAll elems + uptoBulkAll spare + 1
  | .agg parts => uptoBulkAll parts + 1
  | .iface _ d => uptoBulk d + 1
  | .map entries => uptoBulkEntries entries + 1
  | .held _ => 1
def uptoBulkAll {H : Type} : List (DataW H) → Nat
  | [] => 0
  | d :: r => uptoBulk d + uptoBulkAll r
def uptoBulkEntries {H : Type} : List (Lit × DataW H) → Nat
  | [] => 0
  | x :: r => uptoBulkEntry x + uptoBulkEntries r
def uptoBulkEntry {H : Type} : Lit × DataW H → Nat
  | (.string bytes, d) => bytes.length + uptoBulk d + 1
  | (_, d) => uptoBulk d + 1
 end
def uptoSmall : (H : Type) → List (DataW H) → Bool := fun _ ds => decide (uptoBulkAll ds ≤ 1048576)
def OpenSpec.upto (s : _root_.Go.ChangeSpec) : _root_.Go.OpenSpec := { _root_.Go.OpenSpec.ofChange s with cond := some uptoSmall }

/-- 'laws.FnExactSourcesOk', WHERE WHAT IT READS IS OF BULK AT MOST 1048576: true; the input reads as it did. -/
def fnExactSourcesOkUptoRow : OpenClaim := { program := "ytmnheknjllobdaa", sum := "5be5034cfcded276fd51f9c1ad942c10a599e34f03fcca8afa4cf49d92961516", func := "loop.example/g00072/laws.FnExactSourcesOk", spec := "fnExactSourcesOk", apart := false, narrowed := true }
def FnExactSourcesOkUptoSaid : Prop := fnExactSourcesOkUptoRow.holds Try.pinned (OpenSpec.upto fnExactSourcesOkSpec)

/-- 'laws.FnExactCoverAt', WHERE WHAT IT READS IS OF BULK AT MOST 1048576: true; the input reads as it did. -/
def fnExactCoverAtUptoRow : OpenClaim := { program := "ytmnheknjllobdaa", sum := "5be5034cfcded276fd51f9c1ad942c10a599e34f03fcca8afa4cf49d92961516", func := "loop.example/g00072/laws.FnExactCoverAt", spec := "fnExactCoverAt", apart := false, narrowed := true }
def FnExactCoverAtUptoSaid : Prop := fnExactCoverAtUptoRow.holds Try.pinned (OpenSpec.upto fnExactCoverAtSpec)

/-- 'laws.FnExactCoverRuns', WHERE WHAT IT READS IS OF BULK AT MOST 1048576: true; the input reads as it did. -/
def fnExactCoverRunsUptoRow : OpenClaim := { program := "ytmnheknjllobdaa", sum := "5be5034cfcded276fd51f9c1ad942c10a599e34f03fcca8afa4cf49d92961516", func := "loop.example/g00072/laws.FnExactCoverRuns", spec := "fnExactCoverRuns", unfollowed := true, recurses := true, apart := false, narrowed := true }
def FnExactCoverRunsUptoSaid : Prop := fnExactCoverRunsUptoRow.holds Try.pinned (OpenSpec.upto fnExactCoverRunsSpec)

/-- 'laws.FnExactHullOf', WHERE WHAT IT READS IS OF BULK AT MOST 1048576: true; the input reads as it did. -/
def fnExactHullOfUptoRow : OpenClaim := { program := "ytmnheknjllobdaa", sum := "5be5034cfcded276fd51f9c1ad942c10a599e34f03fcca8afa4cf49d92961516", func := "loop.example/g00072/laws.FnExactHullOf", spec := "fnExactHullOf", unfollowed := true, recurses := true, apart := false, narrowed := true }
def FnExactHullOfUptoSaid : Prop := fnExactHullOfUptoRow.holds Try.pinned (OpenSpec.upto fnExactHullOfSpec)

/-- 'laws.FnExactHullBySubsets', WHERE WHAT IT READS IS OF BULK AT MOST 1048576: true; the input reads as it did. -/
def fnExactHullBySubsetsUptoRow : OpenClaim := { program := "ytmnheknjllobdaa", sum := "5be5034cfcded276fd51f9c1ad942c10a599e34f03fcca8afa4cf49d92961516", func := "loop.example/g00072/laws.FnExactHullBySubsets", spec := "fnExactHullBySubsets", unfollowed := true, recurses := true, apart := false, narrowed := true }
def FnExactHullBySubsetsUptoSaid : Prop := fnExactHullBySubsetsUptoRow.holds Try.pinned (OpenSpec.upto fnExactHullBySubsetsSpec)

/-- 'laws.FnExactMostCover', WHERE WHAT IT READS IS OF BULK AT MOST 1048576: true; the input reads as it did. -/
def fnExactMostCoverUptoRow : OpenClaim := { program := "ytmnheknjllobdaa", sum := "5be5034cfcded276fd51f9c1ad942c10a599e34f03fcca8afa4cf49d92961516", func := "loop.example/g00072/laws.FnExactMostCover", spec := "fnExactMostCover", unfollowed := true, recurses := true, apart := false, narrowed := true }
def FnExactMostCoverUptoSaid : Prop := fnExactMostCoverUptoRow.holds Try.pinned (OpenSpec.upto fnExactMostCoverSpec)

/-- 'laws.FnExactFuseInto', WHERE WHAT IT READS IS OF BULK AT MOST 1048576: true; the input reads as it did. -/
def fnExactFuseIntoUptoRow : OpenClaim := { program := "ytmnheknjllobdaa", sum := "5be5034cfcded276fd51f9c1ad942c10a599e34f03fcca8afa4cf49d92961516", func := "loop.example/g00072/laws.FnExactFuseInto", spec := "fnExactFuseInto", unfollowed := true, recurses := true, apart := false, narrowed := true }
def FnExactFuseIntoUptoSaid : Prop := fnExactFuseIntoUptoRow.holds Try.pinned (OpenSpec.upto fnExactFuseIntoSpec)

/-- 'laws.FnExactMissing', WHERE WHAT IT READS IS OF BULK AT MOST 1048576: true; the input reads as it did. -/
def fnExactMissingUptoRow : OpenClaim := { program := "ytmnheknjllobdaa", sum := "5be5034cfcded276fd51f9c1ad942c10a599e34f03fcca8afa4cf49d92961516", func := "loop.example/g00072/laws.FnExactMissing", spec := "fnExactMissing", apart := false, narrowed := true }
def FnExactMissingUptoSaid : Prop := fnExactMissingUptoRow.holds Try.pinned (OpenSpec.upto fnExactMissingSpec)

end Rows
end Go.Proofs.Ytmnheknjllobdaa
