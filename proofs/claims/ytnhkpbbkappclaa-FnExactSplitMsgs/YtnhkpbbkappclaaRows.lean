/-
  No cell of these rows narrows 'for every input' (looked for: loops, veiled, ifaces, maps, wideKeys, modest, calm, conditions, laid).
  DERIVED. THE GIVEN ROWS OF THIS SEAT. 4 by the template 'for every input the law returns true; each argument reads behind the call as it read before'; 0 by the template 'total and deterministic' (their statements: YtnhkpbbkappclaaTotals.lean).
  GIVEN WITH THE SEED: the statements are not yours to turn. If you find one false, say at which input.
  Laid BY PROGRAM, IN A SANDBOX (cutbox-rows.mjs): the forced cells as the released guide's own fill.sh prints them over the translation 6b4b56491546fbec… (all of the seat's roots in one cut). By AI agents, Wed Nov 11 2026. No macro, syntax, notation, axiom, sorry.
-/
import Derived.Test.YtnhkpbbkappclaaChecked
import GoSem.Claim
import GoSem.ClaimJoined
import GoSem.ClaimMapViews
import Derived.JoinedTies
import Derived.KernelRfl
namespace Go.Proofs.Ytnhkpbbkappclaa
/- THE CELL 'sum', in the pinned program and in every row, IS THE sha256 OF THE DUMP (.gsa) THAT YtnhkpbbkappclaaProg.lean LOADS. Nothing in Lean hashes anything: it is a label: what it is worth is what the hold of that sum in a sandbox is worth. -/
noncomputable def Try.pinned : Pinned := { name := "ytnhkpbbkappclaa", sum := "6b4b56491546fbec19fe2ff75a1b4a46b52f1ba27b3cea59bea27f86c1afd58b", checked := Try.checked }
namespace Rows
def none {H : Type} : Left H := { results := [], args := [] }

/-- 'laws.FnExactPack': WHATEVER THE INPUT: true; the input reads as it did. -/
def fnExactPackSpec : ChangeSpec := { name := "fnExactPack", fn := fun _ => fun
  | [d] => { results := [.lit (.bool true)], args := [d] }
  | _ => none }
def fnExactPackRow : OpenClaim := { program := "ytnhkpbbkappclaa", sum := "6b4b56491546fbec19fe2ff75a1b4a46b52f1ba27b3cea59bea27f86c1afd58b", func := "loop.example/g00072/laws.FnExactPack", spec := "fnExactPack", apart := false }
def FnExactPackSaid : Prop := fnExactPackRow.holds Try.pinned (OpenSpec.ofChange fnExactPackSpec)

/-- ITS FALSE NEIGHBOUR: 'it returns false'. Refute it at one input. -/
def fnExactPackWrong : ChangeSpec := { name := "fnExactPack", fn := fun _ => fun
  | [d] => { results := [.lit (.bool false)], args := [d] }
  | _ => none }
def FnExactPackWrongFalsely : Prop := fnExactPackRow.holds Try.pinned (OpenSpec.ofChange fnExactPackWrong)

/-- 'laws.FnExactUnpack': WHATEVER THE INPUT: true; the input reads as it did. -/
def fnExactUnpackSpec : ChangeSpec := { name := "fnExactUnpack", fn := fun _ => fun
  | [d] => { results := [.lit (.bool true)], args := [d] }
  | _ => none }
def fnExactUnpackRow : OpenClaim := { program := "ytnhkpbbkappclaa", sum := "6b4b56491546fbec19fe2ff75a1b4a46b52f1ba27b3cea59bea27f86c1afd58b", func := "loop.example/g00072/laws.FnExactUnpack", spec := "fnExactUnpack", unfollowed := true, recurses := true, apart := false }
def FnExactUnpackSaid : Prop := fnExactUnpackRow.holds Try.pinned (OpenSpec.ofChange fnExactUnpackSpec)

/-- ITS FALSE NEIGHBOUR: 'it returns false'. Refute it at one input. -/
def fnExactUnpackWrong : ChangeSpec := { name := "fnExactUnpack", fn := fun _ => fun
  | [d] => { results := [.lit (.bool false)], args := [d] }
  | _ => none }
def FnExactUnpackWrongFalsely : Prop := fnExactUnpackRow.holds Try.pinned (OpenSpec.ofChange fnExactUnpackWrong)

/-- 'laws.FnExactJoinMsgs': WHATEVER THE INPUT: true; the input reads as it did. -/
def fnExactJoinMsgsSpec : ChangeSpec := { name := "fnExactJoinMsgs", fn := fun _ => fun
  | [d] => { results := [.lit (.bool true)], args := [d] }
  | _ => none }
def fnExactJoinMsgsRow : OpenClaim := { program := "ytnhkpbbkappclaa", sum := "6b4b56491546fbec19fe2ff75a1b4a46b52f1ba27b3cea59bea27f86c1afd58b", func := "loop.example/g00072/laws.FnExactJoinMsgs", spec := "fnExactJoinMsgs", apart := false }
def FnExactJoinMsgsSaid : Prop := fnExactJoinMsgsRow.holds Try.pinned (OpenSpec.ofChange fnExactJoinMsgsSpec)

/-- ITS FALSE NEIGHBOUR: 'it returns false'. Refute it at one input. -/
def fnExactJoinMsgsWrong : ChangeSpec := { name := "fnExactJoinMsgs", fn := fun _ => fun
  | [d] => { results := [.lit (.bool false)], args := [d] }
  | _ => none }
def FnExactJoinMsgsWrongFalsely : Prop := fnExactJoinMsgsRow.holds Try.pinned (OpenSpec.ofChange fnExactJoinMsgsWrong)

/-- 'laws.FnExactSplitMsgs': WHATEVER THE INPUT: true; the input reads as it did. -/
def fnExactSplitMsgsSpec : ChangeSpec := { name := "fnExactSplitMsgs", fn := fun _ => fun
  | [d] => { results := [.lit (.bool true)], args := [d] }
  | _ => none }
def fnExactSplitMsgsRow : OpenClaim := { program := "ytnhkpbbkappclaa", sum := "6b4b56491546fbec19fe2ff75a1b4a46b52f1ba27b3cea59bea27f86c1afd58b", func := "loop.example/g00072/laws.FnExactSplitMsgs", spec := "fnExactSplitMsgs", unfollowed := true, recurses := true, apart := false }
def FnExactSplitMsgsSaid : Prop := fnExactSplitMsgsRow.holds Try.pinned (OpenSpec.ofChange fnExactSplitMsgsSpec)

/-- ITS FALSE NEIGHBOUR: 'it returns false'. Refute it at one input. -/
def fnExactSplitMsgsWrong : ChangeSpec := { name := "fnExactSplitMsgs", fn := fun _ => fun
  | [d] => { results := [.lit (.bool false)], args := [d] }
  | _ => none }
def FnExactSplitMsgsWrongFalsely : Prop := fnExactSplitMsgsRow.holds Try.pinned (OpenSpec.ofChange fnExactSplitMsgsWrong)

/- THE SECOND FORM. 'bulk': how many values and letters a reading holds, each counted each time it is reached (what is shared counts as often as it is met; a slice's spare places count too). A statement '..UptoSaid' is the law's where the arguments, and the package variables that the reading takes, are together of bulk at most 1048576: NARROWER than '..Said'. Prove '..Said' where nothing that the law and all that it calls make is longer than what came in: it says more and counts as full. Else prove '..UptoSaid'. A law counts once. -/
mutual
def uptoBulk {H : Type} : DataW H → Nat
  | .lit (.string bytes) => bytes.length + 1
  | .lit _ => 1
  | .nil => 1
  | .ptr d => uptoBulk d + 1
  | .slice elems spare => uptoBulkAll elems + uptoBulkAll spare + 1
  | .agg parts => uptoBulkAll parts + 1
  | .iface _ d => uptoBulk d + 1
  | .map entries => uptoBulkEntries entries + 1
  | .held _ => 1
def uptoBulkAll {H : Type} : List (DataW H) → Nat
  | [] => 0
  | d :: r => uptoBulk d + uptoBulkAll r
def uptoBulkEntries {H : Type} : List (Lit × DataW H) → Nat
  | [] => 0
  | x :: r => uptoBulkEntry x + uptoBulkEntries r
def uptoBulkEntry {H : Type} : Lit × DataW H → Nat
  | (.string bytes, d) => bytes.length + uptoBulk d + 1
  | (_, d) => uptoBulk d + 1
 end
def uptoSmall : (H : Type) → List (DataW H) → Bool := fun _ ds => decide (uptoBulkAll ds ≤ 1048576)
def OpenSpec.upto (s : _root_.Go.ChangeSpec) : _root_.Go.OpenSpec := { _root_.Go.OpenSpec.ofChange s with cond := some uptoSmall }

/-- 'laws.FnExactPack', WHERE WHAT IT READS IS OF BULK AT MOST 1048576: true; the input reads as it did. -/
def fnExactPackUptoRow : OpenClaim := { program := "ytnhkpbbkappclaa", sum := "6b4b56491546fbec19fe2ff75a1b4a46b52f1ba27b3cea59bea27f86c1afd58b", func := "loop.example/g00072/laws.FnExactPack", spec := "fnExactPack", apart := false, narrowed := true }
def FnExactPackUptoSaid : Prop := fnExactPackUptoRow.holds Try.pinned (OpenSpec.upto fnExactPackSpec)

/-- 'laws.FnExactUnpack', WHERE WHAT IT READS IS OF BULK AT MOST 1048576: true; the input reads as it did. -/
def fnExactUnpackUptoRow : OpenClaim := { program := "ytnhkpbbkappclaa", sum := "6b4b56491546fbec19fe2ff75a1b4a46b52f1ba27b3cea59bea27f86c1afd58b", func := "loop.example/g00072/laws.FnExactUnpack", spec := "fnExactUnpack", unfollowed := true, recurses := true, apart := false, narrowed := true }
def FnExactUnpackUptoSaid : Prop := fnExactUnpackUptoRow.holds Try.pinned (OpenSpec.upto fnExactUnpackSpec)

/-- 'laws.FnExactJoinMsgs', WHERE WHAT IT READS IS OF BULK AT MOST 1048576: true; the input reads as it did. -/
def fnExactJoinMsgsUptoRow : OpenClaim := { program := "ytnhkpbbkappclaa", sum := "6b4b56491546fbec19fe2ff75a1b4a46b52f1ba27b3cea59bea27f86c1afd58b", func := "loop.example/g00072/laws.FnExactJoinMsgs", spec := "fnExactJoinMsgs", apart := false, narrowed := true }
def FnExactJoinMsgsUptoSaid : Prop := fnExactJoinMsgsUptoRow.holds Try.pinned (OpenSpec.upto fnExactJoinMsgsSpec)

/-- 'laws.FnExactSplitMsgs', WHERE WHAT IT READS IS OF BULK AT MOST 1048576: true; the input reads as it did. -/
def fnExactSplitMsgsUptoRow : OpenClaim := { program := "ytnhkpbbkappclaa", sum := "6b4b56491546fbec19fe2ff75a1b4a46b52f1ba27b3cea59bea27f86c1afd58b", func := "loop.example/g00072/laws.FnExactSplitMsgs", spec := "fnExactSplitMsgs", unfollowed := true, recurses := true, apart := false, narrowed := true }
def FnExactSplitMsgsUptoSaid : Prop := fnExactSplitMsgsUptoRow.holds Try.pinned (OpenSpec.upto fnExactSplitMsgsSpec)

end Rows
end Go.Proofs.Ytnhkpbbkappclaa
