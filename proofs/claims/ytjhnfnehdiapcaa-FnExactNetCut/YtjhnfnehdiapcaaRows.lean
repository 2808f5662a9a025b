/-
  No cell of these rows narrows 'for every input' (looked for: loops, veiled, ifaces, maps, wideKeys, modest, calm, conditions, laid).
  DERIVED. THE GIVEN ROWS OF THIS SEAT. 6 by the template 'for every input the law returns true; each argument reads behind the call as it read before'; 0 by the template 'total and deterministic' (their statements: YtjhnfnehdiapcaaTotals.lean).
  GIVEN WITH THE SEED: the statements are not yours to turn. If you find one false, say at which input.
  Laid BY PROGRAM, IN A SANDBOX (cutbox-rows.mjs): the forced cells as the released guide's own fill.sh prints them over the translation a6b1dada6e5fbcb2… (all of the seat's roots in one cut). By AI agents, Wed Nov 11 2026. No macro, syntax, notation, axiom, sorry.
-/
import Derived.Test.YtjhnfnehdiapcaaChecked
import GoSem.Claim
import GoSem.ClaimJoined
import GoSem.ClaimMapViews
import Derived.JoinedTies
import Derived.KernelRfl
namespace Go.Proofs.Ytjhnfnehdiapcaa
/- THE CELL 'sum', in the pinned program and in every row, IS THE sha256 OF THE DUMP (.gsa) THAT YtjhnfnehdiapcaaProg.lean LOADS. Nothing in Lean hashes anything: it is a label: what it is worth is what the hold of that sum in a sandbox is worth. -/
noncomputable def Try.pinned : Pinned := { name := "ytjhnfnehdiapcaa", sum := "a6b1dada6e5fbcb231d8b24c7e0f4966e0e6cfd01a858c16f6c8d1de84483fa0", checked := Try.checked }
namespace Rows
def none {H : Type} : Left H := { results := [], args := [] }

/-- 'laws.FnMail': WHATEVER THE INPUT: true; the input reads as it did. -/
def fnMailSpec : ChangeSpec := { name := "fnMail", fn := fun _ => fun
  | [d] => { results := [.lit (.bool true)], args := [d] }
  | _ => none }
def fnMailRow : OpenClaim := { program := "ytjhnfnehdiapcaa", sum := "a6b1dada6e5fbcb231d8b24c7e0f4966e0e6cfd01a858c16f6c8d1de84483fa0", func := "loop.example/g00072/laws.FnMail", spec := "fnMail", apart := false }
def FnMailSaid : Prop := fnMailRow.holds Try.pinned (OpenSpec.ofChange fnMailSpec)

/-- ITS FALSE NEIGHBOUR: 'it returns false'. Refute it at one input. -/
def fnMailWrong : ChangeSpec := { name := "fnMail", fn := fun _ => fun
  | [d] => { results := [.lit (.bool false)], args := [d] }
  | _ => none }
def FnMailWrongFalsely : Prop := fnMailRow.holds Try.pinned (OpenSpec.ofChange fnMailWrong)

/-- 'laws.FnMailFor': WHATEVER THE INPUT: true; the input reads as it did. -/
def fnMailForSpec : ChangeSpec := { name := "fnMailFor", fn := fun _ => fun
  | [d] => { results := [.lit (.bool true)], args := [d] }
  | _ => none }
def fnMailForRow : OpenClaim := { program := "ytjhnfnehdiapcaa", sum := "a6b1dada6e5fbcb231d8b24c7e0f4966e0e6cfd01a858c16f6c8d1de84483fa0", func := "loop.example/g00072/laws.FnMailFor", spec := "fnMailFor", apart := false }
def FnMailForSaid : Prop := fnMailForRow.holds Try.pinned (OpenSpec.ofChange fnMailForSpec)

/-- ITS FALSE NEIGHBOUR: 'it returns false'. Refute it at one input. -/
def fnMailForWrong : ChangeSpec := { name := "fnMailFor", fn := fun _ => fun
  | [d] => { results := [.lit (.bool false)], args := [d] }
  | _ => none }
def FnMailForWrongFalsely : Prop := fnMailForRow.holds Try.pinned (OpenSpec.ofChange fnMailForWrong)

/-- 'laws.FnExactNetSend': WHATEVER THE INPUT: true; the input reads as it did. -/
def fnExactNetSendSpec : ChangeSpec := { name := "fnExactNetSend", fn := fun _ => fun
  | [d1, d2, d3, d4, d5] => { results := [.lit (.bool true)], args := [d1, d2, d3, d4, d5] }
  | _ => none }
def fnExactNetSendRow : OpenClaim := { program := "ytjhnfnehdiapcaa", sum := "a6b1dada6e5fbcb231d8b24c7e0f4966e0e6cfd01a858c16f6c8d1de84483fa0", func := "loop.example/g00072/laws.FnExactNetSend", spec := "fnExactNetSend", apart := false }
def FnExactNetSendSaid : Prop := fnExactNetSendRow.holds Try.pinned (OpenSpec.ofChange fnExactNetSendSpec)

/-- ITS FALSE NEIGHBOUR: 'it returns false'. Refute it at one input. -/
def fnExactNetSendWrong : ChangeSpec := { name := "fnExactNetSend", fn := fun _ => fun
  | [d1, d2, d3, d4, d5] => { results := [.lit (.bool false)], args := [d1, d2, d3, d4, d5] }
  | _ => none }
def FnExactNetSendWrongFalsely : Prop := fnExactNetSendRow.holds Try.pinned (OpenSpec.ofChange fnExactNetSendWrong)

/-- 'laws.FnExactNetDouble': WHATEVER THE INPUT: true; the input reads as it did. -/
def fnExactNetDoubleSpec : ChangeSpec := { name := "fnExactNetDouble", fn := fun _ => fun
  | [d1, d2] => { results := [.lit (.bool true)], args := [d1, d2] }
  | _ => none }
def fnExactNetDoubleRow : OpenClaim := { program := "ytjhnfnehdiapcaa", sum := "a6b1dada6e5fbcb231d8b24c7e0f4966e0e6cfd01a858c16f6c8d1de84483fa0", func := "loop.example/g00072/laws.FnExactNetDouble", spec := "fnExactNetDouble", apart := false }
def FnExactNetDoubleSaid : Prop := fnExactNetDoubleRow.holds Try.pinned (OpenSpec.ofChange fnExactNetDoubleSpec)

/-- ITS FALSE NEIGHBOUR: 'it returns false'. Refute it at one input. -/
def fnExactNetDoubleWrong : ChangeSpec := { name := "fnExactNetDouble", fn := fun _ => fun
  | [d1, d2] => { results := [.lit (.bool false)], args := [d1, d2] }
  | _ => none }
def FnExactNetDoubleWrongFalsely : Prop := fnExactNetDoubleRow.holds Try.pinned (OpenSpec.ofChange fnExactNetDoubleWrong)

/-- 'laws.FnExactNetMove': WHATEVER THE INPUT: true; the input reads as it did. -/
def fnExactNetMoveSpec : ChangeSpec := { name := "fnExactNetMove", fn := fun _ => fun
  | [d1, d2, d3] => { results := [.lit (.bool true)], args := [d1, d2, d3] }
  | _ => none }
def fnExactNetMoveRow : OpenClaim := { program := "ytjhnfnehdiapcaa", sum := "a6b1dada6e5fbcb231d8b24c7e0f4966e0e6cfd01a858c16f6c8d1de84483fa0", func := "loop.example/g00072/laws.FnExactNetMove", spec := "fnExactNetMove", apart := false }
def FnExactNetMoveSaid : Prop := fnExactNetMoveRow.holds Try.pinned (OpenSpec.ofChange fnExactNetMoveSpec)

/-- ITS FALSE NEIGHBOUR: 'it returns false'. Refute it at one input. -/
def fnExactNetMoveWrong : ChangeSpec := { name := "fnExactNetMove", fn := fun _ => fun
  | [d1, d2, d3] => { results := [.lit (.bool false)], args := [d1, d2, d3] }
  | _ => none }
def FnExactNetMoveWrongFalsely : Prop := fnExactNetMoveRow.holds Try.pinned (OpenSpec.ofChange fnExactNetMoveWrong)

/-- 'laws.FnExactNetCut': WHATEVER THE INPUT: true; the input reads as it did. -/
def fnExactNetCutSpec : ChangeSpec := { name := "fnExactNetCut", fn := fun _ => fun
  | [d1, d2] => { results := [.lit (.bool true)], args := [d1, d2] }
  | _ => none }
def fnExactNetCutRow : OpenClaim := { program := "ytjhnfnehdiapcaa", sum := "a6b1dada6e5fbcb231d8b24c7e0f4966e0e6cfd01a858c16f6c8d1de84483fa0", func := "loop.example/g00072/laws.FnExactNetCut", spec := "fnExactNetCut", apart := false }
def FnExactNetCutSaid : Prop := fnExactNetCutRow.holds Try.pinned (OpenSpec.ofChange fnExactNetCutSpec)

/-- ITS FALSE NEIGHBOUR: 'it returns false'. Refute it at one input. -/
def fnExactNetCutWrong : ChangeSpec := { name := "fnExactNetCut", fn := fun _ => fun
  | [d1, d2] => { results := [.lit (.bool false)], args := [d1, d2] }
  | _ => none }
def FnExactNetCutWrongFalsely : Prop := fnExactNetCutRow.holds Try.pinned (OpenSpec.ofChange fnExactNetCutWrong)

/- THE SECOND FORM. 'bulk': how many values and letters a reading holds, each counted each time it is reached (what is shared counts as often as it is met; a slice's spare places count too). A statement '..UptoSaid' is the law's where the arguments, and the package variables that the reading takes, are together of bulk at most 1048576: NARROWER than '..Said'. Prove '..Said' where nothing that the law and all that it calls make is longer than what came in: it says more and counts as full. Else prove '..UptoSaid'. A law counts once. -/
mutual
def uptoBulk {H : Type} : DataW H → Nat
  | .lit (.string bytes) => bytes.length + 1
  | .lit _ => 1
  | .nil => 1
  | .ptr d => uptoBulk d + 1
  | .slice elems spare => uptoBulkAll elems + uptoBulkAll spare + 1
  | .agg parts => uptoBulkAll parts + 1
  | .iface _ d => uptoBulk d + 1
  | .map entries => uptoBulkEntries entries + 1
  | .held _ => 1
def uptoBulkAll {H : Type} : List (DataW H) → Nat
  | [] => 0
  | d :: r => uptoBulk d + uptoBulkAll r
def uptoBulkEntries {H : Type} : List (Lit × DataW H) → Nat
  | [] => 0
  | x :: r => uptoBulkEntry x + uptoBulkEntries r
def uptoBulkEntry {H : Type} : Lit × DataW H → Nat
  | (.string bytes, d) => bytes.length + uptoBulk d + 1
  | (_, d) => uptoBulk d + 1
 end
def uptoSmall : (H : Type) → List (DataW H) → Bool := fun _ ds => decide (uptoBulkAll ds ≤ 1048576)
def OpenSpec.upto (s : _root_.Go.ChangeSpec) : _root_.Go.OpenSpec := { _root_.Go.OpenSpec.ofChange s with cond := some uptoSmall }

/-- 'laws.FnMail', WHERE WHAT IT READS IS OF BULK AT MOST 1048576: true; the input reads as it did. -/
def fnMailUptoRow : OpenClaim := { program := "ytjhnfnehdiapcaa", sum := "a6b1dada6e5fbcb231d8b24c7e0f4966e0e6cfd01a858c16f6c8d1de84483fa0", func := "loop.example/g00072/laws.FnMail", spec := "fnMail", apart := false, narrowed := true }
def FnMailUptoSaid : Prop := fnMailUptoRow.holds Try.pinned (OpenSpec.upto fnMailSpec)

/-- 'laws.FnMailFor', WHERE WHAT IT READS IS OF BULK AT MOST 1048576: true; the input reads as it did. -/
def fnMailForUptoRow : OpenClaim := { program := "ytjhnfnehdiapcaa", sum := "a6b1dada6e5fbcb231d8b24c7e0f4966e0e6cfd01a858c16f6c8d1de84483fa0", func := "loop.example/g00072/laws.FnMailFor", spec := "fnMailFor", apart := false, narrowed := true }
def FnMailForUptoSaid : Prop := fnMailForUptoRow.holds Try.pinned (OpenSpec.upto fnMailForSpec)

/-- 'laws.FnExactNetSend', WHERE WHAT IT READS IS OF BULK AT MOST 1048576: true; the input reads as it did. -/
def fnExactNetSendUptoRow : OpenClaim := { program := "ytjhnfnehdiapcaa", sum := "a6b1dada6e5fbcb231d8b24c7e0f4966e0e6cfd01a858c16f6c8d1de84483fa0", func := "loop.example/g00072/laws.FnExactNetSend", spec := "fnExactNetSend", apart := false, narrowed := true }
def FnExactNetSendUptoSaid : Prop := fnExactNetSendUptoRow.holds Try.pinned (OpenSpec.upto fnExactNetSendSpec)

/-- 'laws.FnExactNetDouble', WHERE WHAT IT READS IS OF BULK AT MOST 1048576: true; the input reads as it did. -/
def fnExactNetDoubleUptoRow : OpenClaim := { program := "ytjhnfnehdiapcaa", sum := "a6b1dada6e5fbcb231d8b24c7e0f4966e0e6cfd01a858c16f6c8d1de84483fa0", func := "loop.example/g00072/laws.FnExactNetDouble", spec := "fnExactNetDouble", apart := false, narrowed := true }
def FnExactNetDoubleUptoSaid : Prop := fnExactNetDoubleUptoRow.holds Try.pinned (OpenSpec.upto fnExactNetDoubleSpec)

/-- 'laws.FnExactNetMove', WHERE WHAT IT READS IS OF BULK AT MOST 1048576: true; the input reads as it did. -/
def fnExactNetMoveUptoRow : OpenClaim := { program := "ytjhnfnehdiapcaa", sum := "a6b1dada6e5fbcb231d8b24c7e0f4966e0e6cfd01a858c16f6c8d1de84483fa0", func := "loop.example/g00072/laws.FnExactNetMove", spec := "fnExactNetMove", apart := false, narrowed := true }
def FnExactNetMoveUptoSaid : Prop := fnExactNetMoveUptoRow.holds Try.pinned (OpenSpec.upto fnExactNetMoveSpec)

/-- 'laws.FnExactNetCut', WHERE WHAT IT READS IS OF BULK AT MOST 1048576: true; the input reads as it did. -/
def fnExactNetCutUptoRow : OpenClaim := { program := "ytjhnfnehdiapcaa", sum := "a6b1dada6e5fbcb231d8b24c7e0f4966e0e6cfd01a858c16f6c8d1de84483fa0", func := "loop.example/g00072/laws.FnExactNetCut", spec := "fnExactNetCut", apart := false, narrowed := true }
def FnExactNetCutUptoSaid : Prop := fnExactNetCutUptoRow.holds Try.pinned (OpenSpec.upto fnExactNetCutSpec)

end Rows
end Go.Proofs.Ytjhnfnehdiapcaa
