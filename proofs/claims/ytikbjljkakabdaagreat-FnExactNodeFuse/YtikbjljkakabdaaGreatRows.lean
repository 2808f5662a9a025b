/-
  No cell of these rows narrows 'for every input' (looked for: loops, veiled, ifaces, maps, wideKeys, modest, calm, conditions, laid).
  DERIVED. THE GIVEN ROWS OF THIS SEAT. 2 by the template 'for every input the law returns true; each argument reads behind the call as it read before'; 0 by the template 'total and deterministic' (their statements: YtikbjljkakabdaaGreatTotals.lean).
  GIVEN WITH THE SEED: the statements are not yours to turn. If you find one false, say at which input.
  Laid BY PROGRAM, IN A SANDBOX (cutbox-rows.mjs): the forced cells as the released guide's own fill.sh prints them over the translation d81f297ff840380b… (all of the seat's roots in one cut). By AI agents, Wed Nov 11 2026. No macro, syntax, notation, axiom, sorry.
-/
import Derived.Test.YtikbjljkakabdaaGreatChecked
import GoSem.Claim
import GoSem.ClaimJoined
import GoSem.ClaimMapViews
import Derived.JoinedTies
import Derived.KernelRfl
namespace Go.Proofs.YtikbjljkakabdaaGreat
/- THE CELL 'sum', in the pinned program and in every row, IS THE sha256 OF THE DUMP (.gsa) THAT YtikbjljkakabdaaGreatProg.lean LOADS. Nothing in Lean hashes anything: it is a label: what it is worth is what the hold of that sum in a sandbox is worth. -/
noncomputable def Tryz.pinned : Pinned := { name := "ytikbjljkakabdaagreat", sum := "d81f297ff840380bb721d4d956c0e149119cb8448a0b98bd316cb1c699815641", checked := Tryz.checked }
namespace Rows
def none {H : Type} : Left H := { results := [], args := [] }

/-- 'laws.FnExactNodeTick': WHATEVER THE INPUT: true; the input reads as it did. -/
def fnExactNodeTickSpec : ChangeSpec := { name := "fnExactNodeTick", fn := fun _ => fun
  | [d1, d2, d3] => { results := [.lit (.bool true)], args := [d1, d2, d3] }
  | _ => none }
def fnExactNodeTickRow : OpenClaim := { program := "ytikbjljkakabdaagreat", sum := "d81f297ff840380bb721d4d956c0e149119cb8448a0b98bd316cb1c699815641", func := "loop.example/g00072/laws.FnExactNodeTick", spec := "fnExactNodeTick", unfollowed := true, recurses := true, apart := false }
def FnExactNodeTickSaid : Prop := fnExactNodeTickRow.holds Tryz.pinned (OpenSpec.ofChange fnExactNodeTickSpec)

/-- ITS FALSE NEIGHBOUR: 'it returns false'. Refute it at one input. -/
def fnExactNodeTickWrong : ChangeSpec := { name := "fnExactNodeTick", fn := fun _ => fun
  | [d1, d2, d3] => { results := [.lit (.bool false)], args := [d1, d2, d3] }
  | _ => none }
def FnExactNodeTickWrongFalsely : Prop := fnExactNodeTickRow.holds Tryz.pinned (OpenSpec.ofChange fnExactNodeTickWrong)

/-- 'laws.FnExactNodeFuse': WHATEVER THE INPUT: true; the input reads as it did. -/
def fnExactNodeFuseSpec : ChangeSpec := { name := "fnExactNodeFuse", fn := fun _ => fun
  | [d1, d2, d3] => { results := [.lit (.bool true)], args := [d1, d2, d3] }
  | _ => none }
def fnExactNodeFuseRow : OpenClaim := { program := "ytikbjljkakabdaagreat", sum := "d81f297ff840380bb721d4d956c0e149119cb8448a0b98bd316cb1c699815641", func := "loop.example/g00072/laws.FnExactNodeFuse", spec := "fnExactNodeFuse", unfollowed := true, recurses := true, apart := false }
def FnExactNodeFuseSaid : Prop := fnExactNodeFuseRow.holds Tryz.pinned (OpenSpec.ofChange fnExactNodeFuseSpec)

/-- ITS FALSE NEIGHBOUR: 'it returns false'. Refute it at one input. -/
def fnExactNodeFuseWrong : ChangeSpec := { name := "fnExactNodeFuse", fn := fun _ => fun
  | [d1, d2, d3] => { results := [.lit (.bool false)], args := [d1, d2, d3] }
  | _ => none }
def FnExactNodeFuseWrongFalsely : Prop := fnExactNodeFuseRow.holds Tryz.pinned (OpenSpec.ofChange fnExactNodeFuseWrong)

/- THE SECOND FORM. 'bulk': how many values and letters a reading holds, each counted each time it is reached (what is shared counts as often as it is met; a slice's spare places count too). A statement '..UptoSaid' is the law's where the arguments, and the package variables that the reading takes, are together of bulk at most 1048576: NARROWER than '..Said'. Prove '..Said' where nothing that the law and all that it calls make is longer than what came in: it says more and counts as full. Else prove '..UptoSaid'. A law counts once. -/
mutual
def uptoBulk {H : Type} : DataW H → Nat
  | .lit (.string bytes) => bytes.length + 1
  | .lit _ => 1
  | .nil => 1
  | .ptr d => uptoBulk d + 1
  | .slice elems spare => uptoBulkAll elems + uptoBulkAll spare + 1
  | .agg parts => uptoBulkAll parts + 1
  | .iface _ d => uptoBulk d + 1
  | .map entries => uptoBulkEntries entries + 1
  | .held _ => 1
def uptoBulkAll {H : Type} : List (DataW H) → Nat
  | [] => 0
  | d :: r => uptoBulk d + uptoBulkAll r
def uptoBulkEntries {H : Type} : List (Lit × DataW H) → Nat
  | [] => 0
  | x :: r => uptoBulkEntry x + uptoBulkEntries r
def uptoBulkEntry {H : Type} : Lit × DataW H → Nat
  | (.string bytes, d) => bytes.length + uptoBulk d + 1
  | (_, d) => uptoBulk d + 1
 end
def uptoSmall : (H : Type) → List (DataW H) → Bool := fun _ ds => decide (uptoBulkAll ds ≤ 1048576)
def OpenSpec.upto (s : _root_.Go.ChangeSpec) : _root_.Go.OpenSpec := { _root_.Go.OpenSpec.ofChange s with cond := some uptoSmall }

/-- 'laws.FnExactNodeTick', WHERE WHAT IT READS IS OF BULK AT MOST 1048576: true; the input reads as it did. -/
def fnExactNodeTickUptoRow : OpenClaim := { program := "ytikbjljkakabdaagreat", sum := "d81f297ff840380bb721d4d956c0e149119cb8448a0b98bd316cb1c699815641", func := "loop.example/g00072/laws.FnExactNodeTick", spec := "fnExactNodeTick", unfollowed := true, recurses := true, apart := false, narrowed := true }
def FnExactNodeTickUptoSaid : Prop := fnExactNodeTickUptoRow.holds Tryz.pinned (OpenSpec.upto fnExactNodeTickSpec)

/-- 'laws.FnExactNodeFuse', WHERE WHAT IT READS IS OF BULK AT MOST 1048576: true; the input reads as it did. -/
def fnExactNodeFuseUptoRow : OpenClaim := { program := "ytikbjljkakabdaagreat", sum := "d81f297ff840380bb721d4d956c0e149119cb8448a0b98bd316cb1c699815641", func := "loop.example/g00072/laws.FnExactNodeFuse", spec := "fnExactNodeFuse", unfollowed := true, recurses := true, apart := false, narrowed := true }
def FnExactNodeFuseUptoSaid : Prop := fnExactNodeFuseUptoRow.holds Tryz.pinned (OpenSpec.upto fnExactNodeFuseSpec)

end Rows
end Go.Proofs.YtikbjljkakabdaaGreat
