/-
  No cell of these rows narrows 'for every input' (looked for: loops, veiled, ifaces, maps, wideKeys, modest, calm, conditions, laid).
  DERIVED. THE GIVEN ROWS OF THIS SEAT. 7 by the template 'for every input the law returns true; each argument reads behind the call as it read before'; 0 by the template 'total and deterministic' (their statements: YtenknfgdolhilaaTotals.lean).
  GIVEN WITH THE SEED: the statements are not yours to turn. If you find one false, say at which input.
  Laid BY PROGRAM, IN A SANDBOX (cutbox-rows.mjs): the forced cells as the released guide's own fill.sh prints them over the translation ee7e11171b89abaa… (all of the seat's roots in one cut). By AI agents, Wed Nov 11 2026. No macro, syntax, notation, axiom, sorry.
-/
import Derived.Test.YtenknfgdolhilaaChecked
import GoSem.Claim
import GoSem.ClaimJoined
import GoSem.ClaimMapViews
import Derived.JoinedTies
import Derived.KernelRfl
namespace Go.Proofs.Ytenknfgdolhilaa
/- THE CELL 'sum', in the pinned program and in every row, IS THE sha256 OF THE DUMP (.gsa) THAT YtenknfgdolhilaaProg.lean LOADS. Nothing in Lean hashes anything: it is a label: what it is worth is what the hold of that sum in a sandbox is worth. -/
noncomputable def Try.pinned : Pinned := { name := "ytenknfgdolhilaa", sum := "ee7e11171b89abaab9f7730d215833aae3de16f9036c01bf55abf27bc4c35f21", checked := Try.checked }
namespace Rows
def none {H : Type} : Left H := { results := [], args := [] }

/-- 'laws.FnExactLocalOk': WHATEVER THE INPUT: true; the input reads as it did. -/
def fnExactLocalOkSpec : ChangeSpec := { name := "fnExactLocalOk", fn := fun _ => fun
  | [d] => { results := [.lit (.bool true)], args := [d] }
  | _ => none }
def fnExactLocalOkRow : OpenClaim := { program := "ytenknfgdolhilaa", sum := "ee7e11171b89abaab9f7730d215833aae3de16f9036c01bf55abf27bc4c35f21", func := "loop.example/g00072/laws.FnExactLocalOk", spec := "fnExactLocalOk", apart := false }
def FnExactLocalOkSaid : Prop := fnExactLocalOkRow.holds Try.pinned (OpenSpec.ofChange fnExactLocalOkSpec)

/-- ITS FALSE NEIGHBOUR: 'it returns false'. Refute it at one input. -/
def fnExactLocalOkWrong : ChangeSpec := { name := "fnExactLocalOk", fn := fun _ => fun
  | [d] => { results := [.lit (.bool false)], args := [d] }
  | _ => none }
def FnExactLocalOkWrongFalsely : Prop := fnExactLocalOkRow.holds Try.pinned (OpenSpec.ofChange fnExactLocalOkWrong)

/-- 'laws.FnExactCarryOn': WHATEVER THE INPUT: true; the input reads as it did. -/
def fnExactCarryOnSpec : ChangeSpec := { name := "fnExactCarryOn", fn := fun _ => fun
  | [d1, d2, d3] => { results := [.lit (.bool true)], args := [d1, d2, d3] }
  | _ => none }
def fnExactCarryOnRow : OpenClaim := { program := "ytenknfgdolhilaa", sum := "ee7e11171b89abaab9f7730d215833aae3de16f9036c01bf55abf27bc4c35f21", func := "loop.example/g00072/laws.FnExactCarryOn", spec := "fnExactCarryOn", unfollowed := true, recurses := true, apart := false }
def FnExactCarryOnSaid : Prop := fnExactCarryOnRow.holds Try.pinned (OpenSpec.ofChange fnExactCarryOnSpec)

/-- ITS FALSE NEIGHBOUR: 'it returns false'. Refute it at one input. -/
def fnExactCarryOnWrong : ChangeSpec := { name := "fnExactCarryOn", fn := fun _ => fun
  | [d1, d2, d3] => { results := [.lit (.bool false)], args := [d1, d2, d3] }
  | _ => none }
def FnExactCarryOnWrongFalsely : Prop := fnExactCarryOnRow.holds Try.pinned (OpenSpec.ofChange fnExactCarryOnWrong)

/-- 'laws.FnExactRebase': WHATEVER THE INPUT: true; the input reads as it did. -/
def fnExactRebaseSpec : ChangeSpec := { name := "fnExactRebase", fn := fun _ => fun
  | [d1, d2, d3] => { results := [.lit (.bool true)], args := [d1, d2, d3] }
  | _ => none }
def fnExactRebaseRow : OpenClaim := { program := "ytenknfgdolhilaa", sum := "ee7e11171b89abaab9f7730d215833aae3de16f9036c01bf55abf27bc4c35f21", func := "loop.example/g00072/laws.FnExactRebase", spec := "fnExactRebase", unfollowed := true, recurses := true, apart := false }
def FnExactRebaseSaid : Prop := fnExactRebaseRow.holds Try.pinned (OpenSpec.ofChange fnExactRebaseSpec)

/-- ITS FALSE NEIGHBOUR: 'it returns false'. Refute it at one input. -/
def fnExactRebaseWrong : ChangeSpec := { name := "fnExactRebase", fn := fun _ => fun
  | [d1, d2, d3] => { results := [.lit (.bool false)], args := [d1, d2, d3] }
  | _ => none }
def FnExactRebaseWrongFalsely : Prop := fnExactRebaseRow.holds Try.pinned (OpenSpec.ofChange fnExactRebaseWrong)

/-- 'laws.FnExactLearn': WHATEVER THE INPUT: true; the input reads as it did. -/
def fnExactLearnSpec : ChangeSpec := { name := "fnExactLearn", fn := fun _ => fun
  | [d1, d2] => { results := [.lit (.bool true)], args := [d1, d2] }
  | _ => none }
def fnExactLearnRow : OpenClaim := { program := "ytenknfgdolhilaa", sum := "ee7e11171b89abaab9f7730d215833aae3de16f9036c01bf55abf27bc4c35f21", func := "loop.example/g00072/laws.FnExactLearn", spec := "fnExactLearn", apart := false }
def FnExactLearnSaid : Prop := fnExactLearnRow.holds Try.pinned (OpenSpec.ofChange fnExactLearnSpec)

/-- ITS FALSE NEIGHBOUR: 'it returns false'. Refute it at one input. -/
def fnExactLearnWrong : ChangeSpec := { name := "fnExactLearn", fn := fun _ => fun
  | [d1, d2] => { results := [.lit (.bool false)], args := [d1, d2] }
  | _ => none }
def FnExactLearnWrongFalsely : Prop := fnExactLearnRow.holds Try.pinned (OpenSpec.ofChange fnExactLearnWrong)

/-- 'laws.FnExactNarrow': WHATEVER THE INPUT: true; the input reads as it did. -/
def fnExactNarrowSpec : ChangeSpec := { name := "fnExactNarrow", fn := fun _ => fun
  | [d1, d2, d3, d4] => { results := [.lit (.bool true)], args := [d1, d2, d3, d4] }
  | _ => none }
def fnExactNarrowRow : OpenClaim := { program := "ytenknfgdolhilaa", sum := "ee7e11171b89abaab9f7730d215833aae3de16f9036c01bf55abf27bc4c35f21", func := "loop.example/g00072/laws.FnExactNarrow", spec := "fnExactNarrow", unfollowed := true, recurses := true, apart := false }
def FnExactNarrowSaid : Prop := fnExactNarrowRow.holds Try.pinned (OpenSpec.ofChange fnExactNarrowSpec)

/-- ITS FALSE NEIGHBOUR: 'it returns false'. Refute it at one input. -/
def fnExactNarrowWrong : ChangeSpec := { name := "fnExactNarrow", fn := fun _ => fun
  | [d1, d2, d3, d4] => { results := [.lit (.bool false)], args := [d1, d2, d3, d4] }
  | _ => none }
def FnExactNarrowWrongFalsely : Prop := fnExactNarrowRow.holds Try.pinned (OpenSpec.ofChange fnExactNarrowWrong)

/-- 'laws.FnExactWidthAt': WHATEVER THE INPUT: true; the input reads as it did. -/
def fnExactWidthAtSpec : ChangeSpec := { name := "fnExactWidthAt", fn := fun _ => fun
  | [d1, d2, d3] => { results := [.lit (.bool true)], args := [d1, d2, d3] }
  | _ => none }
def fnExactWidthAtRow : OpenClaim := { program := "ytenknfgdolhilaa", sum := "ee7e11171b89abaab9f7730d215833aae3de16f9036c01bf55abf27bc4c35f21", func := "loop.example/g00072/laws.FnExactWidthAt", spec := "fnExactWidthAt", unfollowed := true, recurses := true, apart := false }
def FnExactWidthAtSaid : Prop := fnExactWidthAtRow.holds Try.pinned (OpenSpec.ofChange fnExactWidthAtSpec)

/-- ITS FALSE NEIGHBOUR: 'it returns false'. Refute it at one input. -/
def fnExactWidthAtWrong : ChangeSpec := { name := "fnExactWidthAt", fn := fun _ => fun
  | [d1, d2, d3] => { results := [.lit (.bool false)], args := [d1, d2, d3] }
  | _ => none }
def FnExactWidthAtWrongFalsely : Prop := fnExactWidthAtRow.holds Try.pinned (OpenSpec.ofChange fnExactWidthAtWrong)

/-- 'laws.FnExactKnownFor': WHATEVER THE INPUT: true; the input reads as it did. -/
def fnExactKnownForSpec : ChangeSpec := { name := "fnExactKnownFor", fn := fun _ => fun
  | [d1, d2, d3] => { results := [.lit (.bool true)], args := [d1, d2, d3] }
  | _ => none }
def fnExactKnownForRow : OpenClaim := { program := "ytenknfgdolhilaa", sum := "ee7e11171b89abaab9f7730d215833aae3de16f9036c01bf55abf27bc4c35f21", func := "loop.example/g00072/laws.FnExactKnownFor", spec := "fnExactKnownFor", unfollowed := true, recurses := true, apart := false }
def FnExactKnownForSaid : Prop := fnExactKnownForRow.holds Try.pinned (OpenSpec.ofChange fnExactKnownForSpec)

/-- ITS FALSE NEIGHBOUR: 'it returns false'. Refute it at one input. -/
def fnExactKnownForWrong : ChangeSpec := { name := "fnExactKnownFor", fn := fun _ => fun
  | [d1, d2, d3] => { results := [.lit (.bool false)], args := [d1, d2, d3] }
  | _ => none }
def FnExactKnownForWrongFalsely : Prop := fnExactKnownForRow.holds Try.pinned (OpenSpec.ofChange fnExactKnownForWrong)

/- THE SECOND FORM. 'bulk': how many values and letters a reading holds, each counted each time it is reached (what is shared counts as often as it is met; a slice's spare places count too). A statement '..UptoSaid' is the law's where the arguments, and the package variables that the reading takes, are together of bulk at most 1048576: NARROWER than '..Said'. Prove '..Said' where nothing that the law and all that it calls make is longer than what came in: it says more and counts as full. Else prove '..UptoSaid'. A law counts once. -/
mutual
def uptoBulk {H : Type} : DataW H → Nat
  | .lit (.string bytes) => bytes.length + 1
  | .lit _ => 1
  | .nil => 1
  | .ptr d => uptoBulk d + 1
  | .slice elems spare => uptoBulkAll elems + uptoBulkAll spare + 1
  | .agg parts => uptoBulkAll parts + 1
  | .iface _ d => uptoBulk d + 1
  | .map entries => uptoBulkEntries entries + 1
  | .held _ => 1
def uptoBulkAll {H : Type} : List (DataW H) → Nat
  | [] => 0
  | d :: r => uptoBulk d + uptoBulkAll r
def uptoBulkEntries {H : Type} : List (Lit × DataW H) → Nat
  | [] => 0
  | x :: r => uptoBulkEntry x + uptoBulkEntries r
def uptoBulkEntry {H : Type} : Lit × DataW H → Nat
  | (.string bytes, d) => bytes.length + uptoBulk d + 1
  | (_, d) => uptoBulk d + 1
 end
def uptoSmall : (H : Type) → List (DataW H) → Bool := fun _ ds => decide (uptoBulkAll ds ≤ 1048576)
def OpenSpec.upto (s : _root_.Go.ChangeSpec) : _root_.Go.OpenSpec := { _root_.Go.OpenSpec.ofChange s with cond := some uptoSmall }

/-- 'laws.FnExactLocalOk', WHERE WHAT IT READS IS OF BULK AT MOST 1048576: true; the input reads as it did. -/
def fnExactLocalOkUptoRow : OpenClaim := { program := "ytenknfgdolhilaa", sum := "ee7e11171b89abaab9f7730d215833aae3de16f9036c01bf55abf27bc4c35f21", func := "loop.example/g00072/laws.FnExactLocalOk", spec := "fnExactLocalOk", apart := false, narrowed := true }
def FnExactLocalOkUptoSaid : Prop := fnExactLocalOkUptoRow.holds Try.pinned (OpenSpec.upto fnExactLocalOkSpec)

/-- 'laws.FnExactCarryOn', WHERE WHAT IT READS IS OF BULK AT MOST 1048576: true; the input reads as it did. -/
def fnExactCarryOnUptoRow : OpenClaim := { program := "ytenknfgdolhilaa", sum := "ee7e11171b89abaab9f7730d215833aae3de16f9036c01bf55abf27bc4c35f21", func := "loop.example/g00072/laws.FnExactCarryOn", spec := "fnExactCarryOn", unfollowed := true, recurses := true, apart := false, narrowed := true }
def FnExactCarryOnUptoSaid : Prop := fnExactCarryOnUptoRow.holds Try.pinned (OpenSpec.upto fnExactCarryOnSpec)

/-- 'laws.FnExactRebase', WHERE WHAT IT READS IS OF BULK AT MOST 1048576: true; the input reads as it did. -/
def fnExactRebaseUptoRow : OpenClaim := { program := "ytenknfgdolhilaa", sum := "ee7e11171b89abaab9f7730d215833aae3de16f9036c01bf55abf27bc4c35f21", func := "loop.example/g00072/laws.FnExactRebase", spec := "fnExactRebase", unfollowed := true, recurses := true, apart := false, narrowed := true }
def FnExactRebaseUptoSaid : Prop := fnExactRebaseUptoRow.holds Try.pinned (OpenSpec.upto fnExactRebaseSpec)

/-- 'laws.FnExactLearn', WHERE WHAT IT READS IS OF BULK AT MOST 1048576: true; the input reads as it did. -/
def fnExactLearnUptoRow : OpenClaim := { program := "ytenknfgdolhilaa", sum := "ee7e11171b89abaab9f7730d215833aae3de16f9036c01bf55abf27bc4c35f21", func := "loop.example/g00072/laws.FnExactLearn", spec := "fnExactLearn", apart := false, narrowed := true }
def FnExactLearnUptoSaid : Prop := fnExactLearnUptoRow.holds Try.pinned (OpenSpec.upto fnExactLearnSpec)

/-- 'laws.FnExactNarrow', WHERE WHAT IT READS IS OF BULK AT MOST 1048576: true; the input reads as it did. -/
def fnExactNarrowUptoRow : OpenClaim := { program := "ytenknfgdolhilaa", sum := "ee7e11171b89abaab9f7730d215833aae3de16f9036c01bf55abf27bc4c35f21", func := "loop.example/g00072/laws.FnExactNarrow", spec := "fnExactNarrow", unfollowed := true, recurses := true, apart := false, narrowed := true }
def FnExactNarrowUptoSaid : Prop := fnExactNarrowUptoRow.holds Try.pinned (OpenSpec.upto fnExactNarrowSpec)

/-- 'laws.FnExactWidthAt', WHERE WHAT IT READS IS OF BULK AT MOST 1048576: true; the input reads as it did. -/
def fnExactWidthAtUptoRow : OpenClaim := { program := "ytenknfgdolhilaa", sum := "ee7e11171b89abaab9f7730d215833aae3de16f9036c01bf55abf27bc4c35f21", func := "loop.example/g00072/laws.FnExactWidthAt", spec := "fnExactWidthAt", unfollowed := true, recurses := true, apart := false, narrowed := true }
def FnExactWidthAtUptoSaid : Prop := fnExactWidthAtUptoRow.holds Try.pinned (OpenSpec.upto fnExactWidthAtSpec)

/-- 'laws.FnExactKnownFor', WHERE WHAT IT READS IS OF BULK AT MOST 1048576: true; the input reads as it did. -/
def fnExactKnownForUptoRow : OpenClaim := { program := "ytenknfgdolhilaa", sum := "ee7e11171b89abaab9f7730d215833aae3de16f9036c01bf55abf27bc4c35f21", func := "loop.example/g00072/laws.FnExactKnownFor", spec := "fnExactKnownFor", unfollowed := true, recurses := true, apart := false, narrowed := true }
def FnExactKnownForUptoSaid : Prop := fnExactKnownForUptoRow.holds Try.pinned (OpenSpec.upto fnExactKnownForSpec)

end Rows
end Go.Proofs.Ytenknfgdolhilaa
