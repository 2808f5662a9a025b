/-
  NARROWER THAN 'FOR EVERY INPUT', by the rows' own cells (each row's printed sentence says how): FnHex: laid · FnExactTextOf: laid · FnExactNumOf: laid · FnExactOpLine: laid · FnExactParseOp: laid · FnExactScriptText: laid · FnExactParseScript: laid · FnExactIvalText: laid · FnExactTellLine: laid.
  DERIVED. THE GIVEN ROWS OF THIS SEAT. 9 by the template 'for every input the law returns true; each argument reads behind the call as it read before'; 0 by the template 'total and deterministic' (their statements: YtddjiamollfplaaDoorTotals.lean).
  GIVEN WITH THE SEED: the statements are not yours to turn. If you find one false, say at which input.
  Laid BY PROGRAM, IN A SANDBOX (cutbox-rows.mjs): the forced cells as the released guide's own fill.sh prints them over the translation 56d4ae8114b005f9… (all of the seat's roots in one cut). By AI agents, Wed Nov 11 2026. No macro, syntax, notation, axiom, sorry.
-/
import Derived.Test.YtddjiamollfplaaDoorChecked
import GoSem.Claim
import GoSem.ClaimJoined
import GoSem.ClaimMapViews
import Derived.JoinedTies
import Derived.KernelRfl
namespace Go.Proofs.YtddjiamollfplaaDoor
/- THE CELL 'sum', in the pinned program and in every row, IS THE sha256 OF THE DUMP (.gsa) THAT YtddjiamollfplaaDoorProg.lean LOADS. Nothing in Lean hashes anything: it is a label: what it is worth is what the hold of that sum in a sandbox is worth. -/
noncomputable def Tryd.pinned : Pinned := { name := "ytddjiamollfplaadoor", sum := "56d4ae8114b005f99573904fe53223f4819c6a9aef89d6296b752a1ac5950b0a", checked := Tryd.checked }
namespace Rows
def none {H : Type} : Left H := { results := [], args := [] }

/- WHAT THE LISTED PACKAGE-LEVEL VARIABLES READ AS WHEN THE CALL BEGINS. Each datum BY PROGRAM (the guide's laid-datum.mjs) off the statement by which the dump's own 'gosem.cut.vars' lays the variable. In a bare row this is a premise. The card (YtddjiamollfplaaDoorCards.lean) ties it to the program's text. -/
def laid_math_bits_deBruijn32tab {H : Type} : DataW H := .agg [.lit (.int .u8 0), .lit (.int .u8 1), .lit (.int .u8 28), .lit (.int .u8 2), .lit (.int .u8 29), .lit (.int .u8 14), .lit (.int .u8 24), .lit (.int .u8 3), .lit (.int .u8 30), .lit (.int .u8 22), .lit (.int .u8 20), .lit (.int .u8 15), .lit (.int .u8 25), .lit (.int .u8 17), .lit (.int .u8 4), .lit (.int .u8 8), .lit (.int .u8 31), .lit (.int .u8 27), .lit (.int .u8 13), .lit (.int .u8 23), .lit (.int .u8 21), .lit (.int .u8 19), .lit (.int .u8 16), .lit (.int .u8 7), .lit (.int .u8 26), .lit (.int .u8 12), .lit (.int .u8 18), .lit (.int .u8 6), .lit (.int .u8 11), .lit (.int .u8 5), .lit (.int .u8 10), .lit (.int .u8 9)]
def laid_math_bits_deBruijn64tab {H : Type} : DataW H := .agg [.lit (.int .u8 0), .lit (.int .u8 1), .lit (.int .u8 56), .lit (.int .u8 2), .lit (.int .u8 57), .lit (.int .u8 49), .lit (.int .u8 28), .lit (.int .u8 3), .lit (.int .u8 61), .lit (.int .u8 58), .lit (.int .u8 42), .lit (.int .u8 50), .lit (.int .u8 38), .lit (.int .u8 29), .lit (.int .u8 17), .lit (.int .u8 4), .lit (.int .u8 62), .lit (.int .u8 47), .lit (.int .u8 59), .lit (.int .u8 36), .lit (.int .u8 45), .lit (.int .u8 43), .lit (.int .u8 51), .lit (.int .u8 22), .lit (.int .u8 53), .lit (.int .u8 39), .lit (.int .u8 33), .lit (.int .u8 30), .lit (.int .u8 24), .lit (.int .u8 18), .lit (.int .u8 12), .lit (.int .u8 5), .lit (.int .u8 63), .lit (.int .u8 55), .lit (.int .u8 48), .lit (.int .u8 27), .lit (.int .u8 60), .lit (.int .u8 41), .lit (.int .u8 37), .lit (.int .u8 16), .lit (.int .u8 46), .lit (.int .u8 35), .lit (.int .u8 44), .lit (.int .u8 21), .lit (.int .u8 52), .lit (.int .u8 32), .lit (.int .u8 23), .lit (.int .u8 11), .lit (.int .u8 54), .lit (.int .u8 26), .lit (.int .u8 40), .lit (.int .u8 15), .lit (.int .u8 34), .lit (.int .u8 20), .lit (.int .u8 31), .lit (.int .u8 10), .lit (.int .u8 25), .lit (.int .u8 14), .lit (.int .u8 19), .lit (.int .u8 9), .lit (.int .u8 13), .lit (.int .u8 8), .lit (.int .u8 7), .lit (.int .u8 6)]
def laid_internal_strconv_uint64pow10 {H : Type} : DataW H := .agg [.lit (.int .u64 1), .lit (.int .u64 10), .lit (.int .u64 100), .lit (.int .u64 1000), .lit (.int .u64 10000), .lit (.int .u64 100000), .lit (.int .u64 1000000), .lit (.int .u64 10000000), .lit (.int .u64 100000000), .lit (.int .u64 1000000000), .lit (.int .u64 10000000000), .lit (.int .u64 100000000000), .lit (.int .u64 1000000000000), .lit (.int .u64 10000000000000), .lit (.int .u64 100000000000000), .lit (.int .u64 1000000000000000), .lit (.int .u64 10000000000000000), .lit (.int .u64 100000000000000000), .lit (.int .u64 1000000000000000000), .lit (.int .u64 10000000000000000000)]
def laid_strconv_ErrRange {H : Type} : DataW H := .iface "*errors.errorString" (.ptr (.agg [.lit (.string [118, 97, 108, 117, 101, 32, 111, 117, 116, 32, 111, 102, 32, 114, 97, 110, 103, 101])]))
def laid_strconv_ErrSyntax {H : Type} : DataW H := .iface "*errors.errorString" (.ptr (.agg [.lit (.string [105, 110, 118, 97, 108, 105, 100, 32, 115, 121, 110, 116, 97, 120])]))
def laid_loop_example_g00072_impl_opWords {H : Type} : DataW H := .agg [.lit (.string []), .lit (.string [112, 97, 115, 115]), .lit (.string [98, 111, 111, 116]), .lit (.string [99, 114, 97, 115, 104]), .lit (.string [102, 105, 120]), .lit (.string [97, 115, 107]), .lit (.string [116, 105, 99, 107]), .lit (.string [102, 117, 115, 101]), .lit (.string [114, 101, 97, 100]), .lit (.string [115, 101, 110, 100]), .lit (.string [100, 101, 108, 105, 118, 101, 114]), .lit (.string [100, 114, 111, 112]), .lit (.string [100, 111, 117, 98, 108, 101]), .lit (.string [109, 111, 118, 101]), .lit (.string [102, 111, 114, 103, 101])]

/-- 'laws.FnHex': WHATEVER THE INPUT: true; the input reads as it did. -/
def fnHexSpec : ChangeSpec := { name := "fnHex", fn := fun _ => fun
  | [d] => { results := [.lit (.bool true)], args := [d] }
  | _ => none }
def fnHexRow : OpenClaim := { program := "ytddjiamollfplaadoor", sum := "56d4ae8114b005f99573904fe53223f4819c6a9aef89d6296b752a1ac5950b0a", func := "loop.example/g00072/laws.FnHex", spec := "fnHex", inPlace := ["internal/bytealg.IndexByteString"], named := ["internal/strconv.uint64pow10", "math/bits.deBruijn32tab", "math/bits.deBruijn64tab", "strconv.ErrSyntax", "strconv.ErrRange"], apart := false, laid := [("math/bits.deBruijn32tab", laid_math_bits_deBruijn32tab), ("math/bits.deBruijn64tab", laid_math_bits_deBruijn64tab), ("internal/strconv.uint64pow10", laid_internal_strconv_uint64pow10), ("strconv.ErrRange", laid_strconv_ErrRange), ("strconv.ErrSyntax", laid_strconv_ErrSyntax)] }
def FnHexSaid : Prop := fnHexRow.holds Tryd.pinned (OpenSpec.ofChange fnHexSpec)

/-- ITS FALSE NEIGHBOUR: 'it returns false'. Refute it at one input. -/
def fnHexWrong : ChangeSpec := { name := "fnHex", fn := fun _ => fun
  | [d] => { results := [.lit (.bool false)], args := [d] }
  | _ => none }
def FnHexWrongFalsely : Prop := fnHexRow.holds Tryd.pinned (OpenSpec.ofChange fnHexWrong)

/-- 'laws.FnExactTextOf': WHATEVER THE INPUT: true; the input reads as it did. -/
def fnExactTextOfSpec : ChangeSpec := { name := "fnExactTextOf", fn := fun _ => fun
  | [d] => { results := [.lit (.bool true)], args := [d] }
  | _ => none }
def fnExactTextOfRow : OpenClaim := { program := "ytddjiamollfplaadoor", sum := "56d4ae8114b005f99573904fe53223f4819c6a9aef89d6296b752a1ac5950b0a", func := "loop.example/g00072/laws.FnExactTextOf", spec := "fnExactTextOf", named := ["internal/strconv.uint64pow10", "math/bits.deBruijn32tab", "math/bits.deBruijn64tab"], apart := false, laid := [("math/bits.deBruijn32tab", laid_math_bits_deBruijn32tab), ("math/bits.deBruijn64tab", laid_math_bits_deBruijn64tab), ("internal/strconv.uint64pow10", laid_internal_strconv_uint64pow10)] }
def FnExactTextOfSaid : Prop := fnExactTextOfRow.holds Tryd.pinned (OpenSpec.ofChange fnExactTextOfSpec)

/-- ITS FALSE NEIGHBOUR: 'it returns false'. Refute it at one input. -/
def fnExactTextOfWrong : ChangeSpec := { name := "fnExactTextOf", fn := fun _ => fun
  | [d] => { results := [.lit (.bool false)], args := [d] }
  | _ => none }
def FnExactTextOfWrongFalsely : Prop := fnExactTextOfRow.holds Tryd.pinned (OpenSpec.ofChange fnExactTextOfWrong)

/-- 'laws.FnExactNumOf': WHATEVER THE INPUT: true; the input reads as it did. -/
def fnExactNumOfSpec : ChangeSpec := { name := "fnExactNumOf", fn := fun _ => fun
  | [d] => { results := [.lit (.bool true)], args := [d] }
  | _ => none }
def fnExactNumOfRow : OpenClaim := { program := "ytddjiamollfplaadoor", sum := "56d4ae8114b005f99573904fe53223f4819c6a9aef89d6296b752a1ac5950b0a", func := "loop.example/g00072/laws.FnExactNumOf", spec := "fnExactNumOf", named := ["strconv.ErrSyntax", "strconv.ErrRange", "internal/strconv.uint64pow10", "math/bits.deBruijn32tab", "math/bits.deBruijn64tab"], apart := false, laid := [("math/bits.deBruijn32tab", laid_math_bits_deBruijn32tab), ("math/bits.deBruijn64tab", laid_math_bits_deBruijn64tab), ("internal/strconv.uint64pow10", laid_internal_strconv_uint64pow10), ("strconv.ErrRange", laid_strconv_ErrRange), ("strconv.ErrSyntax", laid_strconv_ErrSyntax)] }
def FnExactNumOfSaid : Prop := fnExactNumOfRow.holds Tryd.pinned (OpenSpec.ofChange fnExactNumOfSpec)

/-- ITS FALSE NEIGHBOUR: 'it returns false'. Refute it at one input. -/
def fnExactNumOfWrong : ChangeSpec := { name := "fnExactNumOf", fn := fun _ => fun
  | [d] => { results := [.lit (.bool false)], args := [d] }
  | _ => none }
def FnExactNumOfWrongFalsely : Prop := fnExactNumOfRow.holds Tryd.pinned (OpenSpec.ofChange fnExactNumOfWrong)

/-- 'laws.FnExactOpLine': WHATEVER THE INPUT: true; the input reads as it did. -/
def fnExactOpLineSpec : ChangeSpec := { name := "fnExactOpLine", vars := ["loop.example/g00072/impl.opWords"], fn := fun _ => fun
  | [d, g1] => { results := [.lit (.bool true)], args := [d], vars := [g1] }
  | _ => none }
def fnExactOpLineRow : OpenClaim := { program := "ytddjiamollfplaadoor", sum := "56d4ae8114b005f99573904fe53223f4819c6a9aef89d6296b752a1ac5950b0a", func := "loop.example/g00072/laws.FnExactOpLine", spec := "fnExactOpLine", inPlace := ["internal/abi.NoEscape", "internal/bytealg.MakeNoZero"], unfollowed := true, recurses := true, named := ["loop.example/g00072/impl.opWords", "internal/strconv.uint64pow10", "math/bits.deBruijn32tab", "math/bits.deBruijn64tab"], apart := false, laid := [("math/bits.deBruijn32tab", laid_math_bits_deBruijn32tab), ("math/bits.deBruijn64tab", laid_math_bits_deBruijn64tab), ("internal/strconv.uint64pow10", laid_internal_strconv_uint64pow10), ("loop.example/g00072/impl.opWords", laid_loop_example_g00072_impl_opWords)] }
def FnExactOpLineSaid : Prop := fnExactOpLineRow.holds Tryd.pinned (OpenSpec.ofChange fnExactOpLineSpec)

/-- ITS FALSE NEIGHBOUR: 'it returns false'. Refute it at one input. -/
def fnExactOpLineWrong : ChangeSpec := { name := "fnExactOpLine", vars := ["loop.example/g00072/impl.opWords"], fn := fun _ => fun
  | [d, g1] => { results := [.lit (.bool false)], args := [d], vars := [g1] }
  | _ => none }
def FnExactOpLineWrongFalsely : Prop := fnExactOpLineRow.holds Tryd.pinned (OpenSpec.ofChange fnExactOpLineWrong)

/-- 'laws.FnExactParseOp': WHATEVER THE INPUT: true; the input reads as it did. -/
def fnExactParseOpSpec : ChangeSpec := { name := "fnExactParseOp", vars := ["loop.example/g00072/impl.opWords"], fn := fun _ => fun
  | [d, g1] => { results := [.lit (.bool true)], args := [d], vars := [g1] }
  | _ => none }
def fnExactParseOpRow : OpenClaim := { program := "ytddjiamollfplaadoor", sum := "56d4ae8114b005f99573904fe53223f4819c6a9aef89d6296b752a1ac5950b0a", func := "loop.example/g00072/laws.FnExactParseOp", spec := "fnExactParseOp", inPlace := ["internal/bytealg.IndexByteString"], unfollowed := true, recurses := true, named := ["loop.example/g00072/impl.opWords", "strconv.ErrSyntax", "strconv.ErrRange", "internal/strconv.uint64pow10", "math/bits.deBruijn32tab", "math/bits.deBruijn64tab"], apart := false, laid := [("math/bits.deBruijn32tab", laid_math_bits_deBruijn32tab), ("math/bits.deBruijn64tab", laid_math_bits_deBruijn64tab), ("internal/strconv.uint64pow10", laid_internal_strconv_uint64pow10), ("strconv.ErrRange", laid_strconv_ErrRange), ("strconv.ErrSyntax", laid_strconv_ErrSyntax), ("loop.example/g00072/impl.opWords", laid_loop_example_g00072_impl_opWords)] }
def FnExactParseOpSaid : Prop := fnExactParseOpRow.holds Tryd.pinned (OpenSpec.ofChange fnExactParseOpSpec)

/-- ITS FALSE NEIGHBOUR: 'it returns false'. Refute it at one input. -/
def fnExactParseOpWrong : ChangeSpec := { name := "fnExactParseOp", vars := ["loop.example/g00072/impl.opWords"], fn := fun _ => fun
  | [d, g1] => { results := [.lit (.bool false)], args := [d], vars := [g1] }
  | _ => none }
def FnExactParseOpWrongFalsely : Prop := fnExactParseOpRow.holds Tryd.pinned (OpenSpec.ofChange fnExactParseOpWrong)

/-- 'laws.FnExactScriptText': WHATEVER THE INPUT: true; the input reads as it did. -/
def fnExactScriptTextSpec : ChangeSpec := { name := "fnExactScriptText", vars := ["loop.example/g00072/impl.opWords"], fn := fun _ => fun
  | [d, g1] => { results := [.lit (.bool true)], args := [d], vars := [g1] }
  | _ => none }
def fnExactScriptTextRow : OpenClaim := { program := "ytddjiamollfplaadoor", sum := "56d4ae8114b005f99573904fe53223f4819c6a9aef89d6296b752a1ac5950b0a", func := "loop.example/g00072/laws.FnExactScriptText", spec := "fnExactScriptText", inPlace := ["internal/abi.NoEscape", "internal/bytealg.MakeNoZero"], unfollowed := true, recurses := true, named := ["loop.example/g00072/impl.opWords", "internal/strconv.uint64pow10", "math/bits.deBruijn32tab", "math/bits.deBruijn64tab"], apart := false, laid := [("math/bits.deBruijn32tab", laid_math_bits_deBruijn32tab), ("math/bits.deBruijn64tab", laid_math_bits_deBruijn64tab), ("internal/strconv.uint64pow10", laid_internal_strconv_uint64pow10), ("loop.example/g00072/impl.opWords", laid_loop_example_g00072_impl_opWords)] }
def FnExactScriptTextSaid : Prop := fnExactScriptTextRow.holds Tryd.pinned (OpenSpec.ofChange fnExactScriptTextSpec)

/-- ITS FALSE NEIGHBOUR: 'it returns false'. Refute it at one input. -/
def fnExactScriptTextWrong : ChangeSpec := { name := "fnExactScriptText", vars := ["loop.example/g00072/impl.opWords"], fn := fun _ => fun
  | [d, g1] => { results := [.lit (.bool false)], args := [d], vars := [g1] }
  | _ => none }
def FnExactScriptTextWrongFalsely : Prop := fnExactScriptTextRow.holds Tryd.pinned (OpenSpec.ofChange fnExactScriptTextWrong)

/-- 'laws.FnExactParseScript': WHATEVER THE INPUT: true; the input reads as it did. -/
def fnExactParseScriptSpec : ChangeSpec := { name := "fnExactParseScript", vars := ["loop.example/g00072/impl.opWords"], fn := fun _ => fun
  | [d, g1] => { results := [.lit (.bool true)], args := [d], vars := [g1] }
  | _ => none }
def fnExactParseScriptRow : OpenClaim := { program := "ytddjiamollfplaadoor", sum := "56d4ae8114b005f99573904fe53223f4819c6a9aef89d6296b752a1ac5950b0a", func := "loop.example/g00072/laws.FnExactParseScript", spec := "fnExactParseScript", inPlace := ["internal/bytealg.IndexByteString"], unfollowed := true, recurses := true, named := ["loop.example/g00072/impl.opWords", "strconv.ErrSyntax", "strconv.ErrRange", "internal/strconv.uint64pow10", "math/bits.deBruijn32tab", "math/bits.deBruijn64tab"], apart := false, laid := [("math/bits.deBruijn32tab", laid_math_bits_deBruijn32tab), ("math/bits.deBruijn64tab", laid_math_bits_deBruijn64tab), ("internal/strconv.uint64pow10", laid_internal_strconv_uint64pow10), ("strconv.ErrRange", laid_strconv_ErrRange), ("strconv.ErrSyntax", laid_strconv_ErrSyntax), ("loop.example/g00072/impl.opWords", laid_loop_example_g00072_impl_opWords)] }
def FnExactParseScriptSaid : Prop := fnExactParseScriptRow.holds Tryd.pinned (OpenSpec.ofChange fnExactParseScriptSpec)

/-- ITS FALSE NEIGHBOUR: 'it returns false'. Refute it at one input. -/
def fnExactParseScriptWrong : ChangeSpec := { name := "fnExactParseScript", vars := ["loop.example/g00072/impl.opWords"], fn := fun _ => fun
  | [d, g1] => { results := [.lit (.bool false)], args := [d], vars := [g1] }
  | _ => none }
def FnExactParseScriptWrongFalsely : Prop := fnExactParseScriptRow.holds Tryd.pinned (OpenSpec.ofChange fnExactParseScriptWrong)

/-- 'laws.FnExactIvalText': WHATEVER THE INPUT: true; the input reads as it did. -/
def fnExactIvalTextSpec : ChangeSpec := { name := "fnExactIvalText", fn := fun _ => fun
  | [d] => { results := [.lit (.bool true)], args := [d] }
  | _ => none }
def fnExactIvalTextRow : OpenClaim := { program := "ytddjiamollfplaadoor", sum := "56d4ae8114b005f99573904fe53223f4819c6a9aef89d6296b752a1ac5950b0a", func := "loop.example/g00072/laws.FnExactIvalText", spec := "fnExactIvalText", named := ["internal/strconv.uint64pow10", "math/bits.deBruijn32tab", "math/bits.deBruijn64tab"], apart := false, laid := [("math/bits.deBruijn32tab", laid_math_bits_deBruijn32tab), ("math/bits.deBruijn64tab", laid_math_bits_deBruijn64tab), ("internal/strconv.uint64pow10", laid_internal_strconv_uint64pow10)] }
def FnExactIvalTextSaid : Prop := fnExactIvalTextRow.holds Tryd.pinned (OpenSpec.ofChange fnExactIvalTextSpec)

/-- ITS FALSE NEIGHBOUR: 'it returns false'. Refute it at one input. -/
def fnExactIvalTextWrong : ChangeSpec := { name := "fnExactIvalText", fn := fun _ => fun
  | [d] => { results := [.lit (.bool false)], args := [d] }
  | _ => none }
def FnExactIvalTextWrongFalsely : Prop := fnExactIvalTextRow.holds Tryd.pinned (OpenSpec.ofChange fnExactIvalTextWrong)

/-- 'laws.FnExactTellLine': WHATEVER THE INPUT: true; the input reads as it did. -/
def fnExactTellLineSpec : ChangeSpec := { name := "fnExactTellLine", vars := ["loop.example/g00072/impl.opWords"], fn := fun _ => fun
  | [d, g1] => { results := [.lit (.bool true)], args := [d], vars := [g1] }
  | _ => none }
def fnExactTellLineRow : OpenClaim := { program := "ytddjiamollfplaadoor", sum := "56d4ae8114b005f99573904fe53223f4819c6a9aef89d6296b752a1ac5950b0a", func := "loop.example/g00072/laws.FnExactTellLine", spec := "fnExactTellLine", inPlace := ["internal/abi.NoEscape", "internal/bytealg.MakeNoZero"], named := ["loop.example/g00072/impl.opWords", "internal/strconv.uint64pow10", "math/bits.deBruijn32tab", "math/bits.deBruijn64tab"], apart := false, laid := [("math/bits.deBruijn32tab", laid_math_bits_deBruijn32tab), ("math/bits.deBruijn64tab", laid_math_bits_deBruijn64tab), ("internal/strconv.uint64pow10", laid_internal_strconv_uint64pow10), ("loop.example/g00072/impl.opWords", laid_loop_example_g00072_impl_opWords)] }
def FnExactTellLineSaid : Prop := fnExactTellLineRow.holds Tryd.pinned (OpenSpec.ofChange fnExactTellLineSpec)

/-- ITS FALSE NEIGHBOUR: 'it returns false'. Refute it at one input. -/
def fnExactTellLineWrong : ChangeSpec := { name := "fnExactTellLine", vars := ["loop.example/g00072/impl.opWords"], fn := fun _ => fun
  | [d, g1] => { results := [.lit (.bool false)], args := [d], vars := [g1] }
  | _ => none }
def FnExactTellLineWrongFalsely : Prop := fnExactTellLineRow.holds Tryd.pinned (OpenSpec.ofChange fnExactTellLineWrong)

/- THE SECOND FORM. 'bulk': how many values and letters a reading holds, each counted each time it is reached (what is shared counts as often as it is met; a slice's spare places count too). A statement '..UptoSaid' is the law's where the arguments, and the package variables that the reading takes, are together of bulk at most 1048576: NARROWER than '..Said'. Prove '..Said' where nothing that the law and all that it calls make is longer than what came in: it says more and counts as full. Else prove '..UptoSaid'. A law counts once. -/
mutual
def uptoBulk {H : Type} : DataW H → Nat
  | .lit (.string bytes) => bytes.length + 1
  | .lit _ => 1
  | .nil => 1
  | .ptr d => uptoBulk d + 1
  | .slice elems spare => uptoBulkAll elems + uptoBulkAll spare + 1
  | .agg parts => uptoBulkAll parts + 1
  | .iface _ d => uptoBulk d + 1
  | .map entries => uptoBulkEntries entries + 1
  | .held _ => 1
def uptoBulkAll {H : Type} : List (DataW H) → Nat
  | [] => 0
  | d :: r => uptoBulk d + uptoBulkAll r
def uptoBulkEntries {H : Type} : List (Lit × DataW H) → Nat
  | [] => 0
  | x :: r => uptoBulkEntry x + uptoBulkEntries r
def uptoBulkEntry {H : Type} : Lit × DataW H → Nat
  | (.string bytes, d) => bytes.length + uptoBulk d + 1
  | (_, d) => uptoBulk d + 1
 end
def uptoSmall : (H : Type) → List (DataW H) → Bool := fun _ ds => decide (uptoBulkAll ds ≤ 1048576)
def OpenSpec.upto (s : _root_.Go.ChangeSpec) : _root_.Go.OpenSpec := { _root_.Go.OpenSpec.ofChange s with cond := some uptoSmall }

/-- 'laws.FnHex', WHERE WHAT IT READS IS OF BULK AT MOST 1048576: true; the input reads as it did. -/
def fnHexUptoRow : OpenClaim := { program := "ytddjiamollfplaadoor", sum := "56d4ae8114b005f99573904fe53223f4819c6a9aef89d6296b752a1ac5950b0a", func := "loop.example/g00072/laws.FnHex", spec := "fnHex", inPlace := ["internal/bytealg.IndexByteString"], named := ["internal/strconv.uint64pow10", "math/bits.deBruijn32tab", "math/bits.deBruijn64tab", "strconv.ErrSyntax", "strconv.ErrRange"], apart := false, laid := [("math/bits.deBruijn32tab", laid_math_bits_deBruijn32tab), ("math/bits.deBruijn64tab", laid_math_bits_deBruijn64tab), ("internal/strconv.uint64pow10", laid_internal_strconv_uint64pow10), ("strconv.ErrRange", laid_strconv_ErrRange), ("strconv.ErrSyntax", laid_strconv_ErrSyntax)], narrowed := true }
def FnHexUptoSaid : Prop := fnHexUptoRow.holds Tryd.pinned (OpenSpec.upto fnHexSpec)

/-- 'laws.FnExactTextOf', WHERE WHAT IT READS IS OF BULK AT MOST 1048576: true; the input reads as it did. -/
def fnExactTextOfUptoRow : OpenClaim := { program := "ytddjiamollfplaadoor", sum := "56d4ae8114b005f99573904fe53223f4819c6a9aef89d6296b752a1ac5950b0a", func := "loop.example/g00072/laws.FnExactTextOf", spec := "fnExactTextOf", named := ["internal/strconv.uint64pow10", "math/bits.deBruijn32tab", "math/bits.deBruijn64tab"], apart := false, laid := [("math/bits.deBruijn32tab", laid_math_bits_deBruijn32tab), ("math/bits.deBruijn64tab", laid_math_bits_deBruijn64tab), ("internal/strconv.uint64pow10", laid_internal_strconv_uint64pow10)], narrowed := true }
def FnExactTextOfUptoSaid : Prop := fnExactTextOfUptoRow.holds Tryd.pinned (OpenSpec.upto fnExactTextOfSpec)

/-- 'laws.FnExactNumOf', WHERE WHAT IT READS IS OF BULK AT MOST 1048576: true; the input reads as it did. -/
def fnExactNumOfUptoRow : OpenClaim := { program := "ytddjiamollfplaadoor", sum := "56d4ae8114b005f99573904fe53223f4819c6a9aef89d6296b752a1ac5950b0a", func := "loop.example/g00072/laws.FnExactNumOf", spec := "fnExactNumOf", named := ["strconv.ErrSyntax", "strconv.ErrRange", "internal/strconv.uint64pow10", "math/bits.deBruijn32tab", "math/bits.deBruijn64tab"], apart := false, laid := [("math/bits.deBruijn32tab", laid_math_bits_deBruijn32tab), ("math/bits.deBruijn64tab", laid_math_bits_deBruijn64tab), ("internal/strconv.uint64pow10", laid_internal_strconv_uint64pow10), ("strconv.ErrRange", laid_strconv_ErrRange), ("strconv.ErrSyntax", laid_strconv_ErrSyntax)], narrowed := true }
def FnExactNumOfUptoSaid : Prop := fnExactNumOfUptoRow.holds Tryd.pinned (OpenSpec.upto fnExactNumOfSpec)

/-- 'laws.FnExactOpLine', WHERE WHAT IT READS IS OF BULK AT MOST 1048576: true; the input reads as it did. -/
def fnExactOpLineUptoRow : OpenClaim := { program := "ytddjiamollfplaadoor", sum := "56d4ae8114b005f99573904fe53223f4819c6a9aef89d6296b752a1ac5950b0a", func := "loop.example/g00072/laws.FnExactOpLine", spec := "fnExactOpLine", inPlace := ["internal/abi.NoEscape", "internal/bytealg.MakeNoZero"], unfollowed := true, recurses := true, named := ["loop.example/g00072/impl.opWords", "internal/strconv.uint64pow10", "math/bits.deBruijn32tab", "math/bits.deBruijn64tab"], apart := false, laid := [("math/bits.deBruijn32tab", laid_math_bits_deBruijn32tab), ("math/bits.deBruijn64tab", laid_math_bits_deBruijn64tab), ("internal/strconv.uint64pow10", laid_internal_strconv_uint64pow10), ("loop.example/g00072/impl.opWords", laid_loop_example_g00072_impl_opWords)], narrowed := true }
def FnExactOpLineUptoSaid : Prop := fnExactOpLineUptoRow.holds Tryd.pinned (OpenSpec.upto fnExactOpLineSpec)

/-- 'laws.FnExactParseOp', WHERE WHAT IT READS IS OF BULK AT MOST 1048576: true; the input reads as it did. -/
def fnExactParseOpUptoRow : OpenClaim := { program := "ytddjiamollfplaadoor", sum := "56d4ae8114b005f99573904fe53223f4819c6a9aef89d6296b752a1ac5950b0a", func := "loop.example/g00072/laws.FnExactParseOp", spec := "fnExactParseOp", inPlace := ["internal/bytealg.IndexByteString"], unfollowed := true, recurses := true, named := ["loop.example/g00072/impl.opWords", "strconv.ErrSyntax", "strconv.ErrRange", "internal/strconv.uint64pow10", "math/bits.deBruijn32tab", "math/bits.deBruijn64tab"], apart := false, laid := [("math/bits.deBruijn32tab", laid_math_bits_deBruijn32tab), ("math/bits.deBruijn64tab", laid_math_bits_deBruijn64tab), ("internal/strconv.uint64pow10", laid_internal_strconv_uint64pow10), ("strconv.ErrRange", laid_strconv_ErrRange), ("strconv.ErrSyntax", laid_strconv_ErrSyntax), ("loop.example/g00072/impl.opWords", laid_loop_example_g00072_impl_opWords)], narrowed := true }
def FnExactParseOpUptoSaid : Prop := fnExactParseOpUptoRow.holds Tryd.pinned (OpenSpec.upto fnExactParseOpSpec)

/-- 'laws.FnExactScriptText', WHERE WHAT IT READS IS OF BULK AT MOST 1048576: true; the input reads as it did. -/
def fnExactScriptTextUptoRow : OpenClaim := { program := "ytddjiamollfplaadoor", sum := "56d4ae8114b005f99573904fe53223f4819c6a9aef89d6296b752a1ac5950b0a", func := "loop.example/g00072/laws.FnExactScriptText", spec := "fnExactScriptText", inPlace := ["internal/abi.NoEscape", "internal/bytealg.MakeNoZero"], unfollowed := true, recurses := true, named := ["loop.example/g00072/impl.opWords", "internal/strconv.uint64pow10", "math/bits.deBruijn32tab", "math/bits.deBruijn64tab"], apart := false, laid := [("math/bits.deBruijn32tab", laid_math_bits_deBruijn32tab), ("math/bits.deBruijn64tab", laid_math_bits_deBruijn64tab), ("internal/strconv.uint64pow10", laid_internal_strconv_uint64pow10), ("loop.example/g00072/impl.opWords", laid_loop_example_g00072_impl_opWords)], narrowed := true }
def FnExactScriptTextUptoSaid : Prop := fnExactScriptTextUptoRow.holds Tryd.pinned (OpenSpec.upto fnExactScriptTextSpec)

/-- 'laws.FnExactParseScript', WHERE WHAT IT READS IS OF BULK AT MOST 1048576: true; the input reads as it did. -/
def fnExactParseScriptUptoRow : OpenClaim := { program := "ytddjiamollfplaadoor", sum := "56d4ae8114b005f99573904fe53223f4819c6a9aef89d6296b752a1ac5950b0a", func := "loop.example/g00072/laws.FnExactParseScript", spec := "fnExactParseScript", inPlace := ["internal/bytealg.IndexByteString"], unfollowed := true, recurses := true, named := ["loop.example/g00072/impl.opWords", "strconv.ErrSyntax", "strconv.ErrRange", "internal/strconv.uint64pow10", "math/bits.deBruijn32tab", "math/bits.deBruijn64tab"], apart := false, laid := [("math/bits.deBruijn32tab", laid_math_bits_deBruijn32tab), ("math/bits.deBruijn64tab", laid_math_bits_deBruijn64tab), ("internal/strconv.uint64pow10", laid_internal_strconv_uint64pow10), ("strconv.ErrRange", laid_strconv_ErrRange), ("strconv.ErrSyntax", laid_strconv_ErrSyntax), ("loop.example/g00072/impl.opWords", laid_loop_example_g00072_impl_opWords)], narrowed := true }
def FnExactParseScriptUptoSaid : Prop := fnExactParseScriptUptoRow.holds Tryd.pinned (OpenSpec.upto fnExactParseScriptSpec)

/-- 'laws.FnExactIvalText', WHERE WHAT IT READS IS OF BULK AT MOST 1048576: true; the input reads as it did. -/
def fnExactIvalTextUptoRow : OpenClaim := { program := "ytddjiamollfplaadoor", sum := "56d4ae8114b005f99573904fe53223f4819c6a9aef89d6296b752a1ac5950b0a", func := "loop.example/g00072/laws.FnExactIvalText", spec := "fnExactIvalText", named := ["internal/strconv.uint64pow10", "math/bits.deBruijn32tab", "math/bits.deBruijn64tab"], apart := false, laid := [("math/bits.deBruijn32tab", laid_math_bits_deBruijn32tab), ("math/bits.deBruijn64tab", laid_math_bits_deBruijn64tab), ("internal/strconv.uint64pow10", laid_internal_strconv_uint64pow10)], narrowed := true }
def FnExactIvalTextUptoSaid : Prop := fnExactIvalTextUptoRow.holds Tryd.pinned (OpenSpec.upto fnExactIvalTextSpec)

/-- 'laws.FnExactTellLine', WHERE WHAT IT READS IS OF BULK AT MOST 1048576: true; the input reads as it did. -/
def fnExactTellLineUptoRow : OpenClaim := { program := "ytddjiamollfplaadoor", sum := "56d4ae8114b005f99573904fe53223f4819c6a9aef89d6296b752a1ac5950b0a", func := "loop.example/g00072/laws.FnExactTellLine", spec := "fnExactTellLine", inPlace := ["internal/abi.NoEscape", "internal/bytealg.MakeNoZero"], named := ["loop.example/g00072/impl.opWords", "internal/strconv.uint64pow10", "math/bits.deBruijn32tab", "math/bits.deBruijn64tab"], apart := false, laid := [("math/bits.deBruijn32tab", laid_math_bits_deBruijn32tab), ("math/bits.deBruijn64tab", laid_math_bits_deBruijn64tab), ("internal/strconv.uint64pow10", laid_internal_strconv_uint64pow10), ("loop.example/g00072/impl.opWords", laid_loop_example_g00072_impl_opWords)], narrowed := true }
def FnExactTellLineUptoSaid : Prop := fnExactTellLineUptoRow.holds Tryd.pinned (OpenSpec.upto fnExactTellLineSpec)

end Rows
end Go.Proofs.YtddjiamollfplaaDoor
