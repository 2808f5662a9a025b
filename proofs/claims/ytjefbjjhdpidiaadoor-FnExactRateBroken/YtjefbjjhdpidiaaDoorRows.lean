/-
  NARROWER THAN 'FOR EVERY INPUT', by the rows' own cells (each row's printed sentence says how): FnExactFracOk: ifaces, laid · FnExactFracOf: ifaces, laid · FnExactFracCmp: ifaces, laid · FnExactRateOf: ifaces, laid · FnExactRateOfDrift: ifaces, laid · FnExactRatesMeet: ifaces, laid · FnExactRateCarry: ifaces, laid · FnExactRateBroken: ifaces, laid.
  DERIVED. THE GIVEN ROWS OF THIS SEAT. 8 by the template 'for every input the law returns true; each argument reads behind the call as it read before'; 0 by the template 'total and deterministic' (their statements: YtjefbjjhdpidiaaDoorTotals.lean).
  GIVEN WITH THE SEED: the statements are not yours to turn. If you find one false, say at which input.
  Laid BY PROGRAM, IN A SANDBOX (cutbox-rows.mjs): the forced cells as the released guide's own fill.sh prints them over the translation 6919f0ea89b326be… (all of the seat's roots in one cut). By AI agents, Wed Nov 11 2026. No macro, syntax, notation, axiom, sorry.
-/
import Derived.Test.YtjefbjjhdpidiaaDoorChecked
import GoSem.Claim
import GoSem.ClaimJoined
import GoSem.ClaimMapViews
import Derived.JoinedTies
import Derived.KernelRfl
namespace Go.Proofs.YtjefbjjhdpidiaaDoor
/- THE CELL 'sum', in the pinned program and in every row, IS THE sha256 OF THE DUMP (.gsa) THAT YtjefbjjhdpidiaaDoorProg.lean LOADS. Nothing in Lean hashes anything: it is a label: what it is worth is what the hold of that sum in a sandbox is worth. -/
noncomputable def Tryd.pinned : Pinned := { name := "ytjefbjjhdpidiaadoor", sum := "6919f0ea89b326be9b9801aa61ece7c7c3473a223eacd33493525683adee5725", checked := Tryd.checked }
namespace Rows
def none {H : Type} : Left H := { results := [], args := [] }

/- WHAT THE LISTED PACKAGE-LEVEL VARIABLES READ AS WHEN THE CALL BEGINS. Each datum BY PROGRAM (the guide's laid-datum.mjs) off the statement by which the dump's own 'gosem.cut.vars' lays the variable. In a bare row this is a premise. The card (YtjefbjjhdpidiaaDoorCards.lean) ties it to the program's text. -/
def laid_loop_example_g00072_impl_errNoFrac {H : Type} : DataW H := .iface "*errors.errorString" (.ptr (.agg [.lit (.string [116, 104, 105, 115, 32, 99, 97, 110, 32, 98, 101, 32, 110, 111, 32, 102, 114, 97, 99, 116, 105, 111, 110])]))
def laid_loop_example_g00072_impl_errApart {H : Type} : DataW H := .iface "*errors.errorString" (.ptr (.agg [.lit (.string [116, 104, 101, 115, 101, 32, 114, 97, 116, 101, 115, 32, 100, 111, 32, 110, 111, 116, 32, 109, 101, 101, 116])]))

/-- 'laws.FnExactFracOk': WHATEVER THE INPUT: true; the input reads as it did. -/
def fnExactFracOkSpec : ChangeSpec := { name := "fnExactFracOk", vars := ["loop.example/g00072/impl.errNoFrac"], fn := fun _ => fun
  | [d, g1] => { results := [.lit (.bool true)], args := [d], vars := [g1] }
  | _ => none }
def fnExactFracOkRow : OpenClaim := { program := "ytjefbjjhdpidiaadoor", sum := "6919f0ea89b326be9b9801aa61ece7c7c3473a223eacd33493525683adee5725", func := "loop.example/g00072/laws.FnExactFracOk", spec := "fnExactFracOk", inPlace := ["internal/reflectlite.TypeOf"], unfollowed := true, recurses := true, named := ["loop.example/g00072/impl.errNoFrac"], ifaces := true, apart := false, laid := [("loop.example/g00072/impl.errNoFrac", laid_loop_example_g00072_impl_errNoFrac)] }
def FnExactFracOkSaid : Prop := fnExactFracOkRow.holds Tryd.pinned (OpenSpec.ofChange fnExactFracOkSpec)

/-- ITS FALSE NEIGHBOUR: 'it returns false'. Refute it at one input. -/
def fnExactFracOkWrong : ChangeSpec := { name := "fnExactFracOk", vars := ["loop.example/g00072/impl.errNoFrac"], fn := fun _ => fun
  | [d, g1] => { results := [.lit (.bool false)], args := [d], vars := [g1] }
  | _ => none }
def FnExactFracOkWrongFalsely : Prop := fnExactFracOkRow.holds Tryd.pinned (OpenSpec.ofChange fnExactFracOkWrong)

/-- 'laws.FnExactFracOf': WHATEVER THE INPUT: true; the input reads as it did. -/
def fnExactFracOfSpec : ChangeSpec := { name := "fnExactFracOf", vars := ["loop.example/g00072/impl.errNoFrac"], fn := fun _ => fun
  | [d1, d2, g1] => { results := [.lit (.bool true)], args := [d1, d2], vars := [g1] }
  | _ => none }
def fnExactFracOfRow : OpenClaim := { program := "ytjefbjjhdpidiaadoor", sum := "6919f0ea89b326be9b9801aa61ece7c7c3473a223eacd33493525683adee5725", func := "loop.example/g00072/laws.FnExactFracOf", spec := "fnExactFracOf", inPlace := ["internal/reflectlite.TypeOf"], unfollowed := true, recurses := true, named := ["loop.example/g00072/impl.errNoFrac"], ifaces := true, apart := false, laid := [("loop.example/g00072/impl.errNoFrac", laid_loop_example_g00072_impl_errNoFrac)] }
def FnExactFracOfSaid : Prop := fnExactFracOfRow.holds Tryd.pinned (OpenSpec.ofChange fnExactFracOfSpec)

/-- ITS FALSE NEIGHBOUR: 'it returns false'. Refute it at one input. -/
def fnExactFracOfWrong : ChangeSpec := { name := "fnExactFracOf", vars := ["loop.example/g00072/impl.errNoFrac"], fn := fun _ => fun
  | [d1, d2, g1] => { results := [.lit (.bool false)], args := [d1, d2], vars := [g1] }
  | _ => none }
def FnExactFracOfWrongFalsely : Prop := fnExactFracOfRow.holds Tryd.pinned (OpenSpec.ofChange fnExactFracOfWrong)

/-- 'laws.FnExactFracCmp': WHATEVER THE INPUT: true; the input reads as it did. -/
def fnExactFracCmpSpec : ChangeSpec := { name := "fnExactFracCmp", vars := ["loop.example/g00072/impl.errNoFrac"], fn := fun _ => fun
  | [d1, d2, g1] => { results := [.lit (.bool true)], args := [d1, d2], vars := [g1] }
  | _ => none }
def fnExactFracCmpRow : OpenClaim := { program := "ytjefbjjhdpidiaadoor", sum := "6919f0ea89b326be9b9801aa61ece7c7c3473a223eacd33493525683adee5725", func := "loop.example/g00072/laws.FnExactFracCmp", spec := "fnExactFracCmp", inPlace := ["internal/reflectlite.TypeOf"], unfollowed := true, recurses := true, named := ["loop.example/g00072/impl.errNoFrac"], ifaces := true, apart := false, laid := [("loop.example/g00072/impl.errNoFrac", laid_loop_example_g00072_impl_errNoFrac)] }
def FnExactFracCmpSaid : Prop := fnExactFracCmpRow.holds Tryd.pinned (OpenSpec.ofChange fnExactFracCmpSpec)

/-- ITS FALSE NEIGHBOUR: 'it returns false'. Refute it at one input. -/
def fnExactFracCmpWrong : ChangeSpec := { name := "fnExactFracCmp", vars := ["loop.example/g00072/impl.errNoFrac"], fn := fun _ => fun
  | [d1, d2, g1] => { results := [.lit (.bool false)], args := [d1, d2], vars := [g1] }
  | _ => none }
def FnExactFracCmpWrongFalsely : Prop := fnExactFracCmpRow.holds Tryd.pinned (OpenSpec.ofChange fnExactFracCmpWrong)

/-- 'laws.FnExactRateOf': WHATEVER THE INPUT: true; the input reads as it did. -/
def fnExactRateOfSpec : ChangeSpec := { name := "fnExactRateOf", vars := ["loop.example/g00072/impl.errNoFrac"], fn := fun _ => fun
  | [d1, d2, d3, d4, g1] => { results := [.lit (.bool true)], args := [d1, d2, d3, d4], vars := [g1] }
  | _ => none }
def fnExactRateOfRow : OpenClaim := { program := "ytjefbjjhdpidiaadoor", sum := "6919f0ea89b326be9b9801aa61ece7c7c3473a223eacd33493525683adee5725", func := "loop.example/g00072/laws.FnExactRateOf", spec := "fnExactRateOf", named := ["loop.example/g00072/impl.errNoFrac"], ifaces := true, apart := false, laid := [("loop.example/g00072/impl.errNoFrac", laid_loop_example_g00072_impl_errNoFrac)] }
def FnExactRateOfSaid : Prop := fnExactRateOfRow.holds Tryd.pinned (OpenSpec.ofChange fnExactRateOfSpec)

/-- ITS FALSE NEIGHBOUR: 'it returns false'. Refute it at one input. -/
def fnExactRateOfWrong : ChangeSpec := { name := "fnExactRateOf", vars := ["loop.example/g00072/impl.errNoFrac"], fn := fun _ => fun
  | [d1, d2, d3, d4, g1] => { results := [.lit (.bool false)], args := [d1, d2, d3, d4], vars := [g1] }
  | _ => none }
def FnExactRateOfWrongFalsely : Prop := fnExactRateOfRow.holds Tryd.pinned (OpenSpec.ofChange fnExactRateOfWrong)

/-- 'laws.FnExactRateOfDrift': WHATEVER THE INPUT: true; the input reads as it did. -/
def fnExactRateOfDriftSpec : ChangeSpec := { name := "fnExactRateOfDrift", vars := ["loop.example/g00072/impl.errNoFrac"], fn := fun _ => fun
  | [d, g1] => { results := [.lit (.bool true)], args := [d], vars := [g1] }
  | _ => none }
def fnExactRateOfDriftRow : OpenClaim := { program := "ytjefbjjhdpidiaadoor", sum := "6919f0ea89b326be9b9801aa61ece7c7c3473a223eacd33493525683adee5725", func := "loop.example/g00072/laws.FnExactRateOfDrift", spec := "fnExactRateOfDrift", named := ["loop.example/g00072/impl.errNoFrac"], ifaces := true, apart := false, laid := [("loop.example/g00072/impl.errNoFrac", laid_loop_example_g00072_impl_errNoFrac)] }
def FnExactRateOfDriftSaid : Prop := fnExactRateOfDriftRow.holds Tryd.pinned (OpenSpec.ofChange fnExactRateOfDriftSpec)

/-- ITS FALSE NEIGHBOUR: 'it returns false'. Refute it at one input. -/
def fnExactRateOfDriftWrong : ChangeSpec := { name := "fnExactRateOfDrift", vars := ["loop.example/g00072/impl.errNoFrac"], fn := fun _ => fun
  | [d, g1] => { results := [.lit (.bool false)], args := [d], vars := [g1] }
  | _ => none }
def FnExactRateOfDriftWrongFalsely : Prop := fnExactRateOfDriftRow.holds Tryd.pinned (OpenSpec.ofChange fnExactRateOfDriftWrong)

/-- 'laws.FnExactRatesMeet': WHATEVER THE INPUT: true; the input reads as it did. -/
def fnExactRatesMeetSpec : ChangeSpec := { name := "fnExactRatesMeet", vars := ["loop.example/g00072/impl.errNoFrac", "loop.example/g00072/impl.errApart"], fn := fun _ => fun
  | [d1, d2, d3, d4, g1, g2] => { results := [.lit (.bool true)], args := [d1, d2, d3, d4], vars := [g1, g2] }
  | _ => none }
def fnExactRatesMeetRow : OpenClaim := { program := "ytjefbjjhdpidiaadoor", sum := "6919f0ea89b326be9b9801aa61ece7c7c3473a223eacd33493525683adee5725", func := "loop.example/g00072/laws.FnExactRatesMeet", spec := "fnExactRatesMeet", inPlace := ["internal/reflectlite.TypeOf"], unfollowed := true, recurses := true, named := ["loop.example/g00072/impl.errNoFrac", "loop.example/g00072/impl.errApart"], ifaces := true, apart := false, laid := [("loop.example/g00072/impl.errNoFrac", laid_loop_example_g00072_impl_errNoFrac), ("loop.example/g00072/impl.errApart", laid_loop_example_g00072_impl_errApart)] }
def FnExactRatesMeetSaid : Prop := fnExactRatesMeetRow.holds Tryd.pinned (OpenSpec.ofChange fnExactRatesMeetSpec)

/-- ITS FALSE NEIGHBOUR: 'it returns false'. Refute it at one input. -/
def fnExactRatesMeetWrong : ChangeSpec := { name := "fnExactRatesMeet", vars := ["loop.example/g00072/impl.errNoFrac", "loop.example/g00072/impl.errApart"], fn := fun _ => fun
  | [d1, d2, d3, d4, g1, g2] => { results := [.lit (.bool false)], args := [d1, d2, d3, d4], vars := [g1, g2] }
  | _ => none }
def FnExactRatesMeetWrongFalsely : Prop := fnExactRatesMeetRow.holds Tryd.pinned (OpenSpec.ofChange fnExactRatesMeetWrong)

/-- 'laws.FnExactRateCarry': WHATEVER THE INPUT: true; the input reads as it did. -/
def fnExactRateCarrySpec : ChangeSpec := { name := "fnExactRateCarry", vars := ["loop.example/g00072/impl.errNoFrac"], fn := fun _ => fun
  | [d1, d2, d3, g1] => { results := [.lit (.bool true)], args := [d1, d2, d3], vars := [g1] }
  | _ => none }
def fnExactRateCarryRow : OpenClaim := { program := "ytjefbjjhdpidiaadoor", sum := "6919f0ea89b326be9b9801aa61ece7c7c3473a223eacd33493525683adee5725", func := "loop.example/g00072/laws.FnExactRateCarry", spec := "fnExactRateCarry", inPlace := ["internal/reflectlite.TypeOf"], unfollowed := true, recurses := true, named := ["loop.example/g00072/impl.errNoFrac"], ifaces := true, apart := false, laid := [("loop.example/g00072/impl.errNoFrac", laid_loop_example_g00072_impl_errNoFrac)] }
def FnExactRateCarrySaid : Prop := fnExactRateCarryRow.holds Tryd.pinned (OpenSpec.ofChange fnExactRateCarrySpec)

/-- ITS FALSE NEIGHBOUR: 'it returns false'. Refute it at one input. -/
def fnExactRateCarryWrong : ChangeSpec := { name := "fnExactRateCarry", vars := ["loop.example/g00072/impl.errNoFrac"], fn := fun _ => fun
  | [d1, d2, d3, g1] => { results := [.lit (.bool false)], args := [d1, d2, d3], vars := [g1] }
  | _ => none }
def FnExactRateCarryWrongFalsely : Prop := fnExactRateCarryRow.holds Tryd.pinned (OpenSpec.ofChange fnExactRateCarryWrong)

/-- 'laws.FnExactRateBroken': WHATEVER THE INPUT: true; the input reads as it did. -/
def fnExactRateBrokenSpec : ChangeSpec := { name := "fnExactRateBroken", vars := ["loop.example/g00072/impl.errApart", "loop.example/g00072/impl.errNoFrac"], fn := fun _ => fun
  | [d1, d2, d3, d4, d5, g1, g2] => { results := [.lit (.bool true)], args := [d1, d2, d3, d4, d5], vars := [g1, g2] }
  | _ => none }
def fnExactRateBrokenRow : OpenClaim := { program := "ytjefbjjhdpidiaadoor", sum := "6919f0ea89b326be9b9801aa61ece7c7c3473a223eacd33493525683adee5725", func := "loop.example/g00072/laws.FnExactRateBroken", spec := "fnExactRateBroken", inPlace := ["internal/reflectlite.TypeOf"], unfollowed := true, recurses := true, named := ["loop.example/g00072/impl.errApart", "loop.example/g00072/impl.errNoFrac"], ifaces := true, apart := false, laid := [("loop.example/g00072/impl.errNoFrac", laid_loop_example_g00072_impl_errNoFrac), ("loop.example/g00072/impl.errApart", laid_loop_example_g00072_impl_errApart)] }
def FnExactRateBrokenSaid : Prop := fnExactRateBrokenRow.holds Tryd.pinned (OpenSpec.ofChange fnExactRateBrokenSpec)

/-- ITS FALSE NEIGHBOUR: 'it returns false'. Refute it at one input. -/
def fnExactRateBrokenWrong : ChangeSpec := { name := "fnExactRateBroken", vars := ["loop.example/g00072/impl.errApart", "loop.example/g00072/impl.errNoFrac"], fn := fun _ => fun
  | [d1, d2, d3, d4, d5, g1, g2] => { results := [.lit (.bool false)], args := [d1, d2, d3, d4, d5], vars := [g1, g2] }
  | _ => none }
def FnExactRateBrokenWrongFalsely : Prop := fnExactRateBrokenRow.holds Tryd.pinned (OpenSpec.ofChange fnExactRateBrokenWrong)

/- THE SECOND FORM. 'bulk': how many values and letters a reading holds, each counted each time it is reached (what is shared counts as often as it is met; a slice's spare places count too). A statement '..UptoSaid' is the law's where the arguments, and the package variables that the reading takes, are together of bulk at most 1048576: NARROWER than '..Said'. Prove '..Said' where nothing that the law and all that it calls make is longer than what came in: it says more and counts as full. Else prove '..UptoSaid'. A law counts once. -/
mutual
def uptoBulk {H : Type} : DataW H → Nat
  | .lit (.string bytes) => bytes.length + 1
  | .lit _ => 1
  | .nil => 1
  | .ptr d => uptoBulk d + 1
  | .slice elems spare => uptoBulkAll elems + uptoBulkAll spare + 1
  | .agg parts => uptoBulkAll parts + 1
  | .iface _ d => uptoBulk d + 1
  | .map entries => uptoBulkEntries entries + 1
  | .held _ => 1
def uptoBulkAll {H : Type} : List (DataW H) → Nat
  | [] => 0
  | d :: r => uptoBulk d + uptoBulkAll r
def uptoBulkEntries {H : Type} : List (Lit × DataW H) → Nat
  | [] => 0
  | x :: r => uptoBulkEntry x + uptoBulkEntries r
def uptoBulkEntry {H : Type} : Lit × DataW H → Nat
  | (.string bytes, d) => bytes.length + uptoBulk d + 1
  | (_, d) => uptoBulk d + 1
 end
def uptoSmall : (H : Type) → List (DataW H) → Bool := fun _ ds => decide (uptoBulkAll ds ≤ 1048576)
def OpenSpec.upto (s : _root_.Go.ChangeSpec) : _root_.Go.OpenSpec := { _root_.Go.OpenSpec.ofChange s with cond := some uptoSmall }

/-- 'laws.FnExactFracOk', WHERE WHAT IT READS IS OF BULK AT MOST 1048576: true; the input reads as it did. -/
def fnExactFracOkUptoRow : OpenClaim := { program := "ytjefbjjhdpidiaadoor", sum := "6919f0ea89b326be9b9801aa61ece7c7c3473a223eacd33493525683adee5725", func := "loop.example/g00072/laws.FnExactFracOk", spec := "fnExactFracOk", inPlace := ["internal/reflectlite.TypeOf"], unfollowed := true, recurses := true, named := ["loop.example/g00072/impl.errNoFrac"], ifaces := true, apart := false, laid := [("loop.example/g00072/impl.errNoFrac", laid_loop_example_g00072_impl_errNoFrac)], narrowed := true }
def FnExactFracOkUptoSaid : Prop := fnExactFracOkUptoRow.holds Tryd.pinned (OpenSpec.upto fnExactFracOkSpec)

/-- 'laws.FnExactFracOf', WHERE WHAT IT READS IS OF BULK AT MOST 1048576: true; the input reads as it did. -/
def fnExactFracOfUptoRow : OpenClaim := { program := "ytjefbjjhdpidiaadoor", sum := "6919f0ea89b326be9b9801aa61ece7c7c3473a223eacd33493525683adee5725", func := "loop.example/g00072/laws.FnExactFracOf", spec := "fnExactFracOf", inPlace := ["internal/reflectlite.TypeOf"], unfollowed := true, recurses := true, named := ["loop.example/g00072/impl.errNoFrac"], ifaces := true, apart := false, laid := [("loop.example/g00072/impl.errNoFrac", laid_loop_example_g00072_impl_errNoFrac)], narrowed := true }
def FnExactFracOfUptoSaid : Prop := fnExactFracOfUptoRow.holds Tryd.pinned (OpenSpec.upto fnExactFracOfSpec)

/-- 'laws.FnExactFracCmp', WHERE WHAT IT READS IS OF BULK AT MOST 1048576: true; the input reads as it did. -/
def fnExactFracCmpUptoRow : OpenClaim := { program := "ytjefbjjhdpidiaadoor", sum := "6919f0ea89b326be9b9801aa61ece7c7c3473a223eacd33493525683adee5725", func := "loop.example/g00072/laws.FnExactFracCmp", spec := "fnExactFracCmp", inPlace := ["internal/reflectlite.TypeOf"], unfollowed := true, recurses := true, named := ["loop.example/g00072/impl.errNoFrac"], ifaces := true, apart := false, laid := [("loop.example/g00072/impl.errNoFrac", laid_loop_example_g00072_impl_errNoFrac)], narrowed := true }
def FnExactFracCmpUptoSaid : Prop := fnExactFracCmpUptoRow.holds Tryd.pinned (OpenSpec.upto fnExactFracCmpSpec)

/-- 'laws.FnExactRateOf', WHERE WHAT IT READS IS OF BULK AT MOST 1048576: true; the input reads as it did. -/
def fnExactRateOfUptoRow : OpenClaim := { program := "ytjefbjjhdpidiaadoor", sum := "6919f0ea89b326be9b9801aa61ece7c7c3473a223eacd33493525683adee5725", func := "loop.example/g00072/laws.FnExactRateOf", spec := "fnExactRateOf", named := ["loop.example/g00072/impl.errNoFrac"], ifaces := true, apart := false, laid := [("loop.example/g00072/impl.errNoFrac", laid_loop_example_g00072_impl_errNoFrac)], narrowed := true }
def FnExactRateOfUptoSaid : Prop := fnExactRateOfUptoRow.holds Tryd.pinned (OpenSpec.upto fnExactRateOfSpec)

/-- 'laws.FnExactRateOfDrift', WHERE WHAT IT READS IS OF BULK AT MOST 1048576: true; the input reads as it did. -/
def fnExactRateOfDriftUptoRow : OpenClaim := { program := "ytjefbjjhdpidiaadoor", sum := "6919f0ea89b326be9b9801aa61ece7c7c3473a223eacd33493525683adee5725", func := "loop.example/g00072/laws.FnExactRateOfDrift", spec := "fnExactRateOfDrift", named := ["loop.example/g00072/impl.errNoFrac"], ifaces := true, apart := false, laid := [("loop.example/g00072/impl.errNoFrac", laid_loop_example_g00072_impl_errNoFrac)], narrowed := true }
def FnExactRateOfDriftUptoSaid : Prop := fnExactRateOfDriftUptoRow.holds Tryd.pinned (OpenSpec.upto fnExactRateOfDriftSpec)

/-- 'laws.FnExactRatesMeet', WHERE WHAT IT READS IS OF BULK AT MOST 1048576: true; the input reads as it did. -/
def fnExactRatesMeetUptoRow : OpenClaim := { program := "ytjefbjjhdpidiaadoor", sum := "6919f0ea89b326be9b9801aa61ece7c7c3473a223eacd33493525683adee5725", func := "loop.example/g00072/laws.FnExactRatesMeet", spec := "fnExactRatesMeet", inPlace := ["internal/reflectlite.TypeOf"], unfollowed := true, recurses := true, named := ["loop.example/g00072/impl.errNoFrac", "loop.example/g00072/impl.errApart"], ifaces := true, apart := false, laid := [("loop.example/g00072/impl.errNoFrac", laid_loop_example_g00072_impl_errNoFrac), ("loop.example/g00072/impl.errApart", laid_loop_example_g00072_impl_errApart)], narrowed := true }
def FnExactRatesMeetUptoSaid : Prop := fnExactRatesMeetUptoRow.holds Tryd.pinned (OpenSpec.upto fnExactRatesMeetSpec)

/-- 'laws.FnExactRateCarry', WHERE WHAT IT READS IS OF BULK AT MOST 1048576: true; the input reads as it did. -/
def fnExactRateCarryUptoRow : OpenClaim := { program := "ytjefbjjhdpidiaadoor", sum := "6919f0ea89b326be9b9801aa61ece7c7c3473a223eacd33493525683adee5725", func := "loop.example/g00072/laws.FnExactRateCarry", spec := "fnExactRateCarry", inPlace := ["internal/reflectlite.TypeOf"], unfollowed := true, recurses := true, named := ["loop.example/g00072/impl.errNoFrac"], ifaces := true, apart := false, laid := [("loop.example/g00072/impl.errNoFrac", laid_loop_example_g00072_impl_errNoFrac)], narrowed := true }
def FnExactRateCarryUptoSaid : Prop := fnExactRateCarryUptoRow.holds Tryd.pinned (OpenSpec.upto fnExactRateCarrySpec)

/-- 'laws.FnExactRateBroken', WHERE WHAT IT READS IS OF BULK AT MOST 1048576: true; the input reads as it did. -/
def fnExactRateBrokenUptoRow : OpenClaim := { program := "ytjefbjjhdpidiaadoor", sum := "6919f0ea89b326be9b9801aa61ece7c7c3473a223eacd33493525683adee5725", func := "loop.example/g00072/laws.FnExactRateBroken", spec := "fnExactRateBroken", inPlace := ["internal/reflectlite.TypeOf"], unfollowed := true, recurses := true, named := ["loop.example/g00072/impl.errApart", "loop.example/g00072/impl.errNoFrac"], ifaces := true, apart := false, laid := [("loop.example/g00072/impl.errNoFrac", laid_loop_example_g00072_impl_errNoFrac), ("loop.example/g00072/impl.errApart", laid_loop_example_g00072_impl_errApart)], narrowed := true }
def FnExactRateBrokenUptoSaid : Prop := fnExactRateBrokenUptoRow.holds Tryd.pinned (OpenSpec.upto fnExactRateBrokenSpec)

end Rows
end Go.Proofs.YtjefbjjhdpidiaaDoor
