/-
  NARROWER THAN 'FOR EVERY INPUT', by the rows' own cells (each row's printed sentence says how): FnFracs: ifaces, laid · FnRates: ifaces, laid.
  DERIVED. THE GIVEN ROWS OF THIS SEAT. 2 by the template 'for every input the law returns true; each argument reads behind the call as it read before'; 0 by the template 'total and deterministic' (their statements: YtblappilppfkiaaDoorTotals.lean).
  GIVEN WITH THE SEED: the statements are not yours to turn. If you find one false, say at which input.
  Laid BY PROGRAM, IN A SANDBOX (cutbox-rows.mjs): the forced cells as the released guide's own fill.sh prints them over the translation 61147ddcddc8cc72… (all of the seat's roots in one cut). By AI agents, Wed Nov 11 2026. No macro, syntax, notation, axiom, sorry.
-/
import Derived.Test.YtblappilppfkiaaDoorChecked
import GoSem.Claim
import GoSem.ClaimJoined
import GoSem.ClaimMapViews
import Derived.JoinedTies
import Derived.KernelRfl
namespace Go.Proofs.YtblappilppfkiaaDoor
/- THE CELL 'sum', in the pinned program and in every row, IS THE sha256 OF THE DUMP (.gsa) THAT YtblappilppfkiaaDoorProg.lean LOADS. Nothing in Lean hashes anything: it is a label: what it is worth is what the hold of that sum in a sandbox is worth. -/
noncomputable def Tryd.pinned : Pinned := { name := "ytblappilppfkiaadoor", sum := "61147ddcddc8cc722589ae2c001228b9239808db684341994c98900e0fdef644", checked := Tryd.checked }
namespace Rows
def none {H : Type} : Left H := { results := [], args := [] }

/- WHAT THE LISTED PACKAGE-LEVEL VARIABLES READ AS WHEN THE CALL BEGINS. Each datum BY PROGRAM (the guide's laid-datum.mjs) off the statement by which the dump's own 'gosem.cut.vars' lays the variable. In a bare row this is a premise. The card (YtblappilppfkiaaDoorCards.lean) ties it to the program's text. -/
def laid_loop_example_g00072_impl_errNoFrac {H : Type} : DataW H := .iface "*errors.errorString" (.ptr (.agg [.lit (.string [116, 104, 105, 115, 32, 99, 97, 110, 32, 98, 101, 32, 110, 111, 32, 102, 114, 97, 99, 116, 105, 111, 110])]))
def laid_loop_example_g00072_impl_errApart {H : Type} : DataW H := .iface "*errors.errorString" (.ptr (.agg [.lit (.string [116, 104, 101, 115, 101, 32, 114, 97, 116, 101, 115, 32, 100, 111, 32, 110, 111, 116, 32, 109, 101, 101, 116])]))

/-- 'laws.FnFracs': WHATEVER THE INPUT: true; the input reads as it did. -/
def fnFracsSpec : ChangeSpec := { name := "fnFracs", vars := ["loop.example/g00072/impl.errNoFrac"], fn := fun _ => fun
  | [d, g1] => { results := [.lit (.bool true)], args := [d], vars := [g1] }
  | _ => none }
def fnFracsRow : OpenClaim := { program := "ytblappilppfkiaadoor", sum := "61147ddcddc8cc722589ae2c001228b9239808db684341994c98900e0fdef644", func := "loop.example/g00072/laws.FnFracs", spec := "fnFracs", inPlace := ["internal/reflectlite.TypeOf"], unfollowed := true, recurses := true, named := ["loop.example/g00072/impl.errNoFrac"], ifaces := true, apart := false, laid := [("loop.example/g00072/impl.errNoFrac", laid_loop_example_g00072_impl_errNoFrac)] }
def FnFracsSaid : Prop := fnFracsRow.holds Tryd.pinned (OpenSpec.ofChange fnFracsSpec)

/-- ITS FALSE NEIGHBOUR: 'it returns false'. Refute it at one input. -/
def fnFracsWrong : ChangeSpec := { name := "fnFracs", vars := ["loop.example/g00072/impl.errNoFrac"], fn := fun _ => fun
  | [d, g1] => { results := [.lit (.bool false)], args := [d], vars := [g1] }
  | _ => none }
def FnFracsWrongFalsely : Prop := fnFracsRow.holds Tryd.pinned (OpenSpec.ofChange fnFracsWrong)

/-- 'laws.FnRates': WHATEVER THE INPUT: true; the input reads as it did. -/
def fnRatesSpec : ChangeSpec := { name := "fnRates", vars := ["loop.example/g00072/impl.errNoFrac", "loop.example/g00072/impl.errApart"], fn := fun _ => fun
  | [d, g1, g2] => { results := [.lit (.bool true)], args := [d], vars := [g1, g2] }
  | _ => none }
def fnRatesRow : OpenClaim := { program := "ytblappilppfkiaadoor", sum := "61147ddcddc8cc722589ae2c001228b9239808db684341994c98900e0fdef644", func := "loop.example/g00072/laws.FnRates", spec := "fnRates", inPlace := ["internal/reflectlite.TypeOf"], unfollowed := true, recurses := true, named := ["loop.example/g00072/impl.errNoFrac", "loop.example/g00072/impl.errApart"], ifaces := true, apart := false, laid := [("loop.example/g00072/impl.errNoFrac", laid_loop_example_g00072_impl_errNoFrac), ("loop.example/g00072/impl.errApart", laid_loop_example_g00072_impl_errApart)] }
def FnRatesSaid : Prop := fnRatesRow.holds Tryd.pinned (OpenSpec.ofChange fnRatesSpec)

/-- ITS FALSE NEIGHBOUR: 'it returns false'. Refute it at one input. -/
def fnRatesWrong : ChangeSpec := { name := "fnRates", vars := ["loop.example/g00072/impl.errNoFrac", "loop.example/g00072/impl.errApart"], fn := fun _ => fun
  | [d, g1, g2] => { results := [.lit (.bool false)], args := [d], vars := [g1, g2] }
  | _ => none }
def FnRatesWrongFalsely : Prop := fnRatesRow.holds Tryd.pinned (OpenSpec.ofChange fnRatesWrong)

/- THE SECOND FORM. 'bulk': how many values and letters a reading holds, each counted each time it is reached (what is shared counts as often as it is met; a slice's spare places count too). A statement '..UptoSaid' is the law's where the arguments, and the package variables that the reading takes, are together of bulk at most 1048576: NARROWER than '..Said'. Prove '..Said' where nothing that the law and all that it calls make is longer than what came in: it says more and counts as full. Else prove '..UptoSaid'. A law counts once. -/
mutual
def uptoBulk {H : Type} : DataW H → Nat
  | .lit (.string bytes) => bytes.length + 1
  | .lit _ => 1
  | .nil => 1
  | .ptr d => uptoBulk d + 1
  | .slice elems spare => uptoBulkAll elems + uptoBulkAll spare + 1
  | .agg parts => uptoBulkAll parts + 1
  | .iface _ d => uptoBulk d + 1
  | .map entries => uptoBulkEntries entries + 1
  | .held _ => 1
def uptoBulkAll {H : Type} : List (DataW H) → Nat
  | [] => 0
  | d :: r => uptoBulk d + uptoBulkAll r
def uptoBulkEntries {H : Type} : List (Lit × DataW H) → Nat
  | [] => 0
  | x :: r => uptoBulkEntry x + uptoBulkEntries r
def uptoBulkEntry {H : Type} : Lit × DataW H → Nat
  | (.string bytes, d) => bytes.length + uptoBulk d + 1
  | (_, d) => uptoBulk d + 1
 end
def uptoSmall : (H : Type) → List (DataW H) → Bool := fun _ ds => decide (uptoBulkAll ds ≤ 1048576)
def OpenSpec.upto (s : _root_.Go.ChangeSpec) : _root_.Go.OpenSpec := { _root_.Go.OpenSpec.ofChange s with cond := some uptoSmall }

/-- 'laws.FnFracs', WHERE WHAT IT READS IS OF BULK AT MOST 1048576: true; the input reads as it did. -/
def fnFracsUptoRow : OpenClaim := { program := "ytblappilppfkiaadoor", sum := "61147ddcddc8cc722589ae2c001228b9239808db684341994c98900e0fdef644", func := "loop.example/g00072/laws.FnFracs", spec := "fnFracs", inPlace := ["internal/reflectlite.TypeOf"], unfollowed := true, recurses := true, named := ["loop.example/g00072/impl.errNoFrac"], ifaces := true, apart := false, laid := [("loop.example/g00072/impl.errNoFrac", laid_loop_example_g00072_impl_errNoFrac)], narrowed := true }
def FnFracsUptoSaid : Prop := fnFracsUptoRow.holds Tryd.pinned (OpenSpec.upto fnFracsSpec)

/-- 'laws.FnRates', WHERE WHAT IT READS IS OF BULK AT MOST 1048576: true; the input reads as it did. -/
def fnRatesUptoRow : OpenClaim := { program := "ytblappilppfkiaadoor", sum := "61147ddcddc8cc722589ae2c001228b9239808db684341994c98900e0fdef644", func := "loop.example/g00072/laws.FnRates", spec := "fnRates", inPlace := ["internal/reflectlite.TypeOf"], unfollowed := true, recurses := true, named := ["loop.example/g00072/impl.errNoFrac", "loop.example/g00072/impl.errApart"], ifaces := true, apart := false, laid := [("loop.example/g00072/impl.errNoFrac", laid_loop_example_g00072_impl_errNoFrac), ("loop.example/g00072/impl.errApart", laid_loop_example_g00072_impl_errApart)], narrowed := true }
def FnRatesUptoSaid : Prop := fnRatesUptoRow.holds Tryd.pinned (OpenSpec.upto fnRatesSpec)

end Rows
end Go.Proofs.YtblappilppfkiaaDoor
