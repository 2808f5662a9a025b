/-
  DERIVED. GIVEN WITH THE SEED: THE CARDS: each row of YtcakhfobkbgfoaaDoorRows.lean that lists a variable, with what it lists TIED to the program's text (the seventh form; the later family's looks); each row that meets fmt, with fmt's text TOLD by the authors' own Lean function (tested against real Go, not proved from fmt's source: count such statements apart). THE CARD IS WHAT COUNTS. Prove the row's statement (the work); the ties are given (YtcakhfobkbgfoaaDoorTie.lean); close each card by the builder's one call (the guide's Derived/Test/ToyasCard.lean, 'card_holds'). Laid BY PROGRAM, IN A SANDBOX (cutbox-door.mjs). By AI agents, Wed Nov 11 2026. No macro, syntax, notation, axiom, sorry.
-/
import Derived.Test.YtcakhfobkbgfoaaDoorRows
import GoSem.ClaimSeven
namespace Go.Proofs.YtcakhfobkbgfoaaDoor
namespace Rows

/-- THE TIED CARD OF 'laws.FnGateTruth'. -/
def fnGateTruthCard : Claim7 := { stood := { row := fnGateTruthRow, standIns := [], harness := (true, "b0a55de6ac6e984304288f1f2dbf04c67706a4b9989a0dc34f8069dc31d9cdcc"), looks := true }, kinds := [], alts := [], laidByText := true, laidKinds := [.handle, .sentinel, .sentinel, .sentinel, .sentinel, .sentinel, .sentinel, .sentinel, .sentinel], laidTests := true, laidLooks := .later }
def FnGateTruthCardSaid : Prop := Claim7.holds Tryd.pinned (.plain (OpenSpec.ofChange fnGateTruthSpec)) fnGateTruthCard

/-- THE TIED CARD OF 'laws.FnGateExact'. -/
def fnGateExactCard : Claim7 := { stood := { row := fnGateExactRow, standIns := [], harness := (true, "b0a55de6ac6e984304288f1f2dbf04c67706a4b9989a0dc34f8069dc31d9cdcc"), looks := true }, kinds := [], alts := [], laidByText := true, laidKinds := [.handle, .sentinel, .sentinel, .sentinel, .sentinel, .sentinel, .sentinel, .sentinel, .sentinel], laidTests := true, laidLooks := .later }
def FnGateExactCardSaid : Prop := Claim7.holds Tryd.pinned (.plain (OpenSpec.ofChange fnGateExactSpec)) fnGateExactCard

/-- THE TIED CARD OF 'laws.FnExactGateSpan'. -/
def fnExactGateSpanCard : Claim7 := { stood := { row := fnExactGateSpanRow, standIns := [], harness := (true, "b0a55de6ac6e984304288f1f2dbf04c67706a4b9989a0dc34f8069dc31d9cdcc"), looks := true }, kinds := [], alts := [], laidByText := true, laidKinds := [.sentinel, .sentinel, .sentinel, .sentinel], laidTests := true, laidLooks := .later }
def FnExactGateSpanCardSaid : Prop := Claim7.holds Tryd.pinned (.plain (OpenSpec.ofChange fnExactGateSpanSpec)) fnExactGateSpanCard

/-- THE TIED CARD OF 'laws.FnExactGateAsk'. -/
def fnExactGateAskCard : Claim7 := { stood := { row := fnExactGateAskRow, standIns := [], harness := (true, "b0a55de6ac6e984304288f1f2dbf04c67706a4b9989a0dc34f8069dc31d9cdcc"), looks := true }, kinds := [], alts := [], laidByText := true, laidKinds := [.handle, .sentinel, .sentinel, .sentinel, .sentinel, .sentinel, .sentinel, .sentinel, .sentinel], laidTests := true, laidLooks := .later }
def FnExactGateAskCardSaid : Prop := Claim7.holds Tryd.pinned (.plain (OpenSpec.ofChange fnExactGateAskSpec)) fnExactGateAskCard

/-- THE TIED CARD OF 'laws.FnExactBusyStill'. -/
def fnExactBusyStillCard : Claim7 := { stood := { row := fnExactBusyStillRow, standIns := [], harness := (true, "b0a55de6ac6e984304288f1f2dbf04c67706a4b9989a0dc34f8069dc31d9cdcc"), looks := true }, kinds := [], alts := [], laidByText := true, laidKinds := [.sentinel, .sentinel, .sentinel], laidTests := true, laidLooks := .later }
def FnExactBusyStillCardSaid : Prop := Claim7.holds Tryd.pinned (.plain (OpenSpec.ofChange fnExactBusyStillSpec)) fnExactBusyStillCard

/-- THE TIED CARD OF 'laws.FnExactGateWait'. -/
def fnExactGateWaitCard : Claim7 := { stood := { row := fnExactGateWaitRow, standIns := [], harness := (true, "b0a55de6ac6e984304288f1f2dbf04c67706a4b9989a0dc34f8069dc31d9cdcc"), looks := true }, kinds := [], alts := [], laidByText := true, laidKinds := [.sentinel, .sentinel, .sentinel, .sentinel, .sentinel, .sentinel, .sentinel, .sentinel], laidTests := true, laidLooks := .later }
def FnExactGateWaitCardSaid : Prop := Claim7.holds Tryd.pinned (.plain (OpenSpec.ofChange fnExactGateWaitSpec)) fnExactGateWaitCard

/-- THE TIED CARD OF 'laws.FnExactGateBudget'. -/
def fnExactGateBudgetCard : Claim7 := { stood := { row := fnExactGateBudgetRow, standIns := [], harness := (true, "b0a55de6ac6e984304288f1f2dbf04c67706a4b9989a0dc34f8069dc31d9cdcc"), looks := true }, kinds := [], alts := [], laidByText := true, laidKinds := [.sentinel, .sentinel, .sentinel], laidTests := true, laidLooks := .later }
def FnExactGateBudgetCardSaid : Prop := Claim7.holds Tryd.pinned (.plain (OpenSpec.ofChange fnExactGateBudgetSpec)) fnExactGateBudgetCard

/-- THE SECOND FORM's CARD OF 'laws.FnGateTruth'. -/
def fnGateTruthUptoCard : Claim7 := { stood := { row := fnGateTruthUptoRow, standIns := [], harness := (true, "b0a55de6ac6e984304288f1f2dbf04c67706a4b9989a0dc34f8069dc31d9cdcc"), looks := true }, kinds := [], alts := [], laidByText := true, laidKinds := [.handle, .sentinel, .sentinel, .sentinel, .sentinel, .sentinel, .sentinel, .sentinel, .sentinel], laidTests := true, laidLooks := .later }
def FnGateTruthUptoCardSaid : Prop := Claim7.holds Tryd.pinned (.plain (OpenSpec.upto fnGateTruthSpec)) fnGateTruthUptoCard

/-- THE SECOND FORM's CARD OF 'laws.FnGateExact'. -/
def fnGateExactUptoCard : Claim7 := { stood := { row := fnGateExactUptoRow, standIns := [], harness := (true, "b0a55de6ac6e984304288f1f2dbf04c67706a4b9989a0dc34f8069dc31d9cdcc"), looks := true }, kinds := [], alts := [], laidByText := true, laidKinds := [.handle, .sentinel, .sentinel, .sentinel, .sentinel, .sentinel, .sentinel, .sentinel, .sentinel], laidTests := true, laidLooks := .later }
def FnGateExactUptoCardSaid : Prop := Claim7.holds Tryd.pinned (.plain (OpenSpec.upto fnGateExactSpec)) fnGateExactUptoCard

/-- THE SECOND FORM's CARD OF 'laws.FnExactGateSpan'. -/
def fnExactGateSpanUptoCard : Claim7 := { stood := { row := fnExactGateSpanUptoRow, standIns := [], harness := (true, "b0a55de6ac6e984304288f1f2dbf04c67706a4b9989a0dc34f8069dc31d9cdcc"), looks := true }, kinds := [], alts := [], laidByText := true, laidKinds := [.sentinel, .sentinel, .sentinel, .sentinel], laidTests := true, laidLooks := .later }
def FnExactGateSpanUptoCardSaid : Prop := Claim7.holds Tryd.pinned (.plain (OpenSpec.upto fnExactGateSpanSpec)) fnExactGateSpanUptoCard

/-- THE SECOND FORM's CARD OF 'laws.FnExactGateAsk'. -/
def fnExactGateAskUptoCard : Claim7 := { stood := { row := fnExactGateAskUptoRow, standIns := [], harness := (true, "b0a55de6ac6e984304288f1f2dbf04c67706a4b9989a0dc34f8069dc31d9cdcc"), looks := true }, kinds := [], alts := [], laidByText := true, laidKinds := [.handle, .sentinel, .sentinel, .sentinel, .sentinel, .sentinel, .sentinel, .sentinel, .sentinel], laidTests := true, laidLooks := .later }
def FnExactGateAskUptoCardSaid : Prop := Claim7.holds Tryd.pinned (.plain (OpenSpec.upto fnExactGateAskSpec)) fnExactGateAskUptoCard

/-- THE SECOND FORM's CARD OF 'laws.FnExactBusyStill'. -/
def fnExactBusyStillUptoCard : Claim7 := { stood := { row := fnExactBusyStillUptoRow, standIns := [], harness := (true, "b0a55de6ac6e984304288f1f2dbf04c67706a4b9989a0dc34f8069dc31d9cdcc"), looks := true }, kinds := [], alts := [], laidByText := true, laidKinds := [.sentinel, .sentinel, .sentinel], laidTests := true, laidLooks := .later }
def FnExactBusyStillUptoCardSaid : Prop := Claim7.holds Tryd.pinned (.plain (OpenSpec.upto fnExactBusyStillSpec)) fnExactBusyStillUptoCard

/-- THE SECOND FORM's CARD OF 'laws.FnExactGateWait'. -/
def fnExactGateWaitUptoCard : Claim7 := { stood := { row := fnExactGateWaitUptoRow, standIns := [], harness := (true, "b0a55de6ac6e984304288f1f2dbf04c67706a4b9989a0dc34f8069dc31d9cdcc"), looks := true }, kinds := [], alts := [], laidByText := true, laidKinds := [.sentinel, .sentinel, .sentinel, .sentinel, .sentinel, .sentinel, .sentinel, .sentinel], laidTests := true, laidLooks := .later }
def FnExactGateWaitUptoCardSaid : Prop := Claim7.holds Tryd.pinned (.plain (OpenSpec.upto fnExactGateWaitSpec)) fnExactGateWaitUptoCard

/-- THE SECOND FORM's CARD OF 'laws.FnExactGateBudget'. -/
def fnExactGateBudgetUptoCard : Claim7 := { stood := { row := fnExactGateBudgetUptoRow, standIns := [], harness := (true, "b0a55de6ac6e984304288f1f2dbf04c67706a4b9989a0dc34f8069dc31d9cdcc"), looks := true }, kinds := [], alts := [], laidByText := true, laidKinds := [.sentinel, .sentinel, .sentinel], laidTests := true, laidLooks := .later }
def FnExactGateBudgetUptoCardSaid : Prop := Claim7.holds Tryd.pinned (.plain (OpenSpec.upto fnExactGateBudgetSpec)) fnExactGateBudgetUptoCard
end Rows
end Go.Proofs.YtcakhfobkbgfoaaDoor
