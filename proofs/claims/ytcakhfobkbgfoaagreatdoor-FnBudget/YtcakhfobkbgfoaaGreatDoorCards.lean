/-
  DERIVED. GIVEN WITH THE SEED: THE CARDS: each row of YtcakhfobkbgfoaaGreatDoorRows.lean that lists a variable, with what it lists TIED to the program's text (the seventh form; the later family's looks); each row that meets fmt, with fmt's text TOLD by the authors' own Lean function (tested against real Go, not proved from fmt's source: count such statements apart). THE CARD IS WHAT COUNTS. Prove the row's statement (the work); the ties are given (YtcakhfobkbgfoaaGreatDoorTie.lean); close each card by the builder's one call (the guide's Derived/Test/ToyasCard.lean, 'card_holds'). Laid BY PROGRAM, IN A SANDBOX (cutbox-door.mjs). By AI agents, Wed Nov 11 2026. No macro, syntax, notation, axiom, sorry.
-/
import Derived.Test.YtcakhfobkbgfoaaGreatDoorRows
import GoSem.ClaimSeven
namespace Go.Proofs.YtcakhfobkbgfoaaGreatDoor
namespace Rows

/-- THE TIED CARD OF 'laws.FnBudget'. -/
def fnBudgetCard : Claim7 := { stood := { row := fnBudgetRow, standIns := [], harness := (true, "5112faf746c890cadb0f36163dfd08a20597900a218231446cff8371117576ad"), looks := true }, kinds := [], alts := [], laidByText := true, laidKinds := [.handle, .sentinel, .sentinel, .sentinel, .sentinel, .sentinel, .sentinel, .sentinel, .sentinel], laidTests := true, laidLooks := .later }
def FnBudgetCardSaid : Prop := Claim7.holds Tryz.pinned (.plain (OpenSpec.ofChange fnBudgetSpec)) fnBudgetCard

/-- THE SECOND FORM's CARD OF 'laws.FnBudget'. -/
def fnBudgetUptoCard : Claim7 := { stood := { row := fnBudgetUptoRow, standIns := [], harness := (true, "5112faf746c890cadb0f36163dfd08a20597900a218231446cff8371117576ad"), looks := true }, kinds := [], alts := [], laidByText := true, laidKinds := [.handle, .sentinel, .sentinel, .sentinel, .sentinel, .sentinel, .sentinel, .sentinel, .sentinel], laidTests := true, laidLooks := .later }
def FnBudgetUptoCardSaid : Prop := Claim7.holds Tryz.pinned (.plain (OpenSpec.upto fnBudgetSpec)) fnBudgetUptoCard
end Rows
end Go.Proofs.YtcakhfobkbgfoaaGreatDoor
