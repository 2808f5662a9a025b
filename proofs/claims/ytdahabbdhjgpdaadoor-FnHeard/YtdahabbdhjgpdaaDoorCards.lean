/-
  DERIVED. GIVEN WITH THE SEED: THE CARDS: each row of YtdahabbdhjgpdaaDoorRows.lean that lists a variable, with what it lists TIED to the program's text (the seventh form; the later family's looks); each row that meets fmt, with fmt's text TOLD by the authors' own Lean function (tested against real Go, not proved from fmt's source: count such statements apart). THE CARD IS WHAT COUNTS. Prove the row's statement (the work); the ties are given (YtdahabbdhjgpdaaDoorTie.lean); close each card by the builder's one call (the guide's Derived/Test/ToyasCard.lean, 'card_holds'). Laid BY PROGRAM, IN A SANDBOX (cutbox-door.mjs). By AI agents, Wed Nov 11 2026. No macro, syntax, notation, axiom, sorry.
-/
import Derived.Test.YtdahabbdhjgpdaaDoorRows
import GoSem.ClaimSeven
namespace Go.Proofs.YtdahabbdhjgpdaaDoor
namespace Rows

/-- THE TIED CARD OF 'laws.FnHeard'. -/
def fnHeardCard : Claim7 := { stood := { row := fnHeardRow, standIns := [], harness := (true, "487bf52be3b84f170c99e12beeece3177a3534a7edd4bbc4305bf72b299c534f"), looks := false }, kinds := [], alts := [], laidByText := true, laidKinds := [.data, .data], laidTests := true, laidLooks := .later }
def FnHeardCardSaid : Prop := Claim7.holds Tryd.pinned (.plain (OpenSpec.ofChange fnHeardSpec)) fnHeardCard

/-- THE TIED CARD OF 'laws.FnExactHeardNow'. -/
def fnExactHeardNowCard : Claim7 := { stood := { row := fnExactHeardNowRow, standIns := [], harness := (true, "487bf52be3b84f170c99e12beeece3177a3534a7edd4bbc4305bf72b299c534f"), looks := false }, kinds := [], alts := [], laidByText := true, laidKinds := [.data, .data], laidTests := true, laidLooks := .later }
def FnExactHeardNowCardSaid : Prop := Claim7.holds Tryd.pinned (.plain (OpenSpec.ofChange fnExactHeardNowSpec)) fnExactHeardNowCard

/-- THE TIED CARD OF 'laws.FnExactHeardLost'. -/
def fnExactHeardLostCard : Claim7 := { stood := { row := fnExactHeardLostRow, standIns := [], harness := (true, "487bf52be3b84f170c99e12beeece3177a3534a7edd4bbc4305bf72b299c534f"), looks := false }, kinds := [], alts := [], laidByText := true, laidKinds := [.data, .data], laidTests := true, laidLooks := .later }
def FnExactHeardLostCardSaid : Prop := Claim7.holds Tryd.pinned (.plain (OpenSpec.ofChange fnExactHeardLostSpec)) fnExactHeardLostCard

/-- THE TIED CARD OF 'laws.FnExactHeardUnlike'. -/
def fnExactHeardUnlikeCard : Claim7 := { stood := { row := fnExactHeardUnlikeRow, standIns := [], harness := (true, "487bf52be3b84f170c99e12beeece3177a3534a7edd4bbc4305bf72b299c534f"), looks := false }, kinds := [], alts := [], laidByText := true, laidKinds := [.data, .data], laidTests := true, laidLooks := .later }
def FnExactHeardUnlikeCardSaid : Prop := Claim7.holds Tryd.pinned (.plain (OpenSpec.ofChange fnExactHeardUnlikeSpec)) fnExactHeardUnlikeCard

/-- THE TIED CARD OF 'laws.FnExactHeardOwners'. -/
def fnExactHeardOwnersCard : Claim7 := { stood := { row := fnExactHeardOwnersRow, standIns := [], harness := (true, "487bf52be3b84f170c99e12beeece3177a3534a7edd4bbc4305bf72b299c534f"), looks := false }, kinds := [], alts := [], laidByText := true, laidKinds := [.data, .data], laidTests := true, laidLooks := .later }
def FnExactHeardOwnersCardSaid : Prop := Claim7.holds Tryd.pinned (.plain (OpenSpec.ofChange fnExactHeardOwnersSpec)) fnExactHeardOwnersCard

/-- THE SECOND FORM's CARD OF 'laws.FnHeard'. -/
def fnHeardUptoCard : Claim7 := { stood := { row := fnHeardUptoRow, standIns := [], harness := (true, "487bf52be3b84f170c99e12beeece3177a3534a7edd4bbc4305bf72b299c534f"), looks := false }, kinds := [], alts := [], laidByText := true, laidKinds := [.data, .data], laidTests := true, laidLooks := .later }
def FnHeardUptoCardSaid : Prop := Claim7.holds Tryd.pinned (.plain (OpenSpec.upto fnHeardSpec)) fnHeardUptoCard

/-- THE SECOND FORM's CARD OF 'laws.FnExactHeardNow'. -/
def fnExactHeardNowUptoCard : Claim7 := { stood := { row := fnExactHeardNowUptoRow, standIns := [], harness := (true, "487bf52be3b84f170c99e12beeece3177a3534a7edd4bbc4305bf72b299c534f"), looks := false }, kinds := [], alts := [], laidByText := true, laidKinds := [.data, .data], laidTests := true, laidLooks := .later }
def FnExactHeardNowUptoCardSaid : Prop := Claim7.holds Tryd.pinned (.plain (OpenSpec.upto fnExactHeardNowSpec)) fnExactHeardNowUptoCard

/-- THE SECOND FORM's CARD OF 'laws.FnExactHeardLost'. -/
def fnExactHeardLostUptoCard : Claim7 := { stood := { row := fnExactHeardLostUptoRow, standIns := [], harness := (true, "487bf52be3b84f170c99e12beeece3177a3534a7edd4bbc4305bf72b299c534f"), looks := false }, kinds := [], alts := [], laidByText := true, laidKinds := [.data, .data], laidTests := true, laidLooks := .later }
def FnExactHeardLostUptoCardSaid : Prop := Claim7.holds Tryd.pinned (.plain (OpenSpec.upto fnExactHeardLostSpec)) fnExactHeardLostUptoCard

/-- THE SECOND FORM's CARD OF 'laws.FnExactHeardUnlike'. -/
def fnExactHeardUnlikeUptoCard : Claim7 := { stood := { row := fnExactHeardUnlikeUptoRow, standIns := [], harness := (true, "487bf52be3b84f170c99e12beeece3177a3534a7edd4bbc4305bf72b299c534f"), looks := false }, kinds := [], alts := [], laidByText := true, laidKinds := [.data, .data], laidTests := true, laidLooks := .later }
def FnExactHeardUnlikeUptoCardSaid : Prop := Claim7.holds Tryd.pinned (.plain (OpenSpec.upto fnExactHeardUnlikeSpec)) fnExactHeardUnlikeUptoCard

/-- THE SECOND FORM's CARD OF 'laws.FnExactHeardOwners'. -/
def fnExactHeardOwnersUptoCard : Claim7 := { stood := { row := fnExactHeardOwnersUptoRow, standIns := [], harness := (true, "487bf52be3b84f170c99e12beeece3177a3534a7edd4bbc4305bf72b299c534f"), looks := false }, kinds := [], alts := [], laidByText := true, laidKinds := [.data, .data], laidTests := true, laidLooks := .later }
def FnExactHeardOwnersUptoCardSaid : Prop := Claim7.holds Tryd.pinned (.plain (OpenSpec.upto fnExactHeardOwnersSpec)) fnExactHeardOwnersUptoCard
end Rows
end Go.Proofs.YtdahabbdhjgpdaaDoor
