/-
  DERIVED. GIVEN WITH THE SEED: THE CARDS: each row of YtjefbjjhdpidiaaDoorRows.lean that lists a variable, with what it lists TIED to the program's text (the seventh form; the later family's looks); each row that meets fmt, with fmt's text TOLD by the authors' own Lean function (tested against real Go, not proved from fmt's source: count such statements apart). THE CARD IS WHAT COUNTS. Prove the row's statement (the work); the ties are given (YtjefbjjhdpidiaaDoorTie.lean); close each card by the builder's one call (the guide's Derived/Test/ToyasCard.lean, 'card_holds'). Laid BY PROGRAM, IN A SANDBOX (cutbox-door.mjs). By AI agents, Wed Nov 11 2026. No macro, syntax, notation, axiom, sorry.
-/
import Derived.Test.YtjefbjjhdpidiaaDoorRows
import GoSem.ClaimSeven
namespace Go.Proofs.YtjefbjjhdpidiaaDoor
namespace Rows

/-- THE TIED CARD OF 'laws.FnExactFracOk'. -/
def fnExactFracOkCard : Claim7 := { stood := { row := fnExactFracOkRow, standIns := [], harness := (true, "e86761053f1b266c5fb43eabc569b6affedb32bba8bf568278c07e79122a9826"), looks := true }, kinds := [], alts := [], laidByText := true, laidKinds := [.sentinel], laidTests := true, laidLooks := .later }
def FnExactFracOkCardSaid : Prop := Claim7.holds Tryd.pinned (.plain (OpenSpec.ofChange fnExactFracOkSpec)) fnExactFracOkCard

/-- THE TIED CARD OF 'laws.FnExactFracOf'. -/
def fnExactFracOfCard : Claim7 := { stood := { row := fnExactFracOfRow, standIns := [], harness := (true, "e86761053f1b266c5fb43eabc569b6affedb32bba8bf568278c07e79122a9826"), looks := true }, kinds := [], alts := [], laidByText := true, laidKinds := [.sentinel], laidTests := true, laidLooks := .later }
def FnExactFracOfCardSaid : Prop := Claim7.holds Tryd.pinned (.plain (OpenSpec.ofChange fnExactFracOfSpec)) fnExactFracOfCard

/-- THE TIED CARD OF 'laws.FnExactFracCmp'. -/
def fnExactFracCmpCard : Claim7 := { stood := { row := fnExactFracCmpRow, standIns := [], harness := (true, "e86761053f1b266c5fb43eabc569b6affedb32bba8bf568278c07e79122a9826"), looks := true }, kinds := [], alts := [], laidByText := true, laidKinds := [.sentinel], laidTests := true, laidLooks := .later }
def FnExactFracCmpCardSaid : Prop := Claim7.holds Tryd.pinned (.plain (OpenSpec.ofChange fnExactFracCmpSpec)) fnExactFracCmpCard

/-- THE TIED CARD OF 'laws.FnExactRateOf'. -/
def fnExactRateOfCard : Claim7 := { stood := { row := fnExactRateOfRow, standIns := [], harness := (true, "e86761053f1b266c5fb43eabc569b6affedb32bba8bf568278c07e79122a9826"), looks := true }, kinds := [], alts := [], laidByText := true, laidKinds := [.sentinel], laidTests := true, laidLooks := .later }
def FnExactRateOfCardSaid : Prop := Claim7.holds Tryd.pinned (.plain (OpenSpec.ofChange fnExactRateOfSpec)) fnExactRateOfCard

/-- THE TIED CARD OF 'laws.FnExactRateOfDrift'. -/
def fnExactRateOfDriftCard : Claim7 := { stood := { row := fnExactRateOfDriftRow, standIns := [], harness := (true, "e86761053f1b266c5fb43eabc569b6affedb32bba8bf568278c07e79122a9826"), looks := true }, kinds := [], alts := [], laidByText := true, laidKinds := [.sentinel], laidTests := true, laidLooks := .later }
def FnExactRateOfDriftCardSaid : Prop := Claim7.holds Tryd.pinned (.plain (OpenSpec.ofChange fnExactRateOfDriftSpec)) fnExactRateOfDriftCard

/-- THE TIED CARD OF 'laws.FnExactRatesMeet'. -/
def fnExactRatesMeetCard : Claim7 := { stood := { row := fnExactRatesMeetRow, standIns := [], harness := (true, "e86761053f1b266c5fb43eabc569b6affedb32bba8bf568278c07e79122a9826"), looks := true }, kinds := [], alts := [], laidByText := true, laidKinds := [.sentinel, .sentinel], laidTests := true, laidLooks := .later }
def FnExactRatesMeetCardSaid : Prop := Claim7.holds Tryd.pinned (.plain (OpenSpec.ofChange fnExactRatesMeetSpec)) fnExactRatesMeetCard

/-- THE TIED CARD OF 'laws.FnExactRateCarry'. -/
def fnExactRateCarryCard : Claim7 := { stood := { row := fnExactRateCarryRow, standIns := [], harness := (true, "e86761053f1b266c5fb43eabc569b6affedb32bba8bf568278c07e79122a9826"), looks := true }, kinds := [], alts := [], laidByText := true, laidKinds := [.sentinel], laidTests := true, laidLooks := .later }
def FnExactRateCarryCardSaid : Prop := Claim7.holds Tryd.pinned (.plain (OpenSpec.ofChange fnExactRateCarrySpec)) fnExactRateCarryCard

/-- THE TIED CARD OF 'laws.FnExactRateBroken'. -/
def fnExactRateBrokenCard : Claim7 := { stood := { row := fnExactRateBrokenRow, standIns := [], harness := (true, "e86761053f1b266c5fb43eabc569b6affedb32bba8bf568278c07e79122a9826"), looks := true }, kinds := [], alts := [], laidByText := true, laidKinds := [.sentinel, .sentinel], laidTests := true, laidLooks := .later }
def FnExactRateBrokenCardSaid : Prop := Claim7.holds Tryd.pinned (.plain (OpenSpec.ofChange fnExactRateBrokenSpec)) fnExactRateBrokenCard

/-- THE SECOND FORM's CARD OF 'laws.FnExactFracOk'. -/
def fnExactFracOkUptoCard : Claim7 := { stood := { row := fnExactFracOkUptoRow, standIns := [], harness := (true, "e86761053f1b266c5fb43eabc569b6affedb32bba8bf568278c07e79122a9826"), looks := true }, kinds := [], alts := [], laidByText := true, laidKinds := [.sentinel], laidTests := true, laidLooks := .later }
def FnExactFracOkUptoCardSaid : Prop := Claim7.holds Tryd.pinned (.plain (OpenSpec.upto fnExactFracOkSpec)) fnExactFracOkUptoCard

/-- THE SECOND FORM's CARD OF 'laws.FnExactFracOf'. -/
def fnExactFracOfUptoCard : Claim7 := { stood := { row := fnExactFracOfUptoRow, standIns := [], harness := (true, "e86761053f1b266c5fb43eabc569b6affedb32bba8bf568278c07e79122a9826"), looks := true }, kinds := [], alts := [], laidByText := true, laidKinds := [.sentinel], laidTests := true, laidLooks := .later }
def FnExactFracOfUptoCardSaid : Prop := Claim7.holds Tryd.pinned (.plain (OpenSpec.upto fnExactFracOfSpec)) fnExactFracOfUptoCard

/-- THE SECOND FORM's CARD OF 'laws.FnExactFracCmp'. -/
def fnExactFracCmpUptoCard : Claim7 := { stood := { row := fnExactFracCmpUptoRow, standIns := [], harness := (true, "e86761053f1b266c5fb43eabc569b6affedb32bba8bf568278c07e79122a9826"), looks := true }, kinds := [], alts := [], laidByText := true, laidKinds := [.sentinel], laidTests := true, laidLooks := .later }
def FnExactFracCmpUptoCardSaid : Prop := Claim7.holds Tryd.pinned (.plain (OpenSpec.upto fnExactFracCmpSpec)) fnExactFracCmpUptoCard

/-- THE SECOND FORM's CARD OF 'laws.FnExactRateOf'. -/
def fnExactRateOfUptoCard : Claim7 := { stood := { row := fnExactRateOfUptoRow, standIns := [], harness := (true, "e86761053f1b266c5fb43eabc569b6affedb32bba8bf568278c07e79122a9826"), looks := true }, kinds := [], alts := [], laidByText := true, laidKinds := [.sentinel], laidTests := true, laidLooks := .later }
def FnExactRateOfUptoCardSaid : Prop := Claim7.holds Tryd.pinned (.plain (OpenSpec.upto fnExactRateOfSpec)) fnExactRateOfUptoCard

/-- THE SECOND FORM's CARD OF 'laws.FnExactRateOfDrift'. -/
def fnExactRateOfDriftUptoCard : Claim7 := { stood := { row := fnExactRateOfDriftUptoRow, standIns := [], harness := (true, "e86761053f1b266c5fb43eabc569b6affedb32bba8bf568278c07e79122a9826"), looks := true }, kinds := [], alts := [], laidByText := true, laidKinds := [.sentinel], laidTests := true, laidLooks := .later }
def FnExactRateOfDriftUptoCardSaid : Prop := Claim7.holds Tryd.pinned (.plain (OpenSpec.upto fnExactRateOfDriftSpec)) fnExactRateOfDriftUptoCard

/-- THE SECOND FORM's CARD OF 'laws.FnExactRatesMeet'. -/
def fnExactRatesMeetUptoCard : Claim7 := { stood := { row := fnExactRatesMeetUptoRow, standIns := [], harness := (true, "e86761053f1b266c5fb43eabc569b6affedb32bba8bf568278c07e79122a9826"), looks := true }, kinds := [], alts := [], laidByText := true, laidKinds := [.sentinel, .sentinel], laidTests := true, laidLooks := .later }
def FnExactRatesMeetUptoCardSaid : Prop := Claim7.holds Tryd.pinned (.plain (OpenSpec.upto fnExactRatesMeetSpec)) fnExactRatesMeetUptoCard

/-- THE SECOND FORM's CARD OF 'laws.FnExactRateCarry'. -/
def fnExactRateCarryUptoCard : Claim7 := { stood := { row := fnExactRateCarryUptoRow, standIns := [], harness := (true, "e86761053f1b266c5fb43eabc569b6affedb32bba8bf568278c07e79122a9826"), looks := true }, kinds := [], alts := [], laidByText := true, laidKinds := [.sentinel], laidTests := true, laidLooks := .later }
def FnExactRateCarryUptoCardSaid : Prop := Claim7.holds Tryd.pinned (.plain (OpenSpec.upto fnExactRateCarrySpec)) fnExactRateCarryUptoCard

/-- THE SECOND FORM's CARD OF 'laws.FnExactRateBroken'. -/
def fnExactRateBrokenUptoCard : Claim7 := { stood := { row := fnExactRateBrokenUptoRow, standIns := [], harness := (true, "e86761053f1b266c5fb43eabc569b6affedb32bba8bf568278c07e79122a9826"), looks := true }, kinds := [], alts := [], laidByText := true, laidKinds := [.sentinel, .sentinel], laidTests := true, laidLooks := .later }
def FnExactRateBrokenUptoCardSaid : Prop := Claim7.holds Tryd.pinned (.plain (OpenSpec.upto fnExactRateBrokenSpec)) fnExactRateBrokenUptoCard
end Rows
end Go.Proofs.YtjefbjjhdpidiaaDoor
