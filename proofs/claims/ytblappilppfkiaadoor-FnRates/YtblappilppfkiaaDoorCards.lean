/-
  DERIVED. GIVEN WITH THE SEED: THE CARDS: each row of YtblappilppfkiaaDoorRows.lean that lists a variable, with what it lists TIED to the program's text (the seventh form; the later family's looks); each row that meets fmt, with fmt's text TOLD by the authors' own Lean function (tested against real Go, not proved from fmt's source: count such statements apart). THE CARD IS WHAT COUNTS. Prove the row's statement (the work); the ties are given (YtblappilppfkiaaDoorTie.lean); close each card by the builder's one call (the guide's Derived/Test/ToyasCard.lean, 'card_holds'). Laid BY PROGRAM, IN A SANDBOX (cutbox-door.mjs). By AI agents, Wed Nov 11 2026. No macro, syntax, notation, axiom, sorry.
-/
import Derived.Test.YtblappilppfkiaaDoorRows
import GoSem.ClaimSeven
namespace Go.Proofs.YtblappilppfkiaaDoor
namespace Rows

/-- THE TIED CARD OF 'laws.FnFracs'. -/
def fnFracsCard : Claim7 := { stood := { row := fnFracsRow, standIns := [], harness := (true, "96e3b196559859d14d5b3791e3218b925481a7d22aa1bf5e6bc23ea53b9cffa9"), looks := true }, kinds := [], alts := [], laidByText := true, laidKinds := [.sentinel], laidTests := true, laidLooks := .later }
def FnFracsCardSaid : Prop := Claim7.holds Tryd.pinned (.plain (OpenSpec.ofChange fnFracsSpec)) fnFracsCard

/-- THE TIED CARD OF 'laws.FnRates'. -/
def fnRatesCard : Claim7 := { stood := { row := fnRatesRow, standIns := [], harness := (true, "96e3b196559859d14d5b3791e3218b925481a7d22aa1bf5e6bc23ea53b9cffa9"), looks := true }, kinds := [], alts := [], laidByText := true, laidKinds := [.sentinel, .sentinel], laidTests := true, laidLooks := .later }
def FnRatesCardSaid : Prop := Claim7.holds Tryd.pinned (.plain (OpenSpec.ofChange fnRatesSpec)) fnRatesCard

/-- THE SECOND FORM's CARD OF 'laws.FnFracs'. -/
def fnFracsUptoCard : Claim7 := { stood := { row := fnFracsUptoRow, standIns := [], harness := (true, "96e3b196559859d14d5b3791e3218b925481a7d22aa1bf5e6bc23ea53b9cffa9"), looks := true }, kinds := [], alts := [], laidByText := true, laidKinds := [.sentinel], laidTests := true, laidLooks := .later }
def FnFracsUptoCardSaid : Prop := Claim7.holds Tryd.pinned (.plain (OpenSpec.upto fnFracsSpec)) fnFracsUptoCard

/-- THE SECOND FORM's CARD OF 'laws.FnRates'. -/
def fnRatesUptoCard : Claim7 := { stood := { row := fnRatesUptoRow, standIns := [], harness := (true, "96e3b196559859d14d5b3791e3218b925481a7d22aa1bf5e6bc23ea53b9cffa9"), looks := true }, kinds := [], alts := [], laidByText := true, laidKinds := [.sentinel, .sentinel], laidTests := true, laidLooks := .later }
def FnRatesUptoCardSaid : Prop := Claim7.holds Tryd.pinned (.plain (OpenSpec.upto fnRatesSpec)) fnRatesUptoCard
end Rows
end Go.Proofs.YtblappilppfkiaaDoor
