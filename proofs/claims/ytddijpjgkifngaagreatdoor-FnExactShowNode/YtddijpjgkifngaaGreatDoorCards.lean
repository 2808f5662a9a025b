/-
  DERIVED. GIVEN WITH THE SEED: THE CARDS: each row of YtddijpjgkifngaaGreatDoorRows.lean that lists a variable, with what it lists TIED to the program's text (the seventh form; the later family's looks); each row that meets fmt, with fmt's text TOLD by the authors' own Lean function (tested against real Go, not proved from fmt's source: count such statements apart). THE CARD IS WHAT COUNTS. Prove the row's statement (the work); the ties are given (YtddijpjgkifngaaGreatDoorTie.lean); close each card by the builder's one call (the guide's Derived/Test/ToyasCard.lean, 'card_holds'). Laid BY PROGRAM, IN A SANDBOX (cutbox-door.mjs). By AI agents, Wed Nov 11 2026. No macro, syntax, notation, axiom, sorry.
-/
import Derived.Test.YtddijpjgkifngaaGreatDoorRows
import GoSem.ClaimSeven
namespace Go.Proofs.YtddijpjgkifngaaGreatDoor
namespace Rows

/-- THE TIED CARD OF 'laws.FnExactShowNode'. -/
def fnExactShowNodeCard : Claim7 := { stood := { row := fnExactShowNodeRow, standIns := [], harness := (true, "0643548c3293fbd3aca4420694532aca9c2d9b96de30550bce68c2a96144ab01"), looks := false }, kinds := [], alts := [], laidByText := true, laidKinds := [.data, .data, .data], laidTests := true, laidLooks := .later }
def FnExactShowNodeCardSaid : Prop := Claim7.holds Tryz.pinned (.plain (OpenSpec.ofChange fnExactShowNodeSpec)) fnExactShowNodeCard

/-- THE TIED CARD OF 'laws.FnExactShowNet'. -/
def fnExactShowNetCard : Claim7 := { stood := { row := fnExactShowNetRow, standIns := [], harness := (true, "0643548c3293fbd3aca4420694532aca9c2d9b96de30550bce68c2a96144ab01"), looks := false }, kinds := [], alts := [], laidByText := true, laidKinds := [.data, .data, .data], laidTests := true, laidLooks := .later }
def FnExactShowNetCardSaid : Prop := Claim7.holds Tryz.pinned (.plain (OpenSpec.ofChange fnExactShowNetSpec)) fnExactShowNetCard

/-- THE TIED CARD OF 'laws.FnExactShowBus'. -/
def fnExactShowBusCard : Claim7 := { stood := { row := fnExactShowBusRow, standIns := [], harness := (true, "0643548c3293fbd3aca4420694532aca9c2d9b96de30550bce68c2a96144ab01"), looks := false }, kinds := [], alts := [], laidByText := true, laidKinds := [.data, .data, .data], laidTests := true, laidLooks := .later }
def FnExactShowBusCardSaid : Prop := Claim7.holds Tryz.pinned (.plain (OpenSpec.ofChange fnExactShowBusSpec)) fnExactShowBusCard

/-- THE SECOND FORM's CARD OF 'laws.FnExactShowNode'. -/
def fnExactShowNodeUptoCard : Claim7 := { stood := { row := fnExactShowNodeUptoRow, standIns := [], harness := (true, "0643548c3293fbd3aca4420694532aca9c2d9b96de30550bce68c2a96144ab01"), looks := false }, kinds := [], alts := [], laidByText := true, laidKinds := [.data, .data, .data], laidTests := true, laidLooks := .later }
def FnExactShowNodeUptoCardSaid : Prop := Claim7.holds Tryz.pinned (.plain (OpenSpec.upto fnExactShowNodeSpec)) fnExactShowNodeUptoCard

/-- THE SECOND FORM's CARD OF 'laws.FnExactShowNet'. -/
def fnExactShowNetUptoCard : Claim7 := { stood := { row := fnExactShowNetUptoRow, standIns := [], harness := (true, "0643548c3293fbd3aca4420694532aca9c2d9b96de30550bce68c2a96144ab01"), looks := false }, kinds := [], alts := [], laidByText := true, laidKinds := [.data, .data, .data], laidTests := true, laidLooks := .later }
def FnExactShowNetUptoCardSaid : Prop := Claim7.holds Tryz.pinned (.plain (OpenSpec.upto fnExactShowNetSpec)) fnExactShowNetUptoCard

/-- THE SECOND FORM's CARD OF 'laws.FnExactShowBus'. -/
def fnExactShowBusUptoCard : Claim7 := { stood := { row := fnExactShowBusUptoRow, standIns := [], harness := (true, "0643548c3293fbd3aca4420694532aca9c2d9b96de30550bce68c2a96144ab01"), looks := false }, kinds := [], alts := [], laidByText := true, laidKinds := [.data, .data, .data], laidTests := true, laidLooks := .later }
def FnExactShowBusUptoCardSaid : Prop := Claim7.holds Tryz.pinned (.plain (OpenSpec.upto fnExactShowBusSpec)) fnExactShowBusUptoCard
end Rows
end Go.Proofs.YtddijpjgkifngaaGreatDoor
