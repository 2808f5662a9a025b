/- A cell elsewhere stays. -/
import Derived.Test.YtdllkfllnljaaaaI105
import Derived.WalkKit
import Derived.WalkSpells
import Derived.WalkLawsBesides
import Derived.Deep.RegionHeld
namespace Go.Proofs.Ytdllkfllnljaaaa
open Go.RowKit
set_option linter.unusedVariables false
theorem keepC {w : World} {g i j k : Nat} {x u : Value} (h : w.cell? ⟨g, i, none⟩ = some x) (hj : g ≠ j) : (w.setCell ⟨j, k, none⟩ u).cell? ⟨g, i, none⟩ = some x := by
  rw [World.cell?_of_block (w := w) (Below.heap_setCell _ _ _ _ hj)]
  exact h
end Go.Proofs.Ytdllkfllnljaaaa
