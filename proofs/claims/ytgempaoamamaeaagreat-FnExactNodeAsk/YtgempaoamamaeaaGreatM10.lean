/- What the laws keep; rows of numbers, of intervals and of peers, told by lists. -/
import Derived.Test.YtgempaoamamaeaaGreatRows
import Derived.WalkKit
import Derived.WalkSpells
import Derived.WalkLawsBesides
import Derived.Deep.QuietTactic
import Derived.BigQuiet
import Derived.Deep.OwnRows
import Derived.Deep.RegionHeld
import Derived.Laws.BytesArg
import Derived.Deep.RegionHeld3
import Derived.Deep.DeepCutAuto
namespace Go.Proofs.YtgempaoamamaeaaGreat
open Go.RowKit
set_option linter.unusedVariables false
theorem own_at {w : World} {base : Nat} {e : TypeId} {s n c : Nat} {a : Option Addr} {xs : List Value} (h : w.ownsRow base e s (.slice a n c) n xs) {b off : Nat} (ha : a = some ⟨b, off, none⟩) : (Value.slice a n c).ownBlock = some b := by
  rcases h.2 with ⟨he, _⟩ | ⟨g, cap, cur, he, _⟩
  · simp at he; rw [he.1] at ha; cases ha
  · simp at he; rw [he.1] at ha; simp at ha; rw [he.1, ← ha.1]; rfl
end Go.Proofs.YtgempaoamamaeaaGreat
