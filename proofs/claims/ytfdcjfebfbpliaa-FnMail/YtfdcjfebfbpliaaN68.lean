/- The walk of the exact law of NetTake. -/
import Derived.Test.YtfdcjfebfbpliaaN67
import Derived.Deep.RegionHeld3
import Derived.Deep.DeepCutAuto
import Derived.WalkKit
import Derived.WalkSpells
import Derived.WalkLawsBesides
import Derived.Deep.RegionHeld
namespace Go.Proofs.Ytfdcjfebfbpliaa
open Go.RowKit
set_option linter.unusedVariables false
def SrcL (w : World) (a : Option Addr) (m : Nat) (F : Nat → Value) (L : Nat) : Prop := m = 0 ∨ ∃ b off, a = some ⟨b, off, none⟩ ∧ b < L ∧ Cs w b off m F
theorem SrcL.of {w : World} {a : Option Addr} {m : Nat} {F : Nat → Value} (h : SrcC w a m F) : SrcL w a m F w.heap.size := by
  rcases h with h | ⟨b, off, h1, h2⟩
  · exact .inl h
  · exact .inr ⟨b, off, h1, h2.1, h2⟩
theorem SrcL.src {w : World} {a : Option Addr} {m L : Nat} {F : Nat → Value} (h : SrcL w a m F L) : SrcC w a m F := by
  rcases h with h | ⟨b, off, h1, _, h2⟩
  · exact .inl h
  · exact .inr ⟨b, off, h1, h2⟩
theorem SrcL.below {w w' : World} {a : Option Addr} {m L : Nat} {F : Nat → Value} (h : SrcL w a m F L) (hb : Below w.heap.size w w') : SrcL w' a m F L := by
  rcases h with h | ⟨b, off, h1, h3, h2⟩
  · exact .inl h
  · exact .inr ⟨b, off, h1, h3, h2.below hb h2.1⟩
theorem SrcL.but {w w' : World} {a : Option Addr} {m L q : Nat} {F : Nat → Value} (h : SrcL w a m F L) (hb : But q w w') (hq : L ≤ q) : SrcL w' a m F L := by
  rcases h with h | ⟨b, off, h1, h3, h2⟩
  · exact .inl h
  · exact .inr ⟨b, off, h1, h3, h2.but hb (by omega)⟩
theorem own_belowF {w w' : World} {base : Nat} {e : TypeId} {size : Nat} {v : Value} {n : Nat} {xs : List Value} (h : w.ownsRow base e size v n xs) (hb : Below w.heap.size w w') : w'.ownsRow base e size v n xs := ownB_below h hb
theorem own_butNe {w w' : World} {base p : Nat} {e : TypeId} {size : Nat} {v : Value} {n : Nat} {xs : List Value} (h : w.ownsRow base e size v n xs) (hb : But p w w') (hp : p < base) : w'.ownsRow base e size v n xs := own_butF h hb hp
end Go.Proofs.Ytfdcjfebfbpliaa
