/- What the laws keep; rows of numbers, of intervals and of peers, told by lists. -/
import Derived.Deep.DeepCutAuto
import Derived.Test.YtnidbfedgblngaaM5
import Derived.Test.YtnidbfedgblngaaM7
namespace Go.Proofs.Ytnidbfedgblngaa
open Go.RowKit
set_option linter.unusedVariables false
def SrcK (w : World) (a : Option Addr) (m : Nat) (F : Nat → Value) (L : Nat) : Prop := m = 0 ∨ ∃ b off, a = some ⟨b, off, none⟩ ∧ b < L ∧ Cs w b off m F
theorem SrcK.below {w w' : World} {a : Option Addr} {m L : Nat} {F : Nat → Value} (h : SrcK w a m F L) (hb : Below w.heap.size w w') : SrcK w' a m F L := by
  rcases h with h | ⟨b, off, h1, h3, h2⟩
  · exact .inl h
  · exact .inr ⟨b, off, h1, h3, h2.below hb h2.1⟩
end Go.Proofs.Ytnidbfedgblngaa
