/- HeardLost in the specification. -/
import Derived.Test.YtdahabbdhjgpdaaS164
import Derived.Deep.RegionHeld3
import Derived.Deep.DeepCutAuto
import Derived.WalkKit
import Derived.WalkSpells
import Derived.WalkLawsBesides
import Derived.Deep.RegionHeld
namespace Go.Proofs.Ytdahabbdhjgpdaa
open Go.RowKit
set_option linter.unusedVariables false
theorem own_addr {w : World} {base s n n' c : Nat} {T : TypeId} {a : Option Addr} {xs : List Value} (h : w.ownsRow base T s (.slice a n c) n' xs) : ∀ b off, a = some ⟨b, off, none⟩ → base ≤ b ∧ b < w.heap.size := by
  intro b off e
  subst e
  rcases h.2 with ⟨he, h0⟩ | ⟨g, cap, cur, he, _⟩
  · simp at he
  · simp at he
    obtain ⟨⟨rfl, rfl⟩, rfl, rfl⟩ := he
    exact World.ownsRow.lt h b rfl
/- A row of numbers that another row's growing leaves. -/
def IR (w : World) (a : Option Addr) (l : Nat) (f : Nat → Int) (B : Nat) : Prop := SrcC w a (l * 1) (MFInt f) ∧ ∀ b off, a = some ⟨b, off, none⟩ → b < B
theorem IR.below {w w' : World} {a : Option Addr} {l B : Nat} {f : Nat → Int} (h : IR w a l f B) (hb : Below w.heap.size w w') : IR w' a l f B := ⟨h.1.below hb, h.2⟩
theorem IR.grown {w w' : World} {a : Option Addr} {l B : Nat} {f : Nat → Int} {o : Option Nat} (h : IR w a l f B) (hg : w.grownBy w' o) (hn : ∀ b off, a = some ⟨b, off, none⟩ → some b ≠ o) : IR w' a l f B := ⟨h.1.keptK hg hn, h.2⟩
theorem ne_grown {w : World} {a : Option Addr} {B : Nat} {v v' : Value} (h : ∀ b off, a = some ⟨b, off, none⟩ → b < B) (hB : B ≤ w.heap.size) (hn : ∀ b off, a = some ⟨b, off, none⟩ → some b ≠ v.ownBlock) (hv : ∀ g, v'.ownBlock = some g → v.ownBlock = some g ∨ w.heap.size ≤ g) : ∀ b off, a = some ⟨b, off, none⟩ → some b ≠ v'.ownBlock := by
  intro b off e he
  rcases hv b he.symm with r | r
  · exact hn b off e r.symm
  · have := h b off e; omega
/- Which slots of the plan are not heard now, in the specification. -/
end Go.Proofs.Ytdahabbdhjgpdaa
