/- What NetMove tells, in one statement for each side. -/
import Derived.Test.YtfdcjfebfbpliaaN73
import Derived.WalkKit
import Derived.WalkSpells
import Derived.WalkLawsBesides
import Derived.Deep.RegionHeld
namespace Go.Proofs.Ytfdcjfebfbpliaa
open Go.RowKit
set_option linter.unusedVariables false
def MvIs (nx : Int) (M : Nat → FT) (n : Nat) (i t : Int) (X : Int) (m : Nat) (G : Nat → FT) (C : Int) : Prop :=
  (netB nx M n = false ∧ X = 0 ∧ m = 0 ∧ C = 1) ∨ (netB nx M n = true ∧ ¬ ((0 ≤ i ∧ i < (n : Int)) ∧ (0 ≤ t ∧ t < (n : Int))) ∧ X = nx ∧ m = n ∧ G = M ∧ C = 2) ∨ (netB nx M n = true ∧ ∃ k l : Nat, i = (k : Int) ∧ k < n ∧ t = (l : Int) ∧ l < n ∧ X = nx ∧ m = n ∧ G = insG (cutG M k) l (M k) ∧ C = 0)
theorem mv_ex (nx : Int) (M : Nat → FT) (n : Nat) (i t : Int) : ∃ X m G Y C, (MvIs nx M n i t X m G C ∧ Y = zF) ∧ m ≤ n := by
  cases h : netB nx M n
  · exact ⟨0, 0, M, zF, 1, ⟨.inl ⟨h, rfl, rfl, rfl⟩, rfl⟩, Nat.zero_le _⟩
  · by_cases hi : (0 ≤ i ∧ i < (n : Int)) ∧ (0 ≤ t ∧ t < (n : Int))
    · exact ⟨nx, n, insG (cutG M i.toNat) t.toNat (M i.toNat), zF, 0, ⟨.inr (.inr ⟨h, i.toNat, t.toNat, by omega, by omega, by omega, by omega, rfl, rfl, rfl, rfl⟩), rfl⟩, Nat.le_refl _⟩
    · exact ⟨nx, n, M, zF, 2, ⟨.inr (.inl ⟨h, hi, rfl, rfl, rfl, rfl⟩), rfl⟩, Nat.le_refl _⟩
theorem implNetMove_any (nx i t : Int) (b n c : Nat) (M : Nat → FT) (X : Int) (m : Nat) (G : Nat → FT) (C : Int) (w : World) (hm : n ≤ maxLen) (hf : Cs w b 0 (n * 5) (MFFlight M)) (hs : ∀ i, i < n → ((M i).2.2.2.1).size ≤ maxLen) (hw : ∀ i, i < n → (Lit.int .i64 (M i).1).wf = true) (h : MvIs nx M n i t X m G C) :
    Calls Try.prog 14 #[.agg #[.int .i64 nx, .slice (some ⟨b, 0, none⟩) n c], .int .i64 i, .int .i64 t] w fun e w' => ∃ a' c', e = .returned (.tuple #[.agg #[.int .i64 X, .slice a' m c'], .int .i64 C]) ∧ w'.ownsRow w.heap.size 30 5 (.slice a' m c') m (frow G m) ∧ Below w.heap.size w w' := by
  rcases h with ⟨h, rfl, rfl, rfl⟩ | ⟨h, hi, rfl, rfl, rfl, rfl⟩ | ⟨h, k, l, rfl, hk, rfl, hl, rfl, rfl, rfl, rfl⟩
  · exact (implNetMove_bad nx i t b n c M w hm hf hs hw h).mono fun e w' ⟨h1, h2⟩ => ⟨none, 0, h1, World.ownsRow_nil _ _ _ _, h2⟩
  · exact (implNetMove_none X i t b m c G w hm hf hs hw h hi).mono fun e w' ⟨g, h1, h2, h3, h4⟩ => ⟨_, _, h1, own_ofRow h3 h2 hm, h4⟩
  · obtain ⟨y0, y1, y2, y3, y4, hY⟩ := tupFlight M k
    have q := implNetMove_done X k l b m c M y0 y1 y2 y3 y4 w hm hf hs hw h hk hl hY
    rw [show m - 1 + 1 = m by omega, ← hY] at q
    exact q.mono fun e w' ⟨g, h1, h2, h3, h4⟩ => ⟨_, _, h1, own_ofRow h3 h2 hm, h4⟩
end Go.Proofs.Ytfdcjfebfbpliaa
