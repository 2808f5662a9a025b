/- What NetSend tells, in one statement for each side. -/
import Derived.Test.YtfdcjfebfbpliaaN78
import Derived.WalkKit
import Derived.WalkSpells
import Derived.WalkLawsBesides
import Derived.Deep.RegionHeld
namespace Go.Proofs.Ytfdcjfebfbpliaa
open Go.RowKit
set_option linter.unusedVariables false
def SdIs (nx : Int) (M : Nat → FT) (n : Nat) (x1 x2 : Int) (x3 : ByteArray) (x4 : Int) (X : Int) (m : Nat) (G : Nat → FT) (C : Int) : Prop :=
  ((netB nx M n && flB x1 x2 x3 x4) = false ∧ X = 0 ∧ m = 0 ∧ C = 1) ∨ ((netB nx M n && flB x1 x2 x3 x4) = true ∧ (n = 40 ∨ nx = 1000000) ∧ X = nx ∧ m = n ∧ G = M ∧ C = 3) ∨ ((netB nx M n && flB x1 x2 x3 x4) = true ∧ ¬ (n = 40 ∨ nx = 1000000) ∧ X = nx + 1 ∧ m = n + 1 ∧ G = insG M n (nx, x1, x2, x3, x4) ∧ C = 0)
theorem sd_ex (nx : Int) (M : Nat → FT) (n : Nat) (x1 x2 : Int) (x3 : ByteArray) (x4 : Int) : ∃ X m G Y C, (SdIs nx M n x1 x2 x3 x4 X m G C ∧ Y = zF) ∧ m ≤ 41 := by
  cases h : (netB nx M n && flB x1 x2 x3 x4)
  · exact ⟨0, 0, M, zF, 1, ⟨.inl ⟨h, rfl, rfl, rfl⟩, rfl⟩, Nat.zero_le _⟩
  · have hn := netB_n (by rw [Bool.and_eq_true] at h; exact h.1)
    by_cases hi : n = 40 ∨ nx = 1000000
    · exact ⟨nx, n, M, zF, 3, ⟨.inr (.inl ⟨h, hi, rfl, rfl, rfl, rfl⟩), rfl⟩, by omega⟩
    · exact ⟨nx + 1, n + 1, insG M n (nx, x1, x2, x3, x4), zF, 0, ⟨.inr (.inr ⟨h, hi, rfl, rfl, rfl, rfl⟩), rfl⟩, by omega⟩
theorem specNetSend_any (nx : Int) (x1 x2 : Int) (x3 : ByteArray) (x4 : Int) (b n c : Nat) (M : Nat → FT) (X : Int) (m : Nat) (G : Nat → FT) (C : Int) (w : World) (hm : n ≤ maxLen) (hf : Cs w b 0 (n * 5) (MFFlight M)) (hs : ∀ i, i < n → ((M i).2.2.2.1).size ≤ maxLen) (h3 : x3.size ≤ maxLen) (h : SdIs nx M n x1 x2 x3 x4 X m G C) :
    Calls Try.prog 28 #[.agg #[.int .i64 nx, .slice (some ⟨b, 0, none⟩) n c], .int .i64 x1, .int .i64 x2, .string x3, .int .i64 x4] w fun e w' => ∃ a' c', e = .returned (.tuple #[.agg #[.int .i64 X, .slice a' m c'], .int .i64 C]) ∧ w'.ownsRow w.heap.size 30 5 (.slice a' m c') m (frow G m) ∧ Below w.heap.size w w' := by
  rcases h with ⟨h, rfl, rfl, rfl⟩ | ⟨h, hi, rfl, rfl, rfl, rfl⟩ | ⟨h, hi, rfl, rfl, rfl, rfl⟩
  · exact (specNetSend_bad nx x1 x2 x3 x4 b n c M w hm hf hs h3 h).mono fun e w' ⟨h1, h2⟩ => ⟨none, 0, h1, World.ownsRow_nil _ _ _ _, h2⟩
  · rw [Bool.and_eq_true] at h
    exact specNetSend_full X x1 x2 x3 x4 b m c G w hm hf hs h3 h.1 h.2 hi
  · rw [Bool.and_eq_true] at h
    exact specNetSend_done nx x1 x2 x3 x4 b n c M w hm hf hs h3 h.1 h.2 hi _ rfl
end Go.Proofs.Ytfdcjfebfbpliaa
