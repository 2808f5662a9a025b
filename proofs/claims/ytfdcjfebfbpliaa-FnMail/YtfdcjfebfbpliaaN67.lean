/- What NetTake tells, in one statement for each side. -/
import Derived.Test.YtfdcjfebfbpliaaN66
import Derived.WalkKit
import Derived.WalkSpells
import Derived.WalkLawsBesides
import Derived.Deep.RegionHeld
namespace Go.Proofs.Ytfdcjfebfbpliaa
open Go.RowKit
set_option linter.unusedVariables false
theorem own_ofRow {w : World} {base g n : Nat} {G : Nat → FT} (h : RowF w g 30 (n * 5) (n * 5) (MFFlight G)) (hb : base ≤ g) (hn : n ≤ maxLen) : w.ownsRow base 30 5 (.slice (some ⟨g, 0, none⟩) n n) n (frow G n) := by
  obtain ⟨q, ⟨c, h1, h2, h3⟩, h4⟩ := h
  refine ⟨frow_len G n, .inr ⟨g, n, c, rfl, hb, h1, Nat.le_refl _, hn, h2, ?_⟩⟩
  apply List.ext_getElem?
  intro j
  by_cases hj : j < n * 5
  · rw [List.getElem?_take, if_pos hj]
    have e := h3 j hj
    rw [h4 j hj] at e
    have e2 : (frow G n)[j]? = some (MFFlight G j) := by simp [frow, hj]
    rw [e2]
    simpa using e
  · rw [List.getElem?_take, if_neg hj, List.getElem?_eq_none (by rw [frow_len]; omega)]
theorem zF_eq {y0 y1 y2 : Int} {y3 : ByteArray} {y4 : Int} (h : ((y0, y1, y2, y3, y4) : FT) = zF) : y0 = 0 ∧ y1 = 0 ∧ y2 = 0 ∧ y3 = ⟨#[]⟩ ∧ y4 = 0 := by
  unfold zF at h
  have h' : ((y0, y1, y2, y3, y4) : Int × Int × Int × ByteArray × Int) = (0, 0, 0, ⟨#[]⟩, 0) := h
  simp only [Prod.mk.injEq] at h'
  exact h'
theorem specNetTake_any (nx i : Int) (b n c : Nat) (M : Nat → FT) (X : Int) (m : Nat) (G : Nat → FT) (y0 y1 y2 : Int) (y3 : ByteArray) (y4 : Int) (C : Int) (w : World) (hm : n ≤ maxLen) (hf : Cs w b 0 (n * 5) (MFFlight M)) (hs : ∀ i, i < n → ((M i).2.2.2.1).size ≤ maxLen) (h : TkIs nx M n i X m G (y0, y1, y2, y3, y4) C) :
    Calls Try.prog 7 #[.agg #[.int .i64 nx, .slice (some ⟨b, 0, none⟩) n c], .int .i64 i] w fun e w' => ∃ a' c', e = .returned (.tuple #[.agg #[.int .i64 X, .slice a' m c'], .agg #[.int .i64 y0, .int .i64 y1, .int .i64 y2, .string y3, .int .i64 y4], .int .i64 C]) ∧ w'.ownsRow w.heap.size 30 5 (.slice a' m c') m (frow G m) ∧ Below w.heap.size w w' := by
  rcases h with ⟨h, rfl, rfl, hy, rfl⟩ | ⟨h, hi, rfl, rfl, rfl, hy, rfl⟩ | ⟨h, k, rfl, hk, rfl, rfl, rfl, hy, rfl⟩
  · obtain ⟨rfl, rfl, rfl, rfl, rfl⟩ := zF_eq hy
    exact (specNetTake_bad nx i b n c M w hm hf hs h).mono fun e w' ⟨h1, h2⟩ => ⟨none, 0, h1, World.ownsRow_nil _ _ _ _, h2⟩
  · obtain ⟨rfl, rfl, rfl, rfl, rfl⟩ := zF_eq hy
    exact specNetTake_none X i b m c G w hm hf hs h hi
  · exact specNetTake_done X k b n c M y0 y1 y2 y3 y4 w hm hf hs h hk hy.symm
theorem implNetTake_any (nx i : Int) (b n c : Nat) (M : Nat → FT) (X : Int) (m : Nat) (G : Nat → FT) (y0 y1 y2 : Int) (y3 : ByteArray) (y4 : Int) (C : Int) (w : World) (hm : n ≤ maxLen) (hf : Cs w b 0 (n * 5) (MFFlight M)) (hs : ∀ i, i < n → ((M i).2.2.2.1).size ≤ maxLen) (hw : ∀ i, i < n → (Lit.int .i64 (M i).1).wf = true) (h : TkIs nx M n i X m G (y0, y1, y2, y3, y4) C) :
    Calls Try.prog 8 #[.agg #[.int .i64 nx, .slice (some ⟨b, 0, none⟩) n c], .int .i64 i] w fun e w' => ∃ a' c', e = .returned (.tuple #[.agg #[.int .i64 X, .slice a' m c'], .agg #[.int .i64 y0, .int .i64 y1, .int .i64 y2, .string y3, .int .i64 y4], .int .i64 C]) ∧ w'.ownsRow w.heap.size 30 5 (.slice a' m c') m (frow G m) ∧ Below w.heap.size w w' := by
  rcases h with ⟨h, rfl, rfl, hy, rfl⟩ | ⟨h, hi, rfl, rfl, rfl, hy, rfl⟩ | ⟨h, k, rfl, hk, rfl, rfl, rfl, hy, rfl⟩
  · obtain ⟨rfl, rfl, rfl, rfl, rfl⟩ := zF_eq hy
    exact (implNetTake_bad nx i b n c M w hm hf hs hw h).mono fun e w' ⟨h1, h2⟩ => ⟨none, 0, h1, World.ownsRow_nil _ _ _ _, h2⟩
  · obtain ⟨rfl, rfl, rfl, rfl, rfl⟩ := zF_eq hy
    exact (implNetTake_none X i b m c G w hm hf hs hw h hi).mono fun e w' ⟨g, h1, h2, h3, h4⟩ => ⟨_, _, h1, own_ofRow h3 h2 hm, h4⟩
  · exact (implNetTake_done X k b n c M y0 y1 y2 y3 y4 w hm hf hs hw h hk hy.symm).mono fun e w' ⟨g, h1, h2, h3, h4⟩ => ⟨_, _, h1, own_ofRow h3 h2 (by unfold maxLen; have := netB_n h; omega), h4⟩
end Go.Proofs.Ytfdcjfebfbpliaa
