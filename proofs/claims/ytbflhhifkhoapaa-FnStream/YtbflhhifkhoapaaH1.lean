/- A reader that gives up: giveUp, codeOf; what a reader is in memory. -/
import Derived.Test.YtbflhhifkhoapaaG6b
import Derived.Test.YtbflhhifkhoapaaD1
import Derived.Defers
import Derived.Recover
import Derived.WalkKit
import Derived.WalkSpells
import Derived.WalkLawsBesides
import Derived.Deep.RegionHeld
namespace Go.Proofs.Ytbflhhifkhoapaa
open Go.RowKit
set_option linter.unusedVariables false
def gave (c : Int) : List PanicEntry := [{ v := .iface 97 (.int .i64 c), recovered := false }]
theorem assertGave (W : World) (v : Value) : (Instr.typeAssert (.iface 97 v) 20 97 false).run Try.prog W = .ok v W := by kernel_rfl
set_option maxHeartbeats 1000000 in
theorem giveUp_any (c : Int) (w : World) :
    Calls Try.prog 47 #[.int .i64 c] w fun e w' => e = .panicked (gave c) ∧ w = w' := by
  go_enter Try.func47, Try.ntmps47
  go_wp2_with fail
  exact ⟨rfl, rfl, rfl⟩
set_option maxHeartbeats 1000000 in
theorem codeOf_any (c : Int) (w : World) :
    Calls Try.prog 44 #[.iface 97 (.int .i64 c)] w fun e w' => e = .returned (.int .i64 c) ∧ w = w' := by
  have h := assertGave
  go_enter Try.func44, Try.ntmps44
  go_wp2_with fail
  go_ret
  exact ⟨rfl, rfl⟩
def Rd (w : World) (p : Nat) (a : Option Addr) (m c : Nat) (f : Nat → Int) (x : Int) : Prop :=
  p < w.heap.size ∧ w.cell? ⟨p, 0, none⟩ = some (.slice a m c) ∧ w.cell? ⟨p, 1, none⟩ = some (.int .i64 x) ∧ w.frozen? ⟨p, 1, none⟩ = false ∧ 0 ≤ x ∧ x ≤ m ∧ m ≤ c ∧ c ≤ maxLen ∧ SrcB w a m f ∧ (∀ b o, a = some ⟨b, o, none⟩ → b < p) ∧ ∀ i, i < m → 0 ≤ f i ∧ f i ≤ 255
theorem SrcB.but {w w' : World} {p : Nat} {a : Option Addr} {n : Nat} {f : Nat → Int} (h : SrcB w a n f) (hb : But p w w') (hp : ∀ b o, a = some ⟨b, o, none⟩ → b < p) : SrcB w' a n f := by
  rcases h with h | ⟨b, off, h1, h2⟩
  · exact .inl h
  · have := hp b off h1
    exact .inr ⟨b, off, h1, Nat.lt_of_lt_of_le h2.1 hb.2.2.2.1, fun i hi => by rw [hb.cell h2.1 (by omega)]; exact h2.2 i hi⟩
theorem Rd.below {w w' : World} {p : Nat} {a : Option Addr} {m c : Nat} {f : Nat → Int} {x : Int} (h : Rd w p a m c f x) (hb : Below w.heap.size w w') : Rd w' p a m c f x := by
  obtain ⟨h0, h1, h2, h3, h4, h5, h6, h7, h8, h9, h10⟩ := h
  exact ⟨Nat.lt_of_lt_of_le h0 hb.size, by rw [hb.cell (p := ⟨p, 0, none⟩) h0]; exact h1, by rw [hb.cell (p := ⟨p, 1, none⟩) h0]; exact h2, by rw [hb.frozen (p := ⟨p, 1, none⟩) h0]; exact h3, h4, h5, h6, h7, h8.below hb, h9, h10⟩
theorem Rd.drew {w : World} {p : Nat} {a : Option Addr} {m c : Nat} {f : Nat → Int} {x : Int} (h : Rd w p a m c f x) : Rd w.drew p a m c f x := h
theorem But.drew {p : Nat} {a w : World} (h : But p a w) : But p a w.drew := h
theorem Rd.set {w : World} {p : Nat} {a : Option Addr} {m c : Nat} {f : Nat → Int} {x : Int} (h : Rd w p a m c f x) (y : Int) (y0 : 0 ≤ y) (y1 : y ≤ m) : Rd (w.setCell ⟨p, 1, none⟩ (.int .i64 y)) p a m c f y := by
  obtain ⟨h0, h1, h2, h3, h4, h5, h6, h7, h8, h9, h10⟩ := h
  exact ⟨by simpa using h0, by rw [World.cell?_setCell_other _ _ _ _ (by simp)]; exact h1, World.cell?_setCell_same _ _ _ h2, by simpa using h3, y0, y1, h6, h7, h8.but ((But.refl p w).setCell 1 _) h9, h9, h10⟩
theorem getS_bd {f : Nat → Int} {n a : Nat} : ∀ {m k : Nat} {X : Int}, (∀ i, i < n → 0 ≤ f i) → 0 ≤ X → (getS f n a m k X).2.2 = true → 0 ≤ (getS f n a m k X).1 ∧ (a : Int) < (getS f n a m k X).2.1 ∧ (getS f n a m k X).2.1 ≤ n
  | 0, k, X, hf, h0, h => by simp [getS] at h
  | m + 1, k, X, hf, h0, h => by
    have hp : (0 : Int) < 128 ^ k := Int.pow_pos (by omega)
    by_cases h1 : a + k < n
    · have hfk := hf (a + k) h1
      have hz : 0 ≤ X + f (a + k) % 128 * 128 ^ k := by
        have : 0 ≤ f (a + k) % 128 * 128 ^ k := Int.mul_nonneg (by omega) (by omega)
        omega
      by_cases h2 : f (a + k) < 128
      · by_cases h3 : f (a + k) = 0 ∧ 0 < k
        · rw [getS_long h1 h3.1 h3.2] at h; cases h
        · rw [getS_told h1 h2 h3]
          exact ⟨hz, by show (a : Int) < a + k + 1; omega, by show (a : Int) + k + 1 ≤ n; omega⟩
      · rw [getS_on h1 h2] at h ⊢
        exact getS_bd hf hz h
    · rw [getS_end h1] at h; cases h
theorem getI_bd {f : Nat → Int} {n : Nat} {x : Int} (hf : ∀ i, i < n → 0 ≤ f i) (h : (getI f n x).2.2 = true) : 0 ≤ (getI f n x).1 ∧ x < (getI f n x).2.1 ∧ (getI f n x).2.1 ≤ n := by
  unfold getI at h ⊢
  split at h
  · next hx =>
    rw [if_pos hx]
    have := getS_bd hf (Int.le_refl 0) h
    have e : ((x.toNat : Nat) : Int) = x := Int.toNat_of_nonneg hx.1
    rw [e] at this
    exact this
  · cases h
end Go.Proofs.Ytbflhhifkhoapaa
