/- The contract of spec.Use. -/
import Derived.Test.YtlaladalnbdhpaaC1
import Derived.Test.YtlaladalnbdhpaaA5
import Derived.Test.YtlaladalnbdhpaaD7
import Derived.Deep.RegionHeld3
import Derived.Deep.DeepCutAuto
import Derived.WalkKit
import Derived.WalkSpells
import Derived.WalkLawsBesides
import Derived.Deep.RegionHeld
namespace Go.Proofs.Ytlaladalnbdhpaa
open Go.RowKit
set_option linter.unusedVariables false
theorem IB3.belB {w w' : World} {B j : Nat} {ep us : Int} {a : Option Addr} {n c : Nat} (h : IB3 w j ep us a n c) (hb : Below B w w') (hj : j < B) : IB3 w' j ep us a n c :=
  ⟨Nat.lt_of_lt_of_le h.1 hb.size, by rw [hb.cell (p := ⟨j, 0, none⟩) hj]; exact h.2.1, by rw [hb.cell (p := ⟨j, 1, none⟩) hj]; exact h.2.2.1, by rw [hb.cell (p := ⟨j, 2, none⟩) hj]; exact h.2.2.2⟩
theorem Bx3.belB {w w' : World} {B j : Nat} {u0 u1 u2 : Value} (h : Bx3 w j u0 u1 u2) (hb : Below B w w') (hj : j < B) : Bx3 w' j u0 u1 u2 := by
  obtain ⟨h0, h1, h2, h3, h4, h5, h6⟩ := h
  exact ⟨Nat.lt_of_lt_of_le h0 hb.size, by rw [hb.cell (p := ⟨j, 0, none⟩) hj]; exact h1, by rw [hb.cell (p := ⟨j, 1, none⟩) hj]; exact h2, by rw [hb.cell (p := ⟨j, 2, none⟩) hj]; exact h3, by rw [hb.frozen (p := ⟨j, 0, none⟩) hj]; exact h4, by rw [hb.frozen (p := ⟨j, 1, none⟩) hj]; exact h5, by rw [hb.frozen (p := ⟨j, 2, none⟩) hj]; exact h6⟩
def ctK (i k : Nat) : Nat := if k ≤ i then k else k - 1
theorem cutK_at {M : Nat → KT} {i k : Nat} (h : k ≠ i) : cutK M i (ctK i k) = M k ∧ ctK i (k + 1) = ctK i k + 1 := by
  unfold cutK ctK
  by_cases h1 : k ≤ i
  · rw [if_pos h1, if_pos (by omega), if_pos (by omega)]; exact ⟨rfl, rfl⟩
  · rw [if_neg h1, if_neg (by omega), if_neg (by omega)]
    exact ⟨by rw [show k - 1 + 1 = k by omega], by omega⟩
theorem ctK_same (i : Nat) : ctK i (i + 1) = ctK i i := by unfold ctK; rw [if_neg (by omega), if_pos (Nat.le_refl _)]; omega
theorem ctK_le (i k : Nat) : ctK i k ≤ k := by unfold ctK; split <;> omega
def fdK (M : Nat → KT) (i k : Nat) : KT := if k ≤ i then zK else M i
def cdK (i k : Nat) (cd : Int) : Int := if k ≤ i then 4 else cd
theorem fd_next {M : Nat → KT} {i k : Nat} {cd : Int} (h : k ≠ i) : fdK M i (k + 1) = fdK M i k ∧ cdK i (k + 1) cd = cdK i k cd := by
  unfold fdK cdK
  by_cases h1 : k ≤ i
  · rw [if_pos h1, if_pos (by omega), if_pos (by omega), if_pos h1]; exact ⟨rfl, rfl⟩
  · rw [if_neg h1, if_neg (by omega), if_neg (by omega), if_neg h1]; exact ⟨rfl, rfl⟩
theorem fd_here {M : Nat → KT} {i : Nat} {cd : Int} : fdK M i (i + 1) = M i ∧ cdK i (i + 1) cd = cd := by
  unfold fdK cdK
  exact ⟨if_neg (by omega), if_neg (by omega)⟩
def Bf4T (w : World) (j : Nat) (K : KT) : Prop := Bf4 w j K.1 K.2.1 K.2.2.1 K.2.2.2
def UsInv (ep us : Int) (M : Nat → KT) (w : World) (i : Nat) (ad : Addr) (n c bo k : Nat) (wr : World) : Prop := ∃ vk : Value, Bx3 wr bo (.int .i64 ep) (.int .i64 us) vk ∧ wr.ownsRow (bo + 2) 34 4 vk (ctK i k) (krow (cutK M i) (ctK i k)) ∧ Bf4T wr (bo + 1) (fdK M i k) ∧ IB3 wr w.heap.size ep us (some ad) n c ∧ Bx3 wr (w.heap.size + 1) (.int .i64 0) (.int .i64 0) (.slice none 0 0) ∧ Bf4 wr (w.heap.size + 1 + 1) 0 0 0 0 ∧ Froms wr ad M n ∧ Below w.heap.size w wr
end Go.Proofs.Ytlaladalnbdhpaa
