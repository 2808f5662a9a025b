/- The contract of impl.ExpireAsks. -/
import Derived.Test.YtlaladalnbdhpaaF7
import Derived.Deep.RegionHeld3
import Derived.Deep.DeepCutAuto
import Derived.WalkKit
import Derived.WalkSpells
import Derived.WalkLawsBesides
import Derived.Deep.RegionHeld
namespace Go.Proofs.Ytlaladalnbdhpaa
open Go.RowKit
set_option linter.unusedVariables false
theorem el_at {ep us : Int} {M : Nat → KT} {n : Nat} (h : tabB ep us M n = true) : atB (lst M n) := by
  intro K hK
  simp only [lst, List.mem_map, List.mem_range] at hK
  obtain ⟨j, hj, rfl⟩ := hK
  have h1 := tOk_el (tabB_tOk h) hj
  simp only [elB, akB, tmB, Bool.and_eq_true, decide_eq_true_eq] at h1
  exact h1.2.1.2
theorem tmB_in {x : Int} (h : tmB x = true) : 0 ≤ x ∧ x ≤ 1000000000000 := of_decide_eq_true h
theorem Bx3.belB7 {w w' : World} {B j : Nat} {u0 u1 u2 : Value} (h : Bx3 w j u0 u1 u2) (hb : Below B w w') (hj : j < B) : Bx3 w' j u0 u1 u2 := by
  obtain ⟨h0, h1, h2, h3, h4, h5, h6⟩ := h
  exact ⟨Nat.lt_of_lt_of_le h0 hb.size, by rw [hb.cell (p := ⟨j, 0, none⟩) hj]; exact h1, by rw [hb.cell (p := ⟨j, 1, none⟩) hj]; exact h2, by rw [hb.cell (p := ⟨j, 2, none⟩) hj]; exact h3, by rw [hb.frozen (p := ⟨j, 0, none⟩) hj]; exact h4, by rw [hb.frozen (p := ⟨j, 1, none⟩) hj]; exact h5, by rw [hb.frozen (p := ⟨j, 2, none⟩) hj]; exact h6⟩
theorem nil_disj (n c : Nat) (a : Option Addr) : ∀ g, (Value.slice none 0 0).ownBlock = some g → (Value.slice a n c).ownBlock ≠ some g := fun g h => by simp [Value.ownBlock] at h
end Go.Proofs.Ytlaladalnbdhpaa
