/- A struct of two ints in a block: what keeps it. -/
import Derived.Test.YtddjiamollfplaaDoorD2
import Derived.Test.YtddjiamollfplaaDoorD4
import Derived.WalkKit
namespace Go.Proofs.YtddjiamollfplaaDoor
open Go.RowKit
set_option linter.unusedVariables false
theorem CurOk.drew {w : World} {B p : Nat} (h : CurOk w B p) : CurOk w.drew B p := h
theorem But.drew {p : Nat} {a w : World} (h : But p a w) : But p a w.drew := h
def Box (w : World) (k : Nat) (x y : Int) : Prop := k < w.heap.size ∧ w.cell? ⟨k, 0, none⟩ = some (.int .i64 x) ∧ w.cell? ⟨k, 1, none⟩ = some (.int .i64 y) ∧ w.frozen? ⟨k, 0, none⟩ = false ∧ w.frozen? ⟨k, 1, none⟩ = false
theorem Box.but {p k : Nat} {w w' : World} {x y : Int} (h : Box w k x y) (hw : But p w w') (hk : k ≠ p) : Box w' k x y :=
  ⟨Nat.lt_of_lt_of_le h.1 hw.2.2.2.1, by rw [hw.cell h.1 hk]; exact h.2.1, by rw [hw.cell h.1 hk]; exact h.2.2.1, by rw [hw.frozen h.1 hk]; exact h.2.2.2.1, by rw [hw.frozen h.1 hk]; exact h.2.2.2.2⟩
theorem Box.below {k : Nat} {w w' : World} {x y : Int} (h : Box w k x y) (hw : Below w.heap.size w w') : Box w' k x y :=
  ⟨Nat.lt_of_lt_of_le h.1 hw.size, by rw [hw.cell (p := ⟨k, 0, none⟩) h.1]; exact h.2.1, by rw [hw.cell (p := ⟨k, 1, none⟩) h.1]; exact h.2.2.1, by rw [hw.frozen (p := ⟨k, 0, none⟩) h.1]; exact h.2.2.2.1, by rw [hw.frozen (p := ⟨k, 1, none⟩) h.1]; exact h.2.2.2.2⟩
theorem Box.alloc {k : Nat} {w : World} {x y : Int} (h : Box w k x y) (o : Obj) : Box (w.alloc o) k x y := h.below ((Below.refl _ _).alloc (Nat.le_refl _) _)
theorem Box.setOther {k j : Nat} {w : World} {x y : Int} (h : Box w k x y) (hk : j ≠ k) (o : Nat) (u : Value) : Box (w.setCell ⟨j, o, none⟩ u) k x y := by
  have hne : ∀ q, (⟨j, o, none⟩ : Addr) ≠ ⟨k, q, none⟩ := fun q e => hk (congrArg Addr.block e)
  exact ⟨by simpa using h.1, by rw [World.cell?_setCell_other _ _ _ _ (hne _)]; exact h.2.1, by rw [World.cell?_setCell_other _ _ _ _ (hne _)]; exact h.2.2.1, by simpa using h.2.2.2.1, by simpa using h.2.2.2.2⟩
theorem Box.set {k : Nat} {w : World} {x y : Int} (h : Box w k x y) (x' y' : Int) : Box ((w.setCell ⟨k, 0, none⟩ (.int .i64 x')).setCell ⟨k, 1, none⟩ (.int .i64 y')) k x' y' := by
  refine ⟨by simpa using h.1, ?_, ?_, by simpa using h.2.2.2.1, by simpa using h.2.2.2.2⟩
  · rw [World.cell?_setCell_other _ _ _ _ (by simp), World.cell?_setCell_same _ _ _ h.2.1]
  · exact World.cell?_setCell_same _ _ _ (by rw [World.cell?_setCell_other _ _ _ _ (by simp)]; exact h.2.2.1)
theorem Box.new (w : World) (x y : Int) (T : TypeId) : Box (w.alloc (.cells #[.int .i64 x, .int .i64 y] T)) w.heap.size x y := ⟨by simp, by simp, by simp, by simp, by simp⟩
theorem CodeB.more {w : World} {B B' : Nat} {a : Option Addr} {n : Nat} (h : CodeB w B a n) (hB : B ≤ B') : CodeB w B' a n := by
  rcases h with h | ⟨b, off, h1, h2, h3⟩
  · exact .inl h
  · exact .inr ⟨b, off, h1, by omega, h3⟩
/- What a new world holds after an alloc or a store, for go_wp2's simp. -/
theorem Below.al (w : World) (o : Obj) : Below w.heap.size w (w.alloc o) := (Below.refl _ _).alloc (Nat.le_refl _) _
end Go.Proofs.YtddjiamollfplaaDoor
