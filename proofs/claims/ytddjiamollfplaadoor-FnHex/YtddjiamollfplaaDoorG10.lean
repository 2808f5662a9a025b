/- The walk of the exact law of MsgOk. -/
import Derived.Test.YtddjiamollfplaaDoorG9
import Derived.WalkKit
import Derived.WalkSpells
import Derived.WalkLawsBesides
import Derived.Deep.RegionHeld
namespace Go.Proofs.YtddjiamollfplaaDoor
open Go.RowKit
set_option linter.unusedVariables false
def Thaw8 (w : World) (j : Nat) : Prop := w.frozen? ⟨j, 0, none⟩ = false ∧ w.frozen? ⟨j, 1, none⟩ = false ∧ w.frozen? ⟨j, 2, none⟩ = false ∧ w.frozen? ⟨j, 3, none⟩ = false ∧ w.frozen? ⟨j, 4, none⟩ = false ∧ w.frozen? ⟨j, 5, none⟩ = false ∧ w.frozen? ⟨j, 6, none⟩ = false ∧ w.frozen? ⟨j, 7, none⟩ = false
theorem Thaw8.belowB {j B : Nat} {w w' : World} (h : Thaw8 w j) (hw : Below B w w') (hk : j < B) : Thaw8 w' j := by
  obtain ⟨h0, h1, h2, h3, h4, h5, h6, h7⟩ := h
  exact ⟨by rw [hw.frozen (p := ⟨j, 0, none⟩) hk]; exact h0, by rw [hw.frozen (p := ⟨j, 1, none⟩) hk]; exact h1, by rw [hw.frozen (p := ⟨j, 2, none⟩) hk]; exact h2, by rw [hw.frozen (p := ⟨j, 3, none⟩) hk]; exact h3, by rw [hw.frozen (p := ⟨j, 4, none⟩) hk]; exact h4, by rw [hw.frozen (p := ⟨j, 5, none⟩) hk]; exact h5, by rw [hw.frozen (p := ⟨j, 6, none⟩) hk]; exact h6, by rw [hw.frozen (p := ⟨j, 7, none⟩) hk]; exact h7⟩
theorem Thaw8.new (w : World) (k fr to no lo hi sl : Int) (s : ByteArray) (T : TypeId) : Thaw8 (w.alloc (.cells #[.int .i64 k, .int .i64 fr, .int .i64 to, .int .i64 no, .int .i64 lo, .int .i64 hi, .int .i64 sl, .string s] T)) w.heap.size := ⟨by simp, by simp, by simp, by simp, by simp, by simp, by simp, by simp⟩
theorem Thaw8.set {w : World} {j : Nat} (h : Thaw8 w j) (p : Addr) (u : Value) : Thaw8 (w.setCell p u) j := by
  obtain ⟨h0, h1, h2, h3, h4, h5, h6, h7⟩ := h
  exact ⟨by simpa using h0, by simpa using h1, by simpa using h2, by simpa using h3, by simpa using h4, by simpa using h5, by simpa using h6, by simpa using h7⟩
theorem Box8.alloc {j : Nat} {w : World} {k fr to no lo hi sl : Int} {s : ByteArray} (h : Box8 w j k fr to no lo hi sl s) (o : Obj) : Box8 (w.alloc o) j k fr to no lo hi sl s := h.below ((Below.refl _ _).alloc (Nat.le_refl _) _)
theorem Box8.setO {j b : Nat} {w : World} {k fr to no lo hi sl : Int} {s : ByteArray} (h : Box8 w j k fr to no lo hi sl s) (hk : b ≠ j) (o : Nat) (u : Value) : Box8 (w.setCell ⟨b, o, none⟩ u) j k fr to no lo hi sl s := by
  have hne : ∀ q, (⟨b, o, none⟩ : Addr) ≠ ⟨j, q, none⟩ := fun q e => hk (congrArg Addr.block e)
  obtain ⟨h0, h1, h2, h3, h4, h5, h6, h7, h8⟩ := h
  exact ⟨by simpa using h0, by rw [World.cell?_setCell_other _ _ _ _ (hne _)]; exact h1, by rw [World.cell?_setCell_other _ _ _ _ (hne _)]; exact h2, by rw [World.cell?_setCell_other _ _ _ _ (hne _)]; exact h3, by rw [World.cell?_setCell_other _ _ _ _ (hne _)]; exact h4, by rw [World.cell?_setCell_other _ _ _ _ (hne _)]; exact h5, by rw [World.cell?_setCell_other _ _ _ _ (hne _)]; exact h6, by rw [World.cell?_setCell_other _ _ _ _ (hne _)]; exact h7, by rw [World.cell?_setCell_other _ _ _ _ (hne _)]; exact h8⟩
theorem cell_set_off (w : World) (j a b : Nat) (u : Value) (h : a ≠ b) : (w.setCell ⟨j, a, none⟩ u).cell? ⟨j, b, none⟩ = w.cell? ⟨j, b, none⟩ := World.cell?_setCell_other _ _ _ _ (by intro e; exact h (congrArg Addr.off e))
theorem Box8.set0 {j : Nat} {w : World} {k fr to no lo hi sl : Int} {s : ByteArray} (h : Box8 w j k fr to no lo hi sl s) (x : Int) : Box8 (w.setCell ⟨j, 0, none⟩ (.int .i64 x)) j x fr to no lo hi sl s := by
  obtain ⟨h0, h1, h2, h3, h4, h5, h6, h7, h8⟩ := h
  exact ⟨by simpa using h0, World.cell?_setCell_same _ _ _ h1, by rw [cell_set_off _ _ _ _ _ (by decide)]; exact h2, by rw [cell_set_off _ _ _ _ _ (by decide)]; exact h3, by rw [cell_set_off _ _ _ _ _ (by decide)]; exact h4, by rw [cell_set_off _ _ _ _ _ (by decide)]; exact h5, by rw [cell_set_off _ _ _ _ _ (by decide)]; exact h6, by rw [cell_set_off _ _ _ _ _ (by decide)]; exact h7, by rw [cell_set_off _ _ _ _ _ (by decide)]; exact h8⟩
theorem Box8.set1 {j : Nat} {w : World} {k fr to no lo hi sl : Int} {s : ByteArray} (h : Box8 w j k fr to no lo hi sl s) (x : Int) : Box8 (w.setCell ⟨j, 1, none⟩ (.int .i64 x)) j k x to no lo hi sl s := by
  obtain ⟨h0, h1, h2, h3, h4, h5, h6, h7, h8⟩ := h
  exact ⟨by simpa using h0, by rw [cell_set_off _ _ _ _ _ (by decide)]; exact h1, World.cell?_setCell_same _ _ _ h2, by rw [cell_set_off _ _ _ _ _ (by decide)]; exact h3, by rw [cell_set_off _ _ _ _ _ (by decide)]; exact h4, by rw [cell_set_off _ _ _ _ _ (by decide)]; exact h5, by rw [cell_set_off _ _ _ _ _ (by decide)]; exact h6, by rw [cell_set_off _ _ _ _ _ (by decide)]; exact h7, by rw [cell_set_off _ _ _ _ _ (by decide)]; exact h8⟩
theorem Box8.set2 {j : Nat} {w : World} {k fr to no lo hi sl : Int} {s : ByteArray} (h : Box8 w j k fr to no lo hi sl s) (x : Int) : Box8 (w.setCell ⟨j, 2, none⟩ (.int .i64 x)) j k fr x no lo hi sl s := by
  obtain ⟨h0, h1, h2, h3, h4, h5, h6, h7, h8⟩ := h
  exact ⟨by simpa using h0, by rw [cell_set_off _ _ _ _ _ (by decide)]; exact h1, by rw [cell_set_off _ _ _ _ _ (by decide)]; exact h2, World.cell?_setCell_same _ _ _ h3, by rw [cell_set_off _ _ _ _ _ (by decide)]; exact h4, by rw [cell_set_off _ _ _ _ _ (by decide)]; exact h5, by rw [cell_set_off _ _ _ _ _ (by decide)]; exact h6, by rw [cell_set_off _ _ _ _ _ (by decide)]; exact h7, by rw [cell_set_off _ _ _ _ _ (by decide)]; exact h8⟩
theorem Box8.set3 {j : Nat} {w : World} {k fr to no lo hi sl : Int} {s : ByteArray} (h : Box8 w j k fr to no lo hi sl s) (x : Int) : Box8 (w.setCell ⟨j, 3, none⟩ (.int .i64 x)) j k fr to x lo hi sl s := by
  obtain ⟨h0, h1, h2, h3, h4, h5, h6, h7, h8⟩ := h
  exact ⟨by simpa using h0, by rw [cell_set_off _ _ _ _ _ (by decide)]; exact h1, by rw [cell_set_off _ _ _ _ _ (by decide)]; exact h2, by rw [cell_set_off _ _ _ _ _ (by decide)]; exact h3, World.cell?_setCell_same _ _ _ h4, by rw [cell_set_off _ _ _ _ _ (by decide)]; exact h5, by rw [cell_set_off _ _ _ _ _ (by decide)]; exact h6, by rw [cell_set_off _ _ _ _ _ (by decide)]; exact h7, by rw [cell_set_off _ _ _ _ _ (by decide)]; exact h8⟩
theorem Box8.set4 {j : Nat} {w : World} {k fr to no lo hi sl : Int} {s : ByteArray} (h : Box8 w j k fr to no lo hi sl s) (x : Int) : Box8 (w.setCell ⟨j, 4, none⟩ (.int .i64 x)) j k fr to no x hi sl s := by
  obtain ⟨h0, h1, h2, h3, h4, h5, h6, h7, h8⟩ := h
  exact ⟨by simpa using h0, by rw [cell_set_off _ _ _ _ _ (by decide)]; exact h1, by rw [cell_set_off _ _ _ _ _ (by decide)]; exact h2, by rw [cell_set_off _ _ _ _ _ (by decide)]; exact h3, by rw [cell_set_off _ _ _ _ _ (by decide)]; exact h4, World.cell?_setCell_same _ _ _ h5, by rw [cell_set_off _ _ _ _ _ (by decide)]; exact h6, by rw [cell_set_off _ _ _ _ _ (by decide)]; exact h7, by rw [cell_set_off _ _ _ _ _ (by decide)]; exact h8⟩
theorem Box8.set5 {j : Nat} {w : World} {k fr to no lo hi sl : Int} {s : ByteArray} (h : Box8 w j k fr to no lo hi sl s) (x : Int) : Box8 (w.setCell ⟨j, 5, none⟩ (.int .i64 x)) j k fr to no lo x sl s := by
  obtain ⟨h0, h1, h2, h3, h4, h5, h6, h7, h8⟩ := h
  exact ⟨by simpa using h0, by rw [cell_set_off _ _ _ _ _ (by decide)]; exact h1, by rw [cell_set_off _ _ _ _ _ (by decide)]; exact h2, by rw [cell_set_off _ _ _ _ _ (by decide)]; exact h3, by rw [cell_set_off _ _ _ _ _ (by decide)]; exact h4, by rw [cell_set_off _ _ _ _ _ (by decide)]; exact h5, World.cell?_setCell_same _ _ _ h6, by rw [cell_set_off _ _ _ _ _ (by decide)]; exact h7, by rw [cell_set_off _ _ _ _ _ (by decide)]; exact h8⟩
theorem Box8.set6 {j : Nat} {w : World} {k fr to no lo hi sl : Int} {s : ByteArray} (h : Box8 w j k fr to no lo hi sl s) (x : Int) : Box8 (w.setCell ⟨j, 6, none⟩ (.int .i64 x)) j k fr to no lo hi x s := by
  obtain ⟨h0, h1, h2, h3, h4, h5, h6, h7, h8⟩ := h
  exact ⟨by simpa using h0, by rw [cell_set_off _ _ _ _ _ (by decide)]; exact h1, by rw [cell_set_off _ _ _ _ _ (by decide)]; exact h2, by rw [cell_set_off _ _ _ _ _ (by decide)]; exact h3, by rw [cell_set_off _ _ _ _ _ (by decide)]; exact h4, by rw [cell_set_off _ _ _ _ _ (by decide)]; exact h5, by rw [cell_set_off _ _ _ _ _ (by decide)]; exact h6, World.cell?_setCell_same _ _ _ h7, by rw [cell_set_off _ _ _ _ _ (by decide)]; exact h8⟩
theorem Box8.set7 {j : Nat} {w : World} {k fr to no lo hi sl : Int} {s : ByteArray} (h : Box8 w j k fr to no lo hi sl s) (x : ByteArray) : Box8 (w.setCell ⟨j, 7, none⟩ (.string x)) j k fr to no lo hi sl x := by
  obtain ⟨h0, h1, h2, h3, h4, h5, h6, h7, h8⟩ := h
  exact ⟨by simpa using h0, by rw [cell_set_off _ _ _ _ _ (by decide)]; exact h1, by rw [cell_set_off _ _ _ _ _ (by decide)]; exact h2, by rw [cell_set_off _ _ _ _ _ (by decide)]; exact h3, by rw [cell_set_off _ _ _ _ _ (by decide)]; exact h4, by rw [cell_set_off _ _ _ _ _ (by decide)]; exact h5, by rw [cell_set_off _ _ _ _ _ (by decide)]; exact h6, by rw [cell_set_off _ _ _ _ _ (by decide)]; exact h7, World.cell?_setCell_same _ _ _ h8⟩
theorem Thaw8.alloc {j : Nat} {w : World} (h : Thaw8 w j) (hj : j < w.heap.size) (o : Obj) : Thaw8 (w.alloc o) j := h.belowB ((Below.refl w.heap.size w).alloc (Nat.le_refl _) _) hj
end Go.Proofs.YtddjiamollfplaaDoor
