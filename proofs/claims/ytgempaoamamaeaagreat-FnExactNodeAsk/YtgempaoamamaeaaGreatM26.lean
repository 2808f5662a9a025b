/- A copy of a table (the specification). -/
import Derived.Test.YtgempaoamamaeaaGreatM18
namespace Go.Proofs.YtgempaoamamaeaaGreat
open Go.RowKit
set_option linter.unusedVariables false
theorem Bx3.set {w : World} {j : Nat} {u0 u1 u2 : Value} (h : Bx3 w j u0 u1 u2) (a0 a1 a2 : Value) : Bx3 (((w.setCell ⟨j, 0, none⟩ a0).setCell ⟨j, 1, none⟩ a1).setCell ⟨j, 2, none⟩ a2) j a0 a1 a2 := by
  obtain ⟨h0, h1, h2, h3, h4, h5, h6⟩ := h
  have e1 : (w.setCell ⟨j, 0, none⟩ a0).cell? ⟨j, 1, none⟩ = some u1 := (World.cell?_setCell_other _ _ _ _ (by simp)).trans h2
  have e2 : ((w.setCell ⟨j, 0, none⟩ a0).setCell ⟨j, 1, none⟩ a1).cell? ⟨j, 2, none⟩ = some u2 := (World.cell?_setCell_other _ _ _ _ (by simp)).trans ((World.cell?_setCell_other _ _ _ _ (by simp)).trans h3)
  refine ⟨by simpa using h0, ?_, ?_, World.cell?_setCell_same _ _ _ e2, by simpa using h4, by simpa using h5, by simpa using h6⟩
  · exact (World.cell?_setCell_other _ _ _ _ (by simp)).trans ((World.cell?_setCell_other _ _ _ _ (by simp)).trans (World.cell?_setCell_same _ _ _ h1))
  · exact (World.cell?_setCell_other _ _ _ _ (by simp)).trans (World.cell?_setCell_same _ _ _ e1)
theorem krow_add {G : Nat → KT} {k : Nat} {x0 x1 x2 x3 : Int} (h : G k = (x0, x1, x2, x3)) : krow G k ++ [.int .i64 x0, .int .i64 x1, .int .i64 x2, .int .i64 x3] = krow G (k + 1) := by
  obtain ⟨q0, q1, q2, q3⟩ := MFAsk_vals h
  unfold krow
  rw [show (k + 1) * 4 = k * 4 + 1 + 1 + 1 + 1 by omega, List.range_succ, List.range_succ, List.range_succ, List.range_succ]
  simp only [List.map_append, List.map_cons, List.map_nil, List.append_assoc, List.cons_append, List.nil_append]
  rw [q0, q1, q2, q3]
theorem krow_congr {G H : Nat → KT} {m : Nat} (h : ∀ j, j < m → G j = H j) : krow G m = krow H m := by
  unfold krow
  refine List.map_congr_left fun j hj => ?_
  rw [List.mem_range] at hj
  unfold MFAsk
  rw [h (j / 4) (by omega)]
theorem froz_grown {w w' : World} {o : Option Nat} {b i : Nat} (hg : w.grownBy w' o) (hb : b < w.heap.size) (hne : some b ≠ o) : w'.frozen? ⟨b, i, none⟩ = w.frozen? ⟨b, i, none⟩ := by
  have := hg.block b hb hne
  simp only [World.frozen?]
  rw [this]
theorem Bx3.kept3 {w w' : World} {o : Option Nat} {j : Nat} {u0 u1 u2 : Value} (h : Bx3 w j u0 u1 u2) (hg : w.grownBy w' o) (hne : some j ≠ o) : Bx3 w' j u0 u1 u2 := by
  obtain ⟨h0, h1, h2, h3, h4, h5, h6⟩ := h
  exact ⟨Nat.lt_of_lt_of_le h0 hg.size, by rw [cell_grown hg h0 hne]; exact h1, by rw [cell_grown hg h0 hne]; exact h2, by rw [cell_grown hg h0 hne]; exact h3, by rw [froz_grown hg h0 hne]; exact h4, by rw [froz_grown hg h0 hne]; exact h5, by rw [froz_grown hg h0 hne]; exact h6⟩
end Go.Proofs.YtgempaoamamaeaaGreat
