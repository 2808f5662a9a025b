/- What the laws of tables keep: rows, boxes, marks. -/
import Derived.Test.YtgempaoamamaeaaGreatM58
namespace Go.Proofs.YtgempaoamamaeaaGreat
open Go.RowKit
set_option linter.unusedVariables false
theorem IB3.kept {w w' : World} {o : Option Nat} {j : Nat} {ep us : Int} {a : Option Addr} {n c : Nat} (h : IB3 w j ep us a n c) (hg : w.grownBy w' o) (hne : some j ≠ o) : IB3 w' j ep us a n c :=
  ⟨Nat.lt_of_lt_of_le h.1 hg.size, by rw [cell_grown hg h.1 hne]; exact h.2.1, by rw [cell_grown hg h.1 hne]; exact h.2.2.1, by rw [cell_grown hg h.1 hne]; exact h.2.2.2⟩
theorem Bk4.kept {w w' : World} {o : Option Nat} {j : Nat} {x0 x1 x2 x3 : Int} (h : Bk4 w j x0 x1 x2 x3) (hg : w.grownBy w' o) (hne : some j ≠ o) : Bk4 w' j x0 x1 x2 x3 :=
  ⟨Nat.lt_of_lt_of_le h.1 hg.size, by rw [cell_grown hg h.1 hne]; exact h.2.1, by rw [cell_grown hg h.1 hne]; exact h.2.2.1, by rw [cell_grown hg h.1 hne]; exact h.2.2.2.1, by rw [cell_grown hg h.1 hne]; exact h.2.2.2.2⟩
theorem Bk4.drew {w : World} {j : Nat} {x0 x1 x2 x3 : Int} (h : Bk4 w j x0 x1 x2 x3) : Bk4 w.drew j x0 x1 x2 x3 := h
end Go.Proofs.YtgempaoamamaeaaGreat
