/- Lists of asks; the contract of a book its takeLate. -/
import Derived.Shelf.SlIterI.Nil
import Derived.Shelf.SortM.Plain
import Derived.Shelf.SortM.SortNone
import Derived.Test.YtgempaoamamaeaaGreatProg
import Derived.OwnWalkIn
import Derived.TacticsInMore
import Derived.Test.YtgempaoamamaeaaGreatM54
namespace Go.Proofs.YtgempaoamamaeaaGreat
open Go.RowKit
set_option linter.unusedVariables false
def rowL (L : List KT) (j : Nat) : KT := L.getD j zK
theorem rowL_app {L : List KT} {a : KT} {j : Nat} : rowL (L ++ [a]) j = if j = L.length then a else rowL L j := by
  unfold rowL
  by_cases h : j = L.length
  · rw [if_pos h, h]; simp
  · rw [if_neg h]
    by_cases h2 : j < L.length
    · simp [List.getElem?_append_left h2]
    · have e1 : (L ++ [a])[j]? = none := List.getElem?_eq_none (by simp; omega)
      have e2 : L[j]? = none := List.getElem?_eq_none (by omega)
      simp [e1, e2]
def FL (F : Int → Option KT) (L : List KT) : Prop := FA F (rowL L) L.length
theorem FA.congr {F : Int → Option KT} {A C : Nat → KT} {m : Nat} (h : FA F A m) (e : ∀ j, j < m → A j = C j) : FA F C m :=
  ⟨fun i j hij hj => by rw [← e i (by omega), ← e j hj]; exact h.1 i j hij hj, fun j hj => by rw [← e j hj]; exact h.2.1 j hj, fun x hx => h.2.2 x fun j hj => by rw [e j hj]; exact hx j hj⟩
end Go.Proofs.YtgempaoamamaeaaGreat
