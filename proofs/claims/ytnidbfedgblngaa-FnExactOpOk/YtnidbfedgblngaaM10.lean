/- A struct in memory, told by the array of its cells. -/
import Derived.Test.YtnidbfedgblngaaM9
namespace Go.Proofs.Ytnidbfedgblngaa
open Go.RowKit
set_option linter.unusedVariables false
def Bo (w : World) (k : Nat) (A : Array Value) : Prop := k < w.heap.size ∧ (∀ i u, A[i]? = some u → w.cell? ⟨k, i, none⟩ = some u) ∧ ∀ i, i < A.size → w.frozen? ⟨k, i, none⟩ = false
theorem Bo.belowB {k B : Nat} {w w' : World} {A : Array Value} (h : Bo w k A) (hw : Below B w w') (hk : k < B) : Bo w' k A :=
  ⟨Nat.lt_of_lt_of_le h.1 hw.size, fun i u hi => by rw [hw.cell (p := ⟨k, i, none⟩) hk]; exact h.2.1 i u hi, fun i hi => by rw [hw.frozen (p := ⟨k, i, none⟩) hk]; exact h.2.2 i hi⟩
theorem Bo.below {k : Nat} {w w' : World} {A : Array Value} (h : Bo w k A) (hw : Below w.heap.size w w') : Bo w' k A := h.belowB hw h.1
theorem Bo.new (w : World) (A : Array Value) (T : TypeId) : Bo (w.alloc (.cells A T)) w.heap.size A :=
  ⟨by simp, fun i u hi => by simp [hi], fun i hi => by simp⟩
theorem Bo.drew {k : Nat} {w : World} {A : Array Value} (h : Bo w k A) : Bo w.drew k A := h
theorem add_at (k o i : Nat) : (⟨k, o, none⟩ : Addr).add i = ⟨k, o + i, none⟩ := by
  unfold Addr.add; split <;> simp_all
def putA (w : World) (k : Nat) : Nat → List Value → World
  | _, [] => w
  | o, u :: us => putA (w.setCell ⟨k, o, none⟩ u) k (o + 1) us
def spl (A : Array Value) : Nat → List Value → Array Value
  | _, [] => A
  | o, u :: us => spl (A.setIfInBounds o u) (o + 1) us
theorem Bo.set {w : World} {k : Nat} {A : Array Value} (h : Bo w k A) (o : Nat) (u : Value) : Bo (w.setCell ⟨k, o, none⟩ u) k (A.setIfInBounds o u) := by
  refine ⟨by simpa using h.1, fun i x hi => ?_, fun i hi => ?_⟩
  · by_cases e : o = i
    · subst e
      by_cases ho : o < A.size
      · rw [Array.getElem?_setIfInBounds_self_of_lt ho] at hi
        cases hi
        exact World.cell?_setCell_same _ _ _ (h.2.1 o A[o] (Array.getElem?_eq_getElem ho))
      · rw [Array.getElem?_eq_none (by simp; omega)] at hi
        cases hi
    · rw [Array.getElem?_setIfInBounds_ne e] at hi
      rw [World.cell?_setCell_other _ _ _ _ (by simp)]
      exact h.2.1 i x hi
  · have := h.2.2 i (by simpa using hi)
    simpa using this
theorem Bo.put {k : Nat} : ∀ (us : List Value) {w : World} {A : Array Value} (o : Nat), Bo w k A → Bo (putA w k o us) k (spl A o us)
  | [], _, _, _, h => h
  | u :: us, _, _, o, h => Bo.put us (o + 1) (h.set o u)
theorem Bo.cell {w : World} {k : Nat} {A : Array Value} (h : Bo w k A) {i : Nat} {u : Value} (hi : A[i]? = some u) : w.cell? ⟨k, i, none⟩ = some u := h.2.1 i u hi
end Go.Proofs.Ytnidbfedgblngaa
