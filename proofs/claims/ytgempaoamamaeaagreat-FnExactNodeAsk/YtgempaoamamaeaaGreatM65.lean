/- Contracts of a book: ask with its frame, retry. -/
import Derived.Test.YtgempaoamamaeaaGreatM61
import Derived.Test.YtgempaoamamaeaaGreatM64
namespace Go.Proofs.YtgempaoamamaeaaGreat
open Go.RowKit
set_option linter.unusedVariables false
def But2K (p q : Nat) (w w' : World) : Prop := w'.os = w.os ∧ w'.tape = w.tape ∧ w'.output = w.output ∧ w.heap.size ≤ w'.heap.size ∧ ∀ k, k < w.heap.size → k ≠ p → k ≠ q → w'.heap[k]? = w.heap[k]?
theorem But2K.refl (p q : Nat) (w : World) : But2K p q w w := ⟨rfl, rfl, rfl, Nat.le_refl _, fun _ _ _ _ => rfl⟩
theorem But2K.trans {p q : Nat} {a b c : World} (h : But2K p q a b) (k : But2K p q b c) : But2K p q a c :=
  ⟨k.1.trans h.1, k.2.1.trans h.2.1, k.2.2.1.trans h.2.2.1, Nat.le_trans h.2.2.2.1 k.2.2.2.1, fun j hj h1 h2 => (k.2.2.2.2 j (Nat.lt_of_lt_of_le hj h.2.2.2.1) h1 h2).trans (h.2.2.2.2 j hj h1 h2)⟩
theorem But2K.ofBelow {p q : Nat} {w w' : World} (h : Below w.heap.size w w') : But2K p q w w' := ⟨h.os, h.tape, h.output, h.size, fun k hk _ _ => h.block k hk⟩
theorem But2K.below {p q B : Nat} {w w' : World} (h : But2K p q w w') (hp : B ≤ p) (hq : B ≤ q) (hs : B ≤ w.heap.size) : Below B w w' := ⟨h.1, h.2.1, h.2.2.1, h.2.2.2.1, fun k hk => h.2.2.2.2 k (by omega) (by omega) (by omega)⟩
theorem But2K.cell {p q k i : Nat} {w w' : World} (h : But2K p q w w') (hk : k < w.heap.size) (h1 : k ≠ p) (h2 : k ≠ q) : w'.cell? ⟨k, i, none⟩ = w.cell? ⟨k, i, none⟩ := by
  have := h.2.2.2.2 k hk h1 h2
  simp only [World.cell?]
  rw [this]
theorem FL.add {F : Int → Option KT} {L : List KT} {a : KT} {nn : Int} (h : FL F L) (ha : a.1 = nn) (hlt : ∀ b ∈ L, b.1 < nn) : FL (fun q => if q = nn then some a else F q) (L ++ [a]) := by
  have h1 := FA.add h ha (fun j hj => hlt _ (by unfold rowL; rw [List.getD_eq_getElem?_getD, List.getElem?_eq_getElem hj]; exact List.getElem_mem hj))
  unfold FL
  rw [List.length_append]
  exact h1.congr fun j hj => by rw [rowL_app]; rfl
end Go.Proofs.YtgempaoamamaeaaGreat
