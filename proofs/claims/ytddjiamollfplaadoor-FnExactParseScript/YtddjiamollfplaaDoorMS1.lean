/- The cursor of the draws: what l1Byte, l1Below, l1Once and l1PickInt leave. -/
import Derived.Test.YtddjiamollfplaaDoorRows
import Derived.WalkKit
import Derived.WalkSpells
import Derived.WalkLawsBesides
import Derived.Deep.QuietTactic
import Derived.BigQuiet
namespace Go.Proofs.YtddjiamollfplaaDoor
open Go.RowKit
set_option linter.unusedVariables false
def But (p : Nat) (w w' : World) : Prop := w'.os = w.os ∧ w'.tape = w.tape ∧ w'.output = w.output ∧ w.heap.size ≤ w'.heap.size ∧ ∀ k, k < w.heap.size → k ≠ p → w'.heap[k]? = w.heap[k]?
theorem But.refl (p : Nat) (w : World) : But p w w := ⟨rfl, rfl, rfl, Nat.le_refl _, fun _ _ _ => rfl⟩
theorem But.trans {p : Nat} {a b c : World} (h : But p a b) (k : But p b c) : But p a c :=
 ⟨k.1.trans h.1, k.2.1.trans h.2.1, k.2.2.1.trans h.2.2.1, Nat.le_trans h.2.2.2.1 k.2.2.2.1, fun i hi hp => (k.2.2.2.2 i (Nat.lt_of_lt_of_le hi h.2.2.2.1) hp).trans (h.2.2.2.2 i hi hp)⟩
theorem But.drewN {p : Nat} {a w : World} (h : But p a w) (n : Nat) : But p a (w.drewN n) := h
theorem But.setCell {p : Nat} {a w : World} (h : But p a w) (o : Nat) (u : Value) : But p a (w.setCell ⟨p, o, none⟩ u) :=
 ⟨h.1, h.2.1, h.2.2.1, by rw [World.size_setCell]; exact h.2.2.2.1, fun k hk hp => (Below.heap_setCell w ⟨p, o, none⟩ u k hp).trans (h.2.2.2.2 k hk hp)⟩
theorem But.below {p B : Nat} {w w' : World} (h : But p w w') (hB : B ≤ p) (hs : B ≤ w.heap.size) : Below B w w' := ⟨h.1, h.2.1, h.2.2.1, h.2.2.2.1, fun k hk => h.2.2.2.2 k (by omega) (by omega)⟩
theorem But.cell {p k o : Nat} {w w' : World} (h : But p w w') (hk : k < w.heap.size) (hp : k ≠ p) : w'.cell? ⟨k, o, none⟩ = w.cell? ⟨k, o, none⟩ := World.cell?_of_block (w := w) (h.2.2.2.2 k hk hp)
theorem But.frozen {p k o : Nat} {w w' : World} (h : But p w w') (hk : k < w.heap.size) (hp : k ≠ p) : w'.frozen? ⟨k, o, none⟩ = w.frozen? ⟨k, o, none⟩ := World.frozen?_of_block (w := w) (h.2.2.2.2 k hk hp)
def CodeB (w : World) (B : Nat) (a : Option Addr) (n : Nat) : Prop := n = 0 ∨ ∃ b off, a = some ⟨b, off, none⟩ ∧ b < B ∧ ∀ i, i < n → ∃ z : Int, w.cell? ⟨b, off + i, none⟩ = some (.int .u8 z) ∧ 0 ≤ z ∧ z ≤ 255
theorem CodeB.below {w w' : World} {B : Nat} {a : Option Addr} {n : Nat} (h : CodeB w B a n) (hb : Below B w w') : CodeB w' B a n := by
 rcases h with h | ⟨b, off, h1, h2, h3⟩
 ·exact .inl h
 ·exact .inr ⟨b, off, h1, h2, fun i hi => by
   obtain ⟨z, e, hz⟩ := h3 i hi
   exact ⟨z, by rw [hb.cell (p := ⟨b, off + i, none⟩) h2]; exact e, hz⟩⟩
def CurAt (w : World) (B p : Nat) (a : Option Addr) (n c i : Nat) (h : Int) : Prop :=
 w.cell? ⟨p, 0, none⟩ = some (.slice a n c) ∧ w.cell? ⟨p, 1, none⟩ = some (.int .i64 i) ∧ w.cell? ⟨p, 2, none⟩ = some (.int .i64 h) ∧
 w.frozen? ⟨p, 0, none⟩ = false ∧ w.frozen? ⟨p, 1, none⟩ = false ∧ w.frozen? ⟨p, 2, none⟩ = false ∧ i ≤ n ∧ n ≤ 1048576 ∧ CodeB w B a n ∧ B ≤ p ∧ p < w.heap.size
def CurOk (w : World) (B p : Nat) : Prop := ∃ a n c i h, CurAt w B p a n c i h
theorem CurOk.lt {w : World} {B p : Nat} (h : CurOk w B p) : p < w.heap.size ∧ B ≤ p := by
 obtain ⟨a, n, c, i, hh, h⟩ := h
 exact ⟨h.2.2.2.2.2.2.2.2.2.2, h.2.2.2.2.2.2.2.2.2.1⟩
theorem CurOk.below {w w' : World} {B p : Nat} (h : CurOk w B p) (hb : Below w.heap.size w w') : CurOk w' B p := by
 obtain ⟨a, n, c, i, hh, h0, h1, h2, f0, f1, f2, hi, hn, hc, hB, hp⟩ := h
 refine ⟨a, n, c, i, hh, ?_, ?_, ?_, ?_, ?_, ?_, hi, hn, hc.below (hb.mono (by omega)), hB, Nat.lt_of_lt_of_le hp hb.size⟩
 ·rw [hb.cell (p := ⟨p, 0, none⟩) hp]; exact h0
 ·rw [hb.cell (p := ⟨p, 1, none⟩) hp]; exact h1
 ·rw [hb.cell (p := ⟨p, 2, none⟩) hp]; exact h2
 ·rw [hb.frozen (p := ⟨p, 0, none⟩) hp]; exact f0
 ·rw [hb.frozen (p := ⟨p, 1, none⟩) hp]; exact f1
 ·rw [hb.frozen (p := ⟨p, 2, none⟩) hp]; exact f2
theorem CurAt.drewN {w : World} {B p : Nat} {a : Option Addr} {n c i : Nat} {h : Int} (hc : CurAt w B p a n c i h) (m : Nat) : CurAt (w.drewN m) B p a n c i h := hc
end Go.Proofs.YtddjiamollfplaaDoor
