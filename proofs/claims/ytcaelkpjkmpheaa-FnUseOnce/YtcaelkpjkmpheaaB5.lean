/- What the laws of tables keep: rows, boxes, marks. -/
import Derived.Test.YtcaelkpjkmpheaaB4
import Derived.WalkKit
import Derived.WalkSpells
import Derived.WalkLawsBesides
import Derived.Deep.RegionHeld
namespace Go.Proofs.Ytcaelkpjkmpheaa
open Go.RowKit
set_option linter.unusedVariables false
def SrcK (w : World) (a : Option Addr) (m : Nat) (F : Nat → Value) (L : Nat) : Prop := m = 0 ∨ ∃ b off, a = some ⟨b, off, none⟩ ∧ b < L ∧ Cs w b off m F
theorem SrcK.of {w : World} {a : Option Addr} {m : Nat} {F : Nat → Value} (h : SrcC w a m F) : SrcK w a m F w.heap.size := by
  rcases h with h | ⟨b, off, h1, h2⟩
  · exact .inl h
  · exact .inr ⟨b, off, h1, h2.1, h2⟩
theorem SrcK.src {w : World} {a : Option Addr} {m L : Nat} {F : Nat → Value} (h : SrcK w a m F L) : SrcC w a m F := by
  rcases h with h | ⟨b, off, h1, _, h2⟩
  · exact .inl h
  · exact .inr ⟨b, off, h1, h2⟩
theorem SrcK.below {w w' : World} {a : Option Addr} {m L : Nat} {F : Nat → Value} (h : SrcK w a m F L) (hb : Below w.heap.size w w') : SrcK w' a m F L := by
  rcases h with h | ⟨b, off, h1, h3, h2⟩
  · exact .inl h
  · exact .inr ⟨b, off, h1, h3, h2.below hb h2.1⟩
theorem Cs.kept {w w' : World} {o : Option Nat} {b off N : Nat} {F : Nat → Value} (h : Cs w b off N F) (hg : w.grownBy w' o) (hne : some b ≠ o) : Cs w' b off N F :=
  ⟨Nat.lt_of_lt_of_le h.1 hg.size, fun j hj => by
    have := hg.block b h.1 hne
    have q := h.2 j hj
    simp only [World.cell?] at q ⊢
    rw [this]; exact q⟩
theorem SrcK.kept {w w' : World} {o : Option Nat} {a : Option Addr} {m L : Nat} {F : Nat → Value} (h : SrcK w a m F L) (hg : w.grownBy w' o) (hne : ∀ b, b < L → some b ≠ o) : SrcK w' a m F L := by
  rcases h with h | ⟨b, off, h1, h3, h2⟩
  · exact .inl h
  · exact .inr ⟨b, off, h1, h3, h2.kept hg (hne b h3)⟩
theorem SrcC.keptK {w w' : World} {o : Option Nat} {a : Option Addr} {m : Nat} {F : Nat → Value} (h : SrcC w a m F) (hg : w.grownBy w' o) (hne : ∀ b off, a = some ⟨b, off, none⟩ → some b ≠ o) : SrcC w' a m F := by
  rcases h with h | ⟨b, off, h1, h2⟩
  · exact .inl h
  · exact .inr ⟨b, off, h1, h2.kept hg (hne b off h1)⟩
theorem cell_grown {w w' : World} {o : Option Nat} {b i : Nat} (hg : w.grownBy w' o) (hb : b < w.heap.size) (hne : some b ≠ o) : w'.cell? ⟨b, i, none⟩ = w.cell? ⟨b, i, none⟩ := by
  have := hg.block b hb hne
  simp only [World.cell?]
  rw [this]
theorem IB3.kept {w w' : World} {o : Option Nat} {j : Nat} {ep us : Int} {a : Option Addr} {n c : Nat} (h : IB3 w j ep us a n c) (hg : w.grownBy w' o) (hne : some j ≠ o) : IB3 w' j ep us a n c :=
  ⟨Nat.lt_of_lt_of_le h.1 hg.size, by rw [cell_grown hg h.1 hne]; exact h.2.1, by rw [cell_grown hg h.1 hne]; exact h.2.2.1, by rw [cell_grown hg h.1 hne]; exact h.2.2.2⟩
theorem Bk4.kept {w w' : World} {o : Option Nat} {j : Nat} {x0 x1 x2 x3 : Int} (h : Bk4 w j x0 x1 x2 x3) (hg : w.grownBy w' o) (hne : some j ≠ o) : Bk4 w' j x0 x1 x2 x3 :=
  ⟨Nat.lt_of_lt_of_le h.1 hg.size, by rw [cell_grown hg h.1 hne]; exact h.2.1, by rw [cell_grown hg h.1 hne]; exact h.2.2.1, by rw [cell_grown hg h.1 hne]; exact h.2.2.2.1, by rw [cell_grown hg h.1 hne]; exact h.2.2.2.2⟩
theorem Bk4.drew {w : World} {j : Nat} {x0 x1 x2 x3 : Int} (h : Bk4 w j x0 x1 x2 x3) : Bk4 w.drew j x0 x1 x2 x3 := h
theorem grown_bel {w w' : World} {o : Option Nat} {B : Nat} (hg : w.grownBy w' o) (hB : B ≤ w.heap.size) (hne : ∀ b, b < B → some b ≠ o) : Below B w w' := ⟨hg.os, hg.tape, hg.output, hg.size, fun k hk => hg.block k (by omega) (hne k hk)⟩
theorem bel_grown {w w' : World} (h : Below w.heap.size w w') : w.grownBy w' none := ⟨h.os, h.tape, h.output, h.size, fun k hk _ => h.block k hk⟩
theorem own_at {w : World} {base : Nat} {e : TypeId} {s n c : Nat} {a : Option Addr} {xs : List Value} (h : w.ownsRow base e s (.slice a n c) n xs) {b off : Nat} (ha : a = some ⟨b, off, none⟩) : (Value.slice a n c).ownBlock = some b := by
  rcases h.2 with ⟨he, _⟩ | ⟨g, cap, cur, he, _⟩
  · simp at he; rw [he.1] at ha; cases ha
  · simp at he; rw [he.1] at ha; simp at ha; rw [he.1, ← ha.1]; rfl
theorem markAskS_own (a : Option Addr) (n c base : Nat) (q0 : Int) (xs : List Value) (w : World) (hn : n ≤ 1048576) (hq : 0 < q0) (hq1 : q0 ≤ 1073741824) (h : w.ownsRow base 34 4 (.slice a n c) n xs) :
    Calls Try.prog 26 #[.slice a n c, .int .i64 q0] w fun e w' => e = .returned (.int .i64 (q0 + (n : Int) * 4)) ∧ SrcC w' a (n * 4) (mkAsk q0) ∧ w.grownBy w' (Value.slice a n c).ownBlock := by
  rcases h.2 with ⟨he, h0⟩ | ⟨g, cap, cur, he, _⟩
  · simp at he
    obtain ⟨rfl, rfl, rfl⟩ := he
    exact (markAskS_zero none 0 q0 w).mono fun e w' ⟨h1, h2⟩ => ⟨by rw [h1]; simp, .inl (by omega), h2 ▸ bel_grown (Below.refl _ _)⟩
  · simp at he
    obtain ⟨rfl, rfl⟩ := he
    obtain ⟨h1, h2, _, h3⟩ := ownF_row (mkAsk q0) h
    exact (markAskS_row g (c * 4) n c q0 w hn hq hq1 (Nat.mul_le_mul_right _ h2) h3).mono fun e w' ⟨r1, r2, r3⟩ => ⟨r1, .inr ⟨g, 0, rfl, r2.cs (Nat.mul_le_mul_right _ h2)⟩, r3.grK⟩
set_option maxHeartbeats 2000000 in
theorem markTable_own (ep us : Int) (a : Option Addr) (n c base : Nat) (xs : List Value) (w : World) (hn : n ≤ 1048576) (h : w.ownsRow base 34 4 (.slice a n c) n xs) :
    Calls Try.prog 25 #[.agg #[.int .i64 ep, .int .i64 us, .slice a n c], .int .i64 1] w fun e w' => e = .returned (.int .i64 (1 + (n : Int) * 4)) ∧ SrcC w' a (n * 4) (mkAsk 1) ∧ w.grownBy w' (Value.slice a n c).ownBlock := by
  have A0 := Below.nw w (.cells #[.int .i64 ep, .int .i64 us, .slice a n c] 26)
  have C := markAskS_own a n c base 1 xs _ hn (by omega) (by omega) (World.ownsRow.alloc h (.cells #[.int .i64 ep, .int .i64 us, .slice a n c] 26))
  have hlt : ∀ g, (Value.slice a n c).ownBlock = some g → g < w.heap.size := fun g hg => (World.ownsRow.lt h g hg).2
  clear h
  go_enter Try.func25, Try.ntmps25
  go_wp2_with fail
  refine C.mono ?_
  rintro e w1 ⟨rfl, R1, hg⟩
  have G : w.grownBy w1 (Value.slice a n c).ownBlock := ⟨hg.os.trans A0.os, hg.tape.trans A0.tape, hg.output.trans A0.output, Nat.le_trans A0.size hg.size, fun k hk hne => (hg.block k (Nat.lt_of_lt_of_le hk A0.size) hne).trans (A0.block k hk)⟩
  go_wp2_with fail
  go_ret
  exact ⟨rfl, R1, G⟩
end Go.Proofs.Ytcaelkpjkmpheaa
