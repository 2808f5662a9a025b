/- What the draw of an oscillator leaves. -/
import Derived.Test.YtlfbbdeoejafkaaK1
import Derived.Test.YtlfbbdeoejafkaaO1
import Derived.WalkKit
import Derived.WalkSpells
import Derived.WalkLawsBesides
import Derived.Deep.RegionHeld
import Derived.Deep.RegionHeld3
namespace Go.Proofs.Ytlfbbdeoejafkaa
open Go.RowKit
set_option linter.unusedVariables false

theorem Box4.but {p k : Nat} {w w' : World} {a b c d : Int} (h : Box4 w k a b c d) (hw : But p w w') (hk : k ≠ p) : Box4 w' k a b c d := by
  obtain ⟨h0, h1, h2, h3, h4, f1, f2, f3, f4⟩ := h
  exact ⟨Nat.lt_of_lt_of_le h0 hw.2.2.2.1, by rw [hw.cell h0 hk]; exact h1, by rw [hw.cell h0 hk]; exact h2, by rw [hw.cell h0 hk]; exact h3, by rw [hw.cell h0 hk]; exact h4, by rw [hw.frozen h0 hk]; exact f1, by rw [hw.frozen h0 hk]; exact f2, by rw [hw.frozen h0 hk]; exact f3, by rw [hw.frozen h0 hk]; exact f4⟩
theorem Box4.setc {k : Nat} {w : World} {a b c d : Int} (h : Box4 w k a b c d) (c' : Int) : Box4 (w.setCell ⟨k, 2, none⟩ (.int .i64 c')) k a b c' d := by
  obtain ⟨h0, h1, h2, h3, h4, f1, f2, f3, f4⟩ := h
  have n0 : ∀ (j : Nat), 2 ≠ j → (w.setCell ⟨k, 2, none⟩ (.int .i64 c')).cell? ⟨k, j, none⟩ = w.cell? ⟨k, j, none⟩ := fun j hij => World.cell?_setCell_other _ _ _ _ (by intro e; exact hij (congrArg Addr.off e))
  exact ⟨by simpa using h0, by rw [n0 _ (by decide)]; exact h1, by rw [n0 _ (by decide)]; exact h2, World.cell?_setCell_same _ _ _ h3, by rw [n0 _ (by decide)]; exact h4, by simpa using f1, by simpa using f2, by simpa using f3, by simpa using f4⟩
theorem Box4.setd {k : Nat} {w : World} {a b c d : Int} (h : Box4 w k a b c d) (d' : Int) : Box4 (w.setCell ⟨k, 3, none⟩ (.int .i64 d')) k a b c d' := by
  obtain ⟨h0, h1, h2, h3, h4, f1, f2, f3, f4⟩ := h
  have n0 : ∀ (j : Nat), 3 ≠ j → (w.setCell ⟨k, 3, none⟩ (.int .i64 d')).cell? ⟨k, j, none⟩ = w.cell? ⟨k, j, none⟩ := fun j hij => World.cell?_setCell_other _ _ _ _ (by intro e; exact hij (congrArg Addr.off e))
  exact ⟨by simpa using h0, by rw [n0 _ (by decide)]; exact h1, by rw [n0 _ (by decide)]; exact h2, by rw [n0 _ (by decide)]; exact h3, World.cell?_setCell_same _ _ _ h4, by simpa using f1, by simpa using f2, by simpa using f3, by simpa using f4⟩
theorem CurOk.set4 {w : World} {B p k : Nat} (h : CurOk w B p) (hk : k ≠ p) (hB : B ≤ k) (a b c d : Int) : CurOk (set4 w k a b c d) B p := (((h.setOther hk hB _ _).setOther hk hB _ _).setOther hk hB _ _).setOther hk hB _ _
theorem But.set4 {p k : Nat} {u w : World} (h : But p u w) (hk : u.heap.size ≤ k) (a b c d : Int) : But p u (set4 w k a b c d) := (((h.setNew hk _ _).setNew hk _ _).setNew hk _ _).setNew hk _ _
set_option maxHeartbeats 4000000 in
theorem l3DrawOsc_any (B p : Nat) (w : World) (hcur : CurOk w B p) :
    Calls Try.prog 25 #[.pointer (some ⟨p, 0, none⟩)] w fun e w' => ∃ x y t u : Int, e = .returned (.agg #[.int .i64 x, .int .i64 y, .int .i64 t, .int .i64 u]) ∧ CurOk w' B p ∧ But p w w' := by
  have hpl := hcur.lt
  have hpw : w.heap.size ≠ p := by omega
  have hBw : B ≤ w.heap.size := by omega
  have A1 := Below.alc w (.cells #[.int .i64 0, .int .i64 0, .int .i64 0, .int .i64 0] 27)
  have R0 := Box4.new w 0 0 0 0 27
  go_enter Try.func25, Try.ntmps25
  go_wp2_with fail
  refine (l2DrawDrift_any B p _ (by exact hcur.below A1)).mono ?_
  rintro e w1 ⟨x, y, rfl, w1c, w1b⟩
  have R1 := R0.but w1b hpw
  have b1 : But p w w1 := (But.of_below A1).trans w1b
  clear R0 A1 w1b
  go_wp2_with fail
  refine (l1Below_any B p 300 _ w1c).mono ?_
  rintro e w2 ⟨t, rfl, -, -, -, -, w2c, w2b⟩
  have R2 := R1.but w2b hpw
  have b2 : But p w w2 := b1.trans w2b
  clear R1 b1 w2b w1c
  go_wp2_with fail
  refine (l1Below_any B p 300 _ w2c).mono ?_
  rintro e w3 ⟨u, rfl, -, -, -, -, w3c, w3b⟩
  have R3 := R2.but w3b hpw
  have b3 : But p w w3 := b2.trans w3b
  have q3 := w3c.lt
  have hk : w3.heap.size ≠ p := by omega
  have A3 := Below.alc w3 (.cells #[.int .i64 x, .int .i64 y, .int .i64 t, .int .i64 u] 27)
  have N3 := Box4.new w3 x y t u 27
  have hwk : w.heap.size < w3.heap.size := R3.1
  have hwk' : w.heap.size ≤ w3.heap.size := by omega
  have hBk : B ≤ w3.heap.size := by omega
  have n1 : w.heap.size ≠ w3.heap.size := by omega
  have n2 : w3.heap.size ≠ w.heap.size := by omega
  clear R2 b2 w3b w2c hcur
  go_wp2_with fail
  refine (l1Once_any B p 15 _ (by exact w3c.below A3)).mono ?_
  rintro e w4 ⟨o1, rfl, w4c, w4b⟩
  have R4 := (R3.below A3).but w4b hpw
  have N4 := N3.but w4b hk
  have b4 : But p w w4 := (b3.alloc _).trans w4b
  clear R3 N3 b3 w4b w3c A3
  generalize w3.heap.size = k at *
  cases o1
  · go_wp2_with fail
    refine (l1Once_any B p 15 _ w4c).mono ?_
    rintro e w5 ⟨o2, rfl, w5c, w5b⟩
    have R5 := R4.but w5b hpw
    have N5 := N4.but w5b hk
    have b5 : But p w w5 := b4.trans w5b
    clear R4 N4 b4 w5b w4c
    cases o2
    · obtain ⟨g1, g2, g3, g4, g5, g6, g7, g8, g9⟩ := R5; obtain ⟨m1, m2, m3, m4, m5, m6, m7, m8, m9⟩ := N5; go_wp2_with fail; exact bodyPost_ret (v := .agg #[.int .i64 x, .int .i64 y, .int .i64 t, .int .i64 u]) (by simp (maxDischargeDepth := 6) [results, Try.results25, go_sem, *]) rfl ⟨_, _, _, _, rfl, CurOk.set4 w5c hpw hBw _ _ _ _, But.set4 b5 (Nat.le_refl _) _ _ _ _⟩
    · go_wp2_with fail
      refine (l2DrawCount_any B p _ w5c).mono ?_
      rintro e w6 ⟨u2, rfl, w6c, w6b⟩
      have R6 := R5.but w6b hpw
      have N6 := N5.but w6b hk
      have b6 : But p w w6 := b5.trans w6b
      clear R5 N5 b5 w6b w5c
      obtain ⟨g1, g2, g3, g4, g5, g6, g7, g8, g9⟩ := R6; obtain ⟨m1, m2, m3, m4, m5, m6, m7, m8, m9⟩ := N6; go_wp2_with fail; exact bodyPost_ret (v := .agg #[.int .i64 x, .int .i64 y, .int .i64 t, .int .i64 u2]) (by simp (maxDischargeDepth := 6) [results, Try.results25, go_sem, *]) rfl ⟨_, _, _, _, rfl, CurOk.set4 (w6c.setOther hk hBk _ _) hpw hBw _ _ _ _, But.set4 (b6.setNew hwk' _ _) (Nat.le_refl _) _ _ _ _⟩
  · go_wp2_with fail
    refine (l2DrawCount_any B p _ w4c).mono ?_
    rintro e w5 ⟨t2, rfl, w5c, w5b⟩
    have R5 := (R4.but w5b hpw).setO n2 2 (.int .i64 t2)
    have N5 := (N4.but w5b hk).setc t2
    have b5 : But p w (w5.setCell ⟨k, 2, none⟩ (.int .i64 t2)) := (b4.trans w5b).setNew hwk' _ _
    have w5c' : CurOk (w5.setCell ⟨k, 2, none⟩ (.int .i64 t2)) B p := w5c.setOther hk hBk _ _
    obtain ⟨m1, m2, m3, m4, m5, m6, m7, m8, m9⟩ := N4.but w5b hk
    clear R4 N4 b4 w5b w4c w5c
    go_wp2_with fail
    clear m1 m2 m3 m4 m5 m6 m7 m8 m9
    refine (l1Once_any B p 15 _ w5c').mono ?_
    rintro e w6 ⟨o2, rfl, w6c, w6b⟩
    have R6 := R5.but w6b hpw
    have N6 := N5.but w6b hk
    have b6 : But p w w6 := b5.trans w6b
    clear R5 N5 b5 w6b w5c'
    cases o2
    · obtain ⟨g1, g2, g3, g4, g5, g6, g7, g8, g9⟩ := R6; obtain ⟨m1, m2, m3, m4, m5, m6, m7, m8, m9⟩ := N6; go_wp2_with fail; exact bodyPost_ret (v := .agg #[.int .i64 x, .int .i64 y, .int .i64 t2, .int .i64 u]) (by simp (maxDischargeDepth := 6) [results, Try.results25, go_sem, *]) rfl ⟨_, _, _, _, rfl, CurOk.set4 w6c hpw hBw _ _ _ _, But.set4 b6 (Nat.le_refl _) _ _ _ _⟩
    · go_wp2_with fail
      refine (l2DrawCount_any B p _ w6c).mono ?_
      rintro e w7 ⟨u2, rfl, w7c, w7b⟩
      have R7 := R6.but w7b hpw
      have N7 := N6.but w7b hk
      have b7 : But p w w7 := b6.trans w7b
      clear R6 N6 b6 w7b w6c
      obtain ⟨g1, g2, g3, g4, g5, g6, g7, g8, g9⟩ := R7; obtain ⟨m1, m2, m3, m4, m5, m6, m7, m8, m9⟩ := N7; go_wp2_with fail; exact bodyPost_ret (v := .agg #[.int .i64 x, .int .i64 y, .int .i64 t2, .int .i64 u2]) (by simp (maxDischargeDepth := 6) [results, Try.results25, go_sem, *]) rfl ⟨_, _, _, _, rfl, CurOk.set4 (w7c.setOther hk hBk _ _) hpw hBw _ _ _ _, But.set4 (b7.setNew hwk' _ _) (Nat.le_refl _) _ _ _ _⟩
end Go.Proofs.Ytlfbbdeoejafkaa
