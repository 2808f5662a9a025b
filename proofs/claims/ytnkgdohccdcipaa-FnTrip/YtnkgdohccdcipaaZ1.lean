/- What the draws of a local interval, its drift and a count leave. -/
import Derived.Test.YtnkgdohccdcipaaK1
import Derived.Test.YtnkgdohccdcipaaQ1
import Derived.WalkKit
import Derived.WalkSpells
import Derived.WalkLawsBesides
import Derived.Deep.RegionHeld
import Derived.Deep.RegionHeld3
namespace Go.Proofs.Ytnkgdohccdcipaa
open Go.RowKit
set_option linter.unusedVariables false
theorem BoxL.but {p k : Nat} {w w' : World} {a : Bool} {b c d : Int} (h : BoxL w k a b c d) (hw : But p w w') (hk : k ≠ p) : BoxL w' k a b c d := by
  obtain ⟨h0, h1, h2, h3, h4, f1, f2, f3, f4⟩ := h
  exact ⟨Nat.lt_of_lt_of_le h0 hw.2.2.2.1, by rw [hw.cell h0 hk]; exact h1, by rw [hw.cell h0 hk]; exact h2, by rw [hw.cell h0 hk]; exact h3, by rw [hw.cell h0 hk]; exact h4, by rw [hw.frozen h0 hk]; exact f1, by rw [hw.frozen h0 hk]; exact f2, by rw [hw.frozen h0 hk]; exact f3, by rw [hw.frozen h0 hk]; exact f4⟩
theorem Bx.butD {p k : Nat} {w w' : World} {x y : Int} (h : Bx w k x y) (hw : But p w w') (hk : k ≠ p) : Bx w' k x y :=
  ⟨Nat.lt_of_lt_of_le h.1 hw.2.2.2.1, by rw [hw.cell h.1 hk]; exact h.2.1, by rw [hw.cell h.1 hk]; exact h.2.2.1, by rw [hw.frozen h.1 hk]; exact h.2.2.2.1, by rw [hw.frozen h.1 hk]; exact h.2.2.2.2⟩
theorem CurOk.setL {w : World} {B p k : Nat} (h : CurOk w B p) (hk : k ≠ p) (hB : B ≤ k) (a : Bool) (b c d : Int) : CurOk (setL w k a b c d) B p := (((h.setOther hk hB _ _).setOther hk hB _ _).setOther hk hB _ _).setOther hk hB _ _
theorem But.setL {p k : Nat} {u w : World} (h : But p u w) (hk : u.heap.size ≤ k) (a : Bool) (b c d : Int) : But p u (setL w k a b c d) := (((h.setNew hk _ _).setNew hk _ _).setNew hk _ _).setNew hk _ _
theorem BoxL.setK {k : Nat} {w : World} {a : Bool} {b c d : Int} (h : BoxL w k a b c d) (a' : Bool) : BoxL (w.setCell ⟨k, 0, none⟩ (.bool a')) k a' b c d := by
  obtain ⟨h0, h1, h2, h3, h4, f1, f2, f3, f4⟩ := h
  exact ⟨by simpa using h0, World.cell?_setCell_same _ _ _ h1, by rw [World.cell?_setCell_other _ _ _ _ (by simp)]; exact h2, by rw [World.cell?_setCell_other _ _ _ _ (by simp)]; exact h3, by rw [World.cell?_setCell_other _ _ _ _ (by simp)]; exact h4, by simpa using f1, by simpa using f2, by simpa using f3, by simpa using f4⟩
theorem BoxL.setA {k : Nat} {w : World} {a : Bool} {b c d : Int} (h : BoxL w k a b c d) (d' : Int) : BoxL (w.setCell ⟨k, 3, none⟩ (.int .i64 d')) k a b c d' := by
  obtain ⟨h0, h1, h2, h3, h4, f1, f2, f3, f4⟩ := h
  exact ⟨by simpa using h0, by rw [World.cell?_setCell_other _ _ _ _ (by simp)]; exact h1, by rw [World.cell?_setCell_other _ _ _ _ (by simp)]; exact h2, by rw [World.cell?_setCell_other _ _ _ _ (by simp)]; exact h3, World.cell?_setCell_same _ _ _ h4, by simpa using f1, by simpa using f2, by simpa using f3, by simpa using f4⟩
set_option maxHeartbeats 3200000 in
theorem l6DrawDrift_any (B p : Nat) (w : World) (hcur : CurOk w B p) :
    Calls Try.prog 24 #[.pointer (some ⟨p, 0, none⟩)] w fun e w' => ∃ x y : Int, e = .returned (.agg #[.int .i64 x, .int .i64 y]) ∧ CurOk w' B p ∧ But p w w' := by
  have hpl := hcur.lt
  have hpw : w.heap.size ≠ p := by omega
  have hBw : B ≤ w.heap.size := by omega
  have A1 := Below.al w (.cells #[.int .i64 0, .int .i64 0] 25)
  have R0 := Bx.new w 0 0 25
  go_enter Try.func24, Try.ntmps24
  go_wp2_with fail
  refine (l2DrawDrift_any B p _ (by exact hcur.below A1)).mono ?_
  rintro e w1 ⟨x, y, rfl, w1c, w1b⟩
  have R1 := R0.butD w1b hpw
  have b1 : But p w w1 := (But.of_below A1).trans w1b
  have q1 := w1c.lt
  have hk : w1.heap.size ≠ p := by omega
  have A2 := Below.al w1 (.cells #[.int .i64 x, .int .i64 y] 25)
  have N1 := Bx.new w1 x y 25
  have hwk : w.heap.size < w1.heap.size := R1.1
  have n1 : w.heap.size ≠ w1.heap.size := by omega
  have n2 : w1.heap.size ≠ w.heap.size := by omega
  clear R0 A1 w1b hcur
  go_wp2_with fail
  refine (specDriftOk_any _ _ _).mono ?_
  rintro e w2 ⟨rfl, hb⟩
  have R2 := (R1.below A2).below hb
  have N2 := N1.below hb
  have c2 := (w1c.below A2).below hb
  have b2 : But p w w2 := (b1.alloc _).trans (But.of_below hb)
  clear R1 N1 b1 hb A2 w1c
  cases hd : okD x y
  · go_wp2_with fail
    refine (l1Once_any B p 4 _ c2).mono ?_
    rintro e w3 ⟨o, rfl, w3c, w3b⟩
    have R3 := R2.butD w3b hpw
    have N3 := N2.butD w3b hk
    have b3 := b2.trans w3b
    clear R2 N2 b2 w3b c2
    obtain ⟨g1, g2, g3, g4, g5⟩ := R3
    obtain ⟨m1, m2, m3, m4, m5⟩ := N3
    cases o
    · go_wp2_with fail
      exact bodyPost_ret (v := .agg #[.int .i64 1, .int .i64 20]) (by simp (maxDischargeDepth := 6) [results, Try.results24, go_sem, *]) rfl ⟨_, _, rfl, (w3c.setOther hpw hBw _ _).setOther hpw hBw _ _, (b3.setNew (Nat.le_refl _) _ _).setNew (Nat.le_refl _) _ _⟩
    · go_wp2_with fail
      exact bodyPost_ret (v := .agg #[.int .i64 x, .int .i64 y]) (by simp (maxDischargeDepth := 6) [results, Try.results24, go_sem, *]) rfl ⟨_, _, rfl, (w3c.setOther hpw hBw _ _).setOther hpw hBw _ _, (b3.setNew (Nat.le_refl _) _ _).setNew (Nat.le_refl _) _ _⟩
  · obtain ⟨g1, g2, g3, g4, g5⟩ := R2
    obtain ⟨m1, m2, m3, m4, m5⟩ := N2
    go_wp2_with fail
    exact bodyPost_ret (v := .agg #[.int .i64 x, .int .i64 y]) (by simp (maxDischargeDepth := 6) [results, Try.results24, go_sem, *]) rfl ⟨_, _, rfl, (c2.setOther hpw hBw _ _).setOther hpw hBw _ _, (b2.setNew (Nat.le_refl _) _ _).setNew (Nat.le_refl _) _ _⟩
end Go.Proofs.Ytnkgdohccdcipaa
