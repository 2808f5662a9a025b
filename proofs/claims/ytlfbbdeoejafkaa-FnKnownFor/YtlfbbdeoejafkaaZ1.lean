/- What the draws of a local interval, its drift and a count leave. -/
import Derived.Test.YtlfbbdeoejafkaaK1
import Derived.Test.YtlfbbdeoejafkaaQ1
import Derived.WalkKit
import Derived.WalkSpells
import Derived.WalkLawsBesides
import Derived.Deep.RegionHeld
import Derived.Deep.RegionHeld3
namespace Go.Proofs.Ytlfbbdeoejafkaa
open Go.RowKit
set_option linter.unusedVariables false
theorem BoxL.but {p k : Nat} {w w' : World} {a : Bool} {b c d : Int} (h : BoxL w k a b c d) (hw : But p w w') (hk : k ≠ p) : BoxL w' k a b c d := by
  obtain ⟨h0, h1, h2, h3, h4, f1, f2, f3, f4⟩ := h
  exact ⟨Nat.lt_of_lt_of_le h0 hw.2.2.2.1, by rw [hw.cell h0 hk]; exact h1, by rw [hw.cell h0 hk]; exact h2, by rw [hw.cell h0 hk]; exact h3, by rw [hw.cell h0 hk]; exact h4, by rw [hw.frozen h0 hk]; exact f1, by rw [hw.frozen h0 hk]; exact f2, by rw [hw.frozen h0 hk]; exact f3, by rw [hw.frozen h0 hk]; exact f4⟩
theorem Bx.butD {p k : Nat} {w w' : World} {x y : Int} (h : Bx w k x y) (hw : But p w w') (hk : k ≠ p) : Bx w' k x y :=
  ⟨Nat.lt_of_lt_of_le h.1 hw.2.2.2.1, by rw [hw.cell h.1 hk]; exact h.2.1, by rw [hw.cell h.1 hk]; exact h.2.2.1, by rw [hw.frozen h.1 hk]; exact h.2.2.2.1, by rw [hw.frozen h.1 hk]; exact h.2.2.2.2⟩
theorem CurOk.setL {w : World} {B p k : Nat} (h : CurOk w B p) (hk : k ≠ p) (hB : B ≤ k) (a : Bool) (b c d : Int) : CurOk (setL w k a b c d) B p := (((h.setOther hk hB _ _).setOther hk hB _ _).setOther hk hB _ _).setOther hk hB _ _
theorem But.setL {p k : Nat} {u w : World} (h : But p u w) (hk : u.heap.size ≤ k) (a : Bool) (b c d : Int) : But p u (setL w k a b c d) := (((h.setNew hk _ _).setNew hk _ _).setNew hk _ _).setNew hk _ _
theorem BoxL.setK {k : Nat} {w : World} {a : Bool} {b c d : Int} (h : BoxL w k a b c d) (a' : Bool) : BoxL (w.setCell ⟨k, 0, none⟩ (.bool a')) k a' b c d := by
  obtain ⟨h0, h1, h2, h3, h4, f1, f2, f3, f4⟩ := h
  exact ⟨by simpa using h0, World.cell?_setCell_same _ _ _ h1, by rw [World.cell?_setCell_other _ _ _ _ (by simp)]; exact h2, by rw [World.cell?_setCell_other _ _ _ _ (by simp)]; exact h3, by rw [World.cell?_setCell_other _ _ _ _ (by simp)]; exact h4, by simpa using f1, by simpa using f2, by simpa using f3, by simpa using f4⟩
theorem BoxL.setA {k : Nat} {w : World} {a : Bool} {b c d : Int} (h : BoxL w k a b c d) (d' : Int) : BoxL (w.setCell ⟨k, 3, none⟩ (.int .i64 d')) k a b c d' := by
  obtain ⟨h0, h1, h2, h3, h4, f1, f2, f3, f4⟩ := h
  exact ⟨by simpa using h0, by rw [World.cell?_setCell_other _ _ _ _ (by simp)]; exact h1, by rw [World.cell?_setCell_other _ _ _ _ (by simp)]; exact h2, by rw [World.cell?_setCell_other _ _ _ _ (by simp)]; exact h3, World.cell?_setCell_same _ _ _ h4, by simpa using f1, by simpa using f2, by simpa using f3, by simpa using f4⟩
set_option maxHeartbeats 3200000 in
theorem l6DrawLocal_any (B p : Nat) (w : World) (hcur : CurOk w B p) :
    Calls Try.prog 42 #[.pointer (some ⟨p, 0, none⟩)] w fun e w' => ∃ (kn : Bool) (lo hi a : Int), e = .returned (.agg #[.bool kn, .int .i64 lo, .int .i64 hi, .int .i64 a]) ∧ CurOk w' B p ∧ But p w w' := by
  have hpl := hcur.lt
  have hpw : w.heap.size ≠ p := by omega
  have hBw : B ≤ w.heap.size := by omega
  have A1 := Below.al w (.cells #[.bool false, .int .i64 0, .int .i64 0, .int .i64 0] 39)
  have R0 := BoxL.new w false 0 0 0 39
  go_enter Try.func42, Try.ntmps42
  go_wp2_with fail
  refine (l1Once_any B p 9 _ (by exact hcur.below A1)).mono ?_
  rintro e w1 ⟨o, rfl, w1c, w1b⟩
  have R1 := R0.but w1b hpw
  have b1 : But p w w1 := (But.of_below A1).trans w1b
  clear R0 A1 w1b
  cases o
  · go_wp2_with fail
    refine (l1DrawIval_any B p _ w1c).mono ?_
    rintro e w2 ⟨lo, hi, rfl, w2c, w2b⟩
    have R2 := R1.but w2b hpw
    have b2 := b1.trans w2b
    clear R1 b1 w2b w1c
    go_wp2_with fail
    refine (l1Below_any B p 400 _ w2c).mono ?_
    rintro e w3 ⟨x, rfl, xl, xh, xp, xz, w3c, w3b⟩
    have R3 := R2.but w3b hpw
    have b3 := b2.trans w3b
    clear R2 b2 w3b w2c xp xz
    have q3 := w3c.lt
    have hk : w3.heap.size ≠ p := by omega
    have A3 := Below.al w3 (.cells #[.bool true, .int .i64 lo, .int .i64 hi, .int .i64 x] 39)
    have N3 := BoxL.new w3 true lo hi x 39
    go_wp2_with fail
    refine (l1Below_any B p 25 _ (by exact w3c.below A3)).mono ?_
    rintro e w4 ⟨z, rfl, zl, zh, zp, zz, w4c, w4b⟩
    have R4 := (R3.below A3).but w4b hpw
    have N4 := N3.but w4b hk
    have b4 : But p w w4 := (b3.alloc _).trans w4b
    have hwk : w.heap.size < w3.heap.size := R3.1
    have hwk' : w.heap.size ≤ w3.heap.size := by omega
    have hBk : B ≤ w3.heap.size := by omega
    have n1 : w.heap.size ≠ w3.heap.size := by omega
    have n2 : w3.heap.size ≠ w.heap.size := by omega
    clear zp zz R3 N3 b3 w4b A3 w3c hcur
    cases hz0 : (z == 0)
    · cases hz1 : (z == 1)
      · cases hz2 : (z == 2)
        · obtain ⟨g0, g1, g2, g3, g4, g5, g6, g7, g8⟩ := R4
          obtain ⟨m0, m1, m2, m3, m4, m5, m6, m7, m8⟩ := N4
          go_wp2_with fail
          exact bodyPost_ret (v := .agg #[.bool true, .int .i64 lo, .int .i64 hi, .int .i64 x]) (by simp (maxDischargeDepth := 6) [results, Try.results42, go_sem, *]) rfl ⟨_, _, _, _, rfl, CurOk.setL w4c hpw hBw _ _ _ _, But.setL b4 (Nat.le_refl _) _ _ _ _⟩
        · have R5 := R4.setLO n2 false 0 0 1
          have N5 := N4.set false 0 0 1
          have b5 := But.setL b4 hwk' false 0 0 1
          have c5 := CurOk.setL w4c hk hBk false 0 0 1
          obtain ⟨g0, g1, g2, g3, g4, g5, g6, g7, g8⟩ := R4
          obtain ⟨m0, m1, m2, m3, m4, m5, m6, m7, m8⟩ := N4
          go_wp2_with fail
          exact bodyPost_ret (v := .agg #[.bool false, .int .i64 0, .int .i64 0, .int .i64 1]) (by simp (maxDischargeDepth := 6) [results, Try.results42, go_sem, *]) rfl ⟨_, _, _, _, rfl, CurOk.setL c5 hpw hBw _ _ _ _, But.setL b5 (Nat.le_refl _) _ _ _ _⟩
      · have R5 := R4.setO n2 0 (.bool false)
        have N5 := N4.setK false
        have b5 := b4.setNew hwk' 0 (.bool false)
        have c5 := w4c.setOther hk hBk 0 (.bool false)
        obtain ⟨g0, g1, g2, g3, g4, g5, g6, g7, g8⟩ := R4
        obtain ⟨m0, m1, m2, m3, m4, m5, m6, m7, m8⟩ := N4
        go_wp2_with fail
        exact bodyPost_ret (v := .agg #[.bool false, .int .i64 lo, .int .i64 hi, .int .i64 x]) (by simp (maxDischargeDepth := 6) [results, Try.results42, go_sem, *]) rfl ⟨_, _, _, _, rfl, CurOk.setL c5 hpw hBw _ _ _ _, But.setL b5 (Nat.le_refl _) _ _ _ _⟩
    · go_wp2_with fail
      refine (l2DrawCount_any B p _ w4c).mono ?_
      rintro e w5 ⟨v, rfl, w5c, w5b⟩
      have R5 := R4.but w5b hpw
      have N5 := N4.but w5b hk
      have b5 := (b4.trans w5b).setNew hwk' 3 (.int .i64 v)
      have c5 := w5c.setOther hk hBk 3 (.int .i64 v)
      clear R4 N4 b4 w5b w4c w5c
      obtain ⟨g0, g1, g2, g3, g4, g5, g6, g7, g8⟩ := R5
      obtain ⟨m0, m1, m2, m3, m4, m5, m6, m7, m8⟩ := N5
      go_wp2_with fail
      exact bodyPost_ret (v := .agg #[.bool true, .int .i64 lo, .int .i64 hi, .int .i64 v]) (by simp (maxDischargeDepth := 6) [results, Try.results42, go_sem, *]) rfl ⟨_, _, _, _, rfl, CurOk.setL c5 hpw hBw _ _ _ _, But.setL b5 (Nat.le_refl _) _ _ _ _⟩
  · obtain ⟨g0, g1, g2, g3, g4, g5, g6, g7, g8⟩ := R1
    go_wp2_with fail
    exact bodyPost_ret (v := .agg #[.bool false, .int .i64 0, .int .i64 0, .int .i64 0]) (by simp (maxDischargeDepth := 6) [results, Try.results42, go_sem, *]) rfl ⟨_, _, _, _, rfl, CurOk.setL w1c hpw hBw _ _ _ _, But.setL b1 (Nat.le_refl _) _ _ _ _⟩
set_option maxHeartbeats 3200000 in
theorem l6DrawDrift_any (B p : Nat) (w : World) (hcur : CurOk w B p) :
    Calls Try.prog 43 #[.pointer (some ⟨p, 0, none⟩)] w fun e w' => ∃ x y : Int, e = .returned (.agg #[.int .i64 x, .int .i64 y]) ∧ CurOk w' B p ∧ But p w w' := by
  have hpl := hcur.lt
  have hpw : w.heap.size ≠ p := by omega
  have hBw : B ≤ w.heap.size := by omega
  have A1 := Below.al w (.cells #[.int .i64 0, .int .i64 0] 25)
  have R0 := Bx.new w 0 0 25
  go_enter Try.func43, Try.ntmps43
  go_wp2_with fail
  refine (l2DrawDrift_any B p _ (by exact hcur.below A1)).mono ?_
  rintro e w1 ⟨x, y, rfl, w1c, w1b⟩
  have R1 := R0.butD w1b hpw
  have b1 : But p w w1 := (But.of_below A1).trans w1b
  have q1 := w1c.lt
  have hk : w1.heap.size ≠ p := by omega
  have A2 := Below.al w1 (.cells #[.int .i64 x, .int .i64 y] 25)
  have N1 := Bx.new w1 x y 25
  have hwk : w.heap.size < w1.heap.size := R1.1
  have n1 : w.heap.size ≠ w1.heap.size := by omega
  have n2 : w1.heap.size ≠ w.heap.size := by omega
  clear R0 A1 w1b hcur
  go_wp2_with fail
  refine (specDriftOk_any _ _ _).mono ?_
  rintro e w2 ⟨rfl, hb⟩
  have R2 := (R1.below A2).below hb
  have N2 := N1.below hb
  have c2 := (w1c.below A2).below hb
  have b2 : But p w w2 := (b1.alloc _).trans (But.of_below hb)
  clear R1 N1 b1 hb A2 w1c
  cases hd : okD x y
  · go_wp2_with fail
    refine (l1Once_any B p 4 _ c2).mono ?_
    rintro e w3 ⟨o, rfl, w3c, w3b⟩
    have R3 := R2.butD w3b hpw
    have N3 := N2.butD w3b hk
    have b3 := b2.trans w3b
    clear R2 N2 b2 w3b c2
    obtain ⟨g1, g2, g3, g4, g5⟩ := R3
    obtain ⟨m1, m2, m3, m4, m5⟩ := N3
    cases o
    · go_wp2_with fail
      exact bodyPost_ret (v := .agg #[.int .i64 1, .int .i64 20]) (by simp (maxDischargeDepth := 6) [results, Try.results43, go_sem, *]) rfl ⟨_, _, rfl, (w3c.setOther hpw hBw _ _).setOther hpw hBw _ _, (b3.setNew (Nat.le_refl _) _ _).setNew (Nat.le_refl _) _ _⟩
    · go_wp2_with fail
      exact bodyPost_ret (v := .agg #[.int .i64 x, .int .i64 y]) (by simp (maxDischargeDepth := 6) [results, Try.results43, go_sem, *]) rfl ⟨_, _, rfl, (w3c.setOther hpw hBw _ _).setOther hpw hBw _ _, (b3.setNew (Nat.le_refl _) _ _).setNew (Nat.le_refl _) _ _⟩
  · obtain ⟨g1, g2, g3, g4, g5⟩ := R2
    obtain ⟨m1, m2, m3, m4, m5⟩ := N2
    go_wp2_with fail
    exact bodyPost_ret (v := .agg #[.int .i64 x, .int .i64 y]) (by simp (maxDischargeDepth := 6) [results, Try.results43, go_sem, *]) rfl ⟨_, _, rfl, (c2.setOther hpw hBw _ _).setOther hpw hBw _ _, (b2.setNew (Nat.le_refl _) _ _).setNew (Nat.le_refl _) _ _⟩
set_option maxHeartbeats 3200000 in
theorem l6DrawCount_any (B p : Nat) (a : Int) (w : World) (hcur : CurOk w B p) :
    Calls Try.prog 44 #[.pointer (some ⟨p, 0, none⟩), .int .i64 a] w fun e w' => ∃ x : Int, e = .returned (.int .i64 x) ∧ CurOk w' B p ∧ But p w w' := by
  go_enter Try.func44, Try.ntmps44
  go_wp2_with fail
  refine (l1Once_any B p 15 _ hcur).mono ?_
  rintro e w1 ⟨o, rfl, w1c, w1b⟩
  cases o
  · cases hd : decide (1000000000000 < a)
    · go_wp2_with fail
      refine (l1Below_any B p 300 _ w1c).mono ?_
      rintro e w2 ⟨x, rfl, xl, xh, xp, xz, w2c, w2b⟩
      clear xp xz
      go_wp2_with fail
      refine (l1Below_any B p 9 _ w2c).mono ?_
      rintro e w3 ⟨y, rfl, yl, yh, yp, yz, w3c, w3b⟩
      clear yp yz
      go_wp2_with fail
      go_ret
      exact ⟨_, rfl, w3c, (w1b.trans w2b).trans w3b⟩
    · go_wp2_with fail
      go_ret
      exact ⟨_, rfl, w1c, w1b⟩
  · go_wp2_with fail
    refine (l2DrawCount_any B p _ w1c).mono ?_
    rintro e w2 ⟨x, rfl, w2c, w2b⟩
    go_wp2_with fail
    go_ret
    exact ⟨_, rfl, w2c, w1b.trans w2b⟩
end Go.Proofs.Ytlfbbdeoejafkaa
