/- What the draws of chapter 2 leave: a drift, a count. -/
import Derived.Test.YtblappilppfkiaaDoorD3
import Derived.WalkKit
import Derived.WalkSpells
import Derived.WalkLawsBesides
import Derived.Deep.QuietTactic
import Derived.BigQuiet
namespace Go.Proofs.YtblappilppfkiaaDoor
open Go.RowKit
set_option linter.unusedVariables false
set_option maxHeartbeats 1000000 in
theorem l2DrawCount_any (B p : Nat) (w : World) (hcur : CurOk w B p) :
    Calls Tryd.prog 57 #[.pointer (some ⟨p, 0, none⟩)] w fun e w' => ∃ v : Int, e = .returned (.int .i64 v) ∧ CurOk w' B p ∧ But p w w' := by
  go_enter Tryd.func57, Tryd.ntmps57
  go_wp2_with fail
  refine (l1Below_any B p 14 _ hcur).mono ?_; rintro e w1 ⟨x, rfl, xl, xh, xp, xz, w1c, w1b⟩
  clear xp xz
  cases hx0 : (x == 0)
  · cases hx1 : (x == 1)
    · cases hx2 : (x == 2)
      · go_wp2_with fail
        refine (l1Below_any B p 5000 _ w1c).mono ?_; rintro e w2 ⟨y, rfl, yl, yh, yp, yz, w2c, w2b⟩
        clear yp yz
        go_wp2_with fail
        go_ret
        exact ⟨_, rfl, w2c, w1b.trans w2b⟩
      · go_wp2_with fail
        refine (l1Below_any B p 6 _ w1c).mono ?_; rintro e w2 ⟨y, rfl, yl, yh, yp, yz, w2c, w2b⟩
        clear yp yz
        go_wp2_with fail
        go_ret
        exact ⟨_, rfl, w2c, w1b.trans w2b⟩
    · go_wp2_with fail
      refine (l1Below_any B p 1000000000 _ w1c).mono ?_; rintro e w2 ⟨y, rfl, yl, yh, yp, yz, w2c, w2b⟩
      clear yp yz
      go_wp2_with fail
      go_ret
      exact ⟨_, rfl, w2c, w1b.trans w2b⟩
  · go_wp2_with fail
    have hp := pickLit B p w1 [-1, 0, 1000000000000, 1000000000001, 500000000000, 666666666666, 9223372036854775807] w1c (by decide) (by decide); simp only [List.map_cons, List.map_nil, List.length_cons, List.length_nil, Nat.zero_add, Nat.reduceAdd] at hp; refine hp.mono ?_; clear hp; rintro e w3 ⟨v, rfl, w3c, w3b⟩
    go_wp2_with fail
    go_ret
    exact ⟨_, rfl, w3c, w1b.trans w3b⟩
set_option maxHeartbeats 3200000 in
theorem l2DrawDrift_any (B p : Nat) (w : World) (hcur : CurOk w B p) :
    Calls Tryd.prog 56 #[.pointer (some ⟨p, 0, none⟩)] w fun e w' => ∃ x y : Int, e = .returned (.agg #[.int .i64 x, .int .i64 y]) ∧ CurOk w' B p ∧ But p w w' := by
  have hpl := hcur.lt
  have hpw : w.heap.size ≠ p := by omega
  have hBw : B ≤ w.heap.size := by omega
  have A1 : Below w.heap.size w (w.alloc (.cells #[.int .i64 0, .int .i64 0] 35)) := Below.al _ _
  have R0 : Box (w.alloc (.cells #[.int .i64 0, .int .i64 0] 35)) w.heap.size 0 0 := Box.new w 0 0 35
  go_enter Tryd.func56, Tryd.ntmps56
  go_wp2_with fail
  refine (l1Below_any B p 6 _ (by exact hcur.below A1)).mono ?_
  rintro e w1 ⟨x, rfl, xl, xh, xp, xz, w1c, w1b⟩
  have R1 := R0.but w1b hpw
  have b1 : But p w w1 := (But.of_below A1).trans w1b
  clear xp xz R0 A1 w1b
  go_wp2_with fail
  refine (l1Below_any B p 90 _ w1c).mono ?_
  rintro e w2 ⟨y, rfl, yl, yh, yp, yz, w2c, w2b⟩
  have R2 := R1.but w2b hpw
  have b2 : But p w w2 := b1.trans w2b
  have q2 := w2c.lt
  have hk : w2.heap.size ≠ p := by omega
  have A2 : Below w2.heap.size w2 (w2.alloc (.cells #[.int .i64 x, .int .i64 (12 + y)] 35)) := Below.al _ _
  have N2 := Box.new w2 x (12 + y) 35
  clear yp yz R1 b1 w2b w1c
  go_wp2_with fail
  refine (l1Below_any B p 16 _ (by exact w2c.below A2)).mono ?_
  rintro e w3 ⟨z, rfl, zl, zh, zp, zz, w3c, w3b⟩
  have R3 := (R2.below A2).but w3b hpw
  have N3 := N2.but w3b hk
  have b3 : But p w w3 := (b2.alloc _).trans w3b
  have hwk : w.heap.size < w2.heap.size := R2.1
  have hwk' : w.heap.size ≤ w2.heap.size := by omega
  have hBk : B ≤ w2.heap.size := by omega
  have n1 : w.heap.size ≠ w2.heap.size := by omega
  have n2 : w2.heap.size ≠ w.heap.size := by omega
  clear zp zz R2 N2 b2 w3b A2 w2c hcur
  cases hz0 : (z == 0)
  · cases hz1 : (z == 1)
    · cases hz2 : (z == 2)
      · obtain ⟨g1, g2, g3, g4, g5⟩ := R3; obtain ⟨m1, m2, m3, m4, m5⟩ := N3
        go_wp2_with fail
        exact bodyPost_ret (v := .agg #[.int .i64 x, .int .i64 (12 + y)]) (by simp (maxDischargeDepth := 6) [results, Tryd.results56, go_sem, *]) rfl ⟨_, _, rfl, ((w3c.setOther hpw hBw _ _).setOther hpw hBw _ _), ((b3.setNew (Nat.le_refl _) _ _).setNew (Nat.le_refl _) _ _)⟩
      · obtain ⟨g1, g2, g3, g4, g5⟩ := R3; obtain ⟨m1, m2, m3, m4, m5⟩ := N3
        go_wp2_with fail
        exact bodyPost_ret (v := .agg #[.int .i64 0, .int .i64 1]) (by simp (maxDischargeDepth := 6) [results, Tryd.results56, go_sem, *]) rfl ⟨_, _, rfl, ((((w3c.setOther hk hBk _ _).setOther hk hBk _ _).setOther hpw hBw _ _).setOther hpw hBw _ _), ((((b3.setNew hwk' _ _).setNew hwk' _ _).setNew (Nat.le_refl _) _ _).setNew (Nat.le_refl _) _ _)⟩
    · go_wp2_with fail
      have hp := pickLit B p w3 [0, 1, -1, 3] w3c (by decide) (by decide); simp only [List.map_cons, List.map_nil, List.length_cons, List.length_nil, Nat.zero_add, Nat.reduceAdd] at hp; refine hp.mono ?_; clear hp; rintro e w4 ⟨v, rfl, w4c, w4b⟩
      have R4 := R3.but w4b hpw
      have N4 := N3.but w4b hk
      have b4 : But p w w4 := b3.trans w4b
      clear R3 N3 b3 w4b w3c
      go_wp2_with fail
      have hp := pickLit B p w4 [0, 1, 2, 3, 6, -1] w4c (by decide) (by decide); simp only [List.map_cons, List.map_nil, List.length_cons, List.length_nil, Nat.zero_add, Nat.reduceAdd] at hp; refine hp.mono ?_; clear hp; rintro e w5 ⟨u, rfl, w5c, w5b⟩
      have R5 := R4.but w5b hpw
      have N5 := N4.but w5b hk
      have b5 : But p w w5 := b4.trans w5b
      clear R4 N4 b4 w5b w4c
      obtain ⟨g1, g2, g3, g4, g5⟩ := R5; obtain ⟨m1, m2, m3, m4, m5⟩ := N5
      go_wp2_with fail
      exact bodyPost_ret (v := .agg #[.int .i64 v, .int .i64 u]) (by simp (maxDischargeDepth := 6) [results, Tryd.results56, go_sem, *]) rfl ⟨_, _, rfl, ((((w5c.setOther hk hBk _ _).setOther hk hBk _ _).setOther hpw hBw _ _).setOther hpw hBw _ _), ((((b5.setNew hwk' _ _).setNew hwk' _ _).setNew (Nat.le_refl _) _ _).setNew (Nat.le_refl _) _ _)⟩
  · go_wp2_with fail
    have hp := pickLit B p w3 [0, 1, 500000, 500001, 100] w3c (by decide) (by decide); simp only [List.map_cons, List.map_nil, List.length_cons, List.length_nil, Nat.zero_add, Nat.reduceAdd] at hp; refine hp.mono ?_; clear hp; rintro e w4 ⟨v, rfl, w4c, w4b⟩
    have R4 := R3.but w4b hpw
    have N4 := N3.but w4b hk
    have b4 : But p w w4 := b3.trans w4b
    clear R3 N3 b3 w4b w3c
    go_wp2_with fail
    have hp := pickLit B p w4 [1000000, 1000001, 999999] w4c (by decide) (by decide); simp only [List.map_cons, List.map_nil, List.length_cons, List.length_nil, Nat.zero_add, Nat.reduceAdd] at hp; refine hp.mono ?_; clear hp; rintro e w5 ⟨u, rfl, w5c, w5b⟩
    have R5 := R4.but w5b hpw
    have N5 := N4.but w5b hk
    have b5 : But p w w5 := b4.trans w5b
    clear R4 N4 b4 w5b w4c
    obtain ⟨g1, g2, g3, g4, g5⟩ := R5; obtain ⟨m1, m2, m3, m4, m5⟩ := N5
    go_wp2_with fail
    exact bodyPost_ret (v := .agg #[.int .i64 v, .int .i64 u]) (by simp (maxDischargeDepth := 6) [results, Tryd.results56, go_sem, *]) rfl ⟨_, _, rfl, ((((w5c.setOther hk hBk _ _).setOther hk hBk _ _).setOther hpw hBw _ _).setOther hpw hBw _ _), ((((b5.setNew hwk' _ _).setNew hwk' _ _).setNew (Nat.le_refl _) _ _).setNew (Nat.le_refl _) _ _)⟩
set_option maxHeartbeats 400000 in
theorem big_any (a : Option Addr) (n c : Nat) (w : World) :
    Calls Tryd.prog 5 #[.slice a n c] w fun e w' => e = .returned (.bool (decide (1048576 < (n : Int)))) ∧ w = w' := by
  go_enter Tryd.func5, Tryd.ntmps5
  go_wp2
  go_ret
  exact ⟨rfl, rfl⟩
set_option maxHeartbeats 400000 in
theorem at_any (a : Option Addr) (n c i B : Nat) (w : World) (hn : n ≤ 1048576) (hi : i ≤ 1000) (hcode : CodeB w B a n) :
    Calls Tryd.prog 19 #[.slice a n c, .int .i64 i] w fun e w' => ∃ x : Int, e = .returned (.int .i64 x) ∧ 0 ≤ x ∧ x ≤ 255 ∧ w = w' := by
  by_cases h : i < n
  · have hd : (i : Int) < (n : Int) := by omega
    rcases hcode with h0 | ⟨b, off, rfl, hb, hz⟩
    · omega
    · obtain ⟨z, hz, z0, z1⟩ := hz i h
      go_enter Tryd.func19, Tryd.ntmps19
      go_wp2_with fail
      go_ret
      exact ⟨z, rfl, z0, z1, rfl⟩
  · have hd : decide ((i : Int) < (n : Int)) = false := by simp; omega
    have hm := Int.emod_lt_of_pos ((i : Int) * 7 + n) (b := 256) (by omega)
    have hm0 := Int.emod_nonneg ((i : Int) * 7 + n) (b := 256) (by omega)
    clear hcode
    go_enter Tryd.func19, Tryd.ntmps19
    go_wp2_with fail
    go_ret
    exact ⟨_, rfl, by omega, by omega, rfl⟩
end Go.Proofs.YtblappilppfkiaaDoor
