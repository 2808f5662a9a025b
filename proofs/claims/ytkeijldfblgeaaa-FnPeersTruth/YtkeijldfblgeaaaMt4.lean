/- What the draws leave: times, intervals, the new cursor. A struct of two ints in a block: what keeps it. What the draws of chapter 2 leave: a drift, a count. A list of peers is drawn. An element of a list of peers is written. A list that may be none is drawn. A list, a node, an interval and a count are drawn. Lists of sources that one is put into and dropped from. Contracts of the four roundings of chapter 2. Contracts of Nearest and Within. -/
import Derived.Test.YtkeijldfblgeaaaMt1
import Derived.WalkKit
import Derived.WalkSpells
import Derived.WalkLawsBesides
import Derived.Deep.QuietTactic
import Derived.BigQuiet
import Derived.Test.YtkeijldfblgeaaaMt3
import Derived.Deep.RegionHeld
import Derived.Deep.RegionHeld3
namespace Go.Proofs.Ytkeijldfblgeaaa
open Go.RowKit
set_option linter.unusedVariables false
theorem curNew (w : World) (a : Option Addr) (n c : Nat) (h : Int) (T : TypeId) (hn : n ≤ 1048576) (hcode : CodeB w w.heap.size a n) : CurOk (w.alloc (.cells #[.slice a n c, .int .i64 0, .int .i64 h] T)) w.heap.size w.heap.size :=
  ⟨a, n, c, 0, h, by simp, by simp, by simp, by simp, by simp, by simp, Nat.zero_le _, hn, hcode.below ((Below.refl _ _).alloc (Nat.le_refl _) _), Nat.le_refl _, by simp⟩
set_option maxHeartbeats 1000000 in
theorem l1New_any (a : Option Addr) (n c : Nat) (w : World) (hn : n ≤ 1048576) (hcode : CodeB w w.heap.size a n) :
    Calls Try.prog 18 #[.slice a n c] w fun e w' => ∃ p, e = .returned (.pointer (some ⟨p, 0, none⟩)) ∧ CurOk w' w.heap.size p ∧ Below w.heap.size w w' := by
  have HC : Hid (CodeB w w.heap.size a n) := hcode
  clear hcode
  go_enter Try.func18, Try.ntmps18
  go_wp2_with fail
  go_loop [3, 4] (fun hv i => ∃ k : Nat, ∃ h : Int, k ≤ n ∧ i = .int .i64 k ∧ hv = .int .i64 h) (fun _ i => n - (intOf i).toNat)
  case atStart => exact ⟨0, _, Nat.zero_le _, rfl, rfl⟩
  case round =>
    obtain ⟨k, h, hk, rfl, rfl⟩ := hrel
    by_cases hlt : k < n
    · have hli : (k : Int) < (n : Int) := by omega
      by_cases h4 : (k : Int) < 4000
      · rcases HC.out with h0 | ⟨b, off, rfl, hb, hz⟩
        · omega
        · obtain ⟨z, hz, z0, z1⟩ := hz k hlt
          go_wp2_with fail
          go_round
          case rel => exact ⟨k + 1, _, by omega, by go_num, rfl⟩
          case measure => simp [intOf]; omega
      · have hd : decide ((k : Int) < 4000) = false := by simp; omega
        go_wp2_with fail
        go_ret
        exact ⟨_, rfl, curNew _ _ _ _ _ _ hn HC.out, (Below.refl _ _).alloc (Nat.le_refl _) _⟩
    · have hd : decide ((k : Int) < (n : Int)) = false := by simp; omega
      go_wp2_with fail
      go_ret
      exact ⟨_, rfl, curNew _ _ _ _ _ _ hn HC.out, (Below.refl _ _).alloc (Nat.le_refl _) _⟩
end Go.Proofs.Ytkeijldfblgeaaa
namespace Go.Proofs.Ytkeijldfblgeaaa
open Go.RowKit
set_option linter.unusedVariables false
theorem CurOk.drew {w : World} {B p : Nat} (h : CurOk w B p) : CurOk w.drew B p := h
theorem But.drew {p : Nat} {a w : World} (h : But p a w) : But p a w.drew := h
def Box (w : World) (k : Nat) (x y : Int) : Prop := k < w.heap.size ∧ w.cell? ⟨k, 0, none⟩ = some (.int .i64 x) ∧ w.cell? ⟨k, 1, none⟩ = some (.int .i64 y) ∧ w.frozen? ⟨k, 0, none⟩ = false ∧ w.frozen? ⟨k, 1, none⟩ = false
theorem Box.but {p k : Nat} {w w' : World} {x y : Int} (h : Box w k x y) (hw : But p w w') (hk : k ≠ p) : Box w' k x y :=
  ⟨Nat.lt_of_lt_of_le h.1 hw.2.2.2.1, by rw [hw.cell h.1 hk]; exact h.2.1, by rw [hw.cell h.1 hk]; exact h.2.2.1, by rw [hw.frozen h.1 hk]; exact h.2.2.2.1, by rw [hw.frozen h.1 hk]; exact h.2.2.2.2⟩
theorem Box.below {k : Nat} {w w' : World} {x y : Int} (h : Box w k x y) (hw : Below w.heap.size w w') : Box w' k x y :=
  ⟨Nat.lt_of_lt_of_le h.1 hw.size, by rw [hw.cell (p := ⟨k, 0, none⟩) h.1]; exact h.2.1, by rw [hw.cell (p := ⟨k, 1, none⟩) h.1]; exact h.2.2.1, by rw [hw.frozen (p := ⟨k, 0, none⟩) h.1]; exact h.2.2.2.1, by rw [hw.frozen (p := ⟨k, 1, none⟩) h.1]; exact h.2.2.2.2⟩
theorem Box.alloc {k : Nat} {w : World} {x y : Int} (h : Box w k x y) (o : Obj) : Box (w.alloc o) k x y := h.below ((Below.refl _ _).alloc (Nat.le_refl _) _)
theorem Box.setOther {k j : Nat} {w : World} {x y : Int} (h : Box w k x y) (hk : j ≠ k) (o : Nat) (u : Value) : Box (w.setCell ⟨j, o, none⟩ u) k x y := by
  have hne : ∀ q, (⟨j, o, none⟩ : Addr) ≠ ⟨k, q, none⟩ := fun q e => hk (congrArg Addr.block e)
  exact ⟨by simpa using h.1, by rw [World.cell?_setCell_other _ _ _ _ (hne _)]; exact h.2.1, by rw [World.cell?_setCell_other _ _ _ _ (hne _)]; exact h.2.2.1, by simpa using h.2.2.2.1, by simpa using h.2.2.2.2⟩
theorem Box.set {k : Nat} {w : World} {x y : Int} (h : Box w k x y) (x' y' : Int) : Box ((w.setCell ⟨k, 0, none⟩ (.int .i64 x')).setCell ⟨k, 1, none⟩ (.int .i64 y')) k x' y' := by
  refine ⟨by simpa using h.1, ?_, ?_, by simpa using h.2.2.2.1, by simpa using h.2.2.2.2⟩
  · rw [World.cell?_setCell_other _ _ _ _ (by simp), World.cell?_setCell_same _ _ _ h.2.1]
  · exact World.cell?_setCell_same _ _ _ (by rw [World.cell?_setCell_other _ _ _ _ (by simp)]; exact h.2.2.1)
theorem Box.new (w : World) (x y : Int) (T : TypeId) : Box (w.alloc (.cells #[.int .i64 x, .int .i64 y] T)) w.heap.size x y := ⟨by simp, by simp, by simp, by simp, by simp⟩
theorem CodeB.more {w : World} {B B' : Nat} {a : Option Addr} {n : Nat} (h : CodeB w B a n) (hB : B ≤ B') : CodeB w B' a n := by
  rcases h with h | ⟨b, off, h1, h2, h3⟩
  · exact .inl h
  · exact .inr ⟨b, off, h1, by omega, h3⟩
/- What a new world holds after an alloc or a store, for go_wp2's simp. -/
theorem Below.al (w : World) (o : Obj) : Below w.heap.size w (w.alloc o) := (Below.refl _ _).alloc (Nat.le_refl _) _
end Go.Proofs.Ytkeijldfblgeaaa
namespace Go.Proofs.Ytkeijldfblgeaaa
open Go.RowKit
set_option linter.unusedVariables false
set_option maxHeartbeats 1000000 in
theorem l2DrawCount_any (B p : Nat) (w : World) (hcur : CurOk w B p) :
    Calls Try.prog 41 #[.pointer (some ⟨p, 0, none⟩)] w fun e w' => ∃ v : Int, e = .returned (.int .i64 v) ∧ CurOk w' B p ∧ But p w w' := by
  go_enter Try.func41, Try.ntmps41
  go_wp2_with fail
  refine (l1Below_any B p 14 _ hcur).mono ?_; rintro e w1 ⟨x, rfl, xl, xh, xp, xz, w1c, w1b⟩
  clear xp xz
  cases hx0 : (x == 0)
  · cases hx1 : (x == 1)
    · cases hx2 : (x == 2)
      · go_wp2_with fail
        refine (l1Below_any B p 5000 _ w1c).mono ?_; rintro e w2 ⟨y, rfl, yl, yh, yp, yz, w2c, w2b⟩
        clear yp yz
        go_wp2_with fail
        go_ret
        exact ⟨_, rfl, w2c, w1b.trans w2b⟩
      · go_wp2_with fail
        refine (l1Below_any B p 6 _ w1c).mono ?_; rintro e w2 ⟨y, rfl, yl, yh, yp, yz, w2c, w2b⟩
        clear yp yz
        go_wp2_with fail
        go_ret
        exact ⟨_, rfl, w2c, w1b.trans w2b⟩
    · go_wp2_with fail
      refine (l1Below_any B p 1000000000 _ w1c).mono ?_; rintro e w2 ⟨y, rfl, yl, yh, yp, yz, w2c, w2b⟩
      clear yp yz
      go_wp2_with fail
      go_ret
      exact ⟨_, rfl, w2c, w1b.trans w2b⟩
  · go_wp2_with fail
    have hp := pickLit B p w1 [-1, 0, 1000000000000, 1000000000001, 500000000000, 666666666666, 9223372036854775807] w1c (by decide) (by decide); simp only [List.map_cons, List.map_nil, List.length_cons, List.length_nil, Nat.zero_add, Nat.reduceAdd] at hp; refine hp.mono ?_; clear hp; rintro e w3 ⟨v, rfl, w3c, w3b⟩
    go_wp2_with fail
    go_ret
    exact ⟨_, rfl, w3c, w1b.trans w3b⟩
set_option maxHeartbeats 3200000 in
theorem l2DrawDrift_any (B p : Nat) (w : World) (hcur : CurOk w B p) :
    Calls Try.prog 42 #[.pointer (some ⟨p, 0, none⟩)] w fun e w' => ∃ x y : Int, e = .returned (.agg #[.int .i64 x, .int .i64 y]) ∧ CurOk w' B p ∧ But p w w' := by
  have hpl := hcur.lt
  have hpw : w.heap.size ≠ p := by omega
  have hBw : B ≤ w.heap.size := by omega
  have A1 : Below w.heap.size w (w.alloc (.cells #[.int .i64 0, .int .i64 0] 25)) := Below.al _ _
  have R0 : Box (w.alloc (.cells #[.int .i64 0, .int .i64 0] 25)) w.heap.size 0 0 := Box.new w 0 0 25
  go_enter Try.func42, Try.ntmps42
  go_wp2_with fail
  refine (l1Below_any B p 6 _ (by exact hcur.below A1)).mono ?_
  rintro e w1 ⟨x, rfl, xl, xh, xp, xz, w1c, w1b⟩
  have R1 := R0.but w1b hpw
  have b1 : But p w w1 := (But.of_below A1).trans w1b
  clear xp xz R0 A1 w1b
  go_wp2_with fail
  refine (l1Below_any B p 90 _ w1c).mono ?_
  rintro e w2 ⟨y, rfl, yl, yh, yp, yz, w2c, w2b⟩
  have R2 := R1.but w2b hpw
  have b2 : But p w w2 := b1.trans w2b
  have q2 := w2c.lt
  have hk : w2.heap.size ≠ p := by omega
  have A2 : Below w2.heap.size w2 (w2.alloc (.cells #[.int .i64 x, .int .i64 (12 + y)] 25)) := Below.al _ _
  have N2 := Box.new w2 x (12 + y) 25
  clear yp yz R1 b1 w2b w1c
  go_wp2_with fail
  refine (l1Below_any B p 16 _ (by exact w2c.below A2)).mono ?_
  rintro e w3 ⟨z, rfl, zl, zh, zp, zz, w3c, w3b⟩
  have R3 := (R2.below A2).but w3b hpw
  have N3 := N2.but w3b hk
  have b3 : But p w w3 := (b2.alloc _).trans w3b
  have hwk : w.heap.size < w2.heap.size := R2.1
  have hwk' : w.heap.size ≤ w2.heap.size := by omega
  have hBk : B ≤ w2.heap.size := by omega
  have n1 : w.heap.size ≠ w2.heap.size := by omega
  have n2 : w2.heap.size ≠ w.heap.size := by omega
  clear zp zz R2 N2 b2 w3b A2 w2c hcur
  cases hz0 : (z == 0)
  · cases hz1 : (z == 1)
    · cases hz2 : (z == 2)
      · obtain ⟨g1, g2, g3, g4, g5⟩ := R3; obtain ⟨m1, m2, m3, m4, m5⟩ := N3
        go_wp2_with fail
        exact bodyPost_ret (v := .agg #[.int .i64 x, .int .i64 (12 + y)]) (by simp (maxDischargeDepth := 6) [results, Try.results42, go_sem, *]) rfl ⟨_, _, rfl, ((w3c.setOther hpw hBw _ _).setOther hpw hBw _ _), ((b3.setNew (Nat.le_refl _) _ _).setNew (Nat.le_refl _) _ _)⟩
      · obtain ⟨g1, g2, g3, g4, g5⟩ := R3; obtain ⟨m1, m2, m3, m4, m5⟩ := N3
        go_wp2_with fail
        exact bodyPost_ret (v := .agg #[.int .i64 0, .int .i64 1]) (by simp (maxDischargeDepth := 6) [results, Try.results42, go_sem, *]) rfl ⟨_, _, rfl, ((((w3c.setOther hk hBk _ _).setOther hk hBk _ _).setOther hpw hBw _ _).setOther hpw hBw _ _), ((((b3.setNew hwk' _ _).setNew hwk' _ _).setNew (Nat.le_refl _) _ _).setNew (Nat.le_refl _) _ _)⟩
    · go_wp2_with fail
      have hp := pickLit B p w3 [0, 1, -1, 3] w3c (by decide) (by decide); simp only [List.map_cons, List.map_nil, List.length_cons, List.length_nil, Nat.zero_add, Nat.reduceAdd] at hp; refine hp.mono ?_; clear hp; rintro e w4 ⟨v, rfl, w4c, w4b⟩
      have R4 := R3.but w4b hpw
      have N4 := N3.but w4b hk
      have b4 : But p w w4 := b3.trans w4b
      clear R3 N3 b3 w4b w3c
      go_wp2_with fail
      have hp := pickLit B p w4 [0, 1, 2, 3, 6, -1] w4c (by decide) (by decide); simp only [List.map_cons, List.map_nil, List.length_cons, List.length_nil, Nat.zero_add, Nat.reduceAdd] at hp; refine hp.mono ?_; clear hp; rintro e w5 ⟨u, rfl, w5c, w5b⟩
      have R5 := R4.but w5b hpw
      have N5 := N4.but w5b hk
      have b5 : But p w w5 := b4.trans w5b
      clear R4 N4 b4 w5b w4c
      obtain ⟨g1, g2, g3, g4, g5⟩ := R5; obtain ⟨m1, m2, m3, m4, m5⟩ := N5
      go_wp2_with fail
      exact bodyPost_ret (v := .agg #[.int .i64 v, .int .i64 u]) (by simp (maxDischargeDepth := 6) [results, Try.results42, go_sem, *]) rfl ⟨_, _, rfl, ((((w5c.setOther hk hBk _ _).setOther hk hBk _ _).setOther hpw hBw _ _).setOther hpw hBw _ _), ((((b5.setNew hwk' _ _).setNew hwk' _ _).setNew (Nat.le_refl _) _ _).setNew (Nat.le_refl _) _ _)⟩
  · go_wp2_with fail
    have hp := pickLit B p w3 [0, 1, 500000, 500001, 100] w3c (by decide) (by decide); simp only [List.map_cons, List.map_nil, List.length_cons, List.length_nil, Nat.zero_add, Nat.reduceAdd] at hp; refine hp.mono ?_; clear hp; rintro e w4 ⟨v, rfl, w4c, w4b⟩
    have R4 := R3.but w4b hpw
    have N4 := N3.but w4b hk
    have b4 : But p w w4 := b3.trans w4b
    clear R3 N3 b3 w4b w3c
    go_wp2_with fail
    have hp := pickLit B p w4 [1000000, 1000001, 999999] w4c (by decide) (by decide); simp only [List.map_cons, List.map_nil, List.length_cons, List.length_nil, Nat.zero_add, Nat.reduceAdd] at hp; refine hp.mono ?_; clear hp; rintro e w5 ⟨u, rfl, w5c, w5b⟩
    have R5 := R4.but w5b hpw
    have N5 := N4.but w5b hk
    have b5 : But p w w5 := b4.trans w5b
    clear R4 N4 b4 w5b w4c
    obtain ⟨g1, g2, g3, g4, g5⟩ := R5; obtain ⟨m1, m2, m3, m4, m5⟩ := N5
    go_wp2_with fail
    exact bodyPost_ret (v := .agg #[.int .i64 v, .int .i64 u]) (by simp (maxDischargeDepth := 6) [results, Try.results42, go_sem, *]) rfl ⟨_, _, rfl, ((((w5c.setOther hk hBk _ _).setOther hk hBk _ _).setOther hpw hBw _ _).setOther hpw hBw _ _), ((((b5.setNew hwk' _ _).setNew hwk' _ _).setNew (Nat.le_refl _) _ _).setNew (Nat.le_refl _) _ _)⟩
set_option maxHeartbeats 400000 in
theorem big_any (a : Option Addr) (n c : Nat) (w : World) :
    Calls Try.prog 5 #[.slice a n c] w fun e w' => e = .returned (.bool (decide (1048576 < (n : Int)))) ∧ w = w' := by
  go_enter Try.func5, Try.ntmps5
  go_wp2
  go_ret
  exact ⟨rfl, rfl⟩
set_option maxHeartbeats 400000 in
theorem at_any (a : Option Addr) (n c i B : Nat) (w : World) (hn : n ≤ 1048576) (hi : i ≤ 1000) (hcode : CodeB w B a n) :
    Calls Try.prog 10 #[.slice a n c, .int .i64 i] w fun e w' => ∃ x : Int, e = .returned (.int .i64 x) ∧ 0 ≤ x ∧ x ≤ 255 ∧ w = w' := by
  by_cases h : i < n
  · have hd : (i : Int) < (n : Int) := by omega
    rcases hcode with h0 | ⟨b, off, rfl, hb, hz⟩
    · omega
    · obtain ⟨z, hz, z0, z1⟩ := hz i h
      go_enter Try.func10, Try.ntmps10
      go_wp2_with fail
      go_ret
      exact ⟨z, rfl, z0, z1, rfl⟩
  · have hd : decide ((i : Int) < (n : Int)) = false := by simp; omega
    have hm := Int.emod_lt_of_pos ((i : Int) * 7 + n) (b := 256) (by omega)
    have hm0 := Int.emod_nonneg ((i : Int) * 7 + n) (b := 256) (by omega)
    clear hcode
    go_enter Try.func10, Try.ntmps10
    go_wp2_with fail
    go_ret
    exact ⟨_, rfl, by omega, by omega, rfl⟩
end Go.Proofs.Ytkeijldfblgeaaa
namespace Go.Proofs.Ytkeijldfblgeaaa
open Go.RowKit
set_option linter.unusedVariables false
/- A list of peers beside the cursor. -/
def Pw (w : World) (B p : Nat) (v : Value) (L : List PT) (wr : World) : Prop := CurOk wr B p ∧ wr.ownsRow w.heap.size 51 5 v L.length (prow L) ∧ But p w wr ∧ p < w.heap.size
theorem Pw.call {w : World} {B p : Nat} {v : Value} {L : List PT} {wr wr' : World} (h : Pw w B p v L wr) (hc : CurOk wr' B p) (hb : But p wr wr') : Pw w B p v L wr' := ⟨hc, own_butK h.2.1 hb h.2.2.2, h.2.2.1.trans hb, h.2.2.2⟩
theorem Pw.below {w : World} {B p : Nat} {v : Value} {L : List PT} {wr wr' : World} (h : Pw w B p v L wr) (hb : Below wr.heap.size wr wr') : Pw w B p v L wr' := ⟨h.1.below hb, own_belK' h.2.1 hb, h.2.2.1.trans ⟨hb.os, hb.tape, hb.output, hb.size, fun k hk _ => hb.block k hk⟩, h.2.2.2⟩
theorem CurOk.belowV {w w' : World} {B p Q : Nat} (h : CurOk w B p) (hb : Below Q w w') (hq : p < Q) : CurOk w' B p := by
  obtain ⟨a, n, c, i, hh, h0, h1, h2, f0, f1, f2, hi, hn, hc, hB, hp⟩ := h
  refine ⟨a, n, c, i, hh, ?_, ?_, ?_, ?_, ?_, ?_, hi, hn, hc.below (hb.mono (by omega)), hB, Nat.lt_of_lt_of_le hp hb.size⟩
  · rw [hb.cell (p := ⟨p, 0, none⟩) hq]; exact h0
  · rw [hb.cell (p := ⟨p, 1, none⟩) hq]; exact h1
  · rw [hb.cell (p := ⟨p, 2, none⟩) hq]; exact h2
  · rw [hb.frozen (p := ⟨p, 0, none⟩) hq]; exact f0
  · rw [hb.frozen (p := ⟨p, 1, none⟩) hq]; exact f1
  · rw [hb.frozen (p := ⟨p, 2, none⟩) hq]; exact f2
theorem CurOk.kept {w w' : World} {B p : Nat} {o : Option Nat} (h : CurOk w B p) (hg : w.grownBy w' o) (hne : ∀ k, k ≤ p → some k ≠ o) : CurOk w' B p :=
  h.belowV (grown_bel hg (B := p + 1) (by have := h.lt; omega) (fun b hb => hne b (by omega))) (Nat.lt_succ_self _)
theorem Pw.add {w : World} {B p : Nat} {v v' : Value} {L L' : List PT} {wr w9 : World} (h : Pw w B p v L wr) (O9 : w9.ownsRow w.heap.size 51 5 v' L'.length (prow L')) (hg : wr.grownBy w9 v.ownBlock) : Pw w B p v' L' w9 := by
  obtain ⟨h1, h2, h3, h4⟩ := h
  have hne : ∀ k, k < w.heap.size → some k ≠ v.ownBlock := fun k hk e => by have := (World.ownsRow.lt h2 k e.symm).1; omega
  exact ⟨h1.kept hg (fun k hk => hne k (by omega)), O9, ⟨hg.os.trans h3.1, hg.tape.trans h3.2.1, hg.output.trans h3.2.2.1, Nat.le_trans h3.2.2.2.1 hg.size, fun k hk hp => (hg.block k (Nat.lt_of_lt_of_le hk h3.2.2.2.1) (hne k hk)).trans (h3.2.2.2.2 k hk hp)⟩, h4⟩
set_option maxRecDepth 100000 in
set_option maxHeartbeats 8000000 in
theorem l10DrawPeers_any (B p : Nat) (w : World) (hcur : CurOk w B p) :
    Calls Try.prog 58 #[.pointer (some ⟨p, 0, none⟩)] w fun e w' => ∃ v L, e = .returned v ∧ Pw w B p v L w' ∧ L.length ≤ 8 := by
  have hpl := hcur.lt
  have A1 := Below.nw w (.cells #[] 51)
  have ST : Pw w B p (.slice (some ⟨w.heap.size, 0, none⟩) 0 0) [] (w.alloc (.cells #[] 51)) := ⟨hcur.below A1, made_peer w, ⟨A1.os, A1.tape, A1.output, A1.size, fun k hk _ => A1.block k hk⟩, hpl.1⟩
  go_enter Try.func58, Try.ntmps58
  go_upto_region 2 with fail
  clear A1 hcur
  generalize w.alloc (.cells #[] 51) = w1 at *
  go_wp2_with fail
  refine (l1Below_any B p 60 _ ST.1).mono ?_
  rintro e w2 ⟨mid, rfl, m0, m1, m2, _, hc, hb⟩
  have m3 := m2 (by omega)
  replace ST := ST.call hc hb
  clear hc hb m2
  go_wp2_with fail
  go_loopw [3, 5] (fun v i wr => ∃ (k : Nat) (L : List PT), k ≤ 8 ∧ i = .int .i64 k ∧ L.length ≤ k ∧ Pw w B p v L wr) (fun _ i _ => 8 - (intOf i).toNat)
  case atStart => exact ⟨0, [], Nat.zero_le _, rfl, Nat.le_refl _, ST⟩
  case round =>
    clear ST
    obtain ⟨k, L, hk, rfl, hL, ST⟩ := hrel
    by_cases hlt : k < 8
    · have hli : (k : Int) < 8 := by omega
      go_wp2_with fail
      refine (l1Once_any B p 2 _ ST.1).mono ?_
      rintro e w3 ⟨z, rfl, hc, hb⟩
      replace ST := ST.call hc hb
      clear hc hb
      cases z with
      | true =>
        go_wp2_with fail
        go_roundw
        case rel => exact ⟨k + 1, L, by omega, by go_num, by omega, ST⟩
        case measure => simp [intOf]; omega
      | false =>
        go_wp2_with fail
        refine (l1Below_any B p 30 _ ST.1).mono ?_
        rintro e w4 ⟨x1, rfl, a0, a1, a2, _, hc, hb⟩
        have a3 := a2 (by omega)
        replace ST := ST.call hc hb
        clear hc hb a2
        go_wp2_with fail
        refine (l1Below_any B p 50 _ ST.1).mono ?_
        rintro e w5 ⟨x2, rfl, b0, b1, b2, _, hc, hb⟩
        have b3 := b2 (by omega)
        replace ST := ST.call hc hb
        clear hc hb b2
        go_wp2_with fail
        refine (l1Below_any B p 60 _ ST.1).mono ?_
        rintro e w6 ⟨x3, rfl, c0, c1, c2, _, hc, hb⟩
        have c3 := c2 (by omega)
        replace ST := ST.call hc hb
        clear hc hb c2
        go_wp2_with fail
        refine (l1Once_any B p 3 _ ST.1).mono ?_
        rintro e w7 ⟨x4, rfl, hc, hb⟩
        replace ST := ST.call hc hb
        clear hc hb
        have OW := ST.2.1
        have hsz : w.heap.size ≤ w7.heap.size := ST.2.2.1.2.2.2.1
        go_wp2_with (at_builtin; refine add_peer rfl _ _ rfl w.heap.size L _ rfl OW rfl (by omega) (by omega) ?_; intro v' w9 O9 hg9 hn9)
        have ST9 : Hid (Pw w B p v' _ w9) := ST.add O9 hg9
        clear OW O9 hg9 hn9 ST
        go_wp2_with fail
        go_roundw
        case rel => exact ⟨k + 1, _, by omega, by go_num, by simp; omega, ST9.out⟩
        case measure => simp [intOf]; omega
    · have hkn : k = 8 := by omega
      subst hkn
      obtain ⟨av, cv, rfl, _, _, _⟩ := ownF_src ST.2.1
      go_wp2_with fail
      go_ret
      exact ⟨_, L, rfl, ST, hL⟩
end Go.Proofs.Ytkeijldfblgeaaa
namespace Go.Proofs.Ytkeijldfblgeaaa
open Go.RowKit
set_option linter.unusedVariables false
theorem gP_set {L : List PT} {i q : Nat} (hi : i < L.length) (v : PT) : gP (L.set i v) q = if i = q then v else gP L q := by
  rw [gP, List.getD_eq_getElem?_getD, List.getElem?_set, gP, List.getD_eq_getElem?_getD]
  by_cases e : i = q
  · subst e; simp [hi]
  · simp [e]
theorem own_put5 {w : World} {base : Nat} {T : TypeId} {a : Option Addr} {c : Nat} {L : List PT} (h : w.ownsRow base T 5 (.slice a L.length c) L.length (prow L)) {i : Nat} (hi : i < L.length) :
    ∃ g, a = some ⟨g, 0, none⟩ ∧ base ≤ g ∧ g < w.heap.size ∧ (∀ j, j < 5 → (∃ u, w.cell? ⟨g, i * 5 + j, none⟩ = some u) ∧ w.frozen? ⟨g, i * 5 + j, none⟩ = false) ∧
      ∀ (j : Nat) (q : PT) (u : Value), j < 5 → MCPeer q j = u → (∀ t, t < 5 → t ≠ j → MCPeer q t = MCPeer (gP L i) t) → (w.setCell ⟨g, i * 5 + j, none⟩ u).ownsRow base T 5 (.slice a (L.set i q).length c) (L.set i q).length (prow (L.set i q)) := by
  rcases h.2 with ⟨_, h0⟩ | ⟨g, cap, cur, he, hb, hg, hn, hc, hs, ht⟩
  · omega
  simp at he
  obtain ⟨rfl, rfl⟩ := he
  have hr : w.rowIs g T (c * 5) (fun j => cur.getD j undef) := ⟨cur, hg, hs, fun j hj => by rw [Array.getElem?_eq_getElem (by omega)]; exact congrArg some (by show _ = cur.getD j undef; rw [Array.getD_eq_getD_getElem?, Array.getElem?_eq_getElem (by omega)]; rfl)⟩
  have hcell : ∀ t, t < L.length * 5 → cur.getD t undef = MFPeer (gP L) t := fun t h2 => by
    have e : (cur.toList.take (L.length * 5))[t]? = (prow L)[t]? := by rw [ht]
    rw [List.getElem?_take, if_pos h2, prow, List.getElem?_map, List.getElem?_range h2] at e
    have e2 : cur[t]? = some (MFPeer (gP L) t) := by simpa using e
    rw [Array.getD_eq_getD_getElem?, e2]
    rfl
  refine ⟨g, rfl, hb, hr.lt, fun j hj => ⟨⟨_, hr.cell (by omega)⟩, hr.frozen _⟩, fun j q u hj hu hq => ?_⟩
  have hr2 := hr.set (i * 5 + j) u
  obtain ⟨c2, k1, k2, k3⟩ := hr2
  rw [List.length_set]
  refine ⟨by simp [prow], .inr ⟨g, c, c2, rfl, hb, k1, hn, hc, k2, ?_⟩⟩
  apply List.ext_getElem?
  intro t
  by_cases ht5 : t < L.length * 5
  · rw [List.getElem?_take, if_pos ht5, prow, List.length_set, List.getElem?_map, List.getElem?_range ht5]
    have e := k3 t (by omega)
    rw [Array.getElem?_toList, e]
    show some _ = some (MFPeer (gP (L.set i q)) t)
    congr 1
    show (if t = i * 5 + j then u else cur.getD t undef) = MCPeer (gP (L.set i q) (t / 5)) (t % 5)
    rw [gP_set hi]
    by_cases e1 : t = i * 5 + j
    · rw [if_pos e1, if_pos (by omega), show t % 5 = j by omega, hu]
    · rw [if_neg e1, hcell t ht5]
      show MCPeer (gP L (t / 5)) (t % 5) = _
      by_cases e2 : i = t / 5
      · rw [if_pos e2, hq (t % 5) (by omega) (by omega), e2]
      · rw [if_neg e2]
  · rw [List.getElem?_take, if_neg ht5, List.getElem?_eq_none (by simp [prow]; omega)]
theorem Pw.set {w : World} {B p : Nat} {v : Value} {L L' : List PT} {wr : World} {g o : Nat} {u : Value} (h : Pw w B p v L wr) (hg : w.heap.size ≤ g) (O : (wr.setCell ⟨g, o, none⟩ u).ownsRow w.heap.size 51 5 v L'.length (prow L')) : Pw w B p v L' (wr.setCell ⟨g, o, none⟩ u) := by
  obtain ⟨h1, h2, h3, h4⟩ := h
  have hb := (But.refl g wr).setCell o u
  exact ⟨h1.kept hb.grK (fun k hk e => by have := Option.some.inj e; omega), O, ⟨hb.1.trans h3.1, hb.2.1.trans h3.2.1, hb.2.2.1.trans h3.2.2.1, Nat.le_trans h3.2.2.2.1 hb.2.2.2.1, fun k hk hp => (hb.2.2.2.2 k (Nat.lt_of_lt_of_le hk h3.2.2.2.1) (by omega)).trans (h3.2.2.2.2 k hk hp)⟩, h4⟩
end Go.Proofs.Ytkeijldfblgeaaa
namespace Go.Proofs.Ytkeijldfblgeaaa
open Go.RowKit
set_option linter.unusedVariables false
set_option maxRecDepth 100000 in
set_option maxHeartbeats 8000000 in
theorem l10DrawAny_any (B p : Nat) (w : World) (hcur : CurOk w B p) :
    Calls Try.prog 39 #[.pointer (some ⟨p, 0, none⟩)] w fun e w' => ∃ v L, e = .returned v ∧ Pw w B p v L w' ∧ L.length ≤ 9 := by
  have hpl := hcur.lt
  go_enter Try.func39, Try.ntmps39
  go_wp2_with fail
  refine (l10DrawPeers_any B p _ hcur).mono ?_
  rintro e w1 ⟨v, L, rfl, ST, hL⟩
  clear hcur
  obtain ⟨av, cv, rfl, _, _, _⟩ := ownF_src ST.2.1
  by_cases hz : L.length = 0
  · have hL0 : L = [] := List.eq_nil_of_length_eq_zero hz
    subst hL0
    clear hz
    go_wp2_with fail
    go_ret
    exact ⟨_, [], rfl, ST, by simp⟩
  have hz' : ((L.length : Int) == 0) = false := beq_eq_false_iff_ne.2 (by omega)
  go_wp2_with fail
  refine (l1Below_any B p _ _ ST.1).mono ?_
  rintro e w2 ⟨x, rfl, x0, _, x2, _, hc, hb⟩
  have x3 := x2 (by omega)
  replace ST := ST.call hc hb
  clear hc hb x2 hz'
  obtain ⟨i, rfl⟩ := Int.eq_ofNat_of_zero_le x0
  have hi : i < L.length := by omega
  go_wp2_with fail
  refine (l1Below_any B p 25 _ ST.1).mono ?_
  rintro e w3 ⟨z, rfl, z0, _, _, _, hc, hb⟩
  replace ST := ST.call hc hb
  clear hc hb
  obtain ⟨g, ha, hgb, hgl, hcl, hput⟩ := own_put5 ST.2.1 hi
  subst ha
  have HI : Hid (∀ wq, Pw w B p (.slice (some ⟨g, 0, none⟩) L.length cv) L wq → g < wq.heap.size ∧ (∀ j, j < 5 → (∃ u, wq.cell? ⟨g, i * 5 + j, none⟩ = some u) ∧ wq.frozen? ⟨g, i * 5 + j, none⟩ = false) ∧ ∀ (j : Nat) (q : PT) (u : Value), j < 5 → MCPeer q j = u → (∀ t, t < 5 → t ≠ j → MCPeer q t = MCPeer (gP L i) t) → (wq.setCell ⟨g, i * 5 + j, none⟩ u).ownsRow w.heap.size 51 5 (.slice (some ⟨g, 0, none⟩) L.length cv) L.length (prow (L.set i q))) := fun wq hq => by
    obtain ⟨g', ha', h1, h2, h3, h4⟩ := own_put5 hq.2.1 hi
    simp at ha'
    subst ha'
    exact ⟨h2, h3, fun j q u a b c => by have := h4 j q u a b c; rw [List.length_set] at this; exact this⟩
  clear hgl hcl hput
  have hLm : L.length ≤ 9 := by omega
  by_cases c0 : z = 0
  · subst c0
    have A1 := Below.nw w3 (.cells #[.int .i64 (-1), .int .i64 8, .int .i64 0] 3)
    have hcl : ∀ j, j < 3 → ∃ v : Int, (w3.alloc (.cells #[.int .i64 (-1), .int .i64 8, .int .i64 0] 3)).cell? ⟨w3.heap.size, 0 + j, none⟩ = some (.int .i64 v) := fun j hj => by
      match j, hj with
      | 0, _ => exact ⟨-1, by simp⟩
      | 1, _ => exact ⟨8, by simp⟩
      | 2, _ => exact ⟨0, by simp⟩
    have CP := l1PickInt_any B p w3.heap.size 0 3 3 _ (ST.below A1).1 (by omega) (by omega) (by simp) (by have := ST.1.lt; omega) hcl
    replace ST := ST.below A1
    clear hcl A1
    go_wp2_with fail
    refine CP.mono ?_
    rintro e w4 ⟨_, y, _, _, rfl, hc, hb⟩
    replace ST := ST.call hc hb
    clear hc hb CP
    obtain ⟨hl, hcf, hput⟩ := HI.out _ ST
    obtain ⟨⟨u, hu'⟩, hf'⟩ := hcf 0 (by omega)
    have hu : w4.cell? ⟨g, i * 5, none⟩ = some u := hu'
    have hf : w4.frozen? ⟨g, i * 5, none⟩ = false := hf'
    clear hu' hf'
    have O5 := hput 0 (y, (gP L i).2) (.int .i64 y) (by omega) rfl (fun t h1 h2 => by match t, h1, h2 with | 1, _, _ => rfl | 2, _, _ => rfl | 3, _, _ => rfl | 4, _, _ => rfl)
    have S5 : Hid (Pw w B p _ (L.set i (y, (gP L i).2)) (w4.setCell ⟨g, i * 5, none⟩ (.int .i64 y))) := ST.set hgb (by rw [List.length_set]; exact O5)
    clear hput hcf O5
    go_wp2_with fail
    go_ret
    exact ⟨_, _, rfl, S5.out, by rw [List.length_set]; omega⟩
  by_cases c1 : z = 1
  · subst c1
    go_wp2_with fail
    refine (l2DrawCount_any B p _ ST.1).mono ?_
    rintro e w4 ⟨y, rfl, hc, hb⟩
    replace ST := ST.call hc hb
    clear hc hb
    obtain ⟨hl, hcf, hput⟩ := HI.out _ ST
    obtain ⟨⟨u, hu⟩, hf⟩ := hcf 3 (by omega)
    have O5 := hput 3 ((gP L i).1, (gP L i).2.1, (gP L i).2.2.1, y, (gP L i).2.2.2.2) (.int .i64 y) (by omega) rfl (fun t h1 h2 => by match t, h1, h2 with | 0, _, _ => rfl | 1, _, _ => rfl | 2, _, _ => rfl | 4, _, _ => rfl)
    have S5 : Hid (Pw w B p _ (L.set i _) (w4.setCell ⟨g, i * 5 + 3, none⟩ (.int .i64 y))) := ST.set hgb (by rw [List.length_set]; exact O5)
    clear hput hcf O5
    go_wp2_with fail
    go_ret
    exact ⟨_, _, rfl, S5.out, by rw [List.length_set]; omega⟩
  by_cases c2 : z = 2
  · subst c2
    go_wp2_with fail
    refine (l1DrawIval_any B p _ ST.1).mono ?_
    rintro e w4 ⟨y1, y2, rfl, hc, hb⟩
    replace ST := ST.call hc hb
    clear hc hb
    obtain ⟨hl, hcf, hput⟩ := HI.out _ ST
    obtain ⟨⟨u, hu⟩, hf⟩ := hcf 1 (by omega)
    obtain ⟨⟨u2, hu2⟩, hf2⟩ := hcf 2 (by omega)
    have O5 := hput 1 ((gP L i).1, y1, (gP L i).2.2) (.int .i64 y1) (by omega) rfl (fun t h1 h2 => by match t, h1, h2 with | 0, _, _ => rfl | 2, _, _ => rfl | 3, _, _ => rfl | 4, _, _ => rfl)
    have S5 : Pw w B p (.slice (some ⟨g, 0, none⟩) L.length cv) (L.set i ((gP L i).1, y1, (gP L i).2.2)) (w4.setCell ⟨g, i * 5 + 1, none⟩ (.int .i64 y1)) := ST.set hgb (by rw [List.length_set]; exact O5)
    have S5' := S5.2.1
    have e5 : (L.set i ((gP L i).1, y1, (gP L i).2.2)).length = L.length := List.length_set
    obtain ⟨g', ha', _, _, _, hput2⟩ := own_put5 (L := L.set i ((gP L i).1, y1, (gP L i).2.2)) (c := cv) (a := some ⟨g, 0, none⟩) (by rw [e5] at S5' ⊢; exact S5') (i := i) (by omega)
    simp at ha'
    subst ha'
    have O6 := hput2 2 ((gP L i).1, y1, y2, (gP L i).2.2.2) (.int .i64 y2) (by omega) rfl (fun t h1 h2 => by rw [gP_set hi, if_pos rfl]; match t, h1, h2 with | 0, _, _ => rfl | 1, _, _ => rfl | 3, _, _ => rfl | 4, _, _ => rfl)
    have S6 : Hid (Pw w B p (.slice (some ⟨g, 0, none⟩) L.length cv) ((L.set i ((gP L i).1, y1, (gP L i).2.2)).set i ((gP L i).1, y1, y2, (gP L i).2.2.2)) ((w4.setCell ⟨g, i * 5 + 1, none⟩ (.int .i64 y1)).setCell ⟨g, i * 5 + 2, none⟩ (.int .i64 y2))) := S5.set hgb (by rw [List.length_set, List.length_set] at O6 ⊢; exact O6)
    clear hput hcf O5 O6 S5 S5' hput2 e5
    go_wp2_with fail
    go_ret
    exact ⟨_, _, rfl, S6.out, by rw [List.length_set, List.length_set]; omega⟩
  by_cases c3 : z = 3
  · subst c3
    have OW := ST.2.1
    have hsz : w.heap.size ≤ w3.heap.size := ST.2.2.1.2.2.2.1
    go_wp2_with (at_builtin; refine add_peer rfl _ _ rfl w.heap.size L _ rfl OW rfl (by omega) (by omega) ?_; intro v' w9 O9 hg9 hn9)
    have S9 := ST.add O9 hg9
    obtain ⟨a9, c9, rfl, _, _, _⟩ := ownF_src S9.2.1
    have S9' : Hid _ := S9
    clear OW O9 hg9 hn9 ST S9
    go_wp2_with fail
    go_ret
    exact ⟨_, _, rfl, S9'.out, by simp; omega⟩
  · have d0 : (z == 0) = false := by simp [c0]
    have d1 : (z == 1) = false := by simp [c1]
    have d2 : (z == 2) = false := by simp [c2]
    have d3 : (z == 3) = false := by simp [c3]
    go_wp2_with fail
    go_ret
    exact ⟨_, L, rfl, ST, by omega⟩
end Go.Proofs.Ytkeijldfblgeaaa
namespace Go.Proofs.Ytkeijldfblgeaaa
open Go.RowKit
set_option linter.unusedVariables false
theorem two_but (w : World) (j : Nat) (a b : Value) : But j w ((w.setCell ⟨j, 0, none⟩ a).setCell ⟨j, 1, none⟩ b) := ((But.refl j w).setCell 0 a).setCell 1 b
theorem CodeB.up {w : World} {B B' : Nat} {a : Option Addr} {n : Nat} (h : CodeB w B a n) (hb : B ≤ B') : CodeB w B' a n := by
  rcases h with h | ⟨b, off, h1, h2, h3⟩
  · exact .inl h
  · exact .inr ⟨b, off, h1, by omega, h3⟩
/- The state of the draw: the list beside the cursor, the two boxes. -/
def Ds (w w1 : World) (B p : Nat) (v : Value) (L : List PT) (bn : Nat) (lo hi : Int) (wr : World) : Prop := Pw w1 B p v L wr ∧ Bx2 wr w.heap.size (.int .i64 0) (.int .i64 0) ∧ Bx2 wr bn (.int .i64 lo) (.int .i64 hi) ∧ w.heap.size < p ∧ p < bn ∧ w.heap.size ≤ w1.heap.size ∧ Below w.heap.size w wr
theorem Ds.call {w w1 : World} {B p : Nat} {v : Value} {L : List PT} {bn : Nat} {lo hi : Int} {wr wr' : World} (h : Ds w w1 B p v L bn lo hi wr) (hc : CurOk wr' B p) (hb : But p wr wr') : Ds w w1 B p v L bn lo hi wr' := by
  obtain ⟨h1, h2, h3, h4, h5, h6, h7⟩ := h
  exact ⟨h1.call hc hb, h2.but hb (by omega), h3.but hb (by omega), h4, h5, h6, h7.trans (hb.below (by omega) h7.size)⟩
theorem Ds.drew {w w1 : World} {B p : Nat} {v : Value} {L : List PT} {bn : Nat} {lo hi : Int} {wr : World} (h : Ds w w1 B p v L bn lo hi wr) : Ds w w1 B p v L bn lo hi wr.drew := by
  obtain ⟨⟨a1, a2, a3, a4⟩, h2, h3, h4, h5, h6, h7⟩ := h
  exact ⟨⟨a1, a2, ⟨a3.1, a3.2.1, a3.2.2.1, a3.2.2.2.1, a3.2.2.2.2⟩, a4⟩, h2, h3, h4, h5, h6, Below.drew h7⟩
theorem wrap_nd {u z : Int} (h1 : 0 ≤ u) (h2 : u < 9) (h3 : 0 ≤ z) (h4 : z < 20) : IntKind.i64.wrap (u - IntKind.i64.wrap (Int.tdiv z 19)) = u - Int.tdiv z 19 := by
  rw [Int.tdiv_eq_ediv_of_nonneg h3]
  rw [Go.IntWalk.i64_in (z / 19) ⟨by omega, by omega⟩]
  exact Go.IntWalk.i64_in _ ⟨by omega, by omega⟩
theorem wf_nd {u z : Int} (h1 : 0 ≤ u) (h2 : u < 9) (h3 : 0 ≤ z) (h4 : z < 20) : (Lit.int .i64 (u - Int.tdiv z 19)).wf = true := by
  rw [Int.tdiv_eq_ediv_of_nonneg h3]
  simp only [Lit.wf, Bool.and_eq_true, decide_eq_true_eq]
  exact ⟨by show (-9223372036854775808 : Int) ≤ _; omega, by show _ ≤ (9223372036854775807 : Int); omega⟩
set_option maxRecDepth 100000 in
set_option maxHeartbeats 8000000 in
theorem DrawPeerPut_any (a : Option Addr) (n c : Nat) (w : World) (hn : n ≤ 1048576) (hcode : CodeB w w.heap.size a n) :
    Calls Try.prog 15 #[.slice a n c] w fun e w' => ∃ (v : Value) (L : List PT) (x lo hi y : Int), e = .returned (.tuple #[v, .int .i64 x, .agg #[.int .i64 lo, .int .i64 hi], .int .i64 y]) ∧ w'.ownsRow w.heap.size 51 5 v L.length (prow L) ∧ L.length ≤ 9 ∧ (Lit.int .i64 x).wf = true ∧ Below w.heap.size w w' := by
  have A0 := Below.nw w (.cells #[.int .i64 0, .int .i64 0] 38)
  have R := Bx2.new w (.int .i64 0) (.int .i64 0) 38
  have hs0 : (w.alloc (.cells #[.int .i64 0, .int .i64 0] 38)).heap.size = w.heap.size + 1 := by simp
  have HC := (hcode.below A0).up (show w.heap.size ≤ (w.alloc (.cells #[.int .i64 0, .int .i64 0] 38)).heap.size by omega)
  clear hcode
  go_enter Try.func15, Try.ntmps15
  go_upto_region 1 with fail
  generalize w.alloc (.cells #[.int .i64 0, .int .i64 0] 38) = w0 at *
  go_wp2_with fail
  refine (l1New_any a n c _ hn HC).mono ?_
  rintro e w1 ⟨p, rfl, hcur, hb⟩
  have hpl := hcur.lt
  replace R := R.below hb
  replace A0 := A0.trans (hb.mono A0.size)
  clear hb HC
  go_wp2_with fail
  refine (l10DrawAny_any w0.heap.size p _ hcur).mono ?_
  rintro e w2 ⟨v, L, rfl, ST, hL⟩
  have hB1 : w.heap.size ≤ w1.heap.size := A0.size
  replace R := R.but ST.2.2.1 (by omega)
  replace A0 := A0.trans (ST.2.2.1.below (B := w.heap.size) (by omega) A0.size)
  obtain ⟨av, cv, rfl, _, _, _⟩ := ownF_src ST.2.1
  clear hcur
  go_wp2_with fail
  refine (l1DrawIval_any w0.heap.size p _ ST.1).mono ?_
  rintro e w3 ⟨lo, hi, rfl, hc, hb⟩
  replace ST := ST.call hc hb
  replace R := R.but hb (by omega)
  replace A0 := A0.trans (hb.below (B := w.heap.size) (by omega) A0.size)
  clear hc hb
  have A3 := Below.nw w3 (.cells #[.int .i64 lo, .int .i64 hi] 38)
  have DS : Ds w w1 w0.heap.size p (.slice av L.length cv) L w3.heap.size lo hi (w3.alloc (.cells #[.int .i64 lo, .int .i64 hi] 38)) := ⟨ST.below A3, R.below A3, Bx2.new w3 (.int .i64 lo) (.int .i64 hi) 38, by omega, ST.1.lt.1, hB1, A0.trans (A3.mono A0.size)⟩
  clear ST R A0 A3
  go_upto_region 4 with fail
  generalize w3.heap.size = bn at *
  generalize w3.alloc (.cells #[.int .i64 lo, .int .i64 hi] 38) = w4 at *
  go_wp2_with fail
  refine (l1Below_any w0.heap.size p 90 _ DS.1.1).mono ?_
  rintro e w5 ⟨y0, rfl, _, _, _, _, hc, hb⟩
  replace DS := DS.call hc hb
  clear hc hb
  go_wp2_with fail
  refine (l1Once_any w0.heap.size p 15 _ DS.1.1).mono ?_
  rintro e w6 ⟨z, rfl, hc, hb⟩
  replace DS := DS.call hc hb
  clear hc hb
  cases z
  · skip
    obtain ⟨n0, n1, n2, n3, n4⟩ := DS.2.2.1
    go_upto_region 7 with fail
    refine wp_region_held_drew (S := (fun w' => w'.cell? ⟨bn, 0, none⟩ = some (.int .i64 lo) ∧ w'.cell? ⟨bn, 1, none⟩ = some (.int .i64 hi))) (by kernel_rfl) ?_ (fun hHeld => ?_)
    · first | exact ⟨n1, n2⟩ | (simp (maxDischargeDepth := 6) [go_sem, *]; done)
    clear n0 n1 n2 n3 n4
    replace DS := DS.drew
    generalize w6.drew = w8 at *
    obtain ⟨n0, n1, n2, n3, n4⟩ := DS.2.2.1
    refine wpAnyH_take (i := 0) (v := ?_) (by rw [List.getElem?_toArray]; rfl) (by kernel_rfl) (by kernel_rfl) (by kernel_rfl) (by intro _ _ _ h; exact h) (Or.inl ⟨by rfl, ?_⟩) (by assumption) ?_
    rotate_left
    · (intro w hSw; (try dsimp only at hSw); go_simp; all_goals with_reducible rfl)
    (try simp only [Act.put, List.setIfInBounds_toArray, List.set_cons_zero, List.set_cons_succ])
    refine wpAnyH_take (i := 1) (v := ?_) (by rw [List.getElem?_toArray]; rfl) (by kernel_rfl) (by kernel_rfl) (by kernel_rfl) (by intro _ _ _ h; exact h) (Or.inl ⟨by rfl, ?_⟩) (by assumption) ?_
    rotate_left
    · (intro w hSw; (try dsimp only at hSw); go_simp; all_goals with_reducible rfl)
    (try simp only [Act.put, List.setIfInBounds_toArray, List.set_cons_zero, List.set_cons_succ])
    refine wpAnyH_take (i := 3) (v := ?_) (by rw [List.getElem?_toArray]; rfl) (by kernel_rfl) (by kernel_rfl) (by kernel_rfl) (by intro _ _ _ h; exact h) (Or.inl ⟨by rfl, ?_⟩) (by assumption) ?_
    rotate_left
    · (intro w hSw; (try dsimp only at hSw); go_simp; all_goals with_reducible rfl)
    (try simp only [Act.put, List.setIfInBounds_toArray, List.set_cons_zero, List.set_cons_succ])
    refine wpAnyH_take (i := 7) (v := ?_) (by rw [List.getElem?_toArray]; rfl) (by kernel_rfl) (by kernel_rfl) (by kernel_rfl) (by intro _ _ _ h; exact h) (Or.inl ⟨by rfl, ?_⟩) (by assumption) ?_
    rotate_left
    · (intro w hSw; (try dsimp only at hSw); go_simp; all_goals with_reducible rfl)
    (try simp only [Act.put, List.setIfInBounds_toArray, List.set_cons_zero, List.set_cons_succ])
    refine wpAnyH_take (i := 8) (v := ?_) (by rw [List.getElem?_toArray]; rfl) (by kernel_rfl) (by kernel_rfl) (by kernel_rfl) (by intro _ _ _ h; exact h) (Or.inl ⟨by rfl, ?_⟩) (by assumption) ?_
    rotate_left
    · (intro w hSw; (try dsimp only at hSw); go_simp; all_goals with_reducible rfl)
    (try simp only [Act.put, List.setIfInBounds_toArray, List.set_cons_zero, List.set_cons_succ])
    refine wpAnyH_ready (rs := [2]) (by kernel_rfl) (by simp) ?_
    refine AllReadyH.cons (by rw [List.getElem?_toArray]; rfl) (fun K hK => ?_) AllReadyH.nil
    go_simp
    refine (l1Below_any w0.heap.size p 9 _ DS.1.1).mono ?_; rintro e v1 ⟨u, rfl, u0, _, u2, _, hc, hb⟩; (have u3 := u2 (by omega)); clear u2; clear n0 n1 n2 n3 n4; (replace DS := DS.call hc hb); clear hc hb; obtain ⟨n0, n1, n2, n3, n4⟩ := DS.2.2.1
    (try go_wp2_with fail)
    refine hK.out _ _ ?_ (fun hHeld => ?_)
    · first | exact ⟨n1, n2⟩ | (simp (maxDischargeDepth := 6) [go_sem, *]; done)
    clear hK K
    (try simp only [Act.put, List.setIfInBounds_toArray, List.set_cons_zero, List.set_cons_succ])
    refine wpAnyH_ready (rs := [4]) (by kernel_rfl) (by simp) ?_
    refine AllReadyH.cons (by rw [List.getElem?_toArray]; rfl) (fun K hK => ?_) AllReadyH.nil
    go_simp
    refine (l1Below_any w0.heap.size p 20 _ DS.1.1).mono ?_; rintro e v2 ⟨q, rfl, q0, _, q2, _, hc, hb⟩; (have q3 := q2 (by omega)); clear q2; clear n0 n1 n2 n3 n4; (replace DS := DS.call hc hb); clear hc hb; obtain ⟨n0, n1, n2, n3, n4⟩ := DS.2.2.1; obtain ⟨r0, r1, r2, r3, r4⟩ := DS.2.1; (have hbn : w.heap.size ≠ bn := by have := DS.2.2.2.1; have := DS.2.2.2.2.1; omega); have hbn' := Ne.symm hbn
    (try go_wp2_with fail)
    refine hK.out _ _ ?_ (fun hHeld => ?_)
    · first | exact ⟨n1, n2⟩ | (simp (maxDischargeDepth := 6) [go_sem, *]; done)
    clear hK K
    (try simp only [Act.put, List.setIfInBounds_toArray, List.set_cons_zero, List.set_cons_succ])
    refine wpAnyH_take (i := 5) (v := ?_) (by rw [List.getElem?_toArray]; rfl) (by kernel_rfl) (by kernel_rfl) (by kernel_rfl) (by intro _ _ _ h; exact h) (Or.inl ⟨by rfl, ?_⟩) (by assumption) ?_
    rotate_left
    · (intro w hSw; (try dsimp only at hSw); go_simp; all_goals with_reducible rfl)
    (try simp only [Act.put, List.setIfInBounds_toArray, List.set_cons_zero, List.set_cons_succ])
    refine wpAnyH_take (i := 6) (v := ?_) (by rw [List.getElem?_toArray]; rfl) (by kernel_rfl) (by kernel_rfl) (by kernel_rfl) (by intro _ _ _ h; exact h) (Or.inl ⟨by rfl, ?_⟩) (by assumption) ?_
    rotate_left
    · (intro w hSw; (try dsimp only at hSw); go_simp; all_goals with_reducible rfl)
    (try simp only [Act.put, List.setIfInBounds_toArray, List.set_cons_zero, List.set_cons_succ])
    refine wpAnyH_take (i := 9) (v := ?_) (by rw [List.getElem?_toArray]; rfl) (by kernel_rfl) (by kernel_rfl) (by kernel_rfl) (by intro _ _ _ h; exact h) (Or.inl ⟨by rfl, ?_⟩) (by assumption) ?_
    rotate_left
    · (intro w hSw; (try dsimp only at hSw); go_simp; all_goals with_reducible rfl)
    (try simp only [Act.put, List.setIfInBounds_toArray, List.set_cons_zero, List.set_cons_succ])
    refine wpAnyH_take (i := 10) (v := ?_) (by rw [List.getElem?_toArray]; rfl) (by kernel_rfl) (by kernel_rfl) (by kernel_rfl) (by intro _ _ _ h; exact h) (Or.inl ⟨by rfl, ?_⟩) (by assumption) ?_
    rotate_left
    · (intro w hSw; (try dsimp only at hSw); go_simp; all_goals with_reducible rfl)
    (try simp only [Act.put, List.setIfInBounds_toArray, List.set_cons_zero, List.set_cons_succ])
    refine wpAnyH_ready (rs := [11]) (by kernel_rfl) (by simp) ?_
    refine AllReadyH.cons (by rw [List.getElem?_toArray]; rfl) (fun K hK => ?_) AllReadyH.nil
    go_simp
    refine hK.out _ _ ?_ (fun hHeld => ?_)
    · first | exact ⟨n1, n2⟩ | (simp (maxDischargeDepth := 6) [go_sem, *]; done)
    clear hK K
    (try simp only [Act.put, List.setIfInBounds_toArray, List.set_cons_zero, List.set_cons_succ])
    refine wpAnyH_take (i := 12) (v := ?_) (by rw [List.getElem?_toArray]; rfl) (by kernel_rfl) (by kernel_rfl) (by kernel_rfl) (by intro _ _ _ h; exact h) (Or.inl ⟨by rfl, ?_⟩) (by assumption) ?_
    rotate_left
    · (intro w hSw; (try dsimp only at hSw); go_simp; all_goals with_reducible rfl)
    (try simp only [Act.put, List.setIfInBounds_toArray, List.set_cons_zero, List.set_cons_succ])
    refine wpAnyH_done (by kernel_rfl) ?_ _
    have hO := DS.1.2.1
    have hwf := wf_nd u0 u3 q0 q3
    have hwr := wrap_nd u0 u3 q0 q3
    have hb1 := DS.2.2.2.2.2.1
    have hBB := DS.2.2.2.2.2.2
    go_wp2_with fail
    exact bodyPost_ret (v := (.tuple #[.slice av L.length cv, .int .i64 (u - Int.tdiv q 19), .agg #[.int .i64 lo, .int .i64 hi], .int .i64 y0])) (by simp (maxDischargeDepth := 6) [results, Try.results15, go_sem, *]) rfl ⟨_, L, _, lo, hi, _, rfl, own_base (own_butK hO (two_but _ _ _ _) (by omega)) hb1, by omega, hwf, hBB.trans ((two_but _ _ _ _).below (Nat.le_refl _) hBB.size)⟩
  · go_wp2_with fail
    refine (l2DrawCount_any w0.heap.size p _ DS.1.1).mono ?_
    rintro e w7 ⟨y1, rfl, hc, hb⟩
    replace DS := DS.call hc hb
    clear hc hb
    obtain ⟨n0, n1, n2, n3, n4⟩ := DS.2.2.1
    go_upto_region 7 with fail
    refine wp_region_held_drew (S := (fun w' => w'.cell? ⟨bn, 0, none⟩ = some (.int .i64 lo) ∧ w'.cell? ⟨bn, 1, none⟩ = some (.int .i64 hi))) (by kernel_rfl) ?_ (fun hHeld => ?_)
    · first | exact ⟨n1, n2⟩ | (simp (maxDischargeDepth := 6) [go_sem, *]; done)
    clear n0 n1 n2 n3 n4
    replace DS := DS.drew
    generalize w7.drew = w8 at *
    obtain ⟨n0, n1, n2, n3, n4⟩ := DS.2.2.1
    refine wpAnyH_take (i := 0) (v := ?_) (by rw [List.getElem?_toArray]; rfl) (by kernel_rfl) (by kernel_rfl) (by kernel_rfl) (by intro _ _ _ h; exact h) (Or.inl ⟨by rfl, ?_⟩) (by assumption) ?_
    rotate_left
    · (intro w hSw; (try dsimp only at hSw); go_simp; all_goals with_reducible rfl)
    (try simp only [Act.put, List.setIfInBounds_toArray, List.set_cons_zero, List.set_cons_succ])
    refine wpAnyH_take (i := 1) (v := ?_) (by rw [List.getElem?_toArray]; rfl) (by kernel_rfl) (by kernel_rfl) (by kernel_rfl) (by intro _ _ _ h; exact h) (Or.inl ⟨by rfl, ?_⟩) (by assumption) ?_
    rotate_left
    · (intro w hSw; (try dsimp only at hSw); go_simp; all_goals with_reducible rfl)
    (try simp only [Act.put, List.setIfInBounds_toArray, List.set_cons_zero, List.set_cons_succ])
    refine wpAnyH_take (i := 3) (v := ?_) (by rw [List.getElem?_toArray]; rfl) (by kernel_rfl) (by kernel_rfl) (by kernel_rfl) (by intro _ _ _ h; exact h) (Or.inl ⟨by rfl, ?_⟩) (by assumption) ?_
    rotate_left
    · (intro w hSw; (try dsimp only at hSw); go_simp; all_goals with_reducible rfl)
    (try simp only [Act.put, List.setIfInBounds_toArray, List.set_cons_zero, List.set_cons_succ])
    refine wpAnyH_take (i := 7) (v := ?_) (by rw [List.getElem?_toArray]; rfl) (by kernel_rfl) (by kernel_rfl) (by kernel_rfl) (by intro _ _ _ h; exact h) (Or.inl ⟨by rfl, ?_⟩) (by assumption) ?_
    rotate_left
    · (intro w hSw; (try dsimp only at hSw); go_simp; all_goals with_reducible rfl)
    (try simp only [Act.put, List.setIfInBounds_toArray, List.set_cons_zero, List.set_cons_succ])
    refine wpAnyH_take (i := 8) (v := ?_) (by rw [List.getElem?_toArray]; rfl) (by kernel_rfl) (by kernel_rfl) (by kernel_rfl) (by intro _ _ _ h; exact h) (Or.inl ⟨by rfl, ?_⟩) (by assumption) ?_
    rotate_left
    · (intro w hSw; (try dsimp only at hSw); go_simp; all_goals with_reducible rfl)
    (try simp only [Act.put, List.setIfInBounds_toArray, List.set_cons_zero, List.set_cons_succ])
    refine wpAnyH_ready (rs := [2]) (by kernel_rfl) (by simp) ?_
    refine AllReadyH.cons (by rw [List.getElem?_toArray]; rfl) (fun K hK => ?_) AllReadyH.nil
    go_simp
    refine (l1Below_any w0.heap.size p 9 _ DS.1.1).mono ?_; rintro e v1 ⟨u, rfl, u0, _, u2, _, hc, hb⟩; (have u3 := u2 (by omega)); clear u2; clear n0 n1 n2 n3 n4; (replace DS := DS.call hc hb); clear hc hb; obtain ⟨n0, n1, n2, n3, n4⟩ := DS.2.2.1
    (try go_wp2_with fail)
    refine hK.out _ _ ?_ (fun hHeld => ?_)
    · first | exact ⟨n1, n2⟩ | (simp (maxDischargeDepth := 6) [go_sem, *]; done)
    clear hK K
    (try simp only [Act.put, List.setIfInBounds_toArray, List.set_cons_zero, List.set_cons_succ])
    refine wpAnyH_ready (rs := [4]) (by kernel_rfl) (by simp) ?_
    refine AllReadyH.cons (by rw [List.getElem?_toArray]; rfl) (fun K hK => ?_) AllReadyH.nil
    go_simp
    refine (l1Below_any w0.heap.size p 20 _ DS.1.1).mono ?_; rintro e v2 ⟨q, rfl, q0, _, q2, _, hc, hb⟩; (have q3 := q2 (by omega)); clear q2; clear n0 n1 n2 n3 n4; (replace DS := DS.call hc hb); clear hc hb; obtain ⟨n0, n1, n2, n3, n4⟩ := DS.2.2.1; obtain ⟨r0, r1, r2, r3, r4⟩ := DS.2.1; (have hbn : w.heap.size ≠ bn := by have := DS.2.2.2.1; have := DS.2.2.2.2.1; omega); have hbn' := Ne.symm hbn
    (try go_wp2_with fail)
    refine hK.out _ _ ?_ (fun hHeld => ?_)
    · first | exact ⟨n1, n2⟩ | (simp (maxDischargeDepth := 6) [go_sem, *]; done)
    clear hK K
    (try simp only [Act.put, List.setIfInBounds_toArray, List.set_cons_zero, List.set_cons_succ])
    refine wpAnyH_take (i := 5) (v := ?_) (by rw [List.getElem?_toArray]; rfl) (by kernel_rfl) (by kernel_rfl) (by kernel_rfl) (by intro _ _ _ h; exact h) (Or.inl ⟨by rfl, ?_⟩) (by assumption) ?_
    rotate_left
    · (intro w hSw; (try dsimp only at hSw); go_simp; all_goals with_reducible rfl)
    (try simp only [Act.put, List.setIfInBounds_toArray, List.set_cons_zero, List.set_cons_succ])
    refine wpAnyH_take (i := 6) (v := ?_) (by rw [List.getElem?_toArray]; rfl) (by kernel_rfl) (by kernel_rfl) (by kernel_rfl) (by intro _ _ _ h; exact h) (Or.inl ⟨by rfl, ?_⟩) (by assumption) ?_
    rotate_left
    · (intro w hSw; (try dsimp only at hSw); go_simp; all_goals with_reducible rfl)
    (try simp only [Act.put, List.setIfInBounds_toArray, List.set_cons_zero, List.set_cons_succ])
    refine wpAnyH_take (i := 9) (v := ?_) (by rw [List.getElem?_toArray]; rfl) (by kernel_rfl) (by kernel_rfl) (by kernel_rfl) (by intro _ _ _ h; exact h) (Or.inl ⟨by rfl, ?_⟩) (by assumption) ?_
    rotate_left
    · (intro w hSw; (try dsimp only at hSw); go_simp; all_goals with_reducible rfl)
    (try simp only [Act.put, List.setIfInBounds_toArray, List.set_cons_zero, List.set_cons_succ])
    refine wpAnyH_take (i := 10) (v := ?_) (by rw [List.getElem?_toArray]; rfl) (by kernel_rfl) (by kernel_rfl) (by kernel_rfl) (by intro _ _ _ h; exact h) (Or.inl ⟨by rfl, ?_⟩) (by assumption) ?_
    rotate_left
    · (intro w hSw; (try dsimp only at hSw); go_simp; all_goals with_reducible rfl)
    (try simp only [Act.put, List.setIfInBounds_toArray, List.set_cons_zero, List.set_cons_succ])
    refine wpAnyH_ready (rs := [11]) (by kernel_rfl) (by simp) ?_
    refine AllReadyH.cons (by rw [List.getElem?_toArray]; rfl) (fun K hK => ?_) AllReadyH.nil
    go_simp
    refine hK.out _ _ ?_ (fun hHeld => ?_)
    · first | exact ⟨n1, n2⟩ | (simp (maxDischargeDepth := 6) [go_sem, *]; done)
    clear hK K
    (try simp only [Act.put, List.setIfInBounds_toArray, List.set_cons_zero, List.set_cons_succ])
    refine wpAnyH_take (i := 12) (v := ?_) (by rw [List.getElem?_toArray]; rfl) (by kernel_rfl) (by kernel_rfl) (by kernel_rfl) (by intro _ _ _ h; exact h) (Or.inl ⟨by rfl, ?_⟩) (by assumption) ?_
    rotate_left
    · (intro w hSw; (try dsimp only at hSw); go_simp; all_goals with_reducible rfl)
    (try simp only [Act.put, List.setIfInBounds_toArray, List.set_cons_zero, List.set_cons_succ])
    refine wpAnyH_done (by kernel_rfl) ?_ _
    have hO := DS.1.2.1
    have hwf := wf_nd u0 u3 q0 q3
    have hwr := wrap_nd u0 u3 q0 q3
    have hb1 := DS.2.2.2.2.2.1
    have hBB := DS.2.2.2.2.2.2
    go_wp2_with fail
    exact bodyPost_ret (v := (.tuple #[.slice av L.length cv, .int .i64 (u - Int.tdiv q 19), .agg #[.int .i64 lo, .int .i64 hi], .int .i64 y1])) (by simp (maxDischargeDepth := 6) [results, Try.results15, go_sem, *]) rfl ⟨_, L, _, lo, hi, _, rfl, own_base (own_butK hO (two_but _ _ _ _) (by omega)) hb1, by omega, hwf, hBB.trans ((two_but _ _ _ _).below (Nat.le_refl _) hBB.size)⟩
end Go.Proofs.Ytkeijldfblgeaaa
namespace Go.Proofs.Ytkeijldfblgeaaa
open Go.RowKit
set_option linter.unusedVariables false
abbrev Asc (L : List PT) : Prop := L.Pairwise fun a b => a.1 < b.1
theorem oks_of {M : Nat → PT} : ∀ {n : Nat}, (∀ k, k < n → pOk (M k) = true) → (∀ i j, i < j → j < n → (M i).1 < (M j).1) → oks M n = true
  | 0, _, _ => rfl
  | n + 1, h1, h2 => by
    refine oks_step (oks_of (fun k hk => h1 k (by omega)) (fun i j hij hj => h2 i j hij (by omega))) ?_
    rw [elP, h1 n (by omega)]
    simp only [Bool.true_and, decide_eq_true_eq]
    cases n with
    | zero =>
      have := nodB_t (pOk_t (h1 0 (by omega))).1
      show (-1 : Int) < _
      omega
    | succ k => exact h2 k (k + 1) (by omega) (by omega)
theorem lst_gP (L : List PT) : lst (gP L) L.length = L := by
  apply List.ext_getElem?
  intro i
  rw [lst, List.getElem?_map]
  by_cases h : i < L.length
  · rw [List.getElem?_range h, Option.map_some, gP, List.getD_eq_getElem?_getD, List.getElem?_eq_getElem h]; rfl
  · rw [List.getElem?_eq_none (by simpa using h), List.getElem?_eq_none (by simpa using h)]; rfl
theorem gP_mem {L : List PT} {k : Nat} (h : k < L.length) : gP L k ∈ L := by
  rw [gP, List.getD_eq_getElem?_getD, List.getElem?_eq_getElem h]
  exact List.getElem_mem h
theorem oks_list {L : List PT} (h1 : ∀ p, p ∈ L → pOk p = true) (h2 : Asc L) : oks (gP L) L.length = true := by
  refine oks_of (fun k hk => h1 _ (gP_mem hk)) (fun i j hij hj => ?_)
  have hi : i < L.length := by omega
  have e1 : gP L i = L[i] := by rw [gP, List.getD_eq_getElem?_getD, List.getElem?_eq_getElem hi]; rfl
  have e2 : gP L j = L[j] := by rw [gP, List.getD_eq_getElem?_getD, List.getElem?_eq_getElem hj]; rfl
  rw [e1, e2]
  exact (List.pairwise_iff_getElem.1 h2) i j hi hj hij
theorem oks_mem {L : List PT} (h : oks (gP L) L.length = true) : (∀ p, p ∈ L → pOk p = true) ∧ Asc L := by
  refine ⟨fun p hp => ?_, ?_⟩
  · obtain ⟨i, hi, rfl⟩ := List.getElem_of_mem hp
    have e1 : gP L i = L[i] := by rw [gP, List.getD_eq_getElem?_getD, List.getElem?_eq_getElem hi]; rfl
    rw [← e1]
    exact (elP_t (oks_el h i hi)).1
  · have := (FLP.ofLst h).1
    rw [lst_gP] at this
    exact this
theorem asc_split {x : Int} : ∀ {L : List PT}, Asc L → L = pt1 x L ++ L.filter (fun q => q.1 == x) ++ pt2 x L
  | [], _ => rfl
  | a :: T, h => by
    obtain ⟨ha, hT⟩ := List.pairwise_cons.1 h
    have ih := asc_split (x := x) hT
    rcases Int.lt_trichotomy a.1 x with q | q | q
    · have e1 : pt1 x (a :: T) = a :: pt1 x T := by simp [pt1, q]
      have e2 : (a :: T).filter (fun q => q.1 == x) = T.filter (fun q => q.1 == x) := by
        rw [List.filter_cons, if_neg]
        simp; omega
      have e3 : pt2 x (a :: T) = pt2 x T := by
        rw [pt2, List.filter_cons, if_neg]
        · rfl
        · simp; omega
      rw [e1, e2, e3, List.cons_append, List.cons_append, ← ih]
    · have k1 : pt1 x (a :: T) = [] := List.filter_eq_nil_iff.2 fun b hb => by
        rcases List.mem_cons.1 hb with rfl | hb
        · simp; omega
        · have := ha b hb; simp; omega
      have k2 : T.filter (fun q => q.1 == x) = [] := List.filter_eq_nil_iff.2 fun b hb => by have := ha b hb; simp; omega
      have k3 : pt2 x (a :: T) = T := by
        rw [pt2, List.filter_cons, if_neg (by simp; omega)]
        exact List.filter_eq_self.2 fun b hb => by have := ha b hb; simp; omega
      rw [k1, List.filter_cons, if_pos (by simpa using q), k2, k3]
      rfl
    · have k1 : pt1 x (a :: T) = [] := List.filter_eq_nil_iff.2 fun b hb => by
        rcases List.mem_cons.1 hb with rfl | hb
        · simp; omega
        · have := ha b hb; simp; omega
      have k2 : (a :: T).filter (fun q => q.1 == x) = [] := List.filter_eq_nil_iff.2 fun b hb => by
        rcases List.mem_cons.1 hb with rfl | hb
        · simp; omega
        · have := ha b hb; simp; omega
      have k3 : pt2 x (a :: T) = a :: T := List.filter_eq_self.2 fun b hb => by
        rcases List.mem_cons.1 hb with rfl | hb
        · simp; omega
        · have := ha b hb; simp; omega
      rw [k1, k2, k3]
      rfl
theorem asc_one {x : Int} {L : List PT} (h : Asc L) : (L.filter (fun q => q.1 == x)).length ≤ 1 := by
  have hp : Asc (L.filter (fun q => q.1 == x)) := h.filter _
  have hm : ∀ q, q ∈ L.filter (fun q => q.1 == x) → q.1 = x := fun q hq => by simpa using (List.mem_filter.1 hq).2
  revert hp hm
  generalize L.filter (fun q => q.1 == x) = K
  intro hp hm
  match K, hp, hm with
  | [], _, _ => simp
  | [_], _, _ => simp
  | a :: b :: T, hp, hm =>
    have h1 := hm a (by simp)
    have h2 := hm b (by simp)
    have h3 := (List.pairwise_cons.1 hp).1 b (by simp)
    omega
theorem pin_1 {x : Int} {L : List PT} {p : PT} (hp : p.1 = x) : pt1 x (pinL L p) = pt1 x L := by
  rw [pinL, hp, pt1, List.filter_append, List.filter_append]
  have e1 : (pt1 x L).filter (fun q => decide (q.1 < x)) = pt1 x L := List.filter_eq_self.2 fun b hb => by simpa using (List.mem_filter.1 hb).2
  have e2 : [p].filter (fun q => decide (q.1 < x)) = [] := List.filter_eq_nil_iff.2 fun b hb => by simp at hb; subst hb; simp; omega
  have e3 : (pt2 x L).filter (fun q => decide (q.1 < x)) = [] := List.filter_eq_nil_iff.2 fun b hb => by have := (List.mem_filter.1 hb).2; simp at this ⊢; omega
  rw [e1, e2, e3, List.append_nil, List.append_nil]
theorem pin_2 {x : Int} {L : List PT} {p : PT} (hp : p.1 = x) : pt2 x (pinL L p) = pt2 x L := by
  rw [pinL, hp, pt2, List.filter_append, List.filter_append]
  have e1 : (pt1 x L).filter (fun q => decide (x < q.1)) = [] := List.filter_eq_nil_iff.2 fun b hb => by have := (List.mem_filter.1 hb).2; simp at this ⊢; omega
  have e2 : [p].filter (fun q => decide (x < q.1)) = [] := List.filter_eq_nil_iff.2 fun b hb => by simp at hb; subst hb; simp; omega
  have e3 : (pt2 x L).filter (fun q => decide (x < q.1)) = pt2 x L := List.filter_eq_self.2 fun b hb => by simpa using (List.mem_filter.1 hb).2
  rw [e1, e2, e3]
  rfl
theorem pin_drop {x : Int} {L : List PT} {p : PT} (hp : p.1 = x) : (pinL L p).filter (fun q => q.1 != x) = pt1 x L ++ pt2 x L := by
  rw [pinL, hp, List.filter_append, List.filter_append]
  have e1 : (pt1 x L).filter (fun q => q.1 != x) = pt1 x L := List.filter_eq_self.2 fun b hb => by have := (List.mem_filter.1 hb).2; simp at this ⊢; omega
  have e2 : [p].filter (fun q => q.1 != x) = [] := List.filter_eq_nil_iff.2 fun b hb => by simp at hb; subst hb; simp; omega
  have e3 : (pt2 x L).filter (fun q => q.1 != x) = pt2 x L := List.filter_eq_self.2 fun b hb => by have := (List.mem_filter.1 hb).2; simp at this ⊢; omega
  rw [e1, e2, e3, List.append_nil]
theorem pin_asc {L : List PT} (h : Asc L) (p : PT) : Asc (pinL L p) := by
  rw [pinL]
  refine List.pairwise_append.2 ⟨List.pairwise_append.2 ⟨h.filter _, by simp, fun a ha b hb => ?_⟩, h.filter _, fun a ha b hb => ?_⟩
  · have := (List.mem_filter.1 ha).2
    simp at this hb
    subst hb
    exact this
  · have q := (List.mem_filter.1 hb).2
    rcases List.mem_append.1 ha with ha | ha
    · have := (List.mem_filter.1 ha).2
      simp at this q
      omega
    · simp at ha q
      subst ha
      exact q
theorem pin_len (L : List PT) (p : PT) : (pinL L p).length = (pt1 p.1 L).length + 1 + (pt2 p.1 L).length := by simp [pinL]; omega
theorem pin_ok {L : List PT} {p : PT} (h : ∀ q, q ∈ L → pOk q = true) (hp : pOk p = true) : ∀ q, q ∈ pinL L p → pOk q = true := fun q hq => by
  rcases List.mem_append.1 hq with hq | hq
  · rcases List.mem_append.1 hq with hq | hq
    · exact h q (List.mem_filter.1 hq).1
    · simp at hq; subst hq; exact hp
  · exact h q (List.mem_filter.1 hq).1
def hadB (M : Nat → PT) (x : Int) (k : Nat) : Bool := (lst M k).any fun q => q.1 == x
theorem hadB_succ (M : Nat → PT) (x : Int) (k : Nat) : hadB M x (k + 1) = (hadB M x k || (M k).1 == x) := by rw [hadB, lst_succ, List.any_append]; simp [hadB]
theorem ptP_t {M : Nat → PT} {n : Nat} {x lo hi y : Int} (h : ptP M n x lo hi y = true) : oks M n = true ∧ nodB x = true ∧ okI lo hi = true ∧ okT y = true := by
  unfold ptP at h
  simp only [Bool.and_eq_true] at h
  exact ⟨h.1.1.1, h.1.1.2, h.1.2, h.2⟩
theorem okI56 : okI 5 6 = true := by decide
/- What FnPutDrop says, of lists. -/
theorem put_drop {L one : List PT} {x lo hi y : Int} (h : ptP (gP L) L.length x lo hi y = true) (h1 : one = ptL (gP L) L.length x lo hi y) :
    ptC (gP one) one.length x 5 6 y = 0 ∧ ∀ two, two = ptL (gP one) one.length x 5 6 y → drC (gP two) two.length x = 0 ∧ two.length = one.length ∧ ((drL (gP two) two.length x).length : Int) = (one.length : Int) - 1 ∧ hadB (gP L) x L.length = ((one.length : Int) == (L.length : Int)) ∧ (hadB (gP L) x L.length = false → drL (gP two) two.length x = L) := by
  obtain ⟨q1, q2, q3, q4⟩ := ptP_t h
  obtain ⟨m1, m2⟩ := oks_mem q1
  rw [(ptL_t h).1, lst_gP] at h1
  generalize skB (gP L) x L.length = s at h1
  have hp : pOk (x, lo, hi, y, s) = true := by unfold pOk; rw [q2, q3, q4]; rfl
  have o1 : oks (gP one) one.length = true := by rw [h1]; exact oks_list (pin_ok m1 hp) (pin_asc m2 _)
  have h2 : ptP (gP one) one.length x 5 6 y = true := by unfold ptP; rw [o1, q2, okI56, q4]; rfl
  refine ⟨(ptL_t h2).2, fun two h3 => ?_⟩
  rw [(ptL_t h2).1, lst_gP] at h3
  generalize skB (gP one) x one.length = s2 at h3
  obtain ⟨n1, n2⟩ := oks_mem o1
  have hp2 : pOk (x, 5, 6, y, s2) = true := by unfold pOk; rw [q2, okI56, q4]; rfl
  have o2 : oks (gP two) two.length = true := by rw [h3]; exact oks_list (pin_ok n1 hp2) (pin_asc n2 _)
  have l1 : one.length = (pt1 x L).length + 1 + (pt2 x L).length := by rw [h1, pin_len]
  have f1 : pt1 x one = pt1 x L := by rw [h1]; exact pin_1 rfl
  have f2 : pt2 x one = pt2 x L := by rw [h1]; exact pin_2 rfl
  have l2 : two.length = (pt1 x L).length + 1 + (pt2 x L).length := by rw [h3, pin_len, f1, f2]
  have d1 : drL (gP two) two.length x = pt1 x L ++ pt2 x L := by
    rw [(drL_t o2).1, drN, lst_gP, h3, pin_drop (x := x) rfl, f1, f2]
  have sp := asc_split (x := x) m2
  have on := asc_one (x := x) m2
  have ll : L.length = (pt1 x L).length + (L.filter (fun q => q.1 == x)).length + (pt2 x L).length := by
    have := congrArg List.length sp
    rw [List.length_append, List.length_append] at this
    exact this
  have hh : hadB (gP L) x L.length = decide (0 < (L.filter (fun q => q.1 == x)).length) := by
    rw [hadB, lst_gP]
    cases e : L.any (fun q => q.1 == x)
    · rw [List.any_eq_false] at e
      rw [List.filter_eq_nil_iff.2 e]
      rfl
    · rw [List.any_eq_true] at e
      obtain ⟨q, hq, hx⟩ := e
      have := List.length_pos_of_mem (List.mem_filter (p := fun q : PT => q.1 == x) |>.2 ⟨hq, hx⟩)
      simp [this]
  refine ⟨?_, by omega, ?_, ?_, fun hf => ?_⟩
  · rw [(drL_t o2).2, drA, lst_gP, h3, if_pos]
    rw [List.any_eq_true]
    exact ⟨(x, 5, 6, y, s2), by simp [pinL], by simp⟩
  · rw [d1, List.length_append]; omega
  · rw [hh]
    by_cases e : 0 < (L.filter (fun q => q.1 == x)).length
    · rw [decide_eq_true e]
      exact (beq_iff_eq.2 (by omega)).symm
    · rw [decide_eq_false e]
      exact (beq_eq_false_iff_ne.2 (by omega)).symm
  · rw [d1]
    rw [hh, decide_eq_false_iff_not] at hf
    have e0 : L.filter (fun q => q.1 == x) = [] := List.eq_nil_of_length_eq_zero (by omega)
    rw [e0, List.append_nil] at sp
    exact sp.symm
end Go.Proofs.Ytkeijldfblgeaaa
namespace Go.Proofs.Ytkeijldfblgeaaa
open Go.RowKit
set_option linter.unusedVariables false
def rB (n d x r : Int) : Bool := okD n d && okT x && okT r
theorem rB_d {n d x r : Int} (h : okD n d = false) : rB n d x r = false := by simp [rB, h]
theorem rB_t {n d x r : Int} (h : okT x = false) : rB n d x r = false := by simp [rB, h]
theorem rB_r {n d x r : Int} (h : okD n d = true) (h' : okT x = true) : rB n d x r = okT r := by simp [rB, h, h']
set_option maxHeartbeats 1000000 in
theorem turned_f (n d x tuu fr : Int) (fv : Value) (w : World) (h : (okD n d && okT x) = false) :
    Calls Try.prog 101 #[.agg #[.int .i64 n, .int .i64 d], .int .i64 x, .int .i64 tuu, .int .i64 fr, fv] w fun e w' => e = .returned (.tuple #[.int .i64 0, .bool false]) ∧ Below w.heap.size w w' := by
  cases ho : okD n d
  · go_enter Try.func101, Try.ntmps101
    go_wp2_with (first | (go_at_call 94; refine (okd_any _ _ _).mono ?_; rintro e w' ⟨rfl, hb⟩; obtain ⟨hc, hf⟩ := bcell hb; (first | have hB := Below.trans (Below.trans hB (by repeat (first | exact Below.refl _ _ | refine Below.drew ?_ | refine Below.alloc ?_ (by first | (simp; done) | (simp; omega) | omega) _ | refine Below.setCell ?_ (by first | (simp; done) | (simp; omega) | omega) _ | refine Below.trans ?_ (Below.mono (by assumption) (by first | (simp; done) | (simp; omega) | omega))))) (Below.mono hb (by first | (simp; done) | (simp; omega) | omega)) | have hB := hb); obtain ⟨hC, hF⟩ := bcell hB; have hz := hb.size; (try simp at hz); (try (have hz0 : w.heap.size < w'.heap.size := by omega)); (try (have hz1 : w.heap.size + 1 < w'.heap.size := by omega)); (try (have hz2 : w.heap.size + 1 + 1 < w'.heap.size := by omega)); (try (have hz3 : w.heap.size + 1 + 1 + 1 < w'.heap.size := by omega))) | (go_at_call 29; refine (isTime_any _ _).mono ?_; rintro e w' ⟨rfl, rfl⟩))
    go_ret2
    exact ⟨rfl, by repeat (first | exact Below.refl _ _ | refine Below.drew ?_ | refine Below.alloc ?_ (by first | (simp; done) | (simp; omega) | omega) _ | refine Below.setCell ?_ (by first | (simp; done) | (simp; omega) | omega) _ | refine Below.trans ?_ (Below.mono (by assumption) (by first | (simp; done) | (simp; omega) | omega)))⟩
  · have ht : okT x = false := by simpa [ho] using h
    go_enter Try.func101, Try.ntmps101
    go_wp2_with (first | (go_at_call 94; refine (okd_any _ _ _).mono ?_; rintro e w' ⟨rfl, hb⟩; obtain ⟨hc, hf⟩ := bcell hb; (first | have hB := Below.trans (Below.trans hB (by repeat (first | exact Below.refl _ _ | refine Below.drew ?_ | refine Below.alloc ?_ (by first | (simp; done) | (simp; omega) | omega) _ | refine Below.setCell ?_ (by first | (simp; done) | (simp; omega) | omega) _ | refine Below.trans ?_ (Below.mono (by assumption) (by first | (simp; done) | (simp; omega) | omega))))) (Below.mono hb (by first | (simp; done) | (simp; omega) | omega)) | have hB := hb); obtain ⟨hC, hF⟩ := bcell hB; have hz := hb.size; (try simp at hz); (try (have hz0 : w.heap.size < w'.heap.size := by omega)); (try (have hz1 : w.heap.size + 1 < w'.heap.size := by omega)); (try (have hz2 : w.heap.size + 1 + 1 < w'.heap.size := by omega)); (try (have hz3 : w.heap.size + 1 + 1 + 1 < w'.heap.size := by omega))) | (go_at_call 29; refine (isTime_any _ _).mono ?_; rintro e w' ⟨rfl, rfl⟩))
    go_ret2
    exact ⟨rfl, by repeat (first | exact Below.refl _ _ | refine Below.drew ?_ | refine Below.alloc ?_ (by first | (simp; done) | (simp; omega) | omega) _ | refine Below.setCell ?_ (by first | (simp; done) | (simp; omega) | omega) _ | refine Below.trans ?_ (Below.mono (by assumption) (by first | (simp; done) | (simp; omega) | omega)))⟩
set_option maxHeartbeats 1000000 in
theorem turned_up (n d x tuu fr : Int) (w : World) (ho : okD n d = true) (ht : okT x = true) (h1 : 0 ≤ x * tuu) (h2 : x * tuu ≤ 4000000000000000000) (h3 : 0 < fr) (h4 : fr ≤ 4000000000000000000) :
    Calls Try.prog 101 #[.agg #[.int .i64 n, .int .i64 d], .int .i64 x, .int .i64 tuu, .int .i64 fr, .func (.func 103) #[] #[]] w fun e w' => e = .returned (.tuple #[.int .i64 (sel (okT (upI (x * tuu) fr)) (upI (x * tuu) fr)), .bool (okT (upI (x * tuu) fr))]) ∧ Below w.heap.size w w' := by
  cases hr : okT (upI (x * tuu) fr)
  · rw [sel_f rfl]
    go_enter Try.func101, Try.ntmps101
    go_wp2_with (first | (go_at_call 94; refine (okd_any _ _ _).mono ?_; rintro e w' ⟨rfl, hb⟩; obtain ⟨hc, hf⟩ := bcell hb; (first | have hB := Below.trans (Below.trans hB (by repeat (first | exact Below.refl _ _ | refine Below.drew ?_ | refine Below.alloc ?_ (by first | (simp; done) | (simp; omega) | omega) _ | refine Below.setCell ?_ (by first | (simp; done) | (simp; omega) | omega) _ | refine Below.trans ?_ (Below.mono (by assumption) (by first | (simp; done) | (simp; omega) | omega))))) (Below.mono hb (by first | (simp; done) | (simp; omega) | omega)) | have hB := hb); obtain ⟨hC, hF⟩ := bcell hB; have hz := hb.size; (try simp at hz); (try (have hz0 : w.heap.size < w'.heap.size := by omega)); (try (have hz1 : w.heap.size + 1 < w'.heap.size := by omega)); (try (have hz2 : w.heap.size + 1 + 1 < w'.heap.size := by omega)); (try (have hz3 : w.heap.size + 1 + 1 + 1 < w'.heap.size := by omega))) | (go_at_call 29; refine (isTime_any _ _).mono ?_; rintro e w' ⟨rfl, rfl⟩) | (go_at_call 103; refine (implUp_any _ _ _ (by omega) (by omega) (by omega) (by omega)).mono ?_; rintro e w' ⟨rfl, rfl⟩))
    go_ret2
    exact ⟨rfl, by repeat (first | exact Below.refl _ _ | refine Below.drew ?_ | refine Below.alloc ?_ (by first | (simp; done) | (simp; omega) | omega) _ | refine Below.setCell ?_ (by first | (simp; done) | (simp; omega) | omega) _ | refine Below.trans ?_ (Below.mono (by assumption) (by first | (simp; done) | (simp; omega) | omega)))⟩
  · rw [sel_t rfl]
    go_enter Try.func101, Try.ntmps101
    go_wp2_with (first | (go_at_call 94; refine (okd_any _ _ _).mono ?_; rintro e w' ⟨rfl, hb⟩; obtain ⟨hc, hf⟩ := bcell hb; (first | have hB := Below.trans (Below.trans hB (by repeat (first | exact Below.refl _ _ | refine Below.drew ?_ | refine Below.alloc ?_ (by first | (simp; done) | (simp; omega) | omega) _ | refine Below.setCell ?_ (by first | (simp; done) | (simp; omega) | omega) _ | refine Below.trans ?_ (Below.mono (by assumption) (by first | (simp; done) | (simp; omega) | omega))))) (Below.mono hb (by first | (simp; done) | (simp; omega) | omega)) | have hB := hb); obtain ⟨hC, hF⟩ := bcell hB; have hz := hb.size; (try simp at hz); (try (have hz0 : w.heap.size < w'.heap.size := by omega)); (try (have hz1 : w.heap.size + 1 < w'.heap.size := by omega)); (try (have hz2 : w.heap.size + 1 + 1 < w'.heap.size := by omega)); (try (have hz3 : w.heap.size + 1 + 1 + 1 < w'.heap.size := by omega))) | (go_at_call 29; refine (isTime_any _ _).mono ?_; rintro e w' ⟨rfl, rfl⟩) | (go_at_call 103; refine (implUp_any _ _ _ (by omega) (by omega) (by omega) (by omega)).mono ?_; rintro e w' ⟨rfl, rfl⟩))
    go_ret2
    exact ⟨rfl, by repeat (first | exact Below.refl _ _ | refine Below.drew ?_ | refine Below.alloc ?_ (by first | (simp; done) | (simp; omega) | omega) _ | refine Below.setCell ?_ (by first | (simp; done) | (simp; omega) | omega) _ | refine Below.trans ?_ (Below.mono (by assumption) (by first | (simp; done) | (simp; omega) | omega)))⟩
set_option maxHeartbeats 1000000 in
theorem turned_dn (n d x tuu fr : Int) (w : World) (ho : okD n d = true) (ht : okT x = true) (h1 : 0 ≤ x * tuu) (h2 : x * tuu ≤ 4000000000000000000) (h3 : 0 < fr) (h4 : fr ≤ 4000000000000000000) :
    Calls Try.prog 101 #[.agg #[.int .i64 n, .int .i64 d], .int .i64 x, .int .i64 tuu, .int .i64 fr, .func (.func 105) #[] #[]] w fun e w' => e = .returned (.tuple #[.int .i64 (sel (okT (dnI (x * tuu) fr)) (dnI (x * tuu) fr)), .bool (okT (dnI (x * tuu) fr))]) ∧ Below w.heap.size w w' := by
  cases hr : okT (dnI (x * tuu) fr)
  · rw [sel_f rfl]
    go_enter Try.func101, Try.ntmps101
    go_wp2_with (first | (go_at_call 94; refine (okd_any _ _ _).mono ?_; rintro e w' ⟨rfl, hb⟩; obtain ⟨hc, hf⟩ := bcell hb; (first | have hB := Below.trans (Below.trans hB (by repeat (first | exact Below.refl _ _ | refine Below.drew ?_ | refine Below.alloc ?_ (by first | (simp; done) | (simp; omega) | omega) _ | refine Below.setCell ?_ (by first | (simp; done) | (simp; omega) | omega) _ | refine Below.trans ?_ (Below.mono (by assumption) (by first | (simp; done) | (simp; omega) | omega))))) (Below.mono hb (by first | (simp; done) | (simp; omega) | omega)) | have hB := hb); obtain ⟨hC, hF⟩ := bcell hB; have hz := hb.size; (try simp at hz); (try (have hz0 : w.heap.size < w'.heap.size := by omega)); (try (have hz1 : w.heap.size + 1 < w'.heap.size := by omega)); (try (have hz2 : w.heap.size + 1 + 1 < w'.heap.size := by omega)); (try (have hz3 : w.heap.size + 1 + 1 + 1 < w'.heap.size := by omega))) | (go_at_call 29; refine (isTime_any _ _).mono ?_; rintro e w' ⟨rfl, rfl⟩) | (go_at_call 105; refine (implDown_any _ _ _ (by omega) (by omega) (by omega) (by omega)).mono ?_; rintro e w' ⟨rfl, rfl⟩))
    go_ret2
    exact ⟨rfl, by repeat (first | exact Below.refl _ _ | refine Below.drew ?_ | refine Below.alloc ?_ (by first | (simp; done) | (simp; omega) | omega) _ | refine Below.setCell ?_ (by first | (simp; done) | (simp; omega) | omega) _ | refine Below.trans ?_ (Below.mono (by assumption) (by first | (simp; done) | (simp; omega) | omega)))⟩
  · rw [sel_t rfl]
    go_enter Try.func101, Try.ntmps101
    go_wp2_with (first | (go_at_call 94; refine (okd_any _ _ _).mono ?_; rintro e w' ⟨rfl, hb⟩; obtain ⟨hc, hf⟩ := bcell hb; (first | have hB := Below.trans (Below.trans hB (by repeat (first | exact Below.refl _ _ | refine Below.drew ?_ | refine Below.alloc ?_ (by first | (simp; done) | (simp; omega) | omega) _ | refine Below.setCell ?_ (by first | (simp; done) | (simp; omega) | omega) _ | refine Below.trans ?_ (Below.mono (by assumption) (by first | (simp; done) | (simp; omega) | omega))))) (Below.mono hb (by first | (simp; done) | (simp; omega) | omega)) | have hB := hb); obtain ⟨hC, hF⟩ := bcell hB; have hz := hb.size; (try simp at hz); (try (have hz0 : w.heap.size < w'.heap.size := by omega)); (try (have hz1 : w.heap.size + 1 < w'.heap.size := by omega)); (try (have hz2 : w.heap.size + 1 + 1 < w'.heap.size := by omega)); (try (have hz3 : w.heap.size + 1 + 1 + 1 < w'.heap.size := by omega))) | (go_at_call 29; refine (isTime_any _ _).mono ?_; rintro e w' ⟨rfl, rfl⟩) | (go_at_call 105; refine (implDown_any _ _ _ (by omega) (by omega) (by omega) (by omega)).mono ?_; rintro e w' ⟨rfl, rfl⟩))
    go_ret2
    exact ⟨rfl, by repeat (first | exact Below.refl _ _ | refine Below.drew ?_ | refine Below.alloc ?_ (by first | (simp; done) | (simp; omega) | omega) _ | refine Below.setCell ?_ (by first | (simp; done) | (simp; omega) | omega) _ | refine Below.trans ?_ (Below.mono (by assumption) (by first | (simp; done) | (simp; omega) | omega)))⟩
set_option maxHeartbeats 1000000 in
theorem specLeastTime_any (n d x : Int) (w : World) :
    Calls Try.prog 69 #[.agg #[.int .i64 n, .int .i64 d], .int .i64 x] w fun e w' => e = .returned (.tuple #[.int .i64 (sel (rB n d x (upI (x * d) (d + n))) (upI (x * d) (d + n))), .bool (rB n d x (upI (x * d) (d + n)))]) ∧ Below w.heap.size w w' := by
  cases ho : okD n d
  · rw [rB_d ho, sel_f rfl]
    go_enter Try.func69, Try.ntmps69
    go_wp2_with (first | (go_at_call 45; refine (specDriftOk_any _ _ _).mono ?_; rintro e w' ⟨rfl, hb⟩; obtain ⟨hc, hf⟩ := bcell hb; (first | have hB := Below.trans (Below.trans hB (by repeat (first | exact Below.refl _ _ | refine Below.drew ?_ | refine Below.alloc ?_ (by first | (simp; done) | (simp; omega) | omega) _ | refine Below.setCell ?_ (by first | (simp; done) | (simp; omega) | omega) _ | refine Below.trans ?_ (Below.mono (by assumption) (by first | (simp; done) | (simp; omega) | omega))))) (Below.mono hb (by first | (simp; done) | (simp; omega) | omega)) | have hB := hb); obtain ⟨hC, hF⟩ := bcell hB; have hz := hb.size; (try simp at hz); (try (have hz0 : w.heap.size < w'.heap.size := by omega)); (try (have hz1 : w.heap.size + 1 < w'.heap.size := by omega)); (try (have hz2 : w.heap.size + 1 + 1 < w'.heap.size := by omega)); (try (have hz3 : w.heap.size + 1 + 1 + 1 < w'.heap.size := by omega))) | (go_at_call 33; refine (l2Time_any _ _).mono ?_; rintro e w' ⟨rfl, rfl⟩))
    go_ret2
    exact ⟨rfl, by repeat (first | exact Below.refl _ _ | refine Below.drew ?_ | refine Below.alloc ?_ (by first | (simp; done) | (simp; omega) | omega) _ | refine Below.setCell ?_ (by first | (simp; done) | (simp; omega) | omega) _ | refine Below.trans ?_ (Below.mono (by assumption) (by first | (simp; done) | (simp; omega) | omega)))⟩
  cases ht : okT x
  · rw [rB_t ht, sel_f rfl]
    go_enter Try.func69, Try.ntmps69
    go_wp2_with (first | (go_at_call 45; refine (specDriftOk_any _ _ _).mono ?_; rintro e w' ⟨rfl, hb⟩; obtain ⟨hc, hf⟩ := bcell hb; (first | have hB := Below.trans (Below.trans hB (by repeat (first | exact Below.refl _ _ | refine Below.drew ?_ | refine Below.alloc ?_ (by first | (simp; done) | (simp; omega) | omega) _ | refine Below.setCell ?_ (by first | (simp; done) | (simp; omega) | omega) _ | refine Below.trans ?_ (Below.mono (by assumption) (by first | (simp; done) | (simp; omega) | omega))))) (Below.mono hb (by first | (simp; done) | (simp; omega) | omega)) | have hB := hb); obtain ⟨hC, hF⟩ := bcell hB; have hz := hb.size; (try simp at hz); (try (have hz0 : w.heap.size < w'.heap.size := by omega)); (try (have hz1 : w.heap.size + 1 < w'.heap.size := by omega)); (try (have hz2 : w.heap.size + 1 + 1 < w'.heap.size := by omega)); (try (have hz3 : w.heap.size + 1 + 1 + 1 < w'.heap.size := by omega))) | (go_at_call 33; refine (l2Time_any _ _).mono ?_; rintro e w' ⟨rfl, rfl⟩))
    go_ret2
    exact ⟨rfl, by repeat (first | exact Below.refl _ _ | refine Below.drew ?_ | refine Below.alloc ?_ (by first | (simp; done) | (simp; omega) | omega) _ | refine Below.setCell ?_ (by first | (simp; done) | (simp; omega) | omega) _ | refine Below.trans ?_ (Below.mono (by assumption) (by first | (simp; done) | (simp; omega) | omega)))⟩
  rw [rB_r ho ht]
  have ⟨d1, d2, d3, d4⟩ := okD_t ho
  have ⟨t1, t2⟩ := okT_t ht
  have ⟨m1, m2⟩ := mul_bd (x := x) (y := d) (X := 1000000000000) (Y := 2000000) (by omega) (by omega) (by omega) (by omega)
  have ⟨v1, v2⟩ := upI_bd (x := x * d) (n := d + n) m1 (by omega)
  go_enter Try.func69, Try.ntmps69
  go_wp2_with (first | (go_at_call 45; refine (specDriftOk_any _ _ _).mono ?_; rintro e w' ⟨rfl, hb⟩; obtain ⟨hc, hf⟩ := bcell hb; (first | have hB := Below.trans (Below.trans hB (by repeat (first | exact Below.refl _ _ | refine Below.drew ?_ | refine Below.alloc ?_ (by first | (simp; done) | (simp; omega) | omega) _ | refine Below.setCell ?_ (by first | (simp; done) | (simp; omega) | omega) _ | refine Below.trans ?_ (Below.mono (by assumption) (by first | (simp; done) | (simp; omega) | omega))))) (Below.mono hb (by first | (simp; done) | (simp; omega) | omega)) | have hB := hb); obtain ⟨hC, hF⟩ := bcell hB; have hz := hb.size; (try simp at hz); (try (have hz0 : w.heap.size < w'.heap.size := by omega)); (try (have hz1 : w.heap.size + 1 < w'.heap.size := by omega)); (try (have hz2 : w.heap.size + 1 + 1 < w'.heap.size := by omega)); (try (have hz3 : w.heap.size + 1 + 1 + 1 < w'.heap.size := by omega))) | (go_at_call 33; refine (l2Time_any _ _).mono ?_; rintro e w' ⟨rfl, rfl⟩) | (go_at_call 73; refine (l1Up_any _ _ _ (by omega) (by omega) (by omega) (by omega)).mono ?_; rintro e w' ⟨rfl, rfl⟩) | (go_at_call 72; refine (l2Told_any _ _ (by first | assumption | (simp only [← dnI]; assumption) | omega)).mono ?_; rintro e w' ⟨rfl, rfl⟩))
  go_ret2
  exact ⟨rfl, by repeat (first | exact Below.refl _ _ | refine Below.drew ?_ | refine Below.alloc ?_ (by first | (simp; done) | (simp; omega) | omega) _ | refine Below.setCell ?_ (by first | (simp; done) | (simp; omega) | omega) _ | refine Below.trans ?_ (Below.mono (by assumption) (by first | (simp; done) | (simp; omega) | omega)))⟩
set_option maxHeartbeats 2000000 in
theorem implLeastTime_any (n d x : Int) (w : World) :
    Calls Try.prog 96 #[.agg #[.int .i64 n, .int .i64 d], .int .i64 x] w fun e w' => e = .returned (.tuple #[.int .i64 (sel (rB n d x (upI (x * d) (d + n))) (upI (x * d) (d + n))), .bool (rB n d x (upI (x * d) (d + n)))]) ∧ Below w.heap.size w w' := by
  cases hg : okD n d && okT x
  · rw [show rB n d x (upI (x * d) (d + n)) = false by simp [rB, hg], sel_f rfl]
    go_enter Try.func96, Try.ntmps96
    go_wp2_with fail
    go_region_held (fun w' => w'.cell? ⟨w.heap.size, 0, none⟩ = some (.int .i64 n) ∧ w'.cell? ⟨w.heap.size, 1, none⟩ = some (.int .i64 d)) (simp (maxDischargeDepth := 6) [go_sem, *]) (first | (go_at_call 102; refine (fastest_wrap _ _ _).mono ?_; rintro e w' ⟨rfl, hb⟩; obtain ⟨hc, hf⟩ := bcell hb; (first | have hB := Below.trans (Below.trans hB (by repeat (first | exact Below.refl _ _ | refine Below.drew ?_ | refine Below.alloc ?_ (by first | (simp; done) | (simp; omega) | omega) _ | refine Below.setCell ?_ (by first | (simp; done) | (simp; omega) | omega) _ | refine Below.trans ?_ (Below.mono (by assumption) (by first | (simp; done) | (simp; omega) | omega))))) (Below.mono hb (by first | (simp; done) | (simp; omega) | omega)) | have hB := hb); obtain ⟨hC, hF⟩ := bcell hB; have hz := hb.size; (try simp at hz); (try (have hz0 : w.heap.size < w'.heap.size := by omega)); (try (have hz1 : w.heap.size + 1 < w'.heap.size := by omega)); (try (have hz2 : w.heap.size + 1 + 1 < w'.heap.size := by omega)); (try (have hz3 : w.heap.size + 1 + 1 + 1 < w'.heap.size := by omega))) | (go_at_call 101; refine (turned_f _ _ _ _ _ _ _ hg).mono ?_; rintro e w' ⟨rfl, hb⟩; obtain ⟨hc, hf⟩ := bcell hb; (first | have hB := Below.trans (Below.trans hB (by repeat (first | exact Below.refl _ _ | refine Below.drew ?_ | refine Below.alloc ?_ (by first | (simp; done) | (simp; omega) | omega) _ | refine Below.setCell ?_ (by first | (simp; done) | (simp; omega) | omega) _ | refine Below.trans ?_ (Below.mono (by assumption) (by first | (simp; done) | (simp; omega) | omega))))) (Below.mono hb (by first | (simp; done) | (simp; omega) | omega)) | have hB := hb); obtain ⟨hC, hF⟩ := bcell hB; have hz := hb.size; (try simp at hz); (try (have hz0 : w.heap.size < w'.heap.size := by omega)); (try (have hz1 : w.heap.size + 1 < w'.heap.size := by omega)); (try (have hz2 : w.heap.size + 1 + 1 < w'.heap.size := by omega)); (try (have hz3 : w.heap.size + 1 + 1 + 1 < w'.heap.size := by omega))))
    all_goals go_wp2
    all_goals go_ret2
    all_goals exact ⟨rfl, by repeat (first | exact Below.refl _ _ | refine Below.drew ?_ | refine Below.alloc ?_ (by first | (simp; done) | (simp; omega) | omega) _ | refine Below.setCell ?_ (by first | (simp; done) | (simp; omega) | omega) _ | refine Below.trans ?_ (Below.mono (by assumption) (by first | (simp; done) | (simp; omega) | omega)))⟩
  have ho : okD n d = true := by simp at hg; exact hg.1
  have ht : okT x = true := by simp at hg; exact hg.2
  rw [rB_r ho ht]
  have ⟨d1, d2, d3, d4⟩ := okD_t ho
  have ⟨t1, t2⟩ := okT_t ht
  have ⟨m1, m2⟩ := mul_bd (x := x) (y := d) (X := 1000000000000) (Y := 2000000) (by omega) (by omega) (by omega) (by omega)
  go_enter Try.func96, Try.ntmps96
  go_wp2_with fail
  go_region_held (fun w' => w'.cell? ⟨w.heap.size, 0, none⟩ = some (.int .i64 n) ∧ w'.cell? ⟨w.heap.size, 1, none⟩ = some (.int .i64 d)) (simp (maxDischargeDepth := 6) [go_sem, *]) (first | (go_at_call 102; refine (fastest_any _ _ _ ho).mono ?_; rintro e w' ⟨rfl, hb⟩; obtain ⟨hc, hf⟩ := bcell hb; (first | have hB := Below.trans (Below.trans hB (by repeat (first | exact Below.refl _ _ | refine Below.drew ?_ | refine Below.alloc ?_ (by first | (simp; done) | (simp; omega) | omega) _ | refine Below.setCell ?_ (by first | (simp; done) | (simp; omega) | omega) _ | refine Below.trans ?_ (Below.mono (by assumption) (by first | (simp; done) | (simp; omega) | omega))))) (Below.mono hb (by first | (simp; done) | (simp; omega) | omega)) | have hB := hb); obtain ⟨hC, hF⟩ := bcell hB; have hz := hb.size; (try simp at hz); (try (have hz0 : w.heap.size < w'.heap.size := by omega)); (try (have hz1 : w.heap.size + 1 < w'.heap.size := by omega)); (try (have hz2 : w.heap.size + 1 + 1 < w'.heap.size := by omega)); (try (have hz3 : w.heap.size + 1 + 1 + 1 < w'.heap.size := by omega))) | (go_at_call 101; refine (turned_up _ _ _ _ _ _ ho ht (by omega) (by omega) (by omega) (by omega)).mono ?_; rintro e w' ⟨rfl, hb⟩; obtain ⟨hc, hf⟩ := bcell hb; (first | have hB := Below.trans (Below.trans hB (by repeat (first | exact Below.refl _ _ | refine Below.drew ?_ | refine Below.alloc ?_ (by first | (simp; done) | (simp; omega) | omega) _ | refine Below.setCell ?_ (by first | (simp; done) | (simp; omega) | omega) _ | refine Below.trans ?_ (Below.mono (by assumption) (by first | (simp; done) | (simp; omega) | omega))))) (Below.mono hb (by first | (simp; done) | (simp; omega) | omega)) | have hB := hb); obtain ⟨hC, hF⟩ := bcell hB; have hz := hb.size; (try simp at hz); (try (have hz0 : w.heap.size < w'.heap.size := by omega)); (try (have hz1 : w.heap.size + 1 < w'.heap.size := by omega)); (try (have hz2 : w.heap.size + 1 + 1 < w'.heap.size := by omega)); (try (have hz3 : w.heap.size + 1 + 1 + 1 < w'.heap.size := by omega))))
  all_goals go_wp2
  all_goals go_ret2
  all_goals exact ⟨rfl, by repeat (first | exact Below.refl _ _ | refine Below.drew ?_ | refine Below.alloc ?_ (by first | (simp; done) | (simp; omega) | omega) _ | refine Below.setCell ?_ (by first | (simp; done) | (simp; omega) | omega) _ | refine Below.trans ?_ (Below.mono (by assumption) (by first | (simp; done) | (simp; omega) | omega)))⟩
set_option maxHeartbeats 1000000 in
theorem specMostTime_any (n d x : Int) (w : World) :
    Calls Try.prog 70 #[.agg #[.int .i64 n, .int .i64 d], .int .i64 x] w fun e w' => e = .returned (.tuple #[.int .i64 (sel (rB n d x (dnI (x * d) (d - n))) (dnI (x * d) (d - n))), .bool (rB n d x (dnI (x * d) (d - n)))]) ∧ Below w.heap.size w w' := by
  cases ho : okD n d
  · rw [rB_d ho, sel_f rfl]
    go_enter Try.func70, Try.ntmps70
    go_wp2_with (first | (go_at_call 45; refine (specDriftOk_any _ _ _).mono ?_; rintro e w' ⟨rfl, hb⟩; obtain ⟨hc, hf⟩ := bcell hb; (first | have hB := Below.trans (Below.trans hB (by repeat (first | exact Below.refl _ _ | refine Below.drew ?_ | refine Below.alloc ?_ (by first | (simp; done) | (simp; omega) | omega) _ | refine Below.setCell ?_ (by first | (simp; done) | (simp; omega) | omega) _ | refine Below.trans ?_ (Below.mono (by assumption) (by first | (simp; done) | (simp; omega) | omega))))) (Below.mono hb (by first | (simp; done) | (simp; omega) | omega)) | have hB := hb); obtain ⟨hC, hF⟩ := bcell hB; have hz := hb.size; (try simp at hz); (try (have hz0 : w.heap.size < w'.heap.size := by omega)); (try (have hz1 : w.heap.size + 1 < w'.heap.size := by omega)); (try (have hz2 : w.heap.size + 1 + 1 < w'.heap.size := by omega)); (try (have hz3 : w.heap.size + 1 + 1 + 1 < w'.heap.size := by omega))) | (go_at_call 33; refine (l2Time_any _ _).mono ?_; rintro e w' ⟨rfl, rfl⟩))
    go_ret2
    exact ⟨rfl, by repeat (first | exact Below.refl _ _ | refine Below.drew ?_ | refine Below.alloc ?_ (by first | (simp; done) | (simp; omega) | omega) _ | refine Below.setCell ?_ (by first | (simp; done) | (simp; omega) | omega) _ | refine Below.trans ?_ (Below.mono (by assumption) (by first | (simp; done) | (simp; omega) | omega)))⟩
  cases ht : okT x
  · rw [rB_t ht, sel_f rfl]
    go_enter Try.func70, Try.ntmps70
    go_wp2_with (first | (go_at_call 45; refine (specDriftOk_any _ _ _).mono ?_; rintro e w' ⟨rfl, hb⟩; obtain ⟨hc, hf⟩ := bcell hb; (first | have hB := Below.trans (Below.trans hB (by repeat (first | exact Below.refl _ _ | refine Below.drew ?_ | refine Below.alloc ?_ (by first | (simp; done) | (simp; omega) | omega) _ | refine Below.setCell ?_ (by first | (simp; done) | (simp; omega) | omega) _ | refine Below.trans ?_ (Below.mono (by assumption) (by first | (simp; done) | (simp; omega) | omega))))) (Below.mono hb (by first | (simp; done) | (simp; omega) | omega)) | have hB := hb); obtain ⟨hC, hF⟩ := bcell hB; have hz := hb.size; (try simp at hz); (try (have hz0 : w.heap.size < w'.heap.size := by omega)); (try (have hz1 : w.heap.size + 1 < w'.heap.size := by omega)); (try (have hz2 : w.heap.size + 1 + 1 < w'.heap.size := by omega)); (try (have hz3 : w.heap.size + 1 + 1 + 1 < w'.heap.size := by omega))) | (go_at_call 33; refine (l2Time_any _ _).mono ?_; rintro e w' ⟨rfl, rfl⟩))
    go_ret2
    exact ⟨rfl, by repeat (first | exact Below.refl _ _ | refine Below.drew ?_ | refine Below.alloc ?_ (by first | (simp; done) | (simp; omega) | omega) _ | refine Below.setCell ?_ (by first | (simp; done) | (simp; omega) | omega) _ | refine Below.trans ?_ (Below.mono (by assumption) (by first | (simp; done) | (simp; omega) | omega)))⟩
  rw [rB_r ho ht]
  have ⟨d1, d2, d3, d4⟩ := okD_t ho
  have ⟨t1, t2⟩ := okT_t ht
  have ⟨m1, m2⟩ := mul_bd (x := x) (y := d) (X := 1000000000000) (Y := 2000000) (by omega) (by omega) (by omega) (by omega)
  have ⟨v1, v2⟩ := dnI_bd (x := x * d) (n := d - n) m1 (by omega)
  go_enter Try.func70, Try.ntmps70
  go_wp2_with (first | (go_at_call 45; refine (specDriftOk_any _ _ _).mono ?_; rintro e w' ⟨rfl, hb⟩; obtain ⟨hc, hf⟩ := bcell hb; (first | have hB := Below.trans (Below.trans hB (by repeat (first | exact Below.refl _ _ | refine Below.drew ?_ | refine Below.alloc ?_ (by first | (simp; done) | (simp; omega) | omega) _ | refine Below.setCell ?_ (by first | (simp; done) | (simp; omega) | omega) _ | refine Below.trans ?_ (Below.mono (by assumption) (by first | (simp; done) | (simp; omega) | omega))))) (Below.mono hb (by first | (simp; done) | (simp; omega) | omega)) | have hB := hb); obtain ⟨hC, hF⟩ := bcell hB; have hz := hb.size; (try simp at hz); (try (have hz0 : w.heap.size < w'.heap.size := by omega)); (try (have hz1 : w.heap.size + 1 < w'.heap.size := by omega)); (try (have hz2 : w.heap.size + 1 + 1 < w'.heap.size := by omega)); (try (have hz3 : w.heap.size + 1 + 1 + 1 < w'.heap.size := by omega))) | (go_at_call 33; refine (l2Time_any _ _).mono ?_; rintro e w' ⟨rfl, rfl⟩) | (go_at_call 74; refine (l1Down_any _ _ _ (by omega) (by omega) (by omega) (by omega)).mono ?_; rintro e w' ⟨rfl, rfl⟩) | (go_at_call 72; refine (l2Told_any _ _ (by first | assumption | (simp only [← dnI]; assumption) | omega)).mono ?_; rintro e w' ⟨rfl, rfl⟩))
  go_ret2
  exact ⟨rfl, by repeat (first | exact Below.refl _ _ | refine Below.drew ?_ | refine Below.alloc ?_ (by first | (simp; done) | (simp; omega) | omega) _ | refine Below.setCell ?_ (by first | (simp; done) | (simp; omega) | omega) _ | refine Below.trans ?_ (Below.mono (by assumption) (by first | (simp; done) | (simp; omega) | omega)))⟩
set_option maxHeartbeats 2000000 in
theorem implMostTime_any (n d x : Int) (w : World) :
    Calls Try.prog 97 #[.agg #[.int .i64 n, .int .i64 d], .int .i64 x] w fun e w' => e = .returned (.tuple #[.int .i64 (sel (rB n d x (dnI (x * d) (d - n))) (dnI (x * d) (d - n))), .bool (rB n d x (dnI (x * d) (d - n)))]) ∧ Below w.heap.size w w' := by
  cases hg : okD n d && okT x
  · rw [show rB n d x (dnI (x * d) (d - n)) = false by simp [rB, hg], sel_f rfl]
    go_enter Try.func97, Try.ntmps97
    go_wp2_with fail
    go_region_held (fun w' => w'.cell? ⟨w.heap.size, 0, none⟩ = some (.int .i64 n) ∧ w'.cell? ⟨w.heap.size, 1, none⟩ = some (.int .i64 d)) (simp (maxDischargeDepth := 6) [go_sem, *]) (first | (go_at_call 104; refine (slowest_wrap _ _ _).mono ?_; rintro e w' ⟨rfl, hb⟩; obtain ⟨hc, hf⟩ := bcell hb; (first | have hB := Below.trans (Below.trans hB (by repeat (first | exact Below.refl _ _ | refine Below.drew ?_ | refine Below.alloc ?_ (by first | (simp; done) | (simp; omega) | omega) _ | refine Below.setCell ?_ (by first | (simp; done) | (simp; omega) | omega) _ | refine Below.trans ?_ (Below.mono (by assumption) (by first | (simp; done) | (simp; omega) | omega))))) (Below.mono hb (by first | (simp; done) | (simp; omega) | omega)) | have hB := hb); obtain ⟨hC, hF⟩ := bcell hB; have hz := hb.size; (try simp at hz); (try (have hz0 : w.heap.size < w'.heap.size := by omega)); (try (have hz1 : w.heap.size + 1 < w'.heap.size := by omega)); (try (have hz2 : w.heap.size + 1 + 1 < w'.heap.size := by omega)); (try (have hz3 : w.heap.size + 1 + 1 + 1 < w'.heap.size := by omega))) | (go_at_call 101; refine (turned_f _ _ _ _ _ _ _ hg).mono ?_; rintro e w' ⟨rfl, hb⟩; obtain ⟨hc, hf⟩ := bcell hb; (first | have hB := Below.trans (Below.trans hB (by repeat (first | exact Below.refl _ _ | refine Below.drew ?_ | refine Below.alloc ?_ (by first | (simp; done) | (simp; omega) | omega) _ | refine Below.setCell ?_ (by first | (simp; done) | (simp; omega) | omega) _ | refine Below.trans ?_ (Below.mono (by assumption) (by first | (simp; done) | (simp; omega) | omega))))) (Below.mono hb (by first | (simp; done) | (simp; omega) | omega)) | have hB := hb); obtain ⟨hC, hF⟩ := bcell hB; have hz := hb.size; (try simp at hz); (try (have hz0 : w.heap.size < w'.heap.size := by omega)); (try (have hz1 : w.heap.size + 1 < w'.heap.size := by omega)); (try (have hz2 : w.heap.size + 1 + 1 < w'.heap.size := by omega)); (try (have hz3 : w.heap.size + 1 + 1 + 1 < w'.heap.size := by omega))))
    all_goals go_wp2
    all_goals go_ret2
    all_goals exact ⟨rfl, by repeat (first | exact Below.refl _ _ | refine Below.drew ?_ | refine Below.alloc ?_ (by first | (simp; done) | (simp; omega) | omega) _ | refine Below.setCell ?_ (by first | (simp; done) | (simp; omega) | omega) _ | refine Below.trans ?_ (Below.mono (by assumption) (by first | (simp; done) | (simp; omega) | omega)))⟩
  have ho : okD n d = true := by simp at hg; exact hg.1
  have ht : okT x = true := by simp at hg; exact hg.2
  rw [rB_r ho ht]
  have ⟨d1, d2, d3, d4⟩ := okD_t ho
  have ⟨t1, t2⟩ := okT_t ht
  have ⟨m1, m2⟩ := mul_bd (x := x) (y := d) (X := 1000000000000) (Y := 2000000) (by omega) (by omega) (by omega) (by omega)
  go_enter Try.func97, Try.ntmps97
  go_wp2_with fail
  go_region_held (fun w' => w'.cell? ⟨w.heap.size, 0, none⟩ = some (.int .i64 n) ∧ w'.cell? ⟨w.heap.size, 1, none⟩ = some (.int .i64 d)) (simp (maxDischargeDepth := 6) [go_sem, *]) (first | (go_at_call 104; refine (slowest_any _ _ _ ho).mono ?_; rintro e w' ⟨rfl, hb⟩; obtain ⟨hc, hf⟩ := bcell hb; (first | have hB := Below.trans (Below.trans hB (by repeat (first | exact Below.refl _ _ | refine Below.drew ?_ | refine Below.alloc ?_ (by first | (simp; done) | (simp; omega) | omega) _ | refine Below.setCell ?_ (by first | (simp; done) | (simp; omega) | omega) _ | refine Below.trans ?_ (Below.mono (by assumption) (by first | (simp; done) | (simp; omega) | omega))))) (Below.mono hb (by first | (simp; done) | (simp; omega) | omega)) | have hB := hb); obtain ⟨hC, hF⟩ := bcell hB; have hz := hb.size; (try simp at hz); (try (have hz0 : w.heap.size < w'.heap.size := by omega)); (try (have hz1 : w.heap.size + 1 < w'.heap.size := by omega)); (try (have hz2 : w.heap.size + 1 + 1 < w'.heap.size := by omega)); (try (have hz3 : w.heap.size + 1 + 1 + 1 < w'.heap.size := by omega))) | (go_at_call 101; refine (turned_dn _ _ _ _ _ _ ho ht (by omega) (by omega) (by omega) (by omega)).mono ?_; rintro e w' ⟨rfl, hb⟩; obtain ⟨hc, hf⟩ := bcell hb; (first | have hB := Below.trans (Below.trans hB (by repeat (first | exact Below.refl _ _ | refine Below.drew ?_ | refine Below.alloc ?_ (by first | (simp; done) | (simp; omega) | omega) _ | refine Below.setCell ?_ (by first | (simp; done) | (simp; omega) | omega) _ | refine Below.trans ?_ (Below.mono (by assumption) (by first | (simp; done) | (simp; omega) | omega))))) (Below.mono hb (by first | (simp; done) | (simp; omega) | omega)) | have hB := hb); obtain ⟨hC, hF⟩ := bcell hB; have hz := hb.size; (try simp at hz); (try (have hz0 : w.heap.size < w'.heap.size := by omega)); (try (have hz1 : w.heap.size + 1 < w'.heap.size := by omega)); (try (have hz2 : w.heap.size + 1 + 1 < w'.heap.size := by omega)); (try (have hz3 : w.heap.size + 1 + 1 + 1 < w'.heap.size := by omega))))
  all_goals go_wp2
  all_goals go_ret2
  all_goals exact ⟨rfl, by repeat (first | exact Below.refl _ _ | refine Below.drew ?_ | refine Below.alloc ?_ (by first | (simp; done) | (simp; omega) | omega) _ | refine Below.setCell ?_ (by first | (simp; done) | (simp; omega) | omega) _ | refine Below.trans ?_ (Below.mono (by assumption) (by first | (simp; done) | (simp; omega) | omega)))⟩
set_option maxHeartbeats 1000000 in
theorem specLeastCount_any (n d x : Int) (w : World) :
    Calls Try.prog 62 #[.agg #[.int .i64 n, .int .i64 d], .int .i64 x] w fun e w' => e = .returned (.tuple #[.int .i64 (sel (rB n d x (upI (x * (d - n)) (d))) (upI (x * (d - n)) (d))), .bool (rB n d x (upI (x * (d - n)) (d)))]) ∧ Below w.heap.size w w' := by
  cases ho : okD n d
  · rw [rB_d ho, sel_f rfl]
    go_enter Try.func62, Try.ntmps62
    go_wp2_with (first | (go_at_call 45; refine (specDriftOk_any _ _ _).mono ?_; rintro e w' ⟨rfl, hb⟩; obtain ⟨hc, hf⟩ := bcell hb; (first | have hB := Below.trans (Below.trans hB (by repeat (first | exact Below.refl _ _ | refine Below.drew ?_ | refine Below.alloc ?_ (by first | (simp; done) | (simp; omega) | omega) _ | refine Below.setCell ?_ (by first | (simp; done) | (simp; omega) | omega) _ | refine Below.trans ?_ (Below.mono (by assumption) (by first | (simp; done) | (simp; omega) | omega))))) (Below.mono hb (by first | (simp; done) | (simp; omega) | omega)) | have hB := hb); obtain ⟨hC, hF⟩ := bcell hB; have hz := hb.size; (try simp at hz); (try (have hz0 : w.heap.size < w'.heap.size := by omega)); (try (have hz1 : w.heap.size + 1 < w'.heap.size := by omega)); (try (have hz2 : w.heap.size + 1 + 1 < w'.heap.size := by omega)); (try (have hz3 : w.heap.size + 1 + 1 + 1 < w'.heap.size := by omega))) | (go_at_call 33; refine (l2Time_any _ _).mono ?_; rintro e w' ⟨rfl, rfl⟩))
    go_ret2
    exact ⟨rfl, by repeat (first | exact Below.refl _ _ | refine Below.drew ?_ | refine Below.alloc ?_ (by first | (simp; done) | (simp; omega) | omega) _ | refine Below.setCell ?_ (by first | (simp; done) | (simp; omega) | omega) _ | refine Below.trans ?_ (Below.mono (by assumption) (by first | (simp; done) | (simp; omega) | omega)))⟩
  cases ht : okT x
  · rw [rB_t ht, sel_f rfl]
    go_enter Try.func62, Try.ntmps62
    go_wp2_with (first | (go_at_call 45; refine (specDriftOk_any _ _ _).mono ?_; rintro e w' ⟨rfl, hb⟩; obtain ⟨hc, hf⟩ := bcell hb; (first | have hB := Below.trans (Below.trans hB (by repeat (first | exact Below.refl _ _ | refine Below.drew ?_ | refine Below.alloc ?_ (by first | (simp; done) | (simp; omega) | omega) _ | refine Below.setCell ?_ (by first | (simp; done) | (simp; omega) | omega) _ | refine Below.trans ?_ (Below.mono (by assumption) (by first | (simp; done) | (simp; omega) | omega))))) (Below.mono hb (by first | (simp; done) | (simp; omega) | omega)) | have hB := hb); obtain ⟨hC, hF⟩ := bcell hB; have hz := hb.size; (try simp at hz); (try (have hz0 : w.heap.size < w'.heap.size := by omega)); (try (have hz1 : w.heap.size + 1 < w'.heap.size := by omega)); (try (have hz2 : w.heap.size + 1 + 1 < w'.heap.size := by omega)); (try (have hz3 : w.heap.size + 1 + 1 + 1 < w'.heap.size := by omega))) | (go_at_call 33; refine (l2Time_any _ _).mono ?_; rintro e w' ⟨rfl, rfl⟩))
    go_ret2
    exact ⟨rfl, by repeat (first | exact Below.refl _ _ | refine Below.drew ?_ | refine Below.alloc ?_ (by first | (simp; done) | (simp; omega) | omega) _ | refine Below.setCell ?_ (by first | (simp; done) | (simp; omega) | omega) _ | refine Below.trans ?_ (Below.mono (by assumption) (by first | (simp; done) | (simp; omega) | omega)))⟩
  rw [rB_r ho ht]
  have ⟨d1, d2, d3, d4⟩ := okD_t ho
  have ⟨t1, t2⟩ := okT_t ht
  have ⟨m1, m2⟩ := mul_bd (x := x) (y := d - n) (X := 1000000000000) (Y := 2000000) (by omega) (by omega) (by omega) (by omega)
  have ⟨v1, v2⟩ := upI_bd (x := x * (d - n)) (n := d) m1 (by omega)
  go_enter Try.func62, Try.ntmps62
  go_wp2_with (first | (go_at_call 45; refine (specDriftOk_any _ _ _).mono ?_; rintro e w' ⟨rfl, hb⟩; obtain ⟨hc, hf⟩ := bcell hb; (first | have hB := Below.trans (Below.trans hB (by repeat (first | exact Below.refl _ _ | refine Below.drew ?_ | refine Below.alloc ?_ (by first | (simp; done) | (simp; omega) | omega) _ | refine Below.setCell ?_ (by first | (simp; done) | (simp; omega) | omega) _ | refine Below.trans ?_ (Below.mono (by assumption) (by first | (simp; done) | (simp; omega) | omega))))) (Below.mono hb (by first | (simp; done) | (simp; omega) | omega)) | have hB := hb); obtain ⟨hC, hF⟩ := bcell hB; have hz := hb.size; (try simp at hz); (try (have hz0 : w.heap.size < w'.heap.size := by omega)); (try (have hz1 : w.heap.size + 1 < w'.heap.size := by omega)); (try (have hz2 : w.heap.size + 1 + 1 < w'.heap.size := by omega)); (try (have hz3 : w.heap.size + 1 + 1 + 1 < w'.heap.size := by omega))) | (go_at_call 33; refine (l2Time_any _ _).mono ?_; rintro e w' ⟨rfl, rfl⟩) | (go_at_call 73; refine (l1Up_any _ _ _ (by omega) (by omega) (by omega) (by omega)).mono ?_; rintro e w' ⟨rfl, rfl⟩) | (go_at_call 72; refine (l2Told_any _ _ (by first | assumption | (simp only [← dnI]; assumption) | omega)).mono ?_; rintro e w' ⟨rfl, rfl⟩))
  go_ret2
  exact ⟨rfl, by repeat (first | exact Below.refl _ _ | refine Below.drew ?_ | refine Below.alloc ?_ (by first | (simp; done) | (simp; omega) | omega) _ | refine Below.setCell ?_ (by first | (simp; done) | (simp; omega) | omega) _ | refine Below.trans ?_ (Below.mono (by assumption) (by first | (simp; done) | (simp; omega) | omega)))⟩
set_option maxHeartbeats 1000000 in
theorem specMostCount_any (n d x : Int) (w : World) :
    Calls Try.prog 63 #[.agg #[.int .i64 n, .int .i64 d], .int .i64 x] w fun e w' => e = .returned (.tuple #[.int .i64 (sel (rB n d x (dnI (x * (d + n)) (d))) (dnI (x * (d + n)) (d))), .bool (rB n d x (dnI (x * (d + n)) (d)))]) ∧ Below w.heap.size w w' := by
  cases ho : okD n d
  · rw [rB_d ho, sel_f rfl]
    go_enter Try.func63, Try.ntmps63
    go_wp2_with (first | (go_at_call 45; refine (specDriftOk_any _ _ _).mono ?_; rintro e w' ⟨rfl, hb⟩; obtain ⟨hc, hf⟩ := bcell hb; (first | have hB := Below.trans (Below.trans hB (by repeat (first | exact Below.refl _ _ | refine Below.drew ?_ | refine Below.alloc ?_ (by first | (simp; done) | (simp; omega) | omega) _ | refine Below.setCell ?_ (by first | (simp; done) | (simp; omega) | omega) _ | refine Below.trans ?_ (Below.mono (by assumption) (by first | (simp; done) | (simp; omega) | omega))))) (Below.mono hb (by first | (simp; done) | (simp; omega) | omega)) | have hB := hb); obtain ⟨hC, hF⟩ := bcell hB; have hz := hb.size; (try simp at hz); (try (have hz0 : w.heap.size < w'.heap.size := by omega)); (try (have hz1 : w.heap.size + 1 < w'.heap.size := by omega)); (try (have hz2 : w.heap.size + 1 + 1 < w'.heap.size := by omega)); (try (have hz3 : w.heap.size + 1 + 1 + 1 < w'.heap.size := by omega))) | (go_at_call 33; refine (l2Time_any _ _).mono ?_; rintro e w' ⟨rfl, rfl⟩))
    go_ret2
    exact ⟨rfl, by repeat (first | exact Below.refl _ _ | refine Below.drew ?_ | refine Below.alloc ?_ (by first | (simp; done) | (simp; omega) | omega) _ | refine Below.setCell ?_ (by first | (simp; done) | (simp; omega) | omega) _ | refine Below.trans ?_ (Below.mono (by assumption) (by first | (simp; done) | (simp; omega) | omega)))⟩
  cases ht : okT x
  · rw [rB_t ht, sel_f rfl]
    go_enter Try.func63, Try.ntmps63
    go_wp2_with (first | (go_at_call 45; refine (specDriftOk_any _ _ _).mono ?_; rintro e w' ⟨rfl, hb⟩; obtain ⟨hc, hf⟩ := bcell hb; (first | have hB := Below.trans (Below.trans hB (by repeat (first | exact Below.refl _ _ | refine Below.drew ?_ | refine Below.alloc ?_ (by first | (simp; done) | (simp; omega) | omega) _ | refine Below.setCell ?_ (by first | (simp; done) | (simp; omega) | omega) _ | refine Below.trans ?_ (Below.mono (by assumption) (by first | (simp; done) | (simp; omega) | omega))))) (Below.mono hb (by first | (simp; done) | (simp; omega) | omega)) | have hB := hb); obtain ⟨hC, hF⟩ := bcell hB; have hz := hb.size; (try simp at hz); (try (have hz0 : w.heap.size < w'.heap.size := by omega)); (try (have hz1 : w.heap.size + 1 < w'.heap.size := by omega)); (try (have hz2 : w.heap.size + 1 + 1 < w'.heap.size := by omega)); (try (have hz3 : w.heap.size + 1 + 1 + 1 < w'.heap.size := by omega))) | (go_at_call 33; refine (l2Time_any _ _).mono ?_; rintro e w' ⟨rfl, rfl⟩))
    go_ret2
    exact ⟨rfl, by repeat (first | exact Below.refl _ _ | refine Below.drew ?_ | refine Below.alloc ?_ (by first | (simp; done) | (simp; omega) | omega) _ | refine Below.setCell ?_ (by first | (simp; done) | (simp; omega) | omega) _ | refine Below.trans ?_ (Below.mono (by assumption) (by first | (simp; done) | (simp; omega) | omega)))⟩
  rw [rB_r ho ht]
  have ⟨d1, d2, d3, d4⟩ := okD_t ho
  have ⟨t1, t2⟩ := okT_t ht
  have ⟨m1, m2⟩ := mul_bd (x := x) (y := d + n) (X := 1000000000000) (Y := 2000000) (by omega) (by omega) (by omega) (by omega)
  have ⟨v1, v2⟩ := dnI_bd (x := x * (d + n)) (n := d) m1 (by omega)
  go_enter Try.func63, Try.ntmps63
  go_wp2_with (first | (go_at_call 45; refine (specDriftOk_any _ _ _).mono ?_; rintro e w' ⟨rfl, hb⟩; obtain ⟨hc, hf⟩ := bcell hb; (first | have hB := Below.trans (Below.trans hB (by repeat (first | exact Below.refl _ _ | refine Below.drew ?_ | refine Below.alloc ?_ (by first | (simp; done) | (simp; omega) | omega) _ | refine Below.setCell ?_ (by first | (simp; done) | (simp; omega) | omega) _ | refine Below.trans ?_ (Below.mono (by assumption) (by first | (simp; done) | (simp; omega) | omega))))) (Below.mono hb (by first | (simp; done) | (simp; omega) | omega)) | have hB := hb); obtain ⟨hC, hF⟩ := bcell hB; have hz := hb.size; (try simp at hz); (try (have hz0 : w.heap.size < w'.heap.size := by omega)); (try (have hz1 : w.heap.size + 1 < w'.heap.size := by omega)); (try (have hz2 : w.heap.size + 1 + 1 < w'.heap.size := by omega)); (try (have hz3 : w.heap.size + 1 + 1 + 1 < w'.heap.size := by omega))) | (go_at_call 33; refine (l2Time_any _ _).mono ?_; rintro e w' ⟨rfl, rfl⟩) | (go_at_call 74; refine (l1Down_any _ _ _ (by omega) (by omega) (by omega) (by omega)).mono ?_; rintro e w' ⟨rfl, rfl⟩) | (go_at_call 72; refine (l2Told_any _ _ (by first | assumption | (simp only [← dnI]; assumption) | omega)).mono ?_; rintro e w' ⟨rfl, rfl⟩))
  go_ret2
  exact ⟨rfl, by repeat (first | exact Below.refl _ _ | refine Below.drew ?_ | refine Below.alloc ?_ (by first | (simp; done) | (simp; omega) | omega) _ | refine Below.setCell ?_ (by first | (simp; done) | (simp; omega) | omega) _ | refine Below.trans ?_ (Below.mono (by assumption) (by first | (simp; done) | (simp; omega) | omega)))⟩
end Go.Proofs.Ytkeijldfblgeaaa
namespace Go.Proofs.Ytkeijldfblgeaaa
open Go.RowKit
set_option linter.unusedVariables false
def nearI (lo hi t : Int) : Int := match okI lo hi with | true => imn (imx t lo) hi | false => 0
theorem nearI_t {lo hi t : Int} (h : okI lo hi = true) : nearI lo hi t = imn (imx t lo) hi := by rw [nearI, h]
theorem nearI_f {lo hi t : Int} (h : okI lo hi = false) : nearI lo hi t = 0 := by rw [nearI, h]
def withinI (al ah bl bh : Int) : Bool := okII al ah bl bh && decide (bl ≤ al ∧ ah ≤ bh)
end Go.Proofs.Ytkeijldfblgeaaa
