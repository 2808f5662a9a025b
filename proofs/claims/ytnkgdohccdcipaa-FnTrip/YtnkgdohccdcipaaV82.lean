/- What the draws of a trip leave. -/
import Derived.Test.YtnkgdohccdcipaaR81
import Derived.Test.YtnkgdohccdcipaaZ1
import Derived.Deep.RegionHeld3
import Derived.Deep.DeepCutAuto
import Derived.WalkKit
import Derived.WalkSpells
import Derived.WalkLawsBesides
import Derived.Deep.RegionHeld
namespace Go.Proofs.Ytnkgdohccdcipaa
open Go.RowKit
set_option linter.unusedVariables false
structure HidV (p : Prop) : Prop where
  out : p
theorem Box5.but {p k : Nat} {w w' : World} {a b c d e : Int} (h : Box5 w k a b c d e) (hw : But p w w') (hk : k ≠ p) : Box5 w' k a b c d e := by
  obtain ⟨h0, h1, h2, h3, h4, h5, f1, f2, f3, f4, f5⟩ := h
  exact ⟨Nat.lt_of_lt_of_le h0 hw.2.2.2.1, by rw [hw.cell h0 hk]; exact h1, by rw [hw.cell h0 hk]; exact h2, by rw [hw.cell h0 hk]; exact h3, by rw [hw.cell h0 hk]; exact h4, by rw [hw.cell h0 hk]; exact h5, by rw [hw.frozen h0 hk]; exact f1, by rw [hw.frozen h0 hk]; exact f2, by rw [hw.frozen h0 hk]; exact f3, by rw [hw.frozen h0 hk]; exact f4, by rw [hw.frozen h0 hk]; exact f5⟩
theorem CurOk.set5 {w : World} {B p k : Nat} (h : CurOk w B p) (hk : k ≠ p) (hB : B ≤ k) (a b c d e : Int) : CurOk (set5 w k a b c d e) B p := ((((h.setOther hk hB _ _).setOther hk hB _ _).setOther hk hB _ _).setOther hk hB _ _).setOther hk hB _ _
theorem But.set5 {p k : Nat} {u w : World} (h : But p u w) (hk : u.heap.size ≤ k) (a b c d e : Int) : But p u (set5 w k a b c d e) := ((((h.setNew hk _ _).setNew hk _ _).setNew hk _ _).setNew hk _ _).setNew hk _ _
theorem Below.set5 {B j : Nat} {w w' : World} (h : Below B w w') (hj : B ≤ j) (a b c d e : Int) : Below B w (set5 w' j a b c d e) := ((((h.setCell hj _).setCell hj _).setCell hj _).setCell hj _).setCell hj _
theorem Box5.one {k : Nat} {w : World} {a b c d e : Int} (h : Box5 w k a b c d e) (x : Int) : Box5 (w.setCell ⟨k, 0, none⟩ (.int .i64 x)) k x b c d e ∧ Box5 (w.setCell ⟨k, 3, none⟩ (.int .i64 x)) k a b c x e ∧ Box5 (w.setCell ⟨k, 4, none⟩ (.int .i64 x)) k a b c d x := by
  obtain ⟨h0, h1, h2, h3, h4, h5, f1, f2, f3, f4, f5⟩ := h
  have n0 : ∀ (i j : Nat) (u : Value), i ≠ j → (w.setCell ⟨k, i, none⟩ u).cell? ⟨k, j, none⟩ = w.cell? ⟨k, j, none⟩ := fun i j u hij => World.cell?_setCell_other _ _ _ _ (by intro e; exact hij (congrArg Addr.off e))
  refine ⟨⟨by simpa using h0, World.cell?_setCell_same _ _ _ h1, ?_, ?_, ?_, ?_, by simpa using f1, by simpa using f2, by simpa using f3, by simpa using f4, by simpa using f5⟩, ⟨by simpa using h0, ?_, ?_, ?_, World.cell?_setCell_same _ _ _ h4, ?_, by simpa using f1, by simpa using f2, by simpa using f3, by simpa using f4, by simpa using f5⟩, ⟨by simpa using h0, ?_, ?_, ?_, ?_, World.cell?_setCell_same _ _ _ h5, by simpa using f1, by simpa using f2, by simpa using f3, by simpa using f4, by simpa using f5⟩⟩
  all_goals (rw [n0 _ _ _ (by decide)]; assumption)
theorem Box5.said {k : Nat} {w : World} {a b c d e : Int} (h : Box5 w k a b c d e) (x y : Int) : Box5 ((w.setCell ⟨k, 1, none⟩ (.int .i64 x)).setCell ⟨k, 2, none⟩ (.int .i64 y)) k a x y d e := by
  obtain ⟨h0, h1, h2, h3, h4, h5, f1, f2, f3, f4, f5⟩ := h
  have n0 : ∀ (W : World) (i j : Nat) (u : Value), i ≠ j → (W.setCell ⟨k, i, none⟩ u).cell? ⟨k, j, none⟩ = W.cell? ⟨k, j, none⟩ := fun W i j u hij => World.cell?_setCell_other _ _ _ _ (by intro e; exact hij (congrArg Addr.off e))
  refine ⟨by simpa using h0, ?_, ?_, ?_, ?_, ?_, by simpa using f1, by simpa using f2, by simpa using f3, by simpa using f4, by simpa using f5⟩
  · rw [n0 _ _ _ _ (by decide), n0 _ _ _ _ (by decide)]; exact h1
  · rw [n0 _ _ _ _ (by decide)]; exact World.cell?_setCell_same _ _ _ h2
  · exact World.cell?_setCell_same _ _ _ (by rw [n0 _ _ _ _ (by decide)]; exact h3)
  · rw [n0 _ _ _ _ (by decide), n0 _ _ _ _ (by decide)]; exact h4
  · rw [n0 _ _ _ _ (by decide), n0 _ _ _ _ (by decide)]; exact h5
set_option maxRecDepth 100000 in
set_option maxHeartbeats 8000000 in
theorem l8DrawTrip_any (B p : Nat) (w : World) (hcur : CurOk w B p) :
    Calls Try.prog 25 #[.pointer (some ⟨p, 0, none⟩)] w fun e w' => ∃ fr lo hi s g : Int, e = .returned (.agg #[.int .i64 fr, .int .i64 lo, .int .i64 hi, .int .i64 s, .int .i64 g]) ∧ CurOk w' B p ∧ But p w w' := by
  have hpl := hcur.lt
  have hpw : w.heap.size ≠ p := by omega
  have hBw : B ≤ w.heap.size := by omega
  have A1 := Below.al w (.cells #[.int .i64 0, .int .i64 0, .int .i64 0, .int .i64 0, .int .i64 0] 29)
  have R := Box5.new w 0 0 0 0 0 29
  have c := hcur.below A1
  have b : But p w (w.alloc (.cells #[.int .i64 0, .int .i64 0, .int .i64 0, .int .i64 0, .int .i64 0] 29)) := But.of_below A1
  clear hcur A1
  go_enter Try.func25, Try.ntmps25
  go_wp2_with fail
  generalize w.alloc (.cells #[.int .i64 0, .int .i64 0, .int .i64 0, .int .i64 0, .int .i64 0] 29) = v at *
  refine (l1Below_any B p 100 _ c).mono ?_
  rintro e v ⟨x, rfl, xl, xh, xp, xz, c', hb⟩
  clear c
  have xh' : x ≤ 100 := by omega
  clear xp xz xh
  have R' := R.but hb hpw
  have b' := b.trans hb
  clear R b hb
  have R := R'
  have c := c'
  have b := b'
  clear R' c' b'
  go_wp2_with fail
  refine (l1Below_any B p 8 _ c).mono ?_
  rintro e v ⟨f, rfl, fl, fh, fp, fz, c', hb⟩
  clear c
  have fh' : f ≤ 8 := by omega
  clear fp fz fh
  have R' := R.but hb hpw
  have b' := b.trans hb
  clear R b hb
  have R := R'
  have c := c'
  have b := b'
  clear R' c' b'
  go_wp2_with fail
  refine (l1DrawIval_any B p _ c).mono ?_
  rintro e v ⟨lo, hi, rfl, c', hb⟩
  clear c
  have R' := R.but hb hpw
  have b' := b.trans hb
  clear R b hb
  have R := R'
  have c := c'
  have b := b'
  clear R' c' b'
  go_wp2_with fail
  refine (l1Below_any B p 50 _ c).mono ?_
  rintro e v ⟨y, rfl, yl, yh, yp, yz, c', hb⟩
  clear c
  have yh' : y ≤ 50 := by omega
  clear yp yz yh
  have R' := R.but hb hpw
  have b' := b.trans hb
  clear R b hb
  have R := R'
  have c := c'
  have b := b'
  clear R' c' b'
  have q := c.lt
  have hk : v.heap.size ≠ p := by omega
  have hwk : w.heap.size < v.heap.size := R.1
  have hBk : B ≤ v.heap.size := by omega
  have hwk' : w.heap.size ≤ v.heap.size := by omega
  have n2 : v.heap.size ≠ w.heap.size := by omega
  have A := Below.al v (.cells #[.int .i64 f, .int .i64 lo, .int .i64 hi, .int .i64 x, .int .i64 (x + y)] 29)
  have N := Box5.new v f lo hi x (x + y) 29
  replace R := R.below A
  replace c := c.below A
  replace b := b.alloc (.cells #[.int .i64 f, .int .i64 lo, .int .i64 hi, .int .i64 x, .int .i64 (x + y)] 29)
  clear A q
  go_wp2_with fail
  generalize v.heap.size = k at *
  generalize v.alloc (.cells #[.int .i64 f, .int .i64 lo, .int .i64 hi, .int .i64 x, .int .i64 (x + y)] 29) = v at *
  refine (specIvalOk_any _ _ _).mono ?_
  rintro e v2 ⟨rfl, hb⟩
  replace c := c.below hb
  replace b := b.trans (But.of_below hb)
  replace R := R.below hb
  replace N := N.below hb
  clear hb
  cases hok : okI lo hi
  · obtain ⟨g0, g1, g2, g3, g4, g5, g6, g7, g8, g9, g10⟩ := id R; obtain ⟨m0, m1, m2, m3, m4, m5, m6, m7, m8, m9, m10⟩ := id N
    go_wp2_with fail
    clear g0 g1 g2 g3 g4 g5 g6 g7 g8 g9 g10 m0 m1 m2 m3 m4 m5 m6 m7 m8 m9 m10
    refine (l1Once_any B p 4 _ c).mono ?_
    rintro e v ⟨o, rfl, c', hb⟩
    clear c
    have R' := R.but hb hpw
    have N' := N.but hb hk
    have b' := b.trans hb
    clear R b hb N
    have R := R'
    have c := c'
    have N := N'
    have b := b'
    clear R' c' b' N'
    cases o
    · have N2 := N.said 3 9
      have R2 := (R.setO n2 1 (.int .i64 3)).setO n2 2 (.int .i64 9)
      have c2 := (c.setOther hk hBk 1 (.int .i64 3)).setOther hk hBk 2 (.int .i64 9)
      have b2 := (b.setNew hwk' 1 (.int .i64 3)).setNew hwk' 2 (.int .i64 9)
      obtain ⟨g0, g1, g2, g3, g4, g5, g6, g7, g8, g9, g10⟩ := id R; obtain ⟨m0, m1, m2, m3, m4, m5, m6, m7, m8, m9, m10⟩ := id N
      go_wp2_with fail
      clear g0 g1 g2 g3 g4 g5 g6 g7 g8 g9 g10 m0 m1 m2 m3 m4 m5 m6 m7 m8 m9 m10
      clear R N b c
      have R := R2
      have N := N2
      have c := c2
      have b := b2
      clear R2 N2 c2 b2
      generalize (v.setCell ⟨k, 1, none⟩ (.int .i64 3)).setCell ⟨k, 2, none⟩ (.int .i64 9) = v at *
      refine (l1Below_any B p 25 _ c).mono ?_
      rintro e v ⟨z, rfl, zl, zh, zp, zz, c', hb⟩
      clear c
      have zh' : z ≤ 25 := by omega
      clear zp zz zh
      have R' := R.but hb hpw
      have N' := N.but hb hk
      have b' := b.trans hb
      clear R b hb N
      have R := R'
      have c := c'
      have N := N'
      have b := b'
      clear R' c' b' N'
      cases hz0 : (z == 0)
      · cases hz1 : (z == 1)
        · cases hz2 : (z == 2)
          · obtain ⟨g0, g1, g2, g3, g4, g5, g6, g7, g8, g9, g10⟩ := id R; obtain ⟨m0, m1, m2, m3, m4, m5, m6, m7, m8, m9, m10⟩ := id N
            go_wp2_with fail
            exact bodyPost_ret (v := .agg #[.int .i64 f, .int .i64 3, .int .i64 9, .int .i64 x, .int .i64 (x + y)]) (by simp (maxDischargeDepth := 6) [results, Try.results25, go_sem, *]) rfl ⟨_, _, _, _, _, rfl, CurOk.set5 c hpw hBw _ _ _ _ _, But.set5 b (Nat.le_refl _) _ _ _ _ _⟩
          · have N2 := (N.one (-1)).2.1
            have R2 := R.setO n2 3 (.int .i64 (-1))
            have c2 := c.setOther hk hBk 3 (.int .i64 (-1))
            have b2 := b.setNew hwk' 3 (.int .i64 (-1))
            obtain ⟨g0, g1, g2, g3, g4, g5, g6, g7, g8, g9, g10⟩ := id R; obtain ⟨m0, m1, m2, m3, m4, m5, m6, m7, m8, m9, m10⟩ := id N
            go_wp2_with fail
            exact bodyPost_ret (v := .agg #[.int .i64 f, .int .i64 3, .int .i64 9, .int .i64 (-1), .int .i64 (x + y)]) (by simp (maxDischargeDepth := 6) [results, Try.results25, go_sem, *]) rfl ⟨_, _, _, _, _, rfl, CurOk.set5 c2 hpw hBw _ _ _ _ _, But.set5 b2 (Nat.le_refl _) _ _ _ _ _⟩
        · obtain ⟨g0, g1, g2, g3, g4, g5, g6, g7, g8, g9, g10⟩ := id R; obtain ⟨m0, m1, m2, m3, m4, m5, m6, m7, m8, m9, m10⟩ := id N
          go_wp2_with fail
          clear g0 g1 g2 g3 g4 g5 g6 g7 g8 g9 g10 m0 m1 m2 m3 m4 m5 m6 m7 m8 m9 m10
          have hp := pickLit B p _ [x - 1, 1000000000000, 1000000000001, 500000000000] c (by simp) (by simp)
          simp only [List.map_cons, List.map_nil, List.length_cons, List.length_nil, Nat.zero_add, Nat.reduceAdd] at hp
          refine hp.mono ?_
          clear hp
          rintro e v ⟨u, rfl, c', hb⟩
          clear c
          have R' := R.but hb hpw
          have N' := N.but hb hk
          have b' := b.trans hb
          clear R b hb N
          have R := R'
          have c := c'
          have N := N'
          have b := b'
          clear R' c' b' N'
          have N2 := (N.one u).2.2
          have R2 := R.setO n2 4 (.int .i64 u)
          have c2 := c.setOther hk hBk 4 (.int .i64 u)
          have b2 := b.setNew hwk' 4 (.int .i64 u)
          obtain ⟨g0, g1, g2, g3, g4, g5, g6, g7, g8, g9, g10⟩ := id R; obtain ⟨m0, m1, m2, m3, m4, m5, m6, m7, m8, m9, m10⟩ := id N
          go_wp2_with fail
          exact bodyPost_ret (v := .agg #[.int .i64 f, .int .i64 3, .int .i64 9, .int .i64 x, .int .i64 u]) (by simp (maxDischargeDepth := 6) [results, Try.results25, go_sem, *]) rfl ⟨_, _, _, _, _, rfl, CurOk.set5 c2 hpw hBw _ _ _ _ _, But.set5 b2 (Nat.le_refl _) _ _ _ _ _⟩
      · obtain ⟨g0, g1, g2, g3, g4, g5, g6, g7, g8, g9, g10⟩ := id R; obtain ⟨m0, m1, m2, m3, m4, m5, m6, m7, m8, m9, m10⟩ := id N
        go_wp2_with fail
        clear g0 g1 g2 g3 g4 g5 g6 g7 g8 g9 g10 m0 m1 m2 m3 m4 m5 m6 m7 m8 m9 m10
        have hp := pickLit B p _ [-1, 8] c (by simp) (by simp)
        simp only [List.map_cons, List.map_nil, List.length_cons, List.length_nil, Nat.zero_add, Nat.reduceAdd] at hp
        refine hp.mono ?_
        clear hp
        rintro e v ⟨u, rfl, c', hb⟩
        clear c
        have R' := R.but hb hpw
        have N' := N.but hb hk
        have b' := b.trans hb
        clear R b hb N
        have R := R'
        have c := c'
        have N := N'
        have b := b'
        clear R' c' b' N'
        have N2 := (N.one u).1
        have R2 := R.setO n2 0 (.int .i64 u)
        have c2 := c.setOther hk hBk 0 (.int .i64 u)
        have b2 := b.setNew hwk' 0 (.int .i64 u)
        obtain ⟨g0, g1, g2, g3, g4, g5, g6, g7, g8, g9, g10⟩ := id R; obtain ⟨m0, m1, m2, m3, m4, m5, m6, m7, m8, m9, m10⟩ := id N
        go_wp2_with fail
        exact bodyPost_ret (v := .agg #[.int .i64 u, .int .i64 3, .int .i64 9, .int .i64 x, .int .i64 (x + y)]) (by simp (maxDischargeDepth := 6) [results, Try.results25, go_sem, *]) rfl ⟨_, _, _, _, _, rfl, CurOk.set5 c2 hpw hBw _ _ _ _ _, But.set5 b2 (Nat.le_refl _) _ _ _ _ _⟩
    · obtain ⟨g0, g1, g2, g3, g4, g5, g6, g7, g8, g9, g10⟩ := id R; obtain ⟨m0, m1, m2, m3, m4, m5, m6, m7, m8, m9, m10⟩ := id N
      go_wp2_with fail
      clear g0 g1 g2 g3 g4 g5 g6 g7 g8 g9 g10 m0 m1 m2 m3 m4 m5 m6 m7 m8 m9 m10
      refine (l1Below_any B p 25 _ c).mono ?_
      rintro e v ⟨z, rfl, zl, zh, zp, zz, c', hb⟩
      clear c
      have zh' : z ≤ 25 := by omega
      clear zp zz zh
      have R' := R.but hb hpw
      have N' := N.but hb hk
      have b' := b.trans hb
      clear R b hb N
      have R := R'
      have c := c'
      have N := N'
      have b := b'
      clear R' c' b' N'
      cases hz0 : (z == 0)
      · cases hz1 : (z == 1)
        · cases hz2 : (z == 2)
          · obtain ⟨g0, g1, g2, g3, g4, g5, g6, g7, g8, g9, g10⟩ := id R; obtain ⟨m0, m1, m2, m3, m4, m5, m6, m7, m8, m9, m10⟩ := id N
            go_wp2_with fail
            exact bodyPost_ret (v := .agg #[.int .i64 f, .int .i64 lo, .int .i64 hi, .int .i64 x, .int .i64 (x + y)]) (by simp (maxDischargeDepth := 6) [results, Try.results25, go_sem, *]) rfl ⟨_, _, _, _, _, rfl, CurOk.set5 c hpw hBw _ _ _ _ _, But.set5 b (Nat.le_refl _) _ _ _ _ _⟩
          · have N2 := (N.one (-1)).2.1
            have R2 := R.setO n2 3 (.int .i64 (-1))
            have c2 := c.setOther hk hBk 3 (.int .i64 (-1))
            have b2 := b.setNew hwk' 3 (.int .i64 (-1))
            obtain ⟨g0, g1, g2, g3, g4, g5, g6, g7, g8, g9, g10⟩ := id R; obtain ⟨m0, m1, m2, m3, m4, m5, m6, m7, m8, m9, m10⟩ := id N
            go_wp2_with fail
            exact bodyPost_ret (v := .agg #[.int .i64 f, .int .i64 lo, .int .i64 hi, .int .i64 (-1), .int .i64 (x + y)]) (by simp (maxDischargeDepth := 6) [results, Try.results25, go_sem, *]) rfl ⟨_, _, _, _, _, rfl, CurOk.set5 c2 hpw hBw _ _ _ _ _, But.set5 b2 (Nat.le_refl _) _ _ _ _ _⟩
        · obtain ⟨g0, g1, g2, g3, g4, g5, g6, g7, g8, g9, g10⟩ := id R; obtain ⟨m0, m1, m2, m3, m4, m5, m6, m7, m8, m9, m10⟩ := id N
          go_wp2_with fail
          clear g0 g1 g2 g3 g4 g5 g6 g7 g8 g9 g10 m0 m1 m2 m3 m4 m5 m6 m7 m8 m9 m10
          have hp := pickLit B p _ [x - 1, 1000000000000, 1000000000001, 500000000000] c (by simp) (by simp)
          simp only [List.map_cons, List.map_nil, List.length_cons, List.length_nil, Nat.zero_add, Nat.reduceAdd] at hp
          refine hp.mono ?_
          clear hp
          rintro e v ⟨u, rfl, c', hb⟩
          clear c
          have R' := R.but hb hpw
          have N' := N.but hb hk
          have b' := b.trans hb
          clear R b hb N
          have R := R'
          have c := c'
          have N := N'
          have b := b'
          clear R' c' b' N'
          have N2 := (N.one u).2.2
          have R2 := R.setO n2 4 (.int .i64 u)
          have c2 := c.setOther hk hBk 4 (.int .i64 u)
          have b2 := b.setNew hwk' 4 (.int .i64 u)
          obtain ⟨g0, g1, g2, g3, g4, g5, g6, g7, g8, g9, g10⟩ := id R; obtain ⟨m0, m1, m2, m3, m4, m5, m6, m7, m8, m9, m10⟩ := id N
          go_wp2_with fail
          exact bodyPost_ret (v := .agg #[.int .i64 f, .int .i64 lo, .int .i64 hi, .int .i64 x, .int .i64 u]) (by simp (maxDischargeDepth := 6) [results, Try.results25, go_sem, *]) rfl ⟨_, _, _, _, _, rfl, CurOk.set5 c2 hpw hBw _ _ _ _ _, But.set5 b2 (Nat.le_refl _) _ _ _ _ _⟩
      · obtain ⟨g0, g1, g2, g3, g4, g5, g6, g7, g8, g9, g10⟩ := id R; obtain ⟨m0, m1, m2, m3, m4, m5, m6, m7, m8, m9, m10⟩ := id N
        go_wp2_with fail
        clear g0 g1 g2 g3 g4 g5 g6 g7 g8 g9 g10 m0 m1 m2 m3 m4 m5 m6 m7 m8 m9 m10
        have hp := pickLit B p _ [-1, 8] c (by simp) (by simp)
        simp only [List.map_cons, List.map_nil, List.length_cons, List.length_nil, Nat.zero_add, Nat.reduceAdd] at hp
        refine hp.mono ?_
        clear hp
        rintro e v ⟨u, rfl, c', hb⟩
        clear c
        have R' := R.but hb hpw
        have N' := N.but hb hk
        have b' := b.trans hb
        clear R b hb N
        have R := R'
        have c := c'
        have N := N'
        have b := b'
        clear R' c' b' N'
        have N2 := (N.one u).1
        have R2 := R.setO n2 0 (.int .i64 u)
        have c2 := c.setOther hk hBk 0 (.int .i64 u)
        have b2 := b.setNew hwk' 0 (.int .i64 u)
        obtain ⟨g0, g1, g2, g3, g4, g5, g6, g7, g8, g9, g10⟩ := id R; obtain ⟨m0, m1, m2, m3, m4, m5, m6, m7, m8, m9, m10⟩ := id N
        go_wp2_with fail
        exact bodyPost_ret (v := .agg #[.int .i64 u, .int .i64 lo, .int .i64 hi, .int .i64 x, .int .i64 (x + y)]) (by simp (maxDischargeDepth := 6) [results, Try.results25, go_sem, *]) rfl ⟨_, _, _, _, _, rfl, CurOk.set5 c2 hpw hBw _ _ _ _ _, But.set5 b2 (Nat.le_refl _) _ _ _ _ _⟩
  · obtain ⟨g0, g1, g2, g3, g4, g5, g6, g7, g8, g9, g10⟩ := id R; obtain ⟨m0, m1, m2, m3, m4, m5, m6, m7, m8, m9, m10⟩ := id N
    go_wp2_with fail
    clear g0 g1 g2 g3 g4 g5 g6 g7 g8 g9 g10 m0 m1 m2 m3 m4 m5 m6 m7 m8 m9 m10
    refine (l1Below_any B p 25 _ c).mono ?_
    rintro e v ⟨z, rfl, zl, zh, zp, zz, c', hb⟩
    clear c
    have zh' : z ≤ 25 := by omega
    clear zp zz zh
    have R' := R.but hb hpw
    have N' := N.but hb hk
    have b' := b.trans hb
    clear R b hb N
    have R := R'
    have c := c'
    have N := N'
    have b := b'
    clear R' c' b' N'
    cases hz0 : (z == 0)
    · cases hz1 : (z == 1)
      · cases hz2 : (z == 2)
        · obtain ⟨g0, g1, g2, g3, g4, g5, g6, g7, g8, g9, g10⟩ := id R; obtain ⟨m0, m1, m2, m3, m4, m5, m6, m7, m8, m9, m10⟩ := id N
          go_wp2_with fail
          exact bodyPost_ret (v := .agg #[.int .i64 f, .int .i64 lo, .int .i64 hi, .int .i64 x, .int .i64 (x + y)]) (by simp (maxDischargeDepth := 6) [results, Try.results25, go_sem, *]) rfl ⟨_, _, _, _, _, rfl, CurOk.set5 c hpw hBw _ _ _ _ _, But.set5 b (Nat.le_refl _) _ _ _ _ _⟩
        · have N2 := (N.one (-1)).2.1
          have R2 := R.setO n2 3 (.int .i64 (-1))
          have c2 := c.setOther hk hBk 3 (.int .i64 (-1))
          have b2 := b.setNew hwk' 3 (.int .i64 (-1))
          obtain ⟨g0, g1, g2, g3, g4, g5, g6, g7, g8, g9, g10⟩ := id R; obtain ⟨m0, m1, m2, m3, m4, m5, m6, m7, m8, m9, m10⟩ := id N
          go_wp2_with fail
          exact bodyPost_ret (v := .agg #[.int .i64 f, .int .i64 lo, .int .i64 hi, .int .i64 (-1), .int .i64 (x + y)]) (by simp (maxDischargeDepth := 6) [results, Try.results25, go_sem, *]) rfl ⟨_, _, _, _, _, rfl, CurOk.set5 c2 hpw hBw _ _ _ _ _, But.set5 b2 (Nat.le_refl _) _ _ _ _ _⟩
      · obtain ⟨g0, g1, g2, g3, g4, g5, g6, g7, g8, g9, g10⟩ := id R; obtain ⟨m0, m1, m2, m3, m4, m5, m6, m7, m8, m9, m10⟩ := id N
        go_wp2_with fail
        clear g0 g1 g2 g3 g4 g5 g6 g7 g8 g9 g10 m0 m1 m2 m3 m4 m5 m6 m7 m8 m9 m10
        have hp := pickLit B p _ [x - 1, 1000000000000, 1000000000001, 500000000000] c (by simp) (by simp)
        simp only [List.map_cons, List.map_nil, List.length_cons, List.length_nil, Nat.zero_add, Nat.reduceAdd] at hp
        refine hp.mono ?_
        clear hp
        rintro e v ⟨u, rfl, c', hb⟩
        clear c
        have R' := R.but hb hpw
        have N' := N.but hb hk
        have b' := b.trans hb
        clear R b hb N
        have R := R'
        have c := c'
        have N := N'
        have b := b'
        clear R' c' b' N'
        have N2 := (N.one u).2.2
        have R2 := R.setO n2 4 (.int .i64 u)
        have c2 := c.setOther hk hBk 4 (.int .i64 u)
        have b2 := b.setNew hwk' 4 (.int .i64 u)
        obtain ⟨g0, g1, g2, g3, g4, g5, g6, g7, g8, g9, g10⟩ := id R; obtain ⟨m0, m1, m2, m3, m4, m5, m6, m7, m8, m9, m10⟩ := id N
        go_wp2_with fail
        exact bodyPost_ret (v := .agg #[.int .i64 f, .int .i64 lo, .int .i64 hi, .int .i64 x, .int .i64 u]) (by simp (maxDischargeDepth := 6) [results, Try.results25, go_sem, *]) rfl ⟨_, _, _, _, _, rfl, CurOk.set5 c2 hpw hBw _ _ _ _ _, But.set5 b2 (Nat.le_refl _) _ _ _ _ _⟩
    · obtain ⟨g0, g1, g2, g3, g4, g5, g6, g7, g8, g9, g10⟩ := id R; obtain ⟨m0, m1, m2, m3, m4, m5, m6, m7, m8, m9, m10⟩ := id N
      go_wp2_with fail
      clear g0 g1 g2 g3 g4 g5 g6 g7 g8 g9 g10 m0 m1 m2 m3 m4 m5 m6 m7 m8 m9 m10
      have hp := pickLit B p _ [-1, 8] c (by simp) (by simp)
      simp only [List.map_cons, List.map_nil, List.length_cons, List.length_nil, Nat.zero_add, Nat.reduceAdd] at hp
      refine hp.mono ?_
      clear hp
      rintro e v ⟨u, rfl, c', hb⟩
      clear c
      have R' := R.but hb hpw
      have N' := N.but hb hk
      have b' := b.trans hb
      clear R b hb N
      have R := R'
      have c := c'
      have N := N'
      have b := b'
      clear R' c' b' N'
      have N2 := (N.one u).1
      have R2 := R.setO n2 0 (.int .i64 u)
      have c2 := c.setOther hk hBk 0 (.int .i64 u)
      have b2 := b.setNew hwk' 0 (.int .i64 u)
      obtain ⟨g0, g1, g2, g3, g4, g5, g6, g7, g8, g9, g10⟩ := id R; obtain ⟨m0, m1, m2, m3, m4, m5, m6, m7, m8, m9, m10⟩ := id N
      go_wp2_with fail
      exact bodyPost_ret (v := .agg #[.int .i64 u, .int .i64 lo, .int .i64 hi, .int .i64 x, .int .i64 (x + y)]) (by simp (maxDischargeDepth := 6) [results, Try.results25, go_sem, *]) rfl ⟨_, _, _, _, _, rfl, CurOk.set5 c2 hpw hBw _ _ _ _ _, But.set5 b2 (Nat.le_refl _) _ _ _ _ _⟩
set_option maxRecDepth 100000 in
set_option maxHeartbeats 8000000 in
theorem DrawTripFits_any (a0 : Option Addr) (n0 c0 : Nat) (w : World) (hn : n0 ≤ 1048576) (hcode : CodeB w w.heap.size a0 n0) :
    Calls Try.prog 6 #[.slice a0 n0 c0] w fun e w' => ∃ n d fr lo hi s g sent made got : Int, e = .returned (.tuple #[.agg #[.int .i64 n, .int .i64 d], .agg #[.int .i64 fr, .int .i64 lo, .int .i64 hi, .int .i64 s, .int .i64 g], .int .i64 sent, .int .i64 made, .int .i64 got]) ∧ Below w.heap.size w w' := by
  have R := (Bx.new w 0 0 25).alloc (.cells #[.int .i64 0, .int .i64 0, .int .i64 0, .int .i64 0, .int .i64 0] 29)
  have D := Box5.new (w.alloc (.cells #[.int .i64 0, .int .i64 0] 25)) 0 0 0 0 0 29
  simp only [World.size_alloc] at D
  have b : Below w.heap.size w ((w.alloc (.cells #[.int .i64 0, .int .i64 0] 25)).alloc (.cells #[.int .i64 0, .int .i64 0, .int .i64 0, .int .i64 0, .int .i64 0] 29)) := (Below.al _ _).alloc (by first | (simp; done) | (simp; omega) | omega) _
  have HC : HidV (CodeB ((w.alloc (.cells #[.int .i64 0, .int .i64 0] 25)).alloc (.cells #[.int .i64 0, .int .i64 0, .int .i64 0, .int .i64 0, .int .i64 0] 29)) ((w.alloc (.cells #[.int .i64 0, .int .i64 0] 25)).alloc (.cells #[.int .i64 0, .int .i64 0, .int .i64 0, .int .i64 0, .int .i64 0] 29)).heap.size a0 n0) := ⟨(hcode.below b).more b.size⟩
  clear hcode
  go_enter Try.func6, Try.ntmps6
  go_wp2_with fail
  refine (l1New_any a0 n0 c0 _ hn HC.out).mono ?_
  rintro e v ⟨p, rfl, c, hb⟩
  replace b := b.trans (hb.mono b.size)
  replace R := R.below hb
  replace D := D.below hb
  have q := c.lt
  simp only [World.size_alloc] at q
  have hpw : w.heap.size ≠ p := by omega
  have hpw1 : w.heap.size + 1 ≠ p := by omega
  have hwp : w.heap.size ≤ p := by omega
  clear HC hb
  generalize ((w.alloc (.cells #[.int .i64 0, .int .i64 0] 25)).alloc (.cells #[.int .i64 0, .int .i64 0, .int .i64 0, .int .i64 0, .int .i64 0] 29)).heap.size = B at *
  go_wp2_with fail
  refine (l6DrawDrift_any B p _ c).mono ?_
  rintro e v ⟨n, d, rfl, c', hb⟩
  clear c
  have c := c'
  clear c'
  (replace b := b.trans (hb.below hwp b.size)); (replace R := R.butD hb hpw); (replace D := D.but hb hpw1); clear hb
  have A := Below.al v (.cells #[.int .i64 n, .int .i64 d] 25)
  have N := Bx.new v n d 25
  have q1 := c.lt
  have hk1 : v.heap.size ≠ p := by omega
  have hwk : w.heap.size + 1 < v.heap.size := D.1
  replace b := b.trans (A.mono b.size)
  replace R := R.below A
  replace D := D.below A
  replace c := c.below A
  clear A
  go_wp2_with fail
  generalize v.heap.size = k1 at *
  generalize v.alloc (.cells #[.int .i64 n, .int .i64 d] 25) = v at *
  refine (l8DrawTrip_any B p _ c).mono ?_
  rintro e v ⟨fr, lo, hi, s, g, rfl, c', hb⟩
  clear c
  have c := c'
  clear c'
  (replace b := b.trans (hb.below hwp b.size)); (replace R := R.butD hb hpw); (replace D := D.but hb hpw1); (replace N := N.butD hb hk1); clear hb
  have A := Below.al v (.cells #[.int .i64 fr, .int .i64 lo, .int .i64 hi, .int .i64 s, .int .i64 g] 29)
  have M := Box5.new v fr lo hi s g 29
  have q2 := c.lt
  have hk2 : v.heap.size ≠ p := by omega
  have hkk : k1 < v.heap.size := N.1
  replace b := b.trans (A.mono b.size)
  replace R := R.below A
  replace D := D.below A
  replace N := N.below A
  replace c := c.below A
  clear A
  go_wp2_with fail
  generalize v.heap.size = k2 at *
  generalize v.alloc (.cells #[.int .i64 fr, .int .i64 lo, .int .i64 hi, .int .i64 s, .int .i64 g] 29) = v at *
  refine (l1Below_any B p 40 _ c).mono ?_
  rintro e v ⟨x, rfl, xl, xh, xp, xz, c', hb⟩
  clear c
  have c := c'
  clear c'
  (replace b := b.trans (hb.below hwp b.size)); (replace R := R.butD hb hpw); (replace D := D.but hb hpw1); (replace N := N.butD hb hk1); (replace M := M.but hb hk2); clear hb
  clear xp xz
  have s0 : w.heap.size ≠ k1 := by omega
  have s1 : k1 ≠ w.heap.size := by omega
  have s2 : w.heap.size ≠ k2 := by omega
  have s3 : k2 ≠ w.heap.size := by omega
  have s4 : w.heap.size + 1 ≠ k1 := by omega
  have s5 : k1 ≠ w.heap.size + 1 := by omega
  have s6 : w.heap.size + 1 ≠ k2 := by omega
  have s7 : k2 ≠ w.heap.size + 1 := by omega
  have s8 : k1 ≠ k2 := by omega
  have s9 : k2 ≠ k1 := by omega
  by_cases h1 : lo < 0
  · (obtain ⟨r0, r1, r2, r3, r4⟩ := id R); (obtain ⟨d0, d1, d2, d3, d4, d5, d6, d7, d8, d9, d10⟩ := id D); (obtain ⟨n0, n1, n2, n3, n4⟩ := id N); (obtain ⟨m0, m1, m2, m3, m4, m5, m6, m7, m8, m9, m10⟩ := id M)
    go_wp2_with fail
    clear r0 r1 r2 r3 r4 d0 d1 d2 d3 d4 d5 d6 d7 d8 d9 d10 n0 n1 n2 n3 n4 m0 m1 m2 m3 m4 m5 m6 m7 m8 m9 m10
    refine (l1Below_any B p 60 _ c).mono ?_
    rintro e v ⟨z, rfl, zl, zh, zp, zz, c', hb⟩
    clear c
    have c := c'
    clear c'
    (replace b := b.trans (hb.below hwp b.size)); (replace R := R.butD hb hpw); (replace D := D.but hb hpw1); (replace N := N.butD hb hk1); (replace M := M.but hb hk2); clear hb
    clear zp zz
    go_wp2_with fail
    refine (l1Below_any B p 9 _ c).mono ?_
    rintro e v ⟨i, rfl, il, ih, ip, iz, c', hb⟩
    clear c
    have c := c'
    clear c'
    (replace b := b.trans (hb.below hwp b.size)); (replace R := R.butD hb hpw); (replace D := D.but hb hpw1); (replace N := N.butD hb hk1); (replace M := M.but hb hk2); clear hb
    clear ip iz
    go_wp2_with fail
    refine (l1Below_any B p 9 _ c).mono ?_
    rintro e v ⟨j, rfl, jl, jh, jp, jz, c', hb⟩
    clear c
    have c := c'
    clear c'
    (replace b := b.trans (hb.below hwp b.size)); (replace R := R.butD hb hpw); (replace D := D.but hb hpw1); (replace N := N.butD hb hk1); (replace M := M.but hb hk2); clear hb
    clear jp jz
    have M2 := M.said (z - i) (z + j)
    have R2 := (R.setO s3 1 (.int .i64 (z - i))).setO s3 2 (.int .i64 (z + j))
    have D2 := (D.setO s7 1 (.int .i64 (z - i))).setO s7 2 (.int .i64 (z + j))
    have N2 := (N.setO s9 1 (.int .i64 (z - i))).setO s9 2 (.int .i64 (z + j))
    have b2 := (b.setCell (show w.heap.size ≤ k2 by omega) (.int .i64 (z - i)) (p := ⟨k2, 1, none⟩)).setCell (show w.heap.size ≤ k2 by omega) (.int .i64 (z + j)) (p := ⟨k2, 2, none⟩)
    have c2 := (c.setOther hk2 (by omega) 1 (.int .i64 (z - i))).setOther hk2 (by omega) 2 (.int .i64 (z + j))
    (obtain ⟨r0, r1, r2, r3, r4⟩ := id R); (obtain ⟨d0, d1, d2, d3, d4, d5, d6, d7, d8, d9, d10⟩ := id D); (obtain ⟨n0, n1, n2, n3, n4⟩ := id N); (obtain ⟨m0, m1, m2, m3, m4, m5, m6, m7, m8, m9, m10⟩ := id M)
    go_wp2_with fail
    clear r0 r1 r2 r3 r4 d0 d1 d2 d3 d4 d5 d6 d7 d8 d9 d10 n0 n1 n2 n3 n4 m0 m1 m2 m3 m4 m5 m6 m7 m8 m9 m10
    clear M R D N b c
    have M := M2
    have R := R2
    have D := D2
    have N := N2
    have b := b2
    have c := c2
    clear M2 R2 D2 N2 b2 c2
    generalize (v.setCell ⟨k2, 1, none⟩ (.int .i64 (z - i))).setCell ⟨k2, 2, none⟩ (.int .i64 (z + j)) = v at *
    generalize z - i = lo2 at *
    generalize z + j = hi2 at *
    refine (l1Below_any B p 20 _ c).mono ?_
    rintro e v ⟨y, rfl, yl, yh, yp, yz, c', hb⟩
    clear c
    have c := c'
    clear c'
    (replace b := b.trans (hb.below hwp b.size)); (replace R := R.butD hb hpw); (replace D := D.but hb hpw1); (replace N := N.butD hb hk1); (replace M := M.but hb hk2); clear hb
    clear yp yz
    (obtain ⟨r0, r1, r2, r3, r4⟩ := id R); (obtain ⟨d0, d1, d2, d3, d4, d5, d6, d7, d8, d9, d10⟩ := id D); (obtain ⟨n0, n1, n2, n3, n4⟩ := id N); (obtain ⟨m0, m1, m2, m3, m4, m5, m6, m7, m8, m9, m10⟩ := id M)
    go_wp2_with fail
    refine wp_region_held_drew (S := (fun w' => w'.cell? ⟨k2, 3, none⟩ = some (.int .i64 s))) (by kernel_rfl) ?_ (fun hHeld => ?_)
    · simp (maxDischargeDepth := 6) [go_sem, *]
    clear r0 r1 r2 r3 r4 d0 d1 d2 d3 d4 d5 d6 d7 d8 d9 d10 n0 n1 n2 n3 n4 m0 m1 m2 m3 m4 m5 m6 m7 m8 m9 m10
    replace R := R.drew
    replace D := D.drew
    replace N := N.drew
    replace M := M.drew
    replace b := b.drew
    replace c := CurOk.drew c
    generalize v.drew = v at *
    (obtain ⟨r0, r1, r2, r3, r4⟩ := id R); (obtain ⟨d0, d1, d2, d3, d4, d5, d6, d7, d8, d9, d10⟩ := id D); (obtain ⟨n0, n1, n2, n3, n4⟩ := id N); (obtain ⟨m0, m1, m2, m3, m4, m5, m6, m7, m8, m9, m10⟩ := id M)
    refine wpAnyH_take (i := 0) (v := ?_) (by rw [List.getElem?_toArray]; rfl) (by kernel_rfl) (by kernel_rfl) (by kernel_rfl) (by intro _ _ _ h; exact h) (Or.inl ⟨by rfl, ?_⟩) (by assumption) ?_
    rotate_left
    · (intro w hSw; (try dsimp only at hSw); go_simp; all_goals with_reducible rfl)
    (try simp only [Act.put, List.setIfInBounds_toArray, List.set_cons_zero, List.set_cons_succ])
    refine wpAnyH_take (i := 1) (v := ?_) (by rw [List.getElem?_toArray]; rfl) (by kernel_rfl) (by kernel_rfl) (by kernel_rfl) (by intro _ _ _ h; exact h) (Or.inl ⟨by rfl, ?_⟩) (by assumption) ?_
    rotate_left
    · (intro w hSw; (try dsimp only at hSw); go_simp; all_goals with_reducible rfl)
    (try simp only [Act.put, List.setIfInBounds_toArray, List.set_cons_zero, List.set_cons_succ])
    refine wpAnyH_take (i := 2) (v := ?_) (by rw [List.getElem?_toArray]; rfl) (by kernel_rfl) (by kernel_rfl) (by kernel_rfl) (by intro _ _ _ h; exact h) (Or.inl ⟨by rfl, ?_⟩) (by assumption) ?_
    rotate_left
    · (intro w hSw; (try dsimp only at hSw); go_simp; all_goals with_reducible rfl)
    (try simp only [Act.put, List.setIfInBounds_toArray, List.set_cons_zero, List.set_cons_succ])
    refine wpAnyH_take (i := 3) (v := ?_) (by rw [List.getElem?_toArray]; rfl) (by kernel_rfl) (by kernel_rfl) (by kernel_rfl) (by intro _ _ _ h; exact h) (Or.inl ⟨by rfl, ?_⟩) (by assumption) ?_
    rotate_left
    · (intro w hSw; (try dsimp only at hSw); go_simp; all_goals with_reducible rfl)
    (try simp only [Act.put, List.setIfInBounds_toArray, List.set_cons_zero, List.set_cons_succ])
    refine wpAnyH_take (i := 4) (v := ?_) (by rw [List.getElem?_toArray]; rfl) (by kernel_rfl) (by kernel_rfl) (by kernel_rfl) (by intro _ _ _ h; exact h) (Or.inl ⟨by rfl, ?_⟩) (by assumption) ?_
    rotate_left
    · (intro w hSw; (try dsimp only at hSw); go_simp; all_goals with_reducible rfl)
    (try simp only [Act.put, List.setIfInBounds_toArray, List.set_cons_zero, List.set_cons_succ])
    refine wpAnyH_ready (rs := [5]) (by kernel_rfl) (by simp) ?_
    refine AllReadyH.cons (by rw [List.getElem?_toArray]; rfl) (fun K hK => ?_) AllReadyH.nil
    go_simp
    refine (l1Below_any B p 5 _ c).mono ?_; rintro e v ⟨u, rfl, ul, uh, up, uz, c', hb⟩; clear c; (have c := c'); clear c' up uz; clear r0 r1 r2 r3 r4 d0 d1 d2 d3 d4 d5 d6 d7 d8 d9 d10 n0 n1 n2 n3 n4 m0 m1 m2 m3 m4 m5 m6 m7 m8 m9 m10; (replace b := b.trans (hb.below hwp b.size)); (replace R := R.butD hb hpw); (replace D := D.but hb hpw1); (replace N := N.butD hb hk1); (replace M := M.but hb hk2); clear hb; (obtain ⟨r0, r1, r2, r3, r4⟩ := id R); (obtain ⟨d0, d1, d2, d3, d4, d5, d6, d7, d8, d9, d10⟩ := id D); (obtain ⟨n0, n1, n2, n3, n4⟩ := id N); (obtain ⟨m0, m1, m2, m3, m4, m5, m6, m7, m8, m9, m10⟩ := id M)
    (try go_wp2_with fail)
    refine hK.out _ _ ?_ (fun hHeld => ?_)
    · simp (maxDischargeDepth := 6) [go_sem, *]
    clear hK K
    (try simp only [Act.put, List.setIfInBounds_toArray, List.set_cons_zero, List.set_cons_succ])
    refine wpAnyH_take (i := 6) (v := ?_) (by rw [List.getElem?_toArray]; rfl) (by kernel_rfl) (by kernel_rfl) (by kernel_rfl) (by intro _ _ _ h; exact h) (Or.inl ⟨by rfl, ?_⟩) (by assumption) ?_
    rotate_left
    · (intro w hSw; (try dsimp only at hSw); go_simp; all_goals with_reducible rfl)
    (try simp only [Act.put, List.setIfInBounds_toArray, List.set_cons_zero, List.set_cons_succ])
    refine wpAnyH_take (i := 7) (v := ?_) (by rw [List.getElem?_toArray]; rfl) (by kernel_rfl) (by kernel_rfl) (by kernel_rfl) (by intro _ _ _ h; exact h) (Or.inl ⟨by rfl, ?_⟩) (by assumption) ?_
    rotate_left
    · (intro w hSw; (try dsimp only at hSw); go_simp; all_goals with_reducible rfl)
    (try simp only [Act.put, List.setIfInBounds_toArray, List.set_cons_zero, List.set_cons_succ])
    refine wpAnyH_take (i := 8) (v := ?_) (by rw [List.getElem?_toArray]; rfl) (by kernel_rfl) (by kernel_rfl) (by kernel_rfl) (by intro _ _ _ h; exact h) (Or.inl ⟨by rfl, ?_⟩) (by assumption) ?_
    rotate_left
    · (intro w hSw; (try dsimp only at hSw); go_simp; all_goals with_reducible rfl)
    (try simp only [Act.put, List.setIfInBounds_toArray, List.set_cons_zero, List.set_cons_succ])
    refine wpAnyH_ready (rs := [9]) (by kernel_rfl) (by simp) ?_
    refine AllReadyH.cons (by rw [List.getElem?_toArray]; rfl) (fun K hK => ?_) AllReadyH.nil
    go_simp
    refine hK.out _ _ ?_ (fun hHeld => ?_)
    · simp (maxDischargeDepth := 6) [go_sem, *]
    clear hK K
    (try simp only [Act.put, List.setIfInBounds_toArray, List.set_cons_zero, List.set_cons_succ])
    refine wpAnyH_done (by kernel_rfl) ?_ _
    clear r0 r1 r2 r3 r4 d0 d1 d2 d3 d4 d5 d6 d7 d8 d9 d10 n0 n1 n2 n3 n4 m0 m1 m2 m3 m4 m5 m6 m7 m8 m9 m10
    have M2 := (M.one (IntKind.i64.wrap (IntKind.i64.wrap (IntKind.i64.wrap (s + x) + u) - 2))).2.2
    have R2 := R.setO s3 4 (.int .i64 (IntKind.i64.wrap (IntKind.i64.wrap (IntKind.i64.wrap (s + x) + u) - 2)))
    have D2 := D.setO s7 4 (.int .i64 (IntKind.i64.wrap (IntKind.i64.wrap (IntKind.i64.wrap (s + x) + u) - 2)))
    have N2 := N.setO s9 4 (.int .i64 (IntKind.i64.wrap (IntKind.i64.wrap (IntKind.i64.wrap (s + x) + u) - 2)))
    have b2 := b.setCell (show w.heap.size ≤ k2 by omega) (.int .i64 (IntKind.i64.wrap (IntKind.i64.wrap (IntKind.i64.wrap (s + x) + u) - 2))) (p := ⟨k2, 4, none⟩)
    go_wp2_with fail
    clear M R D N b
    have M := M2
    have R := R2
    have D := D2
    have N := N2
    have b := b2
    clear M2 R2 D2 N2 b2
    generalize v.setCell ⟨k2, 4, none⟩ (.int .i64 (IntKind.i64.wrap (IntKind.i64.wrap (IntKind.i64.wrap (s + x) + u) - 2))) = v at *
    generalize (IntKind.i64.wrap (IntKind.i64.wrap (IntKind.i64.wrap (s + x) + u) - 2)) = G at *
    (obtain ⟨r0, r1, r2, r3, r4⟩ := id R); (obtain ⟨d0, d1, d2, d3, d4, d5, d6, d7, d8, d9, d10⟩ := id D); (obtain ⟨n0, n1, n2, n3, n4⟩ := id N); (obtain ⟨m0, m1, m2, m3, m4, m5, m6, m7, m8, m9, m10⟩ := id M)
    refine wp_region_held_drew (S := (fun w' => w'.cell? ⟨k1, 0, none⟩ = some (.int .i64 n) ∧ w'.cell? ⟨k1, 1, none⟩ = some (.int .i64 d) ∧ w'.cell? ⟨k2, 0, none⟩ = some (.int .i64 fr) ∧ w'.cell? ⟨k2, 1, none⟩ = some (.int .i64 lo2) ∧ w'.cell? ⟨k2, 2, none⟩ = some (.int .i64 hi2) ∧ w'.cell? ⟨k2, 3, none⟩ = some (.int .i64 s) ∧ w'.cell? ⟨k2, 4, none⟩ = some (.int .i64 G))) (by kernel_rfl) ?_ (fun hHeld => ?_)
    · simp (maxDischargeDepth := 6) [go_sem, *]
    clear r0 r1 r2 r3 r4 d0 d1 d2 d3 d4 d5 d6 d7 d8 d9 d10 n0 n1 n2 n3 n4 m0 m1 m2 m3 m4 m5 m6 m7 m8 m9 m10
    replace R := R.drew
    replace D := D.drew
    replace N := N.drew
    replace M := M.drew
    replace b := b.drew
    generalize v.drew = v at *
    (obtain ⟨r0, r1, r2, r3, r4⟩ := id R); (obtain ⟨d0, d1, d2, d3, d4, d5, d6, d7, d8, d9, d10⟩ := id D); (obtain ⟨n0, n1, n2, n3, n4⟩ := id N); (obtain ⟨m0, m1, m2, m3, m4, m5, m6, m7, m8, m9, m10⟩ := id M)
    refine wpAnyH_take (i := 0) (v := ?_) (by rw [List.getElem?_toArray]; rfl) (by kernel_rfl) (by kernel_rfl) (by kernel_rfl) (by intro _ _ _ h; exact h) (Or.inl ⟨by rfl, ?_⟩) (by assumption) ?_
    rotate_left
    · (intro w hSw; (try dsimp only at hSw); go_simp; all_goals with_reducible rfl)
    (try simp only [Act.put, List.setIfInBounds_toArray, List.set_cons_zero, List.set_cons_succ])
    refine wpAnyH_take (i := 1) (v := ?_) (by rw [List.getElem?_toArray]; rfl) (by kernel_rfl) (by kernel_rfl) (by kernel_rfl) (by intro _ _ _ h; exact h) (Or.inl ⟨by rfl, ?_⟩) (by assumption) ?_
    rotate_left
    · (intro w hSw; (try dsimp only at hSw); go_simp; all_goals with_reducible rfl)
    (try simp only [Act.put, List.setIfInBounds_toArray, List.set_cons_zero, List.set_cons_succ])
    refine wpAnyH_take (i := 2) (v := ?_) (by rw [List.getElem?_toArray]; rfl) (by kernel_rfl) (by kernel_rfl) (by kernel_rfl) (by intro _ _ _ h; exact h) (Or.inl ⟨by rfl, ?_⟩) (by assumption) ?_
    rotate_left
    · (intro w hSw; (try dsimp only at hSw); go_simp; all_goals with_reducible rfl)
    (try simp only [Act.put, List.setIfInBounds_toArray, List.set_cons_zero, List.set_cons_succ])
    refine wpAnyH_take (i := 3) (v := ?_) (by rw [List.getElem?_toArray]; rfl) (by kernel_rfl) (by kernel_rfl) (by kernel_rfl) (by intro _ _ _ h; exact h) (Or.inl ⟨by rfl, ?_⟩) (by assumption) ?_
    rotate_left
    · (intro w hSw; (try dsimp only at hSw); go_simp; all_goals with_reducible rfl)
    (try simp only [Act.put, List.setIfInBounds_toArray, List.set_cons_zero, List.set_cons_succ])
    refine wpAnyH_take (i := 4) (v := ?_) (by rw [List.getElem?_toArray]; rfl) (by kernel_rfl) (by kernel_rfl) (by kernel_rfl) (by intro _ _ _ h; exact h) (Or.inl ⟨by rfl, ?_⟩) (by assumption) ?_
    rotate_left
    · (intro w hSw; (try dsimp only at hSw); go_simp; all_goals with_reducible rfl)
    (try simp only [Act.put, List.setIfInBounds_toArray, List.set_cons_zero, List.set_cons_succ])
    refine wpAnyH_ready (rs := [5]) (by kernel_rfl) (by simp) ?_
    refine AllReadyH.cons (by rw [List.getElem?_toArray]; rfl) (fun K hK => ?_) AllReadyH.nil
    go_simp
    refine hK.out _ _ ?_ (fun hHeld => ?_)
    · simp (maxDischargeDepth := 6) [go_sem, *]
    clear hK K
    (try simp only [Act.put, List.setIfInBounds_toArray, List.set_cons_zero, List.set_cons_succ])
    refine wpAnyH_ready (rs := [6]) (by kernel_rfl) (by simp) ?_
    refine AllReadyH.cons (by rw [List.getElem?_toArray]; rfl) (fun K hK => ?_) AllReadyH.nil
    go_simp
    refine hK.out _ _ ?_ (fun hHeld => ?_)
    · simp (maxDischargeDepth := 6) [go_sem, *]
    clear hK K
    (try simp only [Act.put, List.setIfInBounds_toArray, List.set_cons_zero, List.set_cons_succ])
    refine wpAnyH_take (i := 7) (v := ?_) (by rw [List.getElem?_toArray]; rfl) (by kernel_rfl) (by kernel_rfl) (by kernel_rfl) (by intro _ _ _ h; exact h) (Or.inl ⟨by rfl, ?_⟩) (by assumption) ?_
    rotate_left
    · (intro w hSw; (try dsimp only at hSw); go_simp; all_goals with_reducible rfl)
    (try simp only [Act.put, List.setIfInBounds_toArray, List.set_cons_zero, List.set_cons_succ])
    refine wpAnyH_take (i := 8) (v := ?_) (by rw [List.getElem?_toArray]; rfl) (by kernel_rfl) (by kernel_rfl) (by kernel_rfl) (by intro _ _ _ h; exact h) (Or.inl ⟨by rfl, ?_⟩) (by assumption) ?_
    rotate_left
    · (intro w hSw; (try dsimp only at hSw); go_simp; all_goals with_reducible rfl)
    (try simp only [Act.put, List.setIfInBounds_toArray, List.set_cons_zero, List.set_cons_succ])
    refine wpAnyH_take (i := 9) (v := ?_) (by rw [List.getElem?_toArray]; rfl) (by kernel_rfl) (by kernel_rfl) (by kernel_rfl) (by intro _ _ _ h; exact h) (Or.inl ⟨by rfl, ?_⟩) (by assumption) ?_
    rotate_left
    · (intro w hSw; (try dsimp only at hSw); go_simp; all_goals with_reducible rfl)
    (try simp only [Act.put, List.setIfInBounds_toArray, List.set_cons_zero, List.set_cons_succ])
    refine wpAnyH_done (by kernel_rfl) ?_ _
    go_wp2_with fail
    exact bodyPost_ret (v := .tuple #[.agg #[.int .i64 n, .int .i64 d], .agg #[.int .i64 fr, .int .i64 lo2, .int .i64 hi2, .int .i64 s, .int .i64 G], .int .i64 (z - y), .int .i64 z, .int .i64 (z - y + x)]) (by simp (maxDischargeDepth := 6) [results, Try.results6, go_sem, *]) rfl ⟨n, d, fr, lo2, hi2, s, G, _, _, _, rfl, Below.set5 (Below.setI b (Nat.le_refl _) n d) (by omega) fr lo2 hi2 s G⟩
  by_cases h2 : 500000000000 < lo
  · have e1 : decide (lo < 0) = false := decide_eq_false h1
    (obtain ⟨r0, r1, r2, r3, r4⟩ := id R); (obtain ⟨d0, d1, d2, d3, d4, d5, d6, d7, d8, d9, d10⟩ := id D); (obtain ⟨n0, n1, n2, n3, n4⟩ := id N); (obtain ⟨m0, m1, m2, m3, m4, m5, m6, m7, m8, m9, m10⟩ := id M)
    go_wp2_with fail
    clear r0 r1 r2 r3 r4 d0 d1 d2 d3 d4 d5 d6 d7 d8 d9 d10 n0 n1 n2 n3 n4 m0 m1 m2 m3 m4 m5 m6 m7 m8 m9 m10
    refine (l1Below_any B p 60 _ c).mono ?_
    rintro e v ⟨z, rfl, zl, zh, zp, zz, c', hb⟩
    clear c
    have c := c'
    clear c'
    (replace b := b.trans (hb.below hwp b.size)); (replace R := R.butD hb hpw); (replace D := D.but hb hpw1); (replace N := N.butD hb hk1); (replace M := M.but hb hk2); clear hb
    clear zp zz
    go_wp2_with fail
    refine (l1Below_any B p 9 _ c).mono ?_
    rintro e v ⟨i, rfl, il, ih, ip, iz, c', hb⟩
    clear c
    have c := c'
    clear c'
    (replace b := b.trans (hb.below hwp b.size)); (replace R := R.butD hb hpw); (replace D := D.but hb hpw1); (replace N := N.butD hb hk1); (replace M := M.but hb hk2); clear hb
    clear ip iz
    go_wp2_with fail
    refine (l1Below_any B p 9 _ c).mono ?_
    rintro e v ⟨j, rfl, jl, jh, jp, jz, c', hb⟩
    clear c
    have c := c'
    clear c'
    (replace b := b.trans (hb.below hwp b.size)); (replace R := R.butD hb hpw); (replace D := D.but hb hpw1); (replace N := N.butD hb hk1); (replace M := M.but hb hk2); clear hb
    clear jp jz
    have M2 := M.said (z - i) (z + j)
    have R2 := (R.setO s3 1 (.int .i64 (z - i))).setO s3 2 (.int .i64 (z + j))
    have D2 := (D.setO s7 1 (.int .i64 (z - i))).setO s7 2 (.int .i64 (z + j))
    have N2 := (N.setO s9 1 (.int .i64 (z - i))).setO s9 2 (.int .i64 (z + j))
    have b2 := (b.setCell (show w.heap.size ≤ k2 by omega) (.int .i64 (z - i)) (p := ⟨k2, 1, none⟩)).setCell (show w.heap.size ≤ k2 by omega) (.int .i64 (z + j)) (p := ⟨k2, 2, none⟩)
    have c2 := (c.setOther hk2 (by omega) 1 (.int .i64 (z - i))).setOther hk2 (by omega) 2 (.int .i64 (z + j))
    (obtain ⟨r0, r1, r2, r3, r4⟩ := id R); (obtain ⟨d0, d1, d2, d3, d4, d5, d6, d7, d8, d9, d10⟩ := id D); (obtain ⟨n0, n1, n2, n3, n4⟩ := id N); (obtain ⟨m0, m1, m2, m3, m4, m5, m6, m7, m8, m9, m10⟩ := id M)
    go_wp2_with fail
    clear r0 r1 r2 r3 r4 d0 d1 d2 d3 d4 d5 d6 d7 d8 d9 d10 n0 n1 n2 n3 n4 m0 m1 m2 m3 m4 m5 m6 m7 m8 m9 m10
    clear M R D N b c
    have M := M2
    have R := R2
    have D := D2
    have N := N2
    have b := b2
    have c := c2
    clear M2 R2 D2 N2 b2 c2
    generalize (v.setCell ⟨k2, 1, none⟩ (.int .i64 (z - i))).setCell ⟨k2, 2, none⟩ (.int .i64 (z + j)) = v at *
    generalize z - i = lo2 at *
    generalize z + j = hi2 at *
    refine (l1Below_any B p 20 _ c).mono ?_
    rintro e v ⟨y, rfl, yl, yh, yp, yz, c', hb⟩
    clear c
    have c := c'
    clear c'
    (replace b := b.trans (hb.below hwp b.size)); (replace R := R.butD hb hpw); (replace D := D.but hb hpw1); (replace N := N.butD hb hk1); (replace M := M.but hb hk2); clear hb
    clear yp yz
    (obtain ⟨r0, r1, r2, r3, r4⟩ := id R); (obtain ⟨d0, d1, d2, d3, d4, d5, d6, d7, d8, d9, d10⟩ := id D); (obtain ⟨n0, n1, n2, n3, n4⟩ := id N); (obtain ⟨m0, m1, m2, m3, m4, m5, m6, m7, m8, m9, m10⟩ := id M)
    go_wp2_with fail
    refine wp_region_held_drew (S := (fun w' => w'.cell? ⟨k2, 3, none⟩ = some (.int .i64 s))) (by kernel_rfl) ?_ (fun hHeld => ?_)
    · simp (maxDischargeDepth := 6) [go_sem, *]
    clear r0 r1 r2 r3 r4 d0 d1 d2 d3 d4 d5 d6 d7 d8 d9 d10 n0 n1 n2 n3 n4 m0 m1 m2 m3 m4 m5 m6 m7 m8 m9 m10
    replace R := R.drew
    replace D := D.drew
    replace N := N.drew
    replace M := M.drew
    replace b := b.drew
    replace c := CurOk.drew c
    generalize v.drew = v at *
    (obtain ⟨r0, r1, r2, r3, r4⟩ := id R); (obtain ⟨d0, d1, d2, d3, d4, d5, d6, d7, d8, d9, d10⟩ := id D); (obtain ⟨n0, n1, n2, n3, n4⟩ := id N); (obtain ⟨m0, m1, m2, m3, m4, m5, m6, m7, m8, m9, m10⟩ := id M)
    refine wpAnyH_take (i := 0) (v := ?_) (by rw [List.getElem?_toArray]; rfl) (by kernel_rfl) (by kernel_rfl) (by kernel_rfl) (by intro _ _ _ h; exact h) (Or.inl ⟨by rfl, ?_⟩) (by assumption) ?_
    rotate_left
    · (intro w hSw; (try dsimp only at hSw); go_simp; all_goals with_reducible rfl)
    (try simp only [Act.put, List.setIfInBounds_toArray, List.set_cons_zero, List.set_cons_succ])
    refine wpAnyH_take (i := 1) (v := ?_) (by rw [List.getElem?_toArray]; rfl) (by kernel_rfl) (by kernel_rfl) (by kernel_rfl) (by intro _ _ _ h; exact h) (Or.inl ⟨by rfl, ?_⟩) (by assumption) ?_
    rotate_left
    · (intro w hSw; (try dsimp only at hSw); go_simp; all_goals with_reducible rfl)
    (try simp only [Act.put, List.setIfInBounds_toArray, List.set_cons_zero, List.set_cons_succ])
    refine wpAnyH_take (i := 2) (v := ?_) (by rw [List.getElem?_toArray]; rfl) (by kernel_rfl) (by kernel_rfl) (by kernel_rfl) (by intro _ _ _ h; exact h) (Or.inl ⟨by rfl, ?_⟩) (by assumption) ?_
    rotate_left
    · (intro w hSw; (try dsimp only at hSw); go_simp; all_goals with_reducible rfl)
    (try simp only [Act.put, List.setIfInBounds_toArray, List.set_cons_zero, List.set_cons_succ])
    refine wpAnyH_take (i := 3) (v := ?_) (by rw [List.getElem?_toArray]; rfl) (by kernel_rfl) (by kernel_rfl) (by kernel_rfl) (by intro _ _ _ h; exact h) (Or.inl ⟨by rfl, ?_⟩) (by assumption) ?_
    rotate_left
    · (intro w hSw; (try dsimp only at hSw); go_simp; all_goals with_reducible rfl)
    (try simp only [Act.put, List.setIfInBounds_toArray, List.set_cons_zero, List.set_cons_succ])
    refine wpAnyH_take (i := 4) (v := ?_) (by rw [List.getElem?_toArray]; rfl) (by kernel_rfl) (by kernel_rfl) (by kernel_rfl) (by intro _ _ _ h; exact h) (Or.inl ⟨by rfl, ?_⟩) (by assumption) ?_
    rotate_left
    · (intro w hSw; (try dsimp only at hSw); go_simp; all_goals with_reducible rfl)
    (try simp only [Act.put, List.setIfInBounds_toArray, List.set_cons_zero, List.set_cons_succ])
    refine wpAnyH_ready (rs := [5]) (by kernel_rfl) (by simp) ?_
    refine AllReadyH.cons (by rw [List.getElem?_toArray]; rfl) (fun K hK => ?_) AllReadyH.nil
    go_simp
    refine (l1Below_any B p 5 _ c).mono ?_; rintro e v ⟨u, rfl, ul, uh, up, uz, c', hb⟩; clear c; (have c := c'); clear c' up uz; clear r0 r1 r2 r3 r4 d0 d1 d2 d3 d4 d5 d6 d7 d8 d9 d10 n0 n1 n2 n3 n4 m0 m1 m2 m3 m4 m5 m6 m7 m8 m9 m10; (replace b := b.trans (hb.below hwp b.size)); (replace R := R.butD hb hpw); (replace D := D.but hb hpw1); (replace N := N.butD hb hk1); (replace M := M.but hb hk2); clear hb; (obtain ⟨r0, r1, r2, r3, r4⟩ := id R); (obtain ⟨d0, d1, d2, d3, d4, d5, d6, d7, d8, d9, d10⟩ := id D); (obtain ⟨n0, n1, n2, n3, n4⟩ := id N); (obtain ⟨m0, m1, m2, m3, m4, m5, m6, m7, m8, m9, m10⟩ := id M)
    (try go_wp2_with fail)
    refine hK.out _ _ ?_ (fun hHeld => ?_)
    · simp (maxDischargeDepth := 6) [go_sem, *]
    clear hK K
    (try simp only [Act.put, List.setIfInBounds_toArray, List.set_cons_zero, List.set_cons_succ])
    refine wpAnyH_take (i := 6) (v := ?_) (by rw [List.getElem?_toArray]; rfl) (by kernel_rfl) (by kernel_rfl) (by kernel_rfl) (by intro _ _ _ h; exact h) (Or.inl ⟨by rfl, ?_⟩) (by assumption) ?_
    rotate_left
    · (intro w hSw; (try dsimp only at hSw); go_simp; all_goals with_reducible rfl)
    (try simp only [Act.put, List.setIfInBounds_toArray, List.set_cons_zero, List.set_cons_succ])
    refine wpAnyH_take (i := 7) (v := ?_) (by rw [List.getElem?_toArray]; rfl) (by kernel_rfl) (by kernel_rfl) (by kernel_rfl) (by intro _ _ _ h; exact h) (Or.inl ⟨by rfl, ?_⟩) (by assumption) ?_
    rotate_left
    · (intro w hSw; (try dsimp only at hSw); go_simp; all_goals with_reducible rfl)
    (try simp only [Act.put, List.setIfInBounds_toArray, List.set_cons_zero, List.set_cons_succ])
    refine wpAnyH_take (i := 8) (v := ?_) (by rw [List.getElem?_toArray]; rfl) (by kernel_rfl) (by kernel_rfl) (by kernel_rfl) (by intro _ _ _ h; exact h) (Or.inl ⟨by rfl, ?_⟩) (by assumption) ?_
    rotate_left
    · (intro w hSw; (try dsimp only at hSw); go_simp; all_goals with_reducible rfl)
    (try simp only [Act.put, List.setIfInBounds_toArray, List.set_cons_zero, List.set_cons_succ])
    refine wpAnyH_ready (rs := [9]) (by kernel_rfl) (by simp) ?_
    refine AllReadyH.cons (by rw [List.getElem?_toArray]; rfl) (fun K hK => ?_) AllReadyH.nil
    go_simp
    refine hK.out _ _ ?_ (fun hHeld => ?_)
    · simp (maxDischargeDepth := 6) [go_sem, *]
    clear hK K
    (try simp only [Act.put, List.setIfInBounds_toArray, List.set_cons_zero, List.set_cons_succ])
    refine wpAnyH_done (by kernel_rfl) ?_ _
    clear r0 r1 r2 r3 r4 d0 d1 d2 d3 d4 d5 d6 d7 d8 d9 d10 n0 n1 n2 n3 n4 m0 m1 m2 m3 m4 m5 m6 m7 m8 m9 m10
    have M2 := (M.one (IntKind.i64.wrap (IntKind.i64.wrap (IntKind.i64.wrap (s + x) + u) - 2))).2.2
    have R2 := R.setO s3 4 (.int .i64 (IntKind.i64.wrap (IntKind.i64.wrap (IntKind.i64.wrap (s + x) + u) - 2)))
    have D2 := D.setO s7 4 (.int .i64 (IntKind.i64.wrap (IntKind.i64.wrap (IntKind.i64.wrap (s + x) + u) - 2)))
    have N2 := N.setO s9 4 (.int .i64 (IntKind.i64.wrap (IntKind.i64.wrap (IntKind.i64.wrap (s + x) + u) - 2)))
    have b2 := b.setCell (show w.heap.size ≤ k2 by omega) (.int .i64 (IntKind.i64.wrap (IntKind.i64.wrap (IntKind.i64.wrap (s + x) + u) - 2))) (p := ⟨k2, 4, none⟩)
    go_wp2_with fail
    clear M R D N b
    have M := M2
    have R := R2
    have D := D2
    have N := N2
    have b := b2
    clear M2 R2 D2 N2 b2
    generalize v.setCell ⟨k2, 4, none⟩ (.int .i64 (IntKind.i64.wrap (IntKind.i64.wrap (IntKind.i64.wrap (s + x) + u) - 2))) = v at *
    generalize (IntKind.i64.wrap (IntKind.i64.wrap (IntKind.i64.wrap (s + x) + u) - 2)) = G at *
    (obtain ⟨r0, r1, r2, r3, r4⟩ := id R); (obtain ⟨d0, d1, d2, d3, d4, d5, d6, d7, d8, d9, d10⟩ := id D); (obtain ⟨n0, n1, n2, n3, n4⟩ := id N); (obtain ⟨m0, m1, m2, m3, m4, m5, m6, m7, m8, m9, m10⟩ := id M)
    refine wp_region_held_drew (S := (fun w' => w'.cell? ⟨k1, 0, none⟩ = some (.int .i64 n) ∧ w'.cell? ⟨k1, 1, none⟩ = some (.int .i64 d) ∧ w'.cell? ⟨k2, 0, none⟩ = some (.int .i64 fr) ∧ w'.cell? ⟨k2, 1, none⟩ = some (.int .i64 lo2) ∧ w'.cell? ⟨k2, 2, none⟩ = some (.int .i64 hi2) ∧ w'.cell? ⟨k2, 3, none⟩ = some (.int .i64 s) ∧ w'.cell? ⟨k2, 4, none⟩ = some (.int .i64 G))) (by kernel_rfl) ?_ (fun hHeld => ?_)
    · simp (maxDischargeDepth := 6) [go_sem, *]
    clear r0 r1 r2 r3 r4 d0 d1 d2 d3 d4 d5 d6 d7 d8 d9 d10 n0 n1 n2 n3 n4 m0 m1 m2 m3 m4 m5 m6 m7 m8 m9 m10
    replace R := R.drew
    replace D := D.drew
    replace N := N.drew
    replace M := M.drew
    replace b := b.drew
    generalize v.drew = v at *
    (obtain ⟨r0, r1, r2, r3, r4⟩ := id R); (obtain ⟨d0, d1, d2, d3, d4, d5, d6, d7, d8, d9, d10⟩ := id D); (obtain ⟨n0, n1, n2, n3, n4⟩ := id N); (obtain ⟨m0, m1, m2, m3, m4, m5, m6, m7, m8, m9, m10⟩ := id M)
    refine wpAnyH_take (i := 0) (v := ?_) (by rw [List.getElem?_toArray]; rfl) (by kernel_rfl) (by kernel_rfl) (by kernel_rfl) (by intro _ _ _ h; exact h) (Or.inl ⟨by rfl, ?_⟩) (by assumption) ?_
    rotate_left
    · (intro w hSw; (try dsimp only at hSw); go_simp; all_goals with_reducible rfl)
    (try simp only [Act.put, List.setIfInBounds_toArray, List.set_cons_zero, List.set_cons_succ])
    refine wpAnyH_take (i := 1) (v := ?_) (by rw [List.getElem?_toArray]; rfl) (by kernel_rfl) (by kernel_rfl) (by kernel_rfl) (by intro _ _ _ h; exact h) (Or.inl ⟨by rfl, ?_⟩) (by assumption) ?_
    rotate_left
    · (intro w hSw; (try dsimp only at hSw); go_simp; all_goals with_reducible rfl)
    (try simp only [Act.put, List.setIfInBounds_toArray, List.set_cons_zero, List.set_cons_succ])
    refine wpAnyH_take (i := 2) (v := ?_) (by rw [List.getElem?_toArray]; rfl) (by kernel_rfl) (by kernel_rfl) (by kernel_rfl) (by intro _ _ _ h; exact h) (Or.inl ⟨by rfl, ?_⟩) (by assumption) ?_
    rotate_left
    · (intro w hSw; (try dsimp only at hSw); go_simp; all_goals with_reducible rfl)
    (try simp only [Act.put, List.setIfInBounds_toArray, List.set_cons_zero, List.set_cons_succ])
    refine wpAnyH_take (i := 3) (v := ?_) (by rw [List.getElem?_toArray]; rfl) (by kernel_rfl) (by kernel_rfl) (by kernel_rfl) (by intro _ _ _ h; exact h) (Or.inl ⟨by rfl, ?_⟩) (by assumption) ?_
    rotate_left
    · (intro w hSw; (try dsimp only at hSw); go_simp; all_goals with_reducible rfl)
    (try simp only [Act.put, List.setIfInBounds_toArray, List.set_cons_zero, List.set_cons_succ])
    refine wpAnyH_take (i := 4) (v := ?_) (by rw [List.getElem?_toArray]; rfl) (by kernel_rfl) (by kernel_rfl) (by kernel_rfl) (by intro _ _ _ h; exact h) (Or.inl ⟨by rfl, ?_⟩) (by assumption) ?_
    rotate_left
    · (intro w hSw; (try dsimp only at hSw); go_simp; all_goals with_reducible rfl)
    (try simp only [Act.put, List.setIfInBounds_toArray, List.set_cons_zero, List.set_cons_succ])
    refine wpAnyH_ready (rs := [5]) (by kernel_rfl) (by simp) ?_
    refine AllReadyH.cons (by rw [List.getElem?_toArray]; rfl) (fun K hK => ?_) AllReadyH.nil
    go_simp
    refine hK.out _ _ ?_ (fun hHeld => ?_)
    · simp (maxDischargeDepth := 6) [go_sem, *]
    clear hK K
    (try simp only [Act.put, List.setIfInBounds_toArray, List.set_cons_zero, List.set_cons_succ])
    refine wpAnyH_ready (rs := [6]) (by kernel_rfl) (by simp) ?_
    refine AllReadyH.cons (by rw [List.getElem?_toArray]; rfl) (fun K hK => ?_) AllReadyH.nil
    go_simp
    refine hK.out _ _ ?_ (fun hHeld => ?_)
    · simp (maxDischargeDepth := 6) [go_sem, *]
    clear hK K
    (try simp only [Act.put, List.setIfInBounds_toArray, List.set_cons_zero, List.set_cons_succ])
    refine wpAnyH_take (i := 7) (v := ?_) (by rw [List.getElem?_toArray]; rfl) (by kernel_rfl) (by kernel_rfl) (by kernel_rfl) (by intro _ _ _ h; exact h) (Or.inl ⟨by rfl, ?_⟩) (by assumption) ?_
    rotate_left
    · (intro w hSw; (try dsimp only at hSw); go_simp; all_goals with_reducible rfl)
    (try simp only [Act.put, List.setIfInBounds_toArray, List.set_cons_zero, List.set_cons_succ])
    refine wpAnyH_take (i := 8) (v := ?_) (by rw [List.getElem?_toArray]; rfl) (by kernel_rfl) (by kernel_rfl) (by kernel_rfl) (by intro _ _ _ h; exact h) (Or.inl ⟨by rfl, ?_⟩) (by assumption) ?_
    rotate_left
    · (intro w hSw; (try dsimp only at hSw); go_simp; all_goals with_reducible rfl)
    (try simp only [Act.put, List.setIfInBounds_toArray, List.set_cons_zero, List.set_cons_succ])
    refine wpAnyH_take (i := 9) (v := ?_) (by rw [List.getElem?_toArray]; rfl) (by kernel_rfl) (by kernel_rfl) (by kernel_rfl) (by intro _ _ _ h; exact h) (Or.inl ⟨by rfl, ?_⟩) (by assumption) ?_
    rotate_left
    · (intro w hSw; (try dsimp only at hSw); go_simp; all_goals with_reducible rfl)
    (try simp only [Act.put, List.setIfInBounds_toArray, List.set_cons_zero, List.set_cons_succ])
    refine wpAnyH_done (by kernel_rfl) ?_ _
    go_wp2_with fail
    exact bodyPost_ret (v := .tuple #[.agg #[.int .i64 n, .int .i64 d], .agg #[.int .i64 fr, .int .i64 lo2, .int .i64 hi2, .int .i64 s, .int .i64 G], .int .i64 (z - y), .int .i64 z, .int .i64 (z - y + x)]) (by simp (maxDischargeDepth := 6) [results, Try.results6, go_sem, *]) rfl ⟨n, d, fr, lo2, hi2, s, G, _, _, _, rfl, Below.set5 (Below.setI b (Nat.le_refl _) n d) (by omega) fr lo2 hi2 s G⟩
  (obtain ⟨r0, r1, r2, r3, r4⟩ := id R); (obtain ⟨d0, d1, d2, d3, d4, d5, d6, d7, d8, d9, d10⟩ := id D); (obtain ⟨n0, n1, n2, n3, n4⟩ := id N); (obtain ⟨m0, m1, m2, m3, m4, m5, m6, m7, m8, m9, m10⟩ := id M)
  have e2 : decide (500000000000 < lo) = false := decide_eq_false h2
  have e1 : decide (lo < 0) = false := decide_eq_false h1
  go_wp2_with fail
  clear r0 r1 r2 r3 r4 d0 d1 d2 d3 d4 d5 d6 d7 d8 d9 d10 n0 n1 n2 n3 n4 m0 m1 m2 m3 m4 m5 m6 m7 m8 m9 m10
  refine (l1Below_any B p 20 _ c).mono ?_
  rintro e v ⟨y, rfl, yl, yh, yp, yz, c', hb⟩
  clear c
  have c := c'
  clear c'
  (replace b := b.trans (hb.below hwp b.size)); (replace R := R.butD hb hpw); (replace D := D.but hb hpw1); (replace N := N.butD hb hk1); (replace M := M.but hb hk2); clear hb
  clear yp yz
  (obtain ⟨r0, r1, r2, r3, r4⟩ := id R); (obtain ⟨d0, d1, d2, d3, d4, d5, d6, d7, d8, d9, d10⟩ := id D); (obtain ⟨n0, n1, n2, n3, n4⟩ := id N); (obtain ⟨m0, m1, m2, m3, m4, m5, m6, m7, m8, m9, m10⟩ := id M)
  go_wp2_with fail
  refine wp_region_held_drew (S := (fun w' => w'.cell? ⟨k2, 3, none⟩ = some (.int .i64 s))) (by kernel_rfl) ?_ (fun hHeld => ?_)
  · simp (maxDischargeDepth := 6) [go_sem, *]
  clear r0 r1 r2 r3 r4 d0 d1 d2 d3 d4 d5 d6 d7 d8 d9 d10 n0 n1 n2 n3 n4 m0 m1 m2 m3 m4 m5 m6 m7 m8 m9 m10
  replace R := R.drew
  replace D := D.drew
  replace N := N.drew
  replace M := M.drew
  replace b := b.drew
  replace c := CurOk.drew c
  generalize v.drew = v at *
  (obtain ⟨r0, r1, r2, r3, r4⟩ := id R); (obtain ⟨d0, d1, d2, d3, d4, d5, d6, d7, d8, d9, d10⟩ := id D); (obtain ⟨n0, n1, n2, n3, n4⟩ := id N); (obtain ⟨m0, m1, m2, m3, m4, m5, m6, m7, m8, m9, m10⟩ := id M)
  refine wpAnyH_take (i := 0) (v := ?_) (by rw [List.getElem?_toArray]; rfl) (by kernel_rfl) (by kernel_rfl) (by kernel_rfl) (by intro _ _ _ h; exact h) (Or.inl ⟨by rfl, ?_⟩) (by assumption) ?_
  rotate_left
  · (intro w hSw; (try dsimp only at hSw); go_simp; all_goals with_reducible rfl)
  (try simp only [Act.put, List.setIfInBounds_toArray, List.set_cons_zero, List.set_cons_succ])
  refine wpAnyH_take (i := 1) (v := ?_) (by rw [List.getElem?_toArray]; rfl) (by kernel_rfl) (by kernel_rfl) (by kernel_rfl) (by intro _ _ _ h; exact h) (Or.inl ⟨by rfl, ?_⟩) (by assumption) ?_
  rotate_left
  · (intro w hSw; (try dsimp only at hSw); go_simp; all_goals with_reducible rfl)
  (try simp only [Act.put, List.setIfInBounds_toArray, List.set_cons_zero, List.set_cons_succ])
  refine wpAnyH_take (i := 2) (v := ?_) (by rw [List.getElem?_toArray]; rfl) (by kernel_rfl) (by kernel_rfl) (by kernel_rfl) (by intro _ _ _ h; exact h) (Or.inl ⟨by rfl, ?_⟩) (by assumption) ?_
  rotate_left
  · (intro w hSw; (try dsimp only at hSw); go_simp; all_goals with_reducible rfl)
  (try simp only [Act.put, List.setIfInBounds_toArray, List.set_cons_zero, List.set_cons_succ])
  refine wpAnyH_take (i := 3) (v := ?_) (by rw [List.getElem?_toArray]; rfl) (by kernel_rfl) (by kernel_rfl) (by kernel_rfl) (by intro _ _ _ h; exact h) (Or.inl ⟨by rfl, ?_⟩) (by assumption) ?_
  rotate_left
  · (intro w hSw; (try dsimp only at hSw); go_simp; all_goals with_reducible rfl)
  (try simp only [Act.put, List.setIfInBounds_toArray, List.set_cons_zero, List.set_cons_succ])
  refine wpAnyH_take (i := 4) (v := ?_) (by rw [List.getElem?_toArray]; rfl) (by kernel_rfl) (by kernel_rfl) (by kernel_rfl) (by intro _ _ _ h; exact h) (Or.inl ⟨by rfl, ?_⟩) (by assumption) ?_
  rotate_left
  · (intro w hSw; (try dsimp only at hSw); go_simp; all_goals with_reducible rfl)
  (try simp only [Act.put, List.setIfInBounds_toArray, List.set_cons_zero, List.set_cons_succ])
  refine wpAnyH_ready (rs := [5]) (by kernel_rfl) (by simp) ?_
  refine AllReadyH.cons (by rw [List.getElem?_toArray]; rfl) (fun K hK => ?_) AllReadyH.nil
  go_simp
  refine (l1Below_any B p 5 _ c).mono ?_; rintro e v ⟨u, rfl, ul, uh, up, uz, c', hb⟩; clear c; (have c := c'); clear c' up uz; clear r0 r1 r2 r3 r4 d0 d1 d2 d3 d4 d5 d6 d7 d8 d9 d10 n0 n1 n2 n3 n4 m0 m1 m2 m3 m4 m5 m6 m7 m8 m9 m10; (replace b := b.trans (hb.below hwp b.size)); (replace R := R.butD hb hpw); (replace D := D.but hb hpw1); (replace N := N.butD hb hk1); (replace M := M.but hb hk2); clear hb; (obtain ⟨r0, r1, r2, r3, r4⟩ := id R); (obtain ⟨d0, d1, d2, d3, d4, d5, d6, d7, d8, d9, d10⟩ := id D); (obtain ⟨n0, n1, n2, n3, n4⟩ := id N); (obtain ⟨m0, m1, m2, m3, m4, m5, m6, m7, m8, m9, m10⟩ := id M)
  (try go_wp2_with fail)
  refine hK.out _ _ ?_ (fun hHeld => ?_)
  · simp (maxDischargeDepth := 6) [go_sem, *]
  clear hK K
  (try simp only [Act.put, List.setIfInBounds_toArray, List.set_cons_zero, List.set_cons_succ])
  refine wpAnyH_take (i := 6) (v := ?_) (by rw [List.getElem?_toArray]; rfl) (by kernel_rfl) (by kernel_rfl) (by kernel_rfl) (by intro _ _ _ h; exact h) (Or.inl ⟨by rfl, ?_⟩) (by assumption) ?_
  rotate_left
  · (intro w hSw; (try dsimp only at hSw); go_simp; all_goals with_reducible rfl)
  (try simp only [Act.put, List.setIfInBounds_toArray, List.set_cons_zero, List.set_cons_succ])
  refine wpAnyH_take (i := 7) (v := ?_) (by rw [List.getElem?_toArray]; rfl) (by kernel_rfl) (by kernel_rfl) (by kernel_rfl) (by intro _ _ _ h; exact h) (Or.inl ⟨by rfl, ?_⟩) (by assumption) ?_
  rotate_left
  · (intro w hSw; (try dsimp only at hSw); go_simp; all_goals with_reducible rfl)
  (try simp only [Act.put, List.setIfInBounds_toArray, List.set_cons_zero, List.set_cons_succ])
  refine wpAnyH_take (i := 8) (v := ?_) (by rw [List.getElem?_toArray]; rfl) (by kernel_rfl) (by kernel_rfl) (by kernel_rfl) (by intro _ _ _ h; exact h) (Or.inl ⟨by rfl, ?_⟩) (by assumption) ?_
  rotate_left
  · (intro w hSw; (try dsimp only at hSw); go_simp; all_goals with_reducible rfl)
  (try simp only [Act.put, List.setIfInBounds_toArray, List.set_cons_zero, List.set_cons_succ])
  refine wpAnyH_ready (rs := [9]) (by kernel_rfl) (by simp) ?_
  refine AllReadyH.cons (by rw [List.getElem?_toArray]; rfl) (fun K hK => ?_) AllReadyH.nil
  go_simp
  refine hK.out _ _ ?_ (fun hHeld => ?_)
  · simp (maxDischargeDepth := 6) [go_sem, *]
  clear hK K
  (try simp only [Act.put, List.setIfInBounds_toArray, List.set_cons_zero, List.set_cons_succ])
  refine wpAnyH_done (by kernel_rfl) ?_ _
  clear r0 r1 r2 r3 r4 d0 d1 d2 d3 d4 d5 d6 d7 d8 d9 d10 n0 n1 n2 n3 n4 m0 m1 m2 m3 m4 m5 m6 m7 m8 m9 m10
  have M2 := (M.one (IntKind.i64.wrap (IntKind.i64.wrap (IntKind.i64.wrap (s + x) + u) - 2))).2.2
  have R2 := R.setO s3 4 (.int .i64 (IntKind.i64.wrap (IntKind.i64.wrap (IntKind.i64.wrap (s + x) + u) - 2)))
  have D2 := D.setO s7 4 (.int .i64 (IntKind.i64.wrap (IntKind.i64.wrap (IntKind.i64.wrap (s + x) + u) - 2)))
  have N2 := N.setO s9 4 (.int .i64 (IntKind.i64.wrap (IntKind.i64.wrap (IntKind.i64.wrap (s + x) + u) - 2)))
  have b2 := b.setCell (show w.heap.size ≤ k2 by omega) (.int .i64 (IntKind.i64.wrap (IntKind.i64.wrap (IntKind.i64.wrap (s + x) + u) - 2))) (p := ⟨k2, 4, none⟩)
  go_wp2_with fail
  clear M R D N b
  have M := M2
  have R := R2
  have D := D2
  have N := N2
  have b := b2
  clear M2 R2 D2 N2 b2
  generalize v.setCell ⟨k2, 4, none⟩ (.int .i64 (IntKind.i64.wrap (IntKind.i64.wrap (IntKind.i64.wrap (s + x) + u) - 2))) = v at *
  generalize (IntKind.i64.wrap (IntKind.i64.wrap (IntKind.i64.wrap (s + x) + u) - 2)) = G at *
  (obtain ⟨r0, r1, r2, r3, r4⟩ := id R); (obtain ⟨d0, d1, d2, d3, d4, d5, d6, d7, d8, d9, d10⟩ := id D); (obtain ⟨n0, n1, n2, n3, n4⟩ := id N); (obtain ⟨m0, m1, m2, m3, m4, m5, m6, m7, m8, m9, m10⟩ := id M)
  refine wp_region_held_drew (S := (fun w' => w'.cell? ⟨k1, 0, none⟩ = some (.int .i64 n) ∧ w'.cell? ⟨k1, 1, none⟩ = some (.int .i64 d) ∧ w'.cell? ⟨k2, 0, none⟩ = some (.int .i64 fr) ∧ w'.cell? ⟨k2, 1, none⟩ = some (.int .i64 lo) ∧ w'.cell? ⟨k2, 2, none⟩ = some (.int .i64 hi) ∧ w'.cell? ⟨k2, 3, none⟩ = some (.int .i64 s) ∧ w'.cell? ⟨k2, 4, none⟩ = some (.int .i64 G))) (by kernel_rfl) ?_ (fun hHeld => ?_)
  · simp (maxDischargeDepth := 6) [go_sem, *]
  clear r0 r1 r2 r3 r4 d0 d1 d2 d3 d4 d5 d6 d7 d8 d9 d10 n0 n1 n2 n3 n4 m0 m1 m2 m3 m4 m5 m6 m7 m8 m9 m10
  replace R := R.drew
  replace D := D.drew
  replace N := N.drew
  replace M := M.drew
  replace b := b.drew
  generalize v.drew = v at *
  (obtain ⟨r0, r1, r2, r3, r4⟩ := id R); (obtain ⟨d0, d1, d2, d3, d4, d5, d6, d7, d8, d9, d10⟩ := id D); (obtain ⟨n0, n1, n2, n3, n4⟩ := id N); (obtain ⟨m0, m1, m2, m3, m4, m5, m6, m7, m8, m9, m10⟩ := id M)
  refine wpAnyH_take (i := 0) (v := ?_) (by rw [List.getElem?_toArray]; rfl) (by kernel_rfl) (by kernel_rfl) (by kernel_rfl) (by intro _ _ _ h; exact h) (Or.inl ⟨by rfl, ?_⟩) (by assumption) ?_
  rotate_left
  · (intro w hSw; (try dsimp only at hSw); go_simp; all_goals with_reducible rfl)
  (try simp only [Act.put, List.setIfInBounds_toArray, List.set_cons_zero, List.set_cons_succ])
  refine wpAnyH_take (i := 1) (v := ?_) (by rw [List.getElem?_toArray]; rfl) (by kernel_rfl) (by kernel_rfl) (by kernel_rfl) (by intro _ _ _ h; exact h) (Or.inl ⟨by rfl, ?_⟩) (by assumption) ?_
  rotate_left
  · (intro w hSw; (try dsimp only at hSw); go_simp; all_goals with_reducible rfl)
  (try simp only [Act.put, List.setIfInBounds_toArray, List.set_cons_zero, List.set_cons_succ])
  refine wpAnyH_take (i := 2) (v := ?_) (by rw [List.getElem?_toArray]; rfl) (by kernel_rfl) (by kernel_rfl) (by kernel_rfl) (by intro _ _ _ h; exact h) (Or.inl ⟨by rfl, ?_⟩) (by assumption) ?_
  rotate_left
  · (intro w hSw; (try dsimp only at hSw); go_simp; all_goals with_reducible rfl)
  (try simp only [Act.put, List.setIfInBounds_toArray, List.set_cons_zero, List.set_cons_succ])
  refine wpAnyH_take (i := 3) (v := ?_) (by rw [List.getElem?_toArray]; rfl) (by kernel_rfl) (by kernel_rfl) (by kernel_rfl) (by intro _ _ _ h; exact h) (Or.inl ⟨by rfl, ?_⟩) (by assumption) ?_
  rotate_left
  · (intro w hSw; (try dsimp only at hSw); go_simp; all_goals with_reducible rfl)
  (try simp only [Act.put, List.setIfInBounds_toArray, List.set_cons_zero, List.set_cons_succ])
  refine wpAnyH_take (i := 4) (v := ?_) (by rw [List.getElem?_toArray]; rfl) (by kernel_rfl) (by kernel_rfl) (by kernel_rfl) (by intro _ _ _ h; exact h) (Or.inl ⟨by rfl, ?_⟩) (by assumption) ?_
  rotate_left
  · (intro w hSw; (try dsimp only at hSw); go_simp; all_goals with_reducible rfl)
  (try simp only [Act.put, List.setIfInBounds_toArray, List.set_cons_zero, List.set_cons_succ])
  refine wpAnyH_ready (rs := [5]) (by kernel_rfl) (by simp) ?_
  refine AllReadyH.cons (by rw [List.getElem?_toArray]; rfl) (fun K hK => ?_) AllReadyH.nil
  go_simp
  refine hK.out _ _ ?_ (fun hHeld => ?_)
  · simp (maxDischargeDepth := 6) [go_sem, *]
  clear hK K
  (try simp only [Act.put, List.setIfInBounds_toArray, List.set_cons_zero, List.set_cons_succ])
  refine wpAnyH_ready (rs := [6]) (by kernel_rfl) (by simp) ?_
  refine AllReadyH.cons (by rw [List.getElem?_toArray]; rfl) (fun K hK => ?_) AllReadyH.nil
  go_simp
  refine hK.out _ _ ?_ (fun hHeld => ?_)
  · simp (maxDischargeDepth := 6) [go_sem, *]
  clear hK K
  (try simp only [Act.put, List.setIfInBounds_toArray, List.set_cons_zero, List.set_cons_succ])
  refine wpAnyH_take (i := 7) (v := ?_) (by rw [List.getElem?_toArray]; rfl) (by kernel_rfl) (by kernel_rfl) (by kernel_rfl) (by intro _ _ _ h; exact h) (Or.inl ⟨by rfl, ?_⟩) (by assumption) ?_
  rotate_left
  · (intro w hSw; (try dsimp only at hSw); go_simp; all_goals with_reducible rfl)
  (try simp only [Act.put, List.setIfInBounds_toArray, List.set_cons_zero, List.set_cons_succ])
  refine wpAnyH_take (i := 8) (v := ?_) (by rw [List.getElem?_toArray]; rfl) (by kernel_rfl) (by kernel_rfl) (by kernel_rfl) (by intro _ _ _ h; exact h) (Or.inl ⟨by rfl, ?_⟩) (by assumption) ?_
  rotate_left
  · (intro w hSw; (try dsimp only at hSw); go_simp; all_goals with_reducible rfl)
  (try simp only [Act.put, List.setIfInBounds_toArray, List.set_cons_zero, List.set_cons_succ])
  refine wpAnyH_take (i := 9) (v := ?_) (by rw [List.getElem?_toArray]; rfl) (by kernel_rfl) (by kernel_rfl) (by kernel_rfl) (by intro _ _ _ h; exact h) (Or.inl ⟨by rfl, ?_⟩) (by assumption) ?_
  rotate_left
  · (intro w hSw; (try dsimp only at hSw); go_simp; all_goals with_reducible rfl)
  (try simp only [Act.put, List.setIfInBounds_toArray, List.set_cons_zero, List.set_cons_succ])
  refine wpAnyH_done (by kernel_rfl) ?_ _
  go_wp2_with fail
  exact bodyPost_ret (v := .tuple #[.agg #[.int .i64 n, .int .i64 d], .agg #[.int .i64 fr, .int .i64 lo, .int .i64 hi, .int .i64 s, .int .i64 G], .int .i64 (lo - y), .int .i64 lo, .int .i64 (lo - y + x)]) (by simp (maxDischargeDepth := 6) [results, Try.results6, go_sem, *]) rfl ⟨n, d, fr, lo, hi, s, G, _, _, _, rfl, Below.set5 (Below.setI b (Nat.le_refl _) n d) (by omega) fr lo hi s G⟩
end Go.Proofs.Ytnkgdohccdcipaa
