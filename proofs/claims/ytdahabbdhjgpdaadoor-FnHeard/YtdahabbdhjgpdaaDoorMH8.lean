/- What the draw of a message of chapter 4 leaves: DrawPack. What DrawHear leaves. Whether two lists are the same; whether a number is in one. Plans: what the laws make of them. What the laws of chapter 16 make of their arguments. HeardOk in the program. Plans in the program: which are right, how long a round is, which round a time lies in. -/
import Derived.Test.YtdahabbdhjgpdaaDoorMH7
import Derived.WalkKit
import Derived.WalkSpells
import Derived.WalkLawsBesides
import Derived.Deep.QuietTactic
import Derived.BigQuiet
import Derived.Test.YtdahabbdhjgpdaaDoorMH6
import Derived.Test.YtdahabbdhjgpdaaDoorMH5
import Derived.Deep.RegionHeld3
import Derived.Deep.DeepCutAuto
import Derived.Deep.RegionHeld
import Derived.Test.YtdahabbdhjgpdaaDoorMH4
import Derived.Test.YtdahabbdhjgpdaaDoorMH3
import Derived.Test.YtdahabbdhjgpdaaDoorMH2
namespace Go.Proofs.YtdahabbdhjgpdaaDoor
open Go.RowKit
set_option linter.unusedVariables false
set_option maxHeartbeats 8000000 in
theorem l4DrawMsg_any (B p : Nat) (w : World) (hcur : CurOk w B p) :
    Calls Tryd.prog 39 #[.pointer (some ⟨p, 0, none⟩)] w fun e w' => ∃ (k fr tu no lo hi sl : Int) (s : ByteArray), e = .returned (.agg #[.int .i64 k, .int .i64 fr, .int .i64 tu, .int .i64 no, .int .i64 lo, .int .i64 hi, .int .i64 sl, .string s]) ∧ s.size ≤ 100 ∧ CurOk w' B p ∧ But p w w' := by
  have hpl := hcur.lt
  have A1 := Below.al w (.cells #[.int .i64 0, .int .i64 0, .int .i64 0, .int .i64 0, .int .i64 0, .int .i64 0, .int .i64 0, .string ⟨#[]⟩] 31)
  have R := Box8.new w 0 0 0 0 0 0 0 ⟨#[]⟩ 31
  have T := Thaw8.new w 0 0 0 0 0 0 0 ⟨#[]⟩ 31
  go_enter Tryd.func39, Tryd.ntmps39
  go_wp2_with fail
  refine (l4DrawRight_any B p _ (hcur.below A1)).mono ?_
  rintro e w1 ⟨m1, m2, m3, m4, m5, m6, m7, m8, rfl, hm8, c1, b1⟩
  replace T := T.but b1 R.1 (by omega)
  replace R := R.but b1 (by omega)
  replace b1 := (But.of_below A1).trans b1
  have S := St.start c1 b1 R T hpl.1 m1 m2 m3 m4 m5 m6 m7 m8 hm8 31
  have hJM : w.heap.size < w1.heap.size := S.2.2.2.1
  clear A1 hcur c1 b1 R T
  go_wp2_with fail
  refine (l1Below_any B p 25 _ S.1).mono ?_
  rintro e w2 ⟨x, rfl, xl, xh, xp, xz, c, b⟩
  replace S := S.but c b
  clear xp xz b c
  by_cases h0 : x = 0
  · subst h0
    obtain ⟨-, -, ⟨k, fr, tu, no, lo, hi, sl, s, ⟨a0, a1, a2, a3, a4, a5, a6, a7, a8⟩, ⟨t0, t1, t2, t3, t4, t5, t6, t7⟩, -⟩, -, -, -, -, -⟩ := id S
    go_wp2_with fail
    have hp := pickLit B p w2 [0, 4, 3, 1] S.1 (by simp) (by simp)
    simp only [List.map_cons, List.map_nil, List.length_cons, List.length_nil, Nat.zero_add, Nat.reduceAdd] at hp
    refine hp.mono ?_
    clear hp
    clear a0 a1 a2 a3 a4 a5 a6 a7 a8 t0 t1 t2 t3 t4 t5 t6 t7
    rintro e w3 ⟨v, rfl, c, b⟩
    replace S := S.but c b
    clear b c
    obtain ⟨-, -, ⟨k, fr, tu, no, lo, hi, sl, s, ⟨a0, a1, a2, a3, a4, a5, a6, a7, a8⟩, ⟨t0, t1, t2, t3, t4, t5, t6, t7⟩, -⟩, -, -, -, -, -⟩ := id S
    go_upto_region 17 with fail
    clear a0 a1 a2 a3 a4 a5 a6 a7 a8 t0 t1 t2 t3 t4 t5 t6 t7
    replace S := S.setI 0 (by omega) v
    generalize w3.setCell ⟨w1.heap.size, 0, none⟩ (.int .i64 v) = wz at *
    obtain ⟨hc, hb, ⟨k, fr, tu, no, lo, hi, sl, s, bx, tx, hs⟩, hj, r, t, hp, hB⟩ := S
    have Q := box8 r k fr tu no lo hi sl s
    have QC := cur8 (J := w.heap.size) hc (by omega) (by omega) k fr tu no lo hi sl s
    have QB := but8 (J := w.heap.size) hb (Nat.le_refl _) k fr tu no lo hi sl s
    obtain ⟨a0, a1, a2, a3, a4, a5, a6, a7, a8⟩ := bx
    obtain ⟨r0, r1, r2, r3, r4, r5, r6, r7, r8⟩ := r
    obtain ⟨t0, t1, t2, t3, t4, t5, t6, t7⟩ := t
    go_wp2_with fail
    generalize ((((((((wz.setCell ⟨w.heap.size, 0, none⟩ (.int .i64 k)).setCell ⟨w.heap.size, 1, none⟩ (.int .i64 fr)).setCell ⟨w.heap.size, 2, none⟩ (.int .i64 tu)).setCell ⟨w.heap.size, 3, none⟩ (.int .i64 no)).setCell ⟨w.heap.size, 4, none⟩ (.int .i64 lo)).setCell ⟨w.heap.size, 5, none⟩ (.int .i64 hi)).setCell ⟨w.heap.size, 6, none⟩ (.int .i64 sl)).setCell ⟨w.heap.size, 7, none⟩ (.string s)) = wq at *
    obtain ⟨q0, q1, q2, q3, q4, q5, q6, q7, q8⟩ := Q
    exact bodyPost_ret (v := .agg #[.int .i64 k, .int .i64 fr, .int .i64 tu, .int .i64 no, .int .i64 lo, .int .i64 hi, .int .i64 sl, .string s]) (by simp (maxDischargeDepth := 6) [results, Tryd.results39, go_sem, q1, q2, q3, q4, q5, q6, q7, q8]) rfl ⟨_, _, _, _, _, _, _, _, rfl, hs, QC, QB⟩
  · have e0 : (x == 0) = false := by simp; omega
    by_cases h1 : x = 1
    · subst h1
      obtain ⟨-, -, ⟨k, fr, tu, no, lo, hi, sl, s, ⟨a0, a1, a2, a3, a4, a5, a6, a7, a8⟩, ⟨t0, t1, t2, t3, t4, t5, t6, t7⟩, -⟩, -, -, -, -, -⟩ := id S
      go_wp2_with fail
      have hp := pickLit B p w2 [-1, 8, tu] S.1 (by simp) (by simp)
      simp only [List.map_cons, List.map_nil, List.length_cons, List.length_nil, Nat.zero_add, Nat.reduceAdd] at hp
      refine hp.mono ?_
      clear hp
      clear a0 a1 a2 a3 a4 a5 a6 a7 a8 t0 t1 t2 t3 t4 t5 t6 t7
      rintro e w3 ⟨v, rfl, c, b⟩
      replace S := S.but c b
      clear b c
      obtain ⟨-, -, ⟨k, fr, tu, no, lo, hi, sl, s, ⟨a0, a1, a2, a3, a4, a5, a6, a7, a8⟩, ⟨t0, t1, t2, t3, t4, t5, t6, t7⟩, -⟩, -, -, -, -, -⟩ := id S
      go_upto_region 17 with fail
      clear a0 a1 a2 a3 a4 a5 a6 a7 a8 t0 t1 t2 t3 t4 t5 t6 t7
      replace S := S.setI 1 (by omega) v
      generalize w3.setCell ⟨w1.heap.size, 1, none⟩ (.int .i64 v) = wz at *
      obtain ⟨hc, hb, ⟨k, fr, tu, no, lo, hi, sl, s, bx, tx, hs⟩, hj, r, t, hp, hB⟩ := S
      have Q := box8 r k fr tu no lo hi sl s
      have QC := cur8 (J := w.heap.size) hc (by omega) (by omega) k fr tu no lo hi sl s
      have QB := but8 (J := w.heap.size) hb (Nat.le_refl _) k fr tu no lo hi sl s
      obtain ⟨a0, a1, a2, a3, a4, a5, a6, a7, a8⟩ := bx
      obtain ⟨r0, r1, r2, r3, r4, r5, r6, r7, r8⟩ := r
      obtain ⟨t0, t1, t2, t3, t4, t5, t6, t7⟩ := t
      go_wp2_with fail
      generalize ((((((((wz.setCell ⟨w.heap.size, 0, none⟩ (.int .i64 k)).setCell ⟨w.heap.size, 1, none⟩ (.int .i64 fr)).setCell ⟨w.heap.size, 2, none⟩ (.int .i64 tu)).setCell ⟨w.heap.size, 3, none⟩ (.int .i64 no)).setCell ⟨w.heap.size, 4, none⟩ (.int .i64 lo)).setCell ⟨w.heap.size, 5, none⟩ (.int .i64 hi)).setCell ⟨w.heap.size, 6, none⟩ (.int .i64 sl)).setCell ⟨w.heap.size, 7, none⟩ (.string s)) = wq at *
      obtain ⟨q0, q1, q2, q3, q4, q5, q6, q7, q8⟩ := Q
      exact bodyPost_ret (v := .agg #[.int .i64 k, .int .i64 fr, .int .i64 tu, .int .i64 no, .int .i64 lo, .int .i64 hi, .int .i64 sl, .string s]) (by simp (maxDischargeDepth := 6) [results, Tryd.results39, go_sem, q1, q2, q3, q4, q5, q6, q7, q8]) rfl ⟨_, _, _, _, _, _, _, _, rfl, hs, QC, QB⟩
    · have e1 : (x == 1) = false := by simp; omega
      by_cases h2 : x = 2
      · subst h2
        obtain ⟨-, -, ⟨k, fr, tu, no, lo, hi, sl, s, ⟨a0, a1, a2, a3, a4, a5, a6, a7, a8⟩, ⟨t0, t1, t2, t3, t4, t5, t6, t7⟩, -⟩, -, -, -, -, -⟩ := id S
        go_wp2_with fail
        have hp := pickLit B p w2 [-1, 8, fr] S.1 (by simp) (by simp)
        simp only [List.map_cons, List.map_nil, List.length_cons, List.length_nil, Nat.zero_add, Nat.reduceAdd] at hp
        refine hp.mono ?_
        clear hp
        clear a0 a1 a2 a3 a4 a5 a6 a7 a8 t0 t1 t2 t3 t4 t5 t6 t7
        rintro e w3 ⟨v, rfl, c, b⟩
        replace S := S.but c b
        clear b c
        obtain ⟨-, -, ⟨k, fr, tu, no, lo, hi, sl, s, ⟨a0, a1, a2, a3, a4, a5, a6, a7, a8⟩, ⟨t0, t1, t2, t3, t4, t5, t6, t7⟩, -⟩, -, -, -, -, -⟩ := id S
        go_upto_region 17 with fail
        clear a0 a1 a2 a3 a4 a5 a6 a7 a8 t0 t1 t2 t3 t4 t5 t6 t7
        replace S := S.setI 2 (by omega) v
        generalize w3.setCell ⟨w1.heap.size, 2, none⟩ (.int .i64 v) = wz at *
        obtain ⟨hc, hb, ⟨k, fr, tu, no, lo, hi, sl, s, bx, tx, hs⟩, hj, r, t, hp, hB⟩ := S
        have Q := box8 r k fr tu no lo hi sl s
        have QC := cur8 (J := w.heap.size) hc (by omega) (by omega) k fr tu no lo hi sl s
        have QB := but8 (J := w.heap.size) hb (Nat.le_refl _) k fr tu no lo hi sl s
        obtain ⟨a0, a1, a2, a3, a4, a5, a6, a7, a8⟩ := bx
        obtain ⟨r0, r1, r2, r3, r4, r5, r6, r7, r8⟩ := r
        obtain ⟨t0, t1, t2, t3, t4, t5, t6, t7⟩ := t
        go_wp2_with fail
        generalize ((((((((wz.setCell ⟨w.heap.size, 0, none⟩ (.int .i64 k)).setCell ⟨w.heap.size, 1, none⟩ (.int .i64 fr)).setCell ⟨w.heap.size, 2, none⟩ (.int .i64 tu)).setCell ⟨w.heap.size, 3, none⟩ (.int .i64 no)).setCell ⟨w.heap.size, 4, none⟩ (.int .i64 lo)).setCell ⟨w.heap.size, 5, none⟩ (.int .i64 hi)).setCell ⟨w.heap.size, 6, none⟩ (.int .i64 sl)).setCell ⟨w.heap.size, 7, none⟩ (.string s)) = wq at *
        obtain ⟨q0, q1, q2, q3, q4, q5, q6, q7, q8⟩ := Q
        exact bodyPost_ret (v := .agg #[.int .i64 k, .int .i64 fr, .int .i64 tu, .int .i64 no, .int .i64 lo, .int .i64 hi, .int .i64 sl, .string s]) (by simp (maxDischargeDepth := 6) [results, Tryd.results39, go_sem, q1, q2, q3, q4, q5, q6, q7, q8]) rfl ⟨_, _, _, _, _, _, _, _, rfl, hs, QC, QB⟩
      · have e2 : (x == 2) = false := by simp; omega
        by_cases h3 : x = 3
        · subst h3
          obtain ⟨-, -, ⟨k, fr, tu, no, lo, hi, sl, s, ⟨a0, a1, a2, a3, a4, a5, a6, a7, a8⟩, ⟨t0, t1, t2, t3, t4, t5, t6, t7⟩, -⟩, -, -, -, -, -⟩ := id S
          go_wp2_with fail
          have hp := pickLit B p w2 [-1, 100001000, 1] S.1 (by simp) (by simp)
          simp only [List.map_cons, List.map_nil, List.length_cons, List.length_nil, Nat.zero_add, Nat.reduceAdd] at hp
          refine hp.mono ?_
          clear hp
          clear a0 a1 a2 a3 a4 a5 a6 a7 a8 t0 t1 t2 t3 t4 t5 t6 t7
          rintro e w3 ⟨v, rfl, c, b⟩
          replace S := S.but c b
          clear b c
          obtain ⟨-, -, ⟨k, fr, tu, no, lo, hi, sl, s, ⟨a0, a1, a2, a3, a4, a5, a6, a7, a8⟩, ⟨t0, t1, t2, t3, t4, t5, t6, t7⟩, -⟩, -, -, -, -, -⟩ := id S
          go_upto_region 17 with fail
          clear a0 a1 a2 a3 a4 a5 a6 a7 a8 t0 t1 t2 t3 t4 t5 t6 t7
          replace S := S.setI 3 (by omega) v
          generalize w3.setCell ⟨w1.heap.size, 3, none⟩ (.int .i64 v) = wz at *
          obtain ⟨hc, hb, ⟨k, fr, tu, no, lo, hi, sl, s, bx, tx, hs⟩, hj, r, t, hp, hB⟩ := S
          have Q := box8 r k fr tu no lo hi sl s
          have QC := cur8 (J := w.heap.size) hc (by omega) (by omega) k fr tu no lo hi sl s
          have QB := but8 (J := w.heap.size) hb (Nat.le_refl _) k fr tu no lo hi sl s
          obtain ⟨a0, a1, a2, a3, a4, a5, a6, a7, a8⟩ := bx
          obtain ⟨r0, r1, r2, r3, r4, r5, r6, r7, r8⟩ := r
          obtain ⟨t0, t1, t2, t3, t4, t5, t6, t7⟩ := t
          go_wp2_with fail
          generalize ((((((((wz.setCell ⟨w.heap.size, 0, none⟩ (.int .i64 k)).setCell ⟨w.heap.size, 1, none⟩ (.int .i64 fr)).setCell ⟨w.heap.size, 2, none⟩ (.int .i64 tu)).setCell ⟨w.heap.size, 3, none⟩ (.int .i64 no)).setCell ⟨w.heap.size, 4, none⟩ (.int .i64 lo)).setCell ⟨w.heap.size, 5, none⟩ (.int .i64 hi)).setCell ⟨w.heap.size, 6, none⟩ (.int .i64 sl)).setCell ⟨w.heap.size, 7, none⟩ (.string s)) = wq at *
          obtain ⟨q0, q1, q2, q3, q4, q5, q6, q7, q8⟩ := Q
          exact bodyPost_ret (v := .agg #[.int .i64 k, .int .i64 fr, .int .i64 tu, .int .i64 no, .int .i64 lo, .int .i64 hi, .int .i64 sl, .string s]) (by simp (maxDischargeDepth := 6) [results, Tryd.results39, go_sem, q1, q2, q3, q4, q5, q6, q7, q8]) rfl ⟨_, _, _, _, _, _, _, _, rfl, hs, QC, QB⟩
        · have e3 : (x == 3) = false := by simp; omega
          by_cases h4 : x = 4
          · subst h4
            go_wp2_with fail
            refine (l1DrawIval_any B p _ S.1).mono ?_
            rintro e w3 ⟨lo', hi', rfl, c, b⟩
            replace S := S.but c b
            clear b c
            obtain ⟨-, -, ⟨k, fr, tu, no, lo, hi, sl, s, ⟨a0, a1, a2, a3, a4, a5, a6, a7, a8⟩, ⟨t0, t1, t2, t3, t4, t5, t6, t7⟩, -⟩, -, -, -, -, -⟩ := id S
            go_upto_region 17 with fail
            clear a0 a1 a2 a3 a4 a5 a6 a7 a8 t0 t1 t2 t3 t4 t5 t6 t7
            replace S := (S.setI 4 (by omega) lo').setI 5 (by omega) hi'
            generalize ((w3.setCell ⟨w1.heap.size, 4, none⟩ (.int .i64 lo')).setCell ⟨w1.heap.size, 5, none⟩ (.int .i64 hi')) = wz at *
            obtain ⟨hc, hb, ⟨k, fr, tu, no, lo, hi, sl, s, bx, tx, hs⟩, hj, r, t, hp, hB⟩ := S
            have Q := box8 r k fr tu no lo hi sl s
            have QC := cur8 (J := w.heap.size) hc (by omega) (by omega) k fr tu no lo hi sl s
            have QB := but8 (J := w.heap.size) hb (Nat.le_refl _) k fr tu no lo hi sl s
            obtain ⟨a0, a1, a2, a3, a4, a5, a6, a7, a8⟩ := bx
            obtain ⟨r0, r1, r2, r3, r4, r5, r6, r7, r8⟩ := r
            obtain ⟨t0, t1, t2, t3, t4, t5, t6, t7⟩ := t
            go_wp2_with fail
            generalize ((((((((wz.setCell ⟨w.heap.size, 0, none⟩ (.int .i64 k)).setCell ⟨w.heap.size, 1, none⟩ (.int .i64 fr)).setCell ⟨w.heap.size, 2, none⟩ (.int .i64 tu)).setCell ⟨w.heap.size, 3, none⟩ (.int .i64 no)).setCell ⟨w.heap.size, 4, none⟩ (.int .i64 lo)).setCell ⟨w.heap.size, 5, none⟩ (.int .i64 hi)).setCell ⟨w.heap.size, 6, none⟩ (.int .i64 sl)).setCell ⟨w.heap.size, 7, none⟩ (.string s)) = wq at *
            obtain ⟨q0, q1, q2, q3, q4, q5, q6, q7, q8⟩ := Q
            exact bodyPost_ret (v := .agg #[.int .i64 k, .int .i64 fr, .int .i64 tu, .int .i64 no, .int .i64 lo, .int .i64 hi, .int .i64 sl, .string s]) (by simp (maxDischargeDepth := 6) [results, Tryd.results39, go_sem, q1, q2, q3, q4, q5, q6, q7, q8]) rfl ⟨_, _, _, _, _, _, _, _, rfl, hs, QC, QB⟩
          · have e4 : (x == 4) = false := by simp; omega
            by_cases h5 : x = 5
            · subst h5
              obtain ⟨-, -, ⟨k, fr, tu, no, lo, hi, sl, s, ⟨a0, a1, a2, a3, a4, a5, a6, a7, a8⟩, ⟨t0, t1, t2, t3, t4, t5, t6, t7⟩, -⟩, -, -, -, -, -⟩ := id S
              go_wp2_with fail
              have hp := pickLit B p w2 [-1, 16, 15] S.1 (by simp) (by simp)
              simp only [List.map_cons, List.map_nil, List.length_cons, List.length_nil, Nat.zero_add, Nat.reduceAdd] at hp
              refine hp.mono ?_
              clear hp
              clear a0 a1 a2 a3 a4 a5 a6 a7 a8 t0 t1 t2 t3 t4 t5 t6 t7
              rintro e w3 ⟨v, rfl, c, b⟩
              replace S := S.but c b
              clear b c
              obtain ⟨-, -, ⟨k, fr, tu, no, lo, hi, sl, s, ⟨a0, a1, a2, a3, a4, a5, a6, a7, a8⟩, ⟨t0, t1, t2, t3, t4, t5, t6, t7⟩, -⟩, -, -, -, -, -⟩ := id S
              go_upto_region 17 with fail
              clear a0 a1 a2 a3 a4 a5 a6 a7 a8 t0 t1 t2 t3 t4 t5 t6 t7
              replace S := S.setI 6 (by omega) v
              generalize w3.setCell ⟨w1.heap.size, 6, none⟩ (.int .i64 v) = wz at *
              obtain ⟨hc, hb, ⟨k, fr, tu, no, lo, hi, sl, s, bx, tx, hs⟩, hj, r, t, hp, hB⟩ := S
              have Q := box8 r k fr tu no lo hi sl s
              have QC := cur8 (J := w.heap.size) hc (by omega) (by omega) k fr tu no lo hi sl s
              have QB := but8 (J := w.heap.size) hb (Nat.le_refl _) k fr tu no lo hi sl s
              obtain ⟨a0, a1, a2, a3, a4, a5, a6, a7, a8⟩ := bx
              obtain ⟨r0, r1, r2, r3, r4, r5, r6, r7, r8⟩ := r
              obtain ⟨t0, t1, t2, t3, t4, t5, t6, t7⟩ := t
              go_wp2_with fail
              generalize ((((((((wz.setCell ⟨w.heap.size, 0, none⟩ (.int .i64 k)).setCell ⟨w.heap.size, 1, none⟩ (.int .i64 fr)).setCell ⟨w.heap.size, 2, none⟩ (.int .i64 tu)).setCell ⟨w.heap.size, 3, none⟩ (.int .i64 no)).setCell ⟨w.heap.size, 4, none⟩ (.int .i64 lo)).setCell ⟨w.heap.size, 5, none⟩ (.int .i64 hi)).setCell ⟨w.heap.size, 6, none⟩ (.int .i64 sl)).setCell ⟨w.heap.size, 7, none⟩ (.string s)) = wq at *
              obtain ⟨q0, q1, q2, q3, q4, q5, q6, q7, q8⟩ := Q
              exact bodyPost_ret (v := .agg #[.int .i64 k, .int .i64 fr, .int .i64 tu, .int .i64 no, .int .i64 lo, .int .i64 hi, .int .i64 sl, .string s]) (by simp (maxDischargeDepth := 6) [results, Tryd.results39, go_sem, q1, q2, q3, q4, q5, q6, q7, q8]) rfl ⟨_, _, _, _, _, _, _, _, rfl, hs, QC, QB⟩
            · have e5 : (x == 5) = false := by simp; omega
              by_cases h6 : x = 6
              · subst h6
                obtain ⟨-, -, ⟨k, fr, tu, no, lo, hi, sl, s, ⟨a0, a1, a2, a3, a4, a5, a6, a7, a8⟩, ⟨t0, t1, t2, t3, t4, t5, t6, t7⟩, -⟩, -, -, -, -, -⟩ := id S
                go_upto_region 17 with fail
                clear a0 a1 a2 a3 a4 a5 a6 a7 a8 t0 t1 t2 t3 t4 t5 t6 t7
                replace S := S.setS ⟨#[97, 98, 99, 100, 101, 102, 103, 104, 105, 106, 107, 108, 109, 110, 111, 112, 113, 114, 115, 116, 117, 118, 119, 120, 121]⟩ (by decide)
                generalize w2.setCell ⟨w1.heap.size, 7, none⟩ (.string ⟨#[97, 98, 99, 100, 101, 102, 103, 104, 105, 106, 107, 108, 109, 110, 111, 112, 113, 114, 115, 116, 117, 118, 119, 120, 121]⟩) = wz at *
                obtain ⟨hc, hb, ⟨k, fr, tu, no, lo, hi, sl, s, bx, tx, hs⟩, hj, r, t, hp, hB⟩ := S
                have Q := box8 r k fr tu no lo hi sl s
                have QC := cur8 (J := w.heap.size) hc (by omega) (by omega) k fr tu no lo hi sl s
                have QB := but8 (J := w.heap.size) hb (Nat.le_refl _) k fr tu no lo hi sl s
                obtain ⟨a0, a1, a2, a3, a4, a5, a6, a7, a8⟩ := bx
                obtain ⟨r0, r1, r2, r3, r4, r5, r6, r7, r8⟩ := r
                obtain ⟨t0, t1, t2, t3, t4, t5, t6, t7⟩ := t
                go_wp2_with fail
                generalize ((((((((wz.setCell ⟨w.heap.size, 0, none⟩ (.int .i64 k)).setCell ⟨w.heap.size, 1, none⟩ (.int .i64 fr)).setCell ⟨w.heap.size, 2, none⟩ (.int .i64 tu)).setCell ⟨w.heap.size, 3, none⟩ (.int .i64 no)).setCell ⟨w.heap.size, 4, none⟩ (.int .i64 lo)).setCell ⟨w.heap.size, 5, none⟩ (.int .i64 hi)).setCell ⟨w.heap.size, 6, none⟩ (.int .i64 sl)).setCell ⟨w.heap.size, 7, none⟩ (.string s)) = wq at *
                obtain ⟨q0, q1, q2, q3, q4, q5, q6, q7, q8⟩ := Q
                exact bodyPost_ret (v := .agg #[.int .i64 k, .int .i64 fr, .int .i64 tu, .int .i64 no, .int .i64 lo, .int .i64 hi, .int .i64 sl, .string s]) (by simp (maxDischargeDepth := 6) [results, Tryd.results39, go_sem, q1, q2, q3, q4, q5, q6, q7, q8]) rfl ⟨_, _, _, _, _, _, _, _, rfl, hs, QC, QB⟩
              · have e6 : (x == 6) = false := by simp; omega
                go_upto_region 17 with fail
                obtain ⟨hc, hb, ⟨k, fr, tu, no, lo, hi, sl, s, bx, tx, hs⟩, hj, r, t, hp, hB⟩ := S
                have Q := box8 r k fr tu no lo hi sl s
                have QC := cur8 (J := w.heap.size) hc (by omega) (by omega) k fr tu no lo hi sl s
                have QB := but8 (J := w.heap.size) hb (Nat.le_refl _) k fr tu no lo hi sl s
                obtain ⟨a0, a1, a2, a3, a4, a5, a6, a7, a8⟩ := bx
                obtain ⟨r0, r1, r2, r3, r4, r5, r6, r7, r8⟩ := r
                obtain ⟨t0, t1, t2, t3, t4, t5, t6, t7⟩ := t
                go_wp2_with fail
                generalize ((((((((w2.setCell ⟨w.heap.size, 0, none⟩ (.int .i64 k)).setCell ⟨w.heap.size, 1, none⟩ (.int .i64 fr)).setCell ⟨w.heap.size, 2, none⟩ (.int .i64 tu)).setCell ⟨w.heap.size, 3, none⟩ (.int .i64 no)).setCell ⟨w.heap.size, 4, none⟩ (.int .i64 lo)).setCell ⟨w.heap.size, 5, none⟩ (.int .i64 hi)).setCell ⟨w.heap.size, 6, none⟩ (.int .i64 sl)).setCell ⟨w.heap.size, 7, none⟩ (.string s)) = wq at *
                obtain ⟨q0, q1, q2, q3, q4, q5, q6, q7, q8⟩ := Q
                exact bodyPost_ret (v := .agg #[.int .i64 k, .int .i64 fr, .int .i64 tu, .int .i64 no, .int .i64 lo, .int .i64 hi, .int .i64 sl, .string s]) (by simp (maxDischargeDepth := 6) [results, Tryd.results39, go_sem, q1, q2, q3, q4, q5, q6, q7, q8]) rfl ⟨_, _, _, _, _, _, _, _, rfl, hs, QC, QB⟩
end Go.Proofs.YtdahabbdhjgpdaaDoor
namespace Go.Proofs.YtdahabbdhjgpdaaDoor
open Go.RowKit
set_option linter.unusedVariables false
theorem CurOk.keptH {w w' : World} {B p : Nat} {o : Option Nat} (h : CurOk w B p) (hg : w.grownBy w' o) (hne : ∀ k, k ≤ p → some k ≠ o) : CurOk w' B p :=
  h.below16 (grown_bel hg (B := p + 1) (by have := h.lt; omega) (fun b hb => hne b (by omega))) (Nat.lt_succ_self _)
theorem put8 {w : World} {j : Nat} {k fr tu no lo hi sl : Int} {bo : ByteArray} (h : Box8 w j k fr tu no lo hi sl bo) (ht : Thaw8 w j) (k' fr' tu' no' lo' hi' sl' : Int) (bo' : ByteArray) : Box8 (((((((((w.setCell ⟨j, 0, none⟩ (.int .i64 (k'))).setCell ⟨j, 1, none⟩ (.int .i64 (fr'))).setCell ⟨j, 2, none⟩ (.int .i64 (tu'))).setCell ⟨j, 3, none⟩ (.int .i64 (no'))).setCell ⟨j, 4, none⟩ (.int .i64 (lo'))).setCell ⟨j, 5, none⟩ (.int .i64 (hi'))).setCell ⟨j, 6, none⟩ (.int .i64 (sl'))).setCell ⟨j, 7, none⟩ (.string (bo')))) j k' fr' tu' no' lo' hi' sl' bo' ∧ Thaw8 (((((((((w.setCell ⟨j, 0, none⟩ (.int .i64 (k'))).setCell ⟨j, 1, none⟩ (.int .i64 (fr'))).setCell ⟨j, 2, none⟩ (.int .i64 (tu'))).setCell ⟨j, 3, none⟩ (.int .i64 (no'))).setCell ⟨j, 4, none⟩ (.int .i64 (lo'))).setCell ⟨j, 5, none⟩ (.int .i64 (hi'))).setCell ⟨j, 6, none⟩ (.int .i64 (sl'))).setCell ⟨j, 7, none⟩ (.string (bo')))) j ∧ But j w (((((((((w.setCell ⟨j, 0, none⟩ (.int .i64 (k'))).setCell ⟨j, 1, none⟩ (.int .i64 (fr'))).setCell ⟨j, 2, none⟩ (.int .i64 (tu'))).setCell ⟨j, 3, none⟩ (.int .i64 (no'))).setCell ⟨j, 4, none⟩ (.int .i64 (lo'))).setCell ⟨j, 5, none⟩ (.int .i64 (hi'))).setCell ⟨j, 6, none⟩ (.int .i64 (sl'))).setCell ⟨j, 7, none⟩ (.string (bo')))) :=
  ⟨(((((((h.set0 k').set1 fr').set2 tu').set3 no').set4 lo').set5 hi').set6 sl').set7 bo', (((((((ht.set _ _).set _ _).set _ _).set _ _).set _ _).set _ _).set _ _).set _ _, ((((((((But.refl j w).setCell 0 _).setCell 1 _).setCell 2 _).setCell 3 _).setCell 4 _).setCell 5 _).setCell 6 _).setCell 7 _⟩
/- A plan in a box, its slots, a message in a box, what was heard, the boxes of the answer and the cursor, apart from one another. -/
def Hd (w : World) (B p jx jm b0 b1 : Nat) (s g : Int) (pa : Option Addr) (pm pc : Nat) (PM : Nat → SlT) (v : Value) (L : List VT) (wr : World) : Prop :=
  Tx3 wr jx (.int .i64 s) (.int .i64 g) (.slice pa pm pc) ∧ wr.ownsRow b1 72 2 (.slice pa pm pc) pm (srow PM pm) ∧ Tx3 wr w.heap.size (.int .i64 0) (.int .i64 0) (.slice none 0 0) ∧ (Box8 wr (w.heap.size + 1) 0 0 0 0 0 0 0 ⟨#[]⟩ ∧ Thaw8 wr (w.heap.size + 1)) ∧ MsgIn wr jm ∧ wr.ownsRow b0 80 2 v L.length (vrow L) ∧ CurOk wr B p ∧ Below w.heap.size w wr
section
variable {w wr w' : World} {B p jx jm b0 b1 : Nat} {s g : Int} {pa : Option Addr} {pm pc : Nat} {PM : Nat → SlT} {v : Value} {L : List VT}
theorem Hd.but (h : Hd w B p jx jm b0 b1 s g pa pm pc PM v L wr) (hp : w.heap.size + 1 < p) (hx : p < jx) (hm : p < jm) (h0 : p < b0) (h1 : p < b1) (hc : CurOk w' B p) (hb : But p wr w') : Hd w B p jx jm b0 b1 s g pa pm pc PM v L w' :=
  ⟨h.1.but hb (by omega), own_butK h.2.1 hb h1, h.2.2.1.but hb (by omega), ⟨h.2.2.2.1.1.but hb (by omega), h.2.2.2.1.2.but hb h.2.2.2.1.1.1 (by omega)⟩, h.2.2.2.2.1.but hb (by omega), own_butK h.2.2.2.2.2.1 hb h0, hc, h.2.2.2.2.2.2.2.trans (hb.below (by omega) h.2.2.2.2.2.2.2.size)⟩
theorem Hd.msg (h : Hd w B p jx jm b0 b1 s g pa pm pc PM v L wr) (hb : But jm wr w') (hm : MsgIn w' jm) (hx : jx < jm) (hp : p < jm) (hw : w.heap.size + 1 < jm) (hV : ∀ q, v.ownBlock = some q → q < jm) (hP : ∀ q, (Value.slice pa pm pc).ownBlock = some q → q < jm) : Hd w B p jx jm b0 b1 s g pa pm pc PM v L w' :=
  ⟨h.1.but hb (by omega), own_neK h.2.1 hb (fun q hq => Nat.ne_of_lt (hP q hq)), h.2.2.1.but hb (by omega), ⟨h.2.2.2.1.1.but hb (by omega), h.2.2.2.1.2.but hb h.2.2.2.1.1.1 (by omega)⟩, hm, own_neK h.2.2.2.2.2.1 hb (fun q hq => Nat.ne_of_lt (hV q hq)), h.2.2.2.2.2.2.1.keptH hb.grK (fun k hk e => by (have e' := Option.some.inj e); omega), h.2.2.2.2.2.2.2.trans (hb.below (by omega) h.2.2.2.2.2.2.2.size)⟩
end
set_option maxRecDepth 100000 in
set_option maxHeartbeats 16000000 in
theorem DrawHear_any (a : Option Addr) (l cl : Nat) (w : World) (hl : l ≤ 1048576) (hcode : CodeB w w.heap.size a l) :
    Calls Tryd.prog 9 #[.slice a l cl] w fun e w' => ∃ (v : Value) (L : List VT) (s g : Int) (pa : Option Addr) (pm pc : Nat) (PM : Nat → SlT) (k fr tu no lo hi sl : Int) (bo : ByteArray) (ct : Int), e = .returned (.tuple #[v, .agg #[.int .i64 s, .int .i64 g, .slice pa pm pc], .agg #[.int .i64 k, .int .i64 fr, .int .i64 tu, .int .i64 no, .int .i64 lo, .int .i64 hi, .int .i64 sl, .string bo], .int .i64 ct]) ∧ L.length ≤ 8 ∧ pm ≤ 13 ∧ bo.size ≤ 100 ∧ w'.ownsRow w.heap.size 80 2 v L.length (vrow L) ∧ SrcC w' pa (pm * 2) (MFSlot PM) ∧ Below w.heap.size w w' := by
  have A0 := Below.nw w (.cells #[.int .i64 0, .int .i64 0, .slice none 0 0] 27)
  have A1 := Below.nw (w.alloc (.cells #[.int .i64 0, .int .i64 0, .slice none 0 0] 27)) (.cells #[.int .i64 0, .int .i64 0, .int .i64 0, .int .i64 0, .int .i64 0, .int .i64 0, .int .i64 0, .string ⟨#[]⟩] 31)
  have R := (Tx3.new w (.int .i64 0) (.int .i64 0) (.slice none 0 0) 27).below A1
  have Q := Box8.new (w.alloc (.cells #[.int .i64 0, .int .i64 0, .slice none 0 0] 27)) 0 0 0 0 0 0 0 ⟨#[]⟩ 31
  have U := Thaw8.new (w.alloc (.cells #[.int .i64 0, .int .i64 0, .slice none 0 0] 27)) 0 0 0 0 0 0 0 ⟨#[]⟩ 31
  simp only [World.size_alloc] at Q U
  replace A0 := A0.trans (A1.mono A0.size)
  have hcode' := (hcode.below A0).more A0.size
  clear hcode A1
  go_enter Tryd.func9, Tryd.ntmps9
  go_upto_region 1 with fail
  generalize (w.alloc (.cells #[.int .i64 0, .int .i64 0, .slice none 0 0] 27)).alloc (.cells #[.int .i64 0, .int .i64 0, .int .i64 0, .int .i64 0, .int .i64 0, .int .i64 0, .int .i64 0, .string ⟨#[]⟩] 31) = v0 at *
  go_wp2_with fail
  refine (l1New_any a l cl _ hl hcode').mono ?_
  rintro e w1 ⟨p, rfl, cur, nl⟩
  have hp1' := cur.lt
  have hpw : w.heap.size + 1 < p := by have := Q.1; omega
  have hvp : v0.heap.size ≤ p := hp1'.2
  replace U := U.belowB nl Q.1
  replace R := R.below nl
  replace Q := Q.below nl
  replace A0 := A0.trans (nl.mono A0.size)
  clear nl hcode'
  generalize v0.heap.size = B at *
  go_wp2_with fail
  refine (l16DrawHeard_any B p _ cur).mono ?_
  rintro e w2 ⟨v, L, rfl, hL, H⟩
  have bb := H.2.2
  have cc := H.2.1
  have OL := H.1
  have hp0 : p < w1.heap.size := hp1'.1
  have hs12 : w1.heap.size ≤ w2.heap.size := bb.2.2.2.1
  replace U := U.but bb Q.1 (by omega)
  replace R := R.but bb (by omega)
  replace Q := Q.but bb (by omega)
  replace A0 := A0.trans (bb.below (by omega) A0.size)
  clear bb cur H hp1'
  generalize w1.heap.size = b0 at *
  go_wp2_with fail
  refine (l13DrawAny_any B p _ cc).mono ?_
  rintro e w3 ⟨s, g, pa, pm, pc, PM, rfl, hpm, _, OP, cc, bb⟩
  have hp1 : p < w2.heap.size := by omega
  have hs23 : w2.heap.size ≤ w3.heap.size := bb.2.2.2.1
  replace U := U.but bb Q.1 (by omega)
  replace R := R.but bb (by omega)
  replace Q := Q.but bb (by omega)
  replace OL := own_butK OL bb hp0
  replace A0 := A0.trans (bb.below (by omega) A0.size)
  clear bb
  generalize w2.heap.size = b1 at *
  have hb := Below.nw w3 (.cells #[.int .i64 s, .int .i64 g, .slice pa pm pc] 27)
  have X := Tx3.new w3 (.int .i64 s) (.int .i64 g) (.slice pa pm pc) 27
  go_upto_region 4 with fail
  replace U := U.belowB hb Q.1
  replace R := R.below hb
  replace Q := Q.below hb
  replace A0 := A0.trans (hb.mono A0.size)
  replace cc := cc.below hb
  replace OP := own_belK' OP hb
  replace OL := own_belK' OL hb
  clear hb
  have hxx : w3.heap.size < (w3.alloc (.cells #[.int .i64 s, .int .i64 g, .slice pa pm pc] 27)).heap.size := X.1
  have hpx : p < w3.heap.size := by omega
  generalize w3.alloc (.cells #[.int .i64 s, .int .i64 g, .slice pa pm pc] 27) = v3 at *
  generalize w3.heap.size = jx at *
  go_wp2_with fail
  refine (l4DrawMsg_any B p _ cc).mono ?_
  rintro e w5 ⟨k, fr, tu, no, lo, hi, sl, bo, rfl, hbo, cc, bb⟩
  have hs35 : v3.heap.size ≤ w5.heap.size := bb.2.2.2.1
  replace U := U.but bb Q.1 (by omega)
  replace R := R.but bb (by omega)
  replace Q := Q.but bb (by omega)
  replace X := X.but bb (by omega)
  replace OL := own_butK OL bb hp0
  replace OP := own_butK OP bb hp1
  replace A0 := A0.trans (bb.below (by omega) A0.size)
  clear bb
  have hb := Below.nw w5 (.cells #[.int .i64 k, .int .i64 fr, .int .i64 tu, .int .i64 no, .int .i64 lo, .int .i64 hi, .int .i64 sl, .string bo] 31)
  have Y : MsgIn (w5.alloc (.cells #[.int .i64 k, .int .i64 fr, .int .i64 tu, .int .i64 no, .int .i64 lo, .int .i64 hi, .int .i64 sl, .string bo] 31)) w5.heap.size := ⟨k, fr, tu, no, lo, hi, sl, bo, Box8.new w5 k fr tu no lo hi sl bo 31, Thaw8.new w5 k fr tu no lo hi sl bo 31, hbo⟩
  have HV : Hid (∀ q, v.ownBlock = some q → q < w5.heap.size) := fun q hq => (World.ownsRow.lt OL q hq).2
  have HPQ : Hid (∀ q, (Value.slice pa pm pc).ownBlock = some q → q < w5.heap.size) := fun q hq => (World.ownsRow.lt OP q hq).2
  go_upto_region 5 with fail
  have T : Hd w B p jx w5.heap.size b0 b1 s g pa pm pc PM v L (w5.alloc (.cells #[.int .i64 k, .int .i64 fr, .int .i64 tu, .int .i64 no, .int .i64 lo, .int .i64 hi, .int .i64 sl, .string bo] 31)) := ⟨X.below hb, own_belK' OP hb, R.below hb, ⟨Q.below hb, U.belowB hb Q.1⟩, Y, own_belK' OL hb, cc.below hb, A0.trans (hb.mono A0.size)⟩
  have hjm : w.heap.size + 1 < w5.heap.size := Q.1
  have hxm : jx < w5.heap.size := X.1
  clear X OP R Q U Y OL cc A0 hb
  have hpm0 : p < w5.heap.size := by omega
  generalize w5.alloc (.cells #[.int .i64 k, .int .i64 fr, .int .i64 tu, .int .i64 no, .int .i64 lo, .int .i64 hi, .int .i64 sl, .string bo] 31) = v5 at *
  generalize w5.heap.size = jm at *
  clear hbo
  go_cut [28] (fun s28 wx => ∃ cb : Bool, s28 = .bool cb ∧ (cb = true → 0 < pm) ∧ Hd w B p jx jm b0 b1 s g pa pm pc PM v L wx)
  case first =>
    by_cases h0 : (0 : Int) < (pm : Int)
    · have HPM : Hid (0 < pm) := by rw [Hid]; omega
      obtain ⟨n0, n1, n2, n3, n4, n5, n6⟩ := id T.1
      go_wp2_with fail
      clear n0 n1 n2 n3 n4 n5 n6
      refine (l1Once_any B p 4 _ T.2.2.2.2.2.2.1).mono ?_; rintro e v6 ⟨oo, rfl, cc, bb⟩; replace T := T.but hpw hpx hpm0 hp0 hp1 cc bb; clear cc bb
      go_wp2_with fail
      go_meet
      case rel => exact ⟨_, rfl, fun _ => HPM.out, T⟩
    · obtain ⟨n0, n1, n2, n3, n4, n5, n6⟩ := id T.1
      go_wp2_with fail
      go_meet
      case rel => exact ⟨false, rfl, fun h => absurd h (by decide), T⟩
  case rest =>
    clear T
    obtain ⟨cb, rfl, hcb, T⟩ := hcut
    generalize wc = v6 at *
    go_upto_if 28 with fail
    go_cut [10] (fun _ wx => Hd w B p jx jm b0 b1 s g pa pm pc PM v L wx)
    case first =>
      cases cb
      · go_wp2_with fail
        go_meet
        case rel => exact T
      · have h0 : 0 < pm := hcb rfl
        clear hcb
        obtain ⟨n0, n1, n2, n3, n4, n5, n6⟩ := id T.1
        go_wp2_with fail
        clear n0 n1 n2 n3 n4 n5 n6
        refine (l1Below_any B p (pm : Int) _ T.2.2.2.2.2.2.1).mono ?_
        rintro e v7 ⟨x, rfl, x0, _, x1, _, cc, bb⟩
        replace T := T.but hpw hpx hpm0 hp0 hp1 cc bb
        clear cc bb
        have x2 := x1 (by omega)
        clear x1
        obtain ⟨i, rfl⟩ : ∃ i : Nat, x = (i : Int) := ⟨x.toNat, by omega⟩
        obtain ⟨pb, poff, rfl, hC⟩ : ∃ b off, pa = some ⟨b, off, none⟩ ∧ Cs v7 b off (pm * 2) (MFSlot PM) := by
          rcases ownS T.2.1 with r | r
          · exact absurd r (by omega)
          · exact r
        obtain ⟨po, plg, hPM⟩ := tupSlot PM i
        obtain ⟨c1, _⟩ := hC.elSlot (show i < pm by omega) hPM
        clear hC hPM
        obtain ⟨k, fr, tu, no, lo, hi, sl, bo, bx, tx, hbs⟩ := id T.2.2.2.2.1
        obtain ⟨q1, q2, q3⟩ := put8 bx tx 3 po 0 0 0 0 (i : Int) ⟨#[98]⟩
        have T9 := T.msg q3 ⟨_, _, _, _, _, _, _, _, q1, q2, by decide⟩ hxm hpm0 hjm HV.out HPQ.out
        clear q1 q2 q3
        obtain ⟨a0, a1, a2, a3, a4, a5, a6, a7, a8⟩ := bx
        obtain ⟨t0, t1, t2, t3, t4, t5, t6, t7⟩ := tx
        obtain ⟨n0, n1, n2, n3, n4, n5, n6⟩ := id T.1
        go_wp2_with fail
        go_meet
        case rel => exact T9
    case rest =>
      clear T
      have T := hcut
      clear hcut hcb
      generalize wc = v7 at *
      go_wp2_with fail
      refine (l1Once_any B p 8 _ T.2.2.2.2.2.2.1).mono ?_; rintro e v8 ⟨oo, rfl, cc, bb⟩; replace T := T.but hpw hpx hpm0 hp0 hp1 cc bb; clear cc bb
      go_upto_if 43 with fail
      go_cut [] (fun wx => Hd w B p jx jm b0 b1 s g pa pm pc PM v L wx)
      case first =>
        cases oo
        · go_wp2_with fail
          go_meet
          case rel => exact T
        · go_wp2_with fail
          refine (l1Below_any B p 17 _ T.2.2.2.2.2.2.1).mono ?_
          rintro e v9 ⟨x, rfl, _, _, _, _, cc, bb⟩
          replace T := T.but hpw hpx hpm0 hp0 hp1 cc bb
          clear cc bb
          obtain ⟨k, fr, tu, no, lo, hi, sl, bo, bx, tx, hbs⟩ := id T.2.2.2.2.1
          have T9 := T.msg ((But.refl jm v9).setCell 6 (.int .i64 x)) ⟨_, _, _, _, _, _, _, _, bx.set6 x, tx.set _ _, hbs⟩ hxm hpm0 hjm HV.out HPQ.out
          obtain ⟨a0, a1, a2, a3, a4, a5, a6, a7, a8⟩ := bx
          obtain ⟨t0, t1, t2, t3, t4, t5, t6, t7⟩ := tx
          go_wp2_with fail
          go_meet
          case rel => exact T9
      case rest =>
        clear T
        have T := hcut
        clear hcut
        generalize wc = v9 at *
        go_wp2_with fail
        refine (l1Below_any B p 200 _ T.2.2.2.2.2.2.1).mono ?_
        rintro e v10 ⟨ct0, rfl, _, _, _, _, cc, bb⟩
        replace T := T.but hpw hpx hpm0 hp0 hp1 cc bb
        clear cc bb
        go_wp2_with fail
        refine (l1Once_any B p 20 _ T.2.2.2.2.2.2.1).mono ?_; rintro e v11 ⟨oo, rfl, cc, bb⟩; replace T := T.but hpw hpx hpm0 hp0 hp1 cc bb; clear cc bb
        go_upto_if 50 with fail
        go_cut [11] (fun s11 wx => ∃ ct : Int, s11 = .int .i64 ct ∧ Hd w B p jx jm b0 b1 s g pa pm pc PM v L wx)
        case first =>
          cases oo
          · go_wp2_with fail
            go_meet
            case rel => exact ⟨_, rfl, T⟩
          · go_wp2_with fail
            refine (l2DrawCount_any B p _ T.2.2.2.2.2.2.1).mono ?_; rintro e v12 ⟨z, rfl, cc, bb⟩; replace T := T.but hpw hpx hpm0 hp0 hp1 cc bb; clear cc bb
            go_wp2_with fail
            go_meet
            case rel => exact ⟨_, rfl, T⟩
        case rest =>
          clear T
          obtain ⟨ct, rfl, T⟩ := hcut
          generalize wc = v13 at *
          obtain ⟨k, fr, tu, no, lo, hi, sl, bo', bx, tx, hbs⟩ := id T.2.2.2.2.1
          go_upto_region 13 with fail
          have S0 : Hid ((fun w' => w'.cell? ⟨jx, 0, none⟩ = some (.int .i64 s) ∧ w'.cell? ⟨jx, 1, none⟩ = some (.int .i64 g) ∧ w'.cell? ⟨jx, 2, none⟩ = some (.slice pa pm pc) ∧ w'.cell? ⟨jm, 0, none⟩ = some (.int .i64 k) ∧ w'.cell? ⟨jm, 1, none⟩ = some (.int .i64 fr) ∧ w'.cell? ⟨jm, 2, none⟩ = some (.int .i64 tu) ∧ w'.cell? ⟨jm, 3, none⟩ = some (.int .i64 no) ∧ w'.cell? ⟨jm, 4, none⟩ = some (.int .i64 lo) ∧ w'.cell? ⟨jm, 5, none⟩ = some (.int .i64 hi) ∧ w'.cell? ⟨jm, 6, none⟩ = some (.int .i64 sl) ∧ w'.cell? ⟨jm, 7, none⟩ = some (.string bo')) v13.drew) := ⟨T.1.2.1, T.1.2.2.1, T.1.2.2.2.1, bx.2.1, bx.2.2.1, bx.2.2.2.1, bx.2.2.2.2.1, bx.2.2.2.2.2.1, bx.2.2.2.2.2.2.1, bx.2.2.2.2.2.2.2.1, bx.2.2.2.2.2.2.2.2⟩
          refine wp_region_held_drew (S := (fun w' => w'.cell? ⟨jx, 0, none⟩ = some (.int .i64 s) ∧ w'.cell? ⟨jx, 1, none⟩ = some (.int .i64 g) ∧ w'.cell? ⟨jx, 2, none⟩ = some (.slice pa pm pc) ∧ w'.cell? ⟨jm, 0, none⟩ = some (.int .i64 k) ∧ w'.cell? ⟨jm, 1, none⟩ = some (.int .i64 fr) ∧ w'.cell? ⟨jm, 2, none⟩ = some (.int .i64 tu) ∧ w'.cell? ⟨jm, 3, none⟩ = some (.int .i64 no) ∧ w'.cell? ⟨jm, 4, none⟩ = some (.int .i64 lo) ∧ w'.cell? ⟨jm, 5, none⟩ = some (.int .i64 hi) ∧ w'.cell? ⟨jm, 6, none⟩ = some (.int .i64 sl) ∧ w'.cell? ⟨jm, 7, none⟩ = some (.string bo'))) (by kernel_rfl) ?_ (fun hHeld => ?_)
          · exact S0.out
          clear S0
          have XB : Below v13.heap.size v13 v13.drew := Below.drew (Below.refl _ _)
          have X0 := T.1.below XB
          have O0 := own_belK' T.2.1 XB
          have R0 := T.2.2.1.below XB
          have Q0 := T.2.2.2.1.1.below XB
          have U0 := T.2.2.2.1.2.belowB XB T.2.2.2.1.1.1
          have L0 := own_belK' T.2.2.2.2.2.1 XB
          have B0 := T.2.2.2.2.2.2.2.trans (XB.mono T.2.2.2.2.2.2.2.size)
          replace bx := bx.below XB
          have hjx' : w.heap.size + 1 < jx := by omega
          clear XB T tx
          generalize v13.drew = vx at *
          have RR := ((R0.set0 (.int .i64 s)).set1 (.int .i64 g)).set2 (.slice pa pm pc)
          have bz : But w.heap.size vx (((vx.setCell ⟨w.heap.size, 0, none⟩ (.int .i64 s)).setCell ⟨w.heap.size, 1, none⟩ (.int .i64 g)).setCell ⟨w.heap.size, 2, none⟩ (.slice pa pm pc)) := (((But.refl w.heap.size vx).setCell 0 (.int .i64 s)).setCell 1 (.int .i64 g)).setCell 2 (.slice pa pm pc)
          have Q3 := Q0.but bz (by omega)
          have U3 := U0.but bz Q0.1 (by omega)
          have X3 := X0.but bz (by omega)
          have b3 := bx.but bz (by omega)
          have O3 := own_butK O0 bz (by omega)
          have L3 := own_butK L0 bz (by omega)
          have B3 := B0.trans (bz.below (Nat.le_refl _) B0.size)
          have S3 : Hid (∀ u : Unit, (fun w' => w'.cell? ⟨jx, 0, none⟩ = some (.int .i64 s) ∧ w'.cell? ⟨jx, 1, none⟩ = some (.int .i64 g) ∧ w'.cell? ⟨jx, 2, none⟩ = some (.slice pa pm pc) ∧ w'.cell? ⟨jm, 0, none⟩ = some (.int .i64 k) ∧ w'.cell? ⟨jm, 1, none⟩ = some (.int .i64 fr) ∧ w'.cell? ⟨jm, 2, none⟩ = some (.int .i64 tu) ∧ w'.cell? ⟨jm, 3, none⟩ = some (.int .i64 no) ∧ w'.cell? ⟨jm, 4, none⟩ = some (.int .i64 lo) ∧ w'.cell? ⟨jm, 5, none⟩ = some (.int .i64 hi) ∧ w'.cell? ⟨jm, 6, none⟩ = some (.int .i64 sl) ∧ w'.cell? ⟨jm, 7, none⟩ = some (.string bo')) (((vx.setCell ⟨w.heap.size, 0, none⟩ (.int .i64 s)).setCell ⟨w.heap.size, 1, none⟩ (.int .i64 g)).setCell ⟨w.heap.size, 2, none⟩ (.slice pa pm pc))) := fun _ => ⟨X3.2.1, X3.2.2.1, X3.2.2.2.1, b3.2.1, b3.2.2.1, b3.2.2.2.1, b3.2.2.2.2.1, b3.2.2.2.2.2.1, b3.2.2.2.2.2.2.1, b3.2.2.2.2.2.2.2.1, b3.2.2.2.2.2.2.2.2⟩
          obtain ⟨q1, q2, q3⟩ := put8 Q3 U3 k fr tu no lo hi sl bo'
          have R9 := RR.but q3 (by omega)
          have X9 := X3.but q3 (by omega)
          have b9 := b3.but q3 (by omega)
          have O9 := ownS (own_butK O3 q3 (by omega))
          have L9 := own_baseI16 (base := w.heap.size) (own_butK L3 q3 (by omega)) (by omega)
          have B9 := B3.trans (q3.below (by omega) B3.size)
          have S11 : Hid (∀ u : Unit, (fun w' => w'.cell? ⟨jx, 0, none⟩ = some (.int .i64 s) ∧ w'.cell? ⟨jx, 1, none⟩ = some (.int .i64 g) ∧ w'.cell? ⟨jx, 2, none⟩ = some (.slice pa pm pc) ∧ w'.cell? ⟨jm, 0, none⟩ = some (.int .i64 k) ∧ w'.cell? ⟨jm, 1, none⟩ = some (.int .i64 fr) ∧ w'.cell? ⟨jm, 2, none⟩ = some (.int .i64 tu) ∧ w'.cell? ⟨jm, 3, none⟩ = some (.int .i64 no) ∧ w'.cell? ⟨jm, 4, none⟩ = some (.int .i64 lo) ∧ w'.cell? ⟨jm, 5, none⟩ = some (.int .i64 hi) ∧ w'.cell? ⟨jm, 6, none⟩ = some (.int .i64 sl) ∧ w'.cell? ⟨jm, 7, none⟩ = some (.string bo')) ((((((((((((vx.setCell ⟨w.heap.size, 0, none⟩ (.int .i64 s)).setCell ⟨w.heap.size, 1, none⟩ (.int .i64 g)).setCell ⟨w.heap.size, 2, none⟩ (.slice pa pm pc)).setCell ⟨w.heap.size + 1, 0, none⟩ (.int .i64 (k))).setCell ⟨w.heap.size + 1, 1, none⟩ (.int .i64 (fr))).setCell ⟨w.heap.size + 1, 2, none⟩ (.int .i64 (tu))).setCell ⟨w.heap.size + 1, 3, none⟩ (.int .i64 (no))).setCell ⟨w.heap.size + 1, 4, none⟩ (.int .i64 (lo))).setCell ⟨w.heap.size + 1, 5, none⟩ (.int .i64 (hi))).setCell ⟨w.heap.size + 1, 6, none⟩ (.int .i64 (sl))).setCell ⟨w.heap.size + 1, 7, none⟩ (.string (bo'))))) := fun _ => ⟨X9.2.1, X9.2.2.1, X9.2.2.2.1, b9.2.1, b9.2.2.1, b9.2.2.2.1, b9.2.2.2.2.1, b9.2.2.2.2.2.1, b9.2.2.2.2.2.2.1, b9.2.2.2.2.2.2.2.1, b9.2.2.2.2.2.2.2.2⟩
          have HR0 : Hid (Tx3 vx w.heap.size (.int .i64 0) (.int .i64 0) (.slice none 0 0)) := R0
          have HQ3 : Hid (Box8 (((vx.setCell ⟨w.heap.size, 0, none⟩ (.int .i64 s)).setCell ⟨w.heap.size, 1, none⟩ (.int .i64 g)).setCell ⟨w.heap.size, 2, none⟩ (.slice pa pm pc)) (w.heap.size + 1) 0 0 0 0 0 0 0 ⟨#[]⟩) := Q3
          have HU3 : Hid (Thaw8 (((vx.setCell ⟨w.heap.size, 0, none⟩ (.int .i64 s)).setCell ⟨w.heap.size, 1, none⟩ (.int .i64 g)).setCell ⟨w.heap.size, 2, none⟩ (.slice pa pm pc)) (w.heap.size + 1)) := U3
          have HR9 : Hid (Tx3 ((((((((((((vx.setCell ⟨w.heap.size, 0, none⟩ (.int .i64 s)).setCell ⟨w.heap.size, 1, none⟩ (.int .i64 g)).setCell ⟨w.heap.size, 2, none⟩ (.slice pa pm pc)).setCell ⟨w.heap.size + 1, 0, none⟩ (.int .i64 (k))).setCell ⟨w.heap.size + 1, 1, none⟩ (.int .i64 (fr))).setCell ⟨w.heap.size + 1, 2, none⟩ (.int .i64 (tu))).setCell ⟨w.heap.size + 1, 3, none⟩ (.int .i64 (no))).setCell ⟨w.heap.size + 1, 4, none⟩ (.int .i64 (lo))).setCell ⟨w.heap.size + 1, 5, none⟩ (.int .i64 (hi))).setCell ⟨w.heap.size + 1, 6, none⟩ (.int .i64 (sl))).setCell ⟨w.heap.size + 1, 7, none⟩ (.string (bo')))) w.heap.size (.int .i64 s) (.int .i64 g) (.slice pa pm pc)) := R9
          have Hq1 : Hid (Box8 ((((((((((((vx.setCell ⟨w.heap.size, 0, none⟩ (.int .i64 s)).setCell ⟨w.heap.size, 1, none⟩ (.int .i64 g)).setCell ⟨w.heap.size, 2, none⟩ (.slice pa pm pc)).setCell ⟨w.heap.size + 1, 0, none⟩ (.int .i64 (k))).setCell ⟨w.heap.size + 1, 1, none⟩ (.int .i64 (fr))).setCell ⟨w.heap.size + 1, 2, none⟩ (.int .i64 (tu))).setCell ⟨w.heap.size + 1, 3, none⟩ (.int .i64 (no))).setCell ⟨w.heap.size + 1, 4, none⟩ (.int .i64 (lo))).setCell ⟨w.heap.size + 1, 5, none⟩ (.int .i64 (hi))).setCell ⟨w.heap.size + 1, 6, none⟩ (.int .i64 (sl))).setCell ⟨w.heap.size + 1, 7, none⟩ (.string (bo')))) (w.heap.size + 1) k fr tu no lo hi sl bo') := q1
          have HO9 : Hid (SrcC ((((((((((((vx.setCell ⟨w.heap.size, 0, none⟩ (.int .i64 s)).setCell ⟨w.heap.size, 1, none⟩ (.int .i64 g)).setCell ⟨w.heap.size, 2, none⟩ (.slice pa pm pc)).setCell ⟨w.heap.size + 1, 0, none⟩ (.int .i64 (k))).setCell ⟨w.heap.size + 1, 1, none⟩ (.int .i64 (fr))).setCell ⟨w.heap.size + 1, 2, none⟩ (.int .i64 (tu))).setCell ⟨w.heap.size + 1, 3, none⟩ (.int .i64 (no))).setCell ⟨w.heap.size + 1, 4, none⟩ (.int .i64 (lo))).setCell ⟨w.heap.size + 1, 5, none⟩ (.int .i64 (hi))).setCell ⟨w.heap.size + 1, 6, none⟩ (.int .i64 (sl))).setCell ⟨w.heap.size + 1, 7, none⟩ (.string (bo')))) pa (pm * 2) (MFSlot PM)) := O9
          have HL9 : Hid (((((((((((((vx.setCell ⟨w.heap.size, 0, none⟩ (.int .i64 s)).setCell ⟨w.heap.size, 1, none⟩ (.int .i64 g)).setCell ⟨w.heap.size, 2, none⟩ (.slice pa pm pc)).setCell ⟨w.heap.size + 1, 0, none⟩ (.int .i64 (k))).setCell ⟨w.heap.size + 1, 1, none⟩ (.int .i64 (fr))).setCell ⟨w.heap.size + 1, 2, none⟩ (.int .i64 (tu))).setCell ⟨w.heap.size + 1, 3, none⟩ (.int .i64 (no))).setCell ⟨w.heap.size + 1, 4, none⟩ (.int .i64 (lo))).setCell ⟨w.heap.size + 1, 5, none⟩ (.int .i64 (hi))).setCell ⟨w.heap.size + 1, 6, none⟩ (.int .i64 (sl))).setCell ⟨w.heap.size + 1, 7, none⟩ (.string (bo')))).ownsRow w.heap.size 80 2 v L.length (vrow L)) := L9
          have HB9 : Hid (Below w.heap.size w ((((((((((((vx.setCell ⟨w.heap.size, 0, none⟩ (.int .i64 s)).setCell ⟨w.heap.size, 1, none⟩ (.int .i64 g)).setCell ⟨w.heap.size, 2, none⟩ (.slice pa pm pc)).setCell ⟨w.heap.size + 1, 0, none⟩ (.int .i64 (k))).setCell ⟨w.heap.size + 1, 1, none⟩ (.int .i64 (fr))).setCell ⟨w.heap.size + 1, 2, none⟩ (.int .i64 (tu))).setCell ⟨w.heap.size + 1, 3, none⟩ (.int .i64 (no))).setCell ⟨w.heap.size + 1, 4, none⟩ (.int .i64 (lo))).setCell ⟨w.heap.size + 1, 5, none⟩ (.int .i64 (hi))).setCell ⟨w.heap.size + 1, 6, none⟩ (.int .i64 (sl))).setCell ⟨w.heap.size + 1, 7, none⟩ (.string (bo'))))) := B9
          clear Q3 U3 X3 b3 O3 L3 B3 X9 b9 q2 q3 bz RR X0 O0 R0 Q0 U0 L0 B0 bx R9 q1 O9 L9 B9
          refine wpAnyH_take (i := 0) (v := ?_) (by rw [List.getElem?_toArray]; rfl) (by kernel_rfl) (by kernel_rfl) (by kernel_rfl) (by intro _ _ _ h; exact h) (Or.inl ⟨by rfl, ?_⟩) (by assumption) ?_
          rotate_left
          · (intro w hSw; (try dsimp only at hSw); go_simp; all_goals with_reducible rfl)
          (try simp only [Act.put, List.setIfInBounds_toArray, List.set_cons_zero, List.set_cons_succ])
          refine wpAnyH_take (i := 1) (v := ?_) (by rw [List.getElem?_toArray]; rfl) (by kernel_rfl) (by kernel_rfl) (by kernel_rfl) (by intro _ _ _ h; exact h) (Or.inl ⟨by rfl, ?_⟩) (by assumption) ?_
          rotate_left
          · (intro w hSw; (try dsimp only at hSw); go_simp; all_goals with_reducible rfl)
          (try simp only [Act.put, List.setIfInBounds_toArray, List.set_cons_zero, List.set_cons_succ])
          refine wpAnyH_take (i := 2) (v := ?_) (by rw [List.getElem?_toArray]; rfl) (by kernel_rfl) (by kernel_rfl) (by kernel_rfl) (by intro _ _ _ h; exact h) (Or.inl ⟨by rfl, ?_⟩) (by assumption) ?_
          rotate_left
          · (intro w hSw; (try dsimp only at hSw); go_simp; all_goals with_reducible rfl)
          (try simp only [Act.put, List.setIfInBounds_toArray, List.set_cons_zero, List.set_cons_succ])
          refine wpAnyH_take (i := 3) (v := ?_) (by rw [List.getElem?_toArray]; rfl) (by kernel_rfl) (by kernel_rfl) (by kernel_rfl) (by intro _ _ _ h; exact h) (Or.inl ⟨by rfl, ?_⟩) (by assumption) ?_
          rotate_left
          · (intro w hSw; (try dsimp only at hSw); go_simp; all_goals with_reducible rfl)
          (try simp only [Act.put, List.setIfInBounds_toArray, List.set_cons_zero, List.set_cons_succ])
          refine wpAnyH_take (i := 4) (v := ?_) (by rw [List.getElem?_toArray]; rfl) (by kernel_rfl) (by kernel_rfl) (by kernel_rfl) (by intro _ _ _ h; exact h) (Or.inl ⟨by rfl, ?_⟩) (by assumption) ?_
          rotate_left
          · (intro w hSw; (try dsimp only at hSw); go_simp; all_goals with_reducible rfl)
          (try simp only [Act.put, List.setIfInBounds_toArray, List.set_cons_zero, List.set_cons_succ])
          refine wpAnyH_ready (rs := [5]) (by kernel_rfl) (by simp) ?_
          refine AllReadyH.cons (by rw [List.getElem?_toArray]; rfl) (fun K hK => ?_) AllReadyH.nil
          obtain ⟨a0, a1, a2, a3, a4, a5, a6⟩ := HR0.out
          go_simp
          refine hK.out _ _ ?_ (fun hHeld => ?_)
          · exact S3.out ()
          clear hK K
          clear a0 a1 a2 a3 a4 a5 a6
          (try simp only [Act.put, List.setIfInBounds_toArray, List.set_cons_zero, List.set_cons_succ])
          refine wpAnyH_ready (rs := [6]) (by kernel_rfl) (by simp) ?_
          refine AllReadyH.cons (by rw [List.getElem?_toArray]; rfl) (fun K hK => ?_) AllReadyH.nil
          obtain ⟨d0, d1, d2, d3, d4, d5, d6, d7, d8⟩ := HQ3.out; obtain ⟨e0, e1, e2, e3, e4, e5, e6, e7⟩ := HU3.out
          go_simp
          refine hK.out _ _ ?_ (fun hHeld => ?_)
          · exact S11.out ()
          clear hK K
          clear d0 d1 d2 d3 d4 d5 d6 d7 d8 e0 e1 e2 e3 e4 e5 e6 e7
          (try simp only [Act.put, List.setIfInBounds_toArray, List.set_cons_zero, List.set_cons_succ])
          refine wpAnyH_take (i := 7) (v := ?_) (by rw [List.getElem?_toArray]; rfl) (by kernel_rfl) (by kernel_rfl) (by kernel_rfl) (by intro _ _ _ h; exact h) (Or.inl ⟨by rfl, ?_⟩) (by assumption) ?_
          rotate_left
          · (intro w hSw; (try dsimp only at hSw); go_simp; all_goals with_reducible rfl)
          (try simp only [Act.put, List.setIfInBounds_toArray, List.set_cons_zero, List.set_cons_succ])
          refine wpAnyH_done (by kernel_rfl) ?_ _
          clear S3 S11 hHeld HR0 HQ3 HU3
          go_wp2_with fail
          generalize (((((((((((vx.setCell ⟨w.heap.size, 0, none⟩ (.int .i64 s)).setCell ⟨w.heap.size, 1, none⟩ (.int .i64 g)).setCell ⟨w.heap.size, 2, none⟩ (.slice pa pm pc)).setCell ⟨w.heap.size + 1, 0, none⟩ (.int .i64 (k))).setCell ⟨w.heap.size + 1, 1, none⟩ (.int .i64 (fr))).setCell ⟨w.heap.size + 1, 2, none⟩ (.int .i64 (tu))).setCell ⟨w.heap.size + 1, 3, none⟩ (.int .i64 (no))).setCell ⟨w.heap.size + 1, 4, none⟩ (.int .i64 (lo))).setCell ⟨w.heap.size + 1, 5, none⟩ (.int .i64 (hi))).setCell ⟨w.heap.size + 1, 6, none⟩ (.int .i64 (sl))).setCell ⟨w.heap.size + 1, 7, none⟩ (.string (bo'))) = vz at *
          obtain ⟨r0, r1, r2, r3, r4, r5, r6⟩ := HR9.out
          obtain ⟨g0, g1, g2, g3, g4, g5, g6, g7, g8⟩ := Hq1.out
          exact bodyPost_ret (v := .tuple #[v, .agg #[.int .i64 s, .int .i64 g, .slice pa pm pc], .agg #[.int .i64 k, .int .i64 fr, .int .i64 tu, .int .i64 no, .int .i64 lo, .int .i64 hi, .int .i64 sl, .string bo'], .int .i64 ct]) (by simp (maxDischargeDepth := 6) [results, Tryd.results9, go_sem, r1, r2, r3, g1, g2, g3, g4, g5, g6, g7, g8]) rfl ⟨v, L, s, g, pa, pm, pc, PM, k, fr, tu, no, lo, hi, sl, bo', ct, rfl, hL, hpm, hbs, HL9.out, HO9.out, HB9.out⟩
end Go.Proofs.YtdahabbdhjgpdaaDoor
namespace Go.Proofs.YtdahabbdhjgpdaaDoor
open Go.RowKit
set_option linter.unusedVariables false
set_option maxRecDepth 100000 in
set_option maxHeartbeats 8000000 in
theorem sameHeard_some (b off b' off' n c c' : Nat) (M : Nat → VT) (w : World) (hn : n ≤ 900) (hf : Cs w b off (n * 2) (MFIval M)) (hg : Cs w b' off' (n * 2) (MFIval M)) :
    Calls Tryd.prog 12 #[.slice (some ⟨b, off, none⟩) n c, .slice (some ⟨b', off', none⟩) n c'] w fun e w' => e = .returned (.bool true) ∧ Below w.heap.size w w' := by
  go_enter Tryd.func12, Tryd.ntmps12
  go_wp2_with fail
  go_loopw [5] (fun i wr => ∃ k : Nat, k ≤ n ∧ i = .int .i64 k ∧ Below w.heap.size w wr) (fun i _ => n - (intOf i).toNat)
  case atStart => exact ⟨0, Nat.zero_le _, rfl, Below.refl _ _⟩
  case round =>
    obtain ⟨k, hk, rfl, hB⟩ := hrel
    by_cases hlt : k < n
    · obtain ⟨x0, x1, hM⟩ := tupIval M k
      obtain ⟨c0, c1⟩ := (hf.below hB hf.1).elIval hlt hM
      obtain ⟨d0, d1⟩ := (hg.below hB hg.1).elIval hlt hM
      have hb1 : b < wr.drew.heap.size := Nat.lt_of_lt_of_le hf.1 hB.size
      have hb2 : b' < wr.drew.heap.size := Nat.lt_of_lt_of_le hg.1 hB.size
      have hli : (k : Int) < (n : Int) := by omega
      clear hM
      go_wp2_with fail
      refine wp_region_held_drew (S := (fun w' => w'.cell? ⟨b, off + k * 2, none⟩ = some (.int .i64 x0) ∧ w'.cell? ⟨b, off + k * 2 + 1, none⟩ = some (.int .i64 x1) ∧ w'.cell? ⟨b', off' + k * 2, none⟩ = some (.int .i64 x0) ∧ w'.cell? ⟨b', off' + k * 2 + 1, none⟩ = some (.int .i64 x1))) (by kernel_rfl) ?_ (fun hHeld => ?_)
      · first | exact ⟨c0, c1, d0, d1⟩ | (simp (maxDischargeDepth := 6) [go_sem, *]; done)
      refine wpAnyH_take (i := 0) (v := ?_) (by rw [List.getElem?_toArray]; rfl) (by kernel_rfl) (by kernel_rfl) (by kernel_rfl) (by intro _ _ _ h; exact h) (Or.inl ⟨by rfl, ?_⟩) (by assumption) ?_
      rotate_left
      · (intro w hSw; (try dsimp only at hSw); go_simp; all_goals with_reducible rfl)
      (try simp only [Act.put, List.setIfInBounds_toArray, List.set_cons_zero, List.set_cons_succ])
      refine wpAnyH_take (i := 1) (v := ?_) (by rw [List.getElem?_toArray]; rfl) (by kernel_rfl) (by kernel_rfl) (by kernel_rfl) (by intro _ _ _ h; exact h) (Or.inl ⟨by rfl, ?_⟩) (by assumption) ?_
      rotate_left
      · (intro w hSw; (try dsimp only at hSw); go_simp; all_goals with_reducible rfl)
      (try simp only [Act.put, List.setIfInBounds_toArray, List.set_cons_zero, List.set_cons_succ])
      refine wpAnyH_take (i := 2) (v := ?_) (by rw [List.getElem?_toArray]; rfl) (by kernel_rfl) (by kernel_rfl) (by kernel_rfl) (by intro _ _ _ h; exact h) (Or.inl ⟨by rfl, ?_⟩) (by assumption) ?_
      rotate_left
      · (intro w hSw; (try dsimp only at hSw); go_simp; all_goals with_reducible rfl)
      (try simp only [Act.put, List.setIfInBounds_toArray, List.set_cons_zero, List.set_cons_succ])
      refine wpAnyH_take (i := 3) (v := ?_) (by rw [List.getElem?_toArray]; rfl) (by kernel_rfl) (by kernel_rfl) (by kernel_rfl) (by intro _ _ _ h; exact h) (Or.inl ⟨by rfl, ?_⟩) (by assumption) ?_
      rotate_left
      · (intro w hSw; (try dsimp only at hSw); go_simp; all_goals with_reducible rfl)
      (try simp only [Act.put, List.setIfInBounds_toArray, List.set_cons_zero, List.set_cons_succ])
      refine wpAnyH_take (i := 4) (v := ?_) (by rw [List.getElem?_toArray]; rfl) (by kernel_rfl) (by kernel_rfl) (by kernel_rfl) (by intro _ _ _ h; exact h) (Or.inl ⟨by rfl, ?_⟩) (by assumption) ?_
      rotate_left
      · (intro w hSw; (try dsimp only at hSw); go_simp; all_goals with_reducible rfl)
      (try simp only [Act.put, List.setIfInBounds_toArray, List.set_cons_zero, List.set_cons_succ])
      refine wpAnyH_take (i := 5) (v := ?_) (by rw [List.getElem?_toArray]; rfl) (by kernel_rfl) (by kernel_rfl) (by kernel_rfl) (by intro _ _ _ h; exact h) (Or.inl ⟨by rfl, ?_⟩) (by assumption) ?_
      rotate_left
      · (intro w hSw; (try dsimp only at hSw); go_simp; all_goals with_reducible rfl)
      (try simp only [Act.put, List.setIfInBounds_toArray, List.set_cons_zero, List.set_cons_succ])
      refine wpAnyH_take (i := 6) (v := ?_) (by rw [List.getElem?_toArray]; rfl) (by kernel_rfl) (by kernel_rfl) (by kernel_rfl) (by intro _ _ _ h; exact h) (Or.inl ⟨by rfl, ?_⟩) (by assumption) ?_
      rotate_left
      · (intro w hSw; (try dsimp only at hSw); go_simp; all_goals with_reducible rfl)
      (try simp only [Act.put, List.setIfInBounds_toArray, List.set_cons_zero, List.set_cons_succ])
      refine wpAnyH_take (i := 7) (v := ?_) (by rw [List.getElem?_toArray]; rfl) (by kernel_rfl) (by kernel_rfl) (by kernel_rfl) (by intro _ _ _ h; exact h) (Or.inl ⟨by rfl, ?_⟩) (by assumption) ?_
      rotate_left
      · (intro w hSw; (try dsimp only at hSw); go_simp; all_goals with_reducible rfl)
      (try simp only [Act.put, List.setIfInBounds_toArray, List.set_cons_zero, List.set_cons_succ])
      refine wpAnyH_take (i := 8) (v := ?_) (by rw [List.getElem?_toArray]; rfl) (by kernel_rfl) (by kernel_rfl) (by kernel_rfl) (by intro _ _ _ h; exact h) (Or.inl ⟨by rfl, ?_⟩) (by assumption) ?_
      rotate_left
      · (intro w hSw; (try dsimp only at hSw); go_simp; all_goals with_reducible rfl)
      (try simp only [Act.put, List.setIfInBounds_toArray, List.set_cons_zero, List.set_cons_succ])
      refine wpAnyH_done (by kernel_rfl) ?_ _
      (try go_wp2_with fail)
      go_roundw
      case rel => exact ⟨k + 1, by omega, by go_num, Below.drew hB⟩
      case measure => simp [intOf]; omega
    · have hkk : k = n := by omega
      subst hkk
      go_wp2_with fail
      go_ret
      exact ⟨rfl, hB⟩
theorem sameHeard_zero (a a' : Option Addr) (c c' : Nat) (w : World) :
    Calls Tryd.prog 12 #[.slice a 0 c, .slice a' 0 c'] w fun e w' => e = .returned (.bool true) ∧ Below w.heap.size w w' := by
  go_enter Tryd.func12, Tryd.ntmps12
  go_wp2_with fail
  go_loopw [5] (fun i wr => i = .int .i64 0 ∧ w = wr) (fun i _ => 0)
  case atStart => exact ⟨rfl, rfl⟩
  case round =>
    obtain ⟨rfl, rfl⟩ := hrel
    go_wp2_with fail
    go_ret
    exact ⟨rfl, Below.refl _ _⟩
theorem sameHeard_src {w : World} {n c c' : Nat} {a a' : Option Addr} {M : Nat → VT} (hn : n ≤ 900) (h1 : SrcC w a (n * 2) (MFIval M)) (h2 : SrcC w a' (n * 2) (MFIval M)) :
    Calls Tryd.prog 12 #[.slice a n c, .slice a' n c'] w fun e w' => e = .returned (.bool true) ∧ Below w.heap.size w w' := by
  by_cases h0 : n = 0
  · subst h0
    exact sameHeard_zero a a' c c' w
  · obtain ⟨b, off, rfl, C1⟩ := h1.resolve_left (by omega)
    obtain ⟨b', off', rfl, C2⟩ := h2.resolve_left (by omega)
    exact sameHeard_some b off b' off' n c c' M w hn C1 C2
set_option maxRecDepth 100000 in
set_option maxHeartbeats 4000000 in
theorem wth_any (a : Option Addr) (l c : Nat) (f : Nat → Int) (x : Int) (w : World) (hm : l ≤ 1048576) (hs : SrcC w a (l * 1) (MFInt f)) :
    Calls Tryd.prog 16 #[.slice a l c, .int .i64 x] w fun e w' => e = .returned (.bool (hasJ f x l)) ∧ w = w' := by
  have HS : Hid (SrcC w a (l * 1) (MFInt f)) := hs
  clear hs
  go_enter Tryd.func16, Tryd.ntmps16
  go_wp2_with fail
  go_loopw [5] (fun i wr => ∃ (j : Nat), j ≤ l ∧ i = .int .i64 j ∧ hasJ f x j = false ∧ w = wr) (fun i _ => l - (intOf i).toNat)
  case atStart => exact ⟨0, Nat.zero_le _, rfl, rfl, by first | rfl | trivial⟩
  case round =>
    obtain ⟨j, hj2, rfl, hno, rfl⟩ := hrel
    by_cases hlt : j < l
    · obtain ⟨b, off, rfl, c1⟩ := iloo HS.out hlt
      have HLT : Hid (j < l) := hlt
      have hli : (j : Int) < (l : Int) := by omega
      have HE : Hid (hasJ f x (j + 1) = (f j == x)) := by rw [Hid, hasJ, hno, Bool.false_or]
      have HY : Hid ((f j == x) = true → hasJ f x l = true) := fun h => hasJ_yes (beq_iff_eq.1 h) hlt
      clear hno hlt hj2
      generalize f j = y at *
      cases ho : (y == x)
      · rw [ho] at HE
        clear HY
        go_wp2_with fail
        go_roundw
        case rel => exact ⟨j + 1, HLT.out, by go_num, HE.out, by first | rfl | trivial⟩
        case measure => have hlt' := HLT.out; simp [intOf]; omega
      · have hy := HY.out ho
        have HH : Hid (hasJ f x l = true) := hy
        clear HE HY hy
        go_wp2_with fail
        go_ret
        exact ⟨by rw [HH.out]; rfl, rfl⟩
    · have hkn : j = l := by omega
      subst hkn
      have hli : ¬ (j : Int) < (j : Int) := by omega
      have HH : Hid (hasJ f x j = false) := hno
      clear hno hlt hj2
      go_wp2_with fail
      go_ret
      exact ⟨by rw [HH.out]; rfl, rfl⟩
end Go.Proofs.YtdahabbdhjgpdaaDoor
namespace Go.Proofs.YtdahabbdhjgpdaaDoor
open Go.RowKit
set_option linter.unusedVariables false
set_option maxHeartbeats 2000000 in
theorem szPlan_any (ep us : Int) (a : Option Addr) (n c : Nat) (w : World) (hm : n ≤ maxLen) :
    Calls Tryd.prog 21 #[.agg #[.int .i64 ep, .int .i64 us, .slice a n c], .int .i64 1048576] w fun e w' => ∃ L : Int, e = .returned (.int .i64 L) ∧ (0 ≤ L → n ≤ 1048576) ∧ Below w.heap.size w w' := by
  have A0 := Below.nw w (.cells #[.int .i64 ep, .int .i64 us, .slice a n c] 49)
  by_cases h : (n : Int) ≤ 1048576
  · have hneg : ¬ (1048576 - (n : Int) < 0) := by omega
    go_enter Tryd.func21, Tryd.ntmps21
    go_wp2_with fail
    refine (szSlotS_any _ _ _ _ _ hm (by omega) (by omega)).mono ?_
    rintro e w1 ⟨rfl, rfl⟩
    rw [if_pos h]
    go_wp2_with fail
    go_ret
    exact ⟨_, rfl, fun _ => by omega, A0⟩
  · go_enter Tryd.func21, Tryd.ntmps21
    go_wp2_with fail
    refine (szSlotS_any _ _ _ _ _ hm (by omega) (by omega)).mono ?_
    rintro e w1 ⟨rfl, rfl⟩
    rw [if_neg (Int.not_le.2 h)]
    go_wp2_with fail
    go_ret
    exact ⟨_, rfl, fun h => absurd h (by decide), A0⟩
set_option maxHeartbeats 4000000 in
theorem toPlan_any (ep us : Int) (a : Option Addr) (n c : Nat) (M : Nat → SlT) (w : World) (hn : n ≤ 1048576) (h : SrcC w a (n * 2) (MFSlot M)) :
    Calls Tryd.prog 24 #[.agg #[.int .i64 ep, .int .i64 us, .slice a n c]] w fun e w' => e = .returned (.agg #[.int .i64 ep, .int .i64 us, .slice (some ⟨w.heap.size + 3, 0, none⟩) n n]) ∧ RowF w' (w.heap.size + 3) 72 (n * 2) (n * 2) (MFSlot M) ∧ Below w.heap.size w w' := by
  have A0 := ((Below.nw w (.cells #[.int .i64 ep, .int .i64 us, .slice a n c] 49)).alloc (by simp) (.cells #[.int .i64 0, .int .i64 0, .slice none 0 0] 27)).alloc (by simp; omega) (.cells #[.int .i64 ep, .int .i64 us, .slice none 0 0] 27)
  have z3 : (((w.alloc (.cells #[.int .i64 ep, .int .i64 us, .slice a n c] 49)).alloc (.cells #[.int .i64 0, .int .i64 0, .slice none 0 0] 27)).alloc (.cells #[.int .i64 ep, .int .i64 us, .slice none 0 0] 27)).heap.size = w.heap.size + 3 := by simp
  have C := toSlotS_any a n c M _ hn (h.below A0)
  rw [z3] at C
  have r0 : (((w.alloc (.cells #[.int .i64 ep, .int .i64 us, .slice a n c] 49)).alloc (.cells #[.int .i64 0, .int .i64 0, .slice none 0 0] 27)).alloc (.cells #[.int .i64 ep, .int .i64 us, .slice none 0 0] 27)).cell? ⟨w.heap.size + 1, 0, none⟩ = some (.int .i64 0) := by simp [go_sem]
  have f0 : (((w.alloc (.cells #[.int .i64 ep, .int .i64 us, .slice a n c] 49)).alloc (.cells #[.int .i64 0, .int .i64 0, .slice none 0 0] 27)).alloc (.cells #[.int .i64 ep, .int .i64 us, .slice none 0 0] 27)).frozen? ⟨w.heap.size + 1, 0, none⟩ = false := by simp [go_sem]
  have r1 : (((w.alloc (.cells #[.int .i64 ep, .int .i64 us, .slice a n c] 49)).alloc (.cells #[.int .i64 0, .int .i64 0, .slice none 0 0] 27)).alloc (.cells #[.int .i64 ep, .int .i64 us, .slice none 0 0] 27)).cell? ⟨w.heap.size + 1, 1, none⟩ = some (.int .i64 0) := by simp [go_sem]
  have f1 : (((w.alloc (.cells #[.int .i64 ep, .int .i64 us, .slice a n c] 49)).alloc (.cells #[.int .i64 0, .int .i64 0, .slice none 0 0] 27)).alloc (.cells #[.int .i64 ep, .int .i64 us, .slice none 0 0] 27)).frozen? ⟨w.heap.size + 1, 1, none⟩ = false := by simp [go_sem]
  have r2 : (((w.alloc (.cells #[.int .i64 ep, .int .i64 us, .slice a n c] 49)).alloc (.cells #[.int .i64 0, .int .i64 0, .slice none 0 0] 27)).alloc (.cells #[.int .i64 ep, .int .i64 us, .slice none 0 0] 27)).cell? ⟨w.heap.size + 1, 2, none⟩ = some (.slice none 0 0) := by simp [go_sem]
  have f2 : (((w.alloc (.cells #[.int .i64 ep, .int .i64 us, .slice a n c] 49)).alloc (.cells #[.int .i64 0, .int .i64 0, .slice none 0 0] 27)).alloc (.cells #[.int .i64 ep, .int .i64 us, .slice none 0 0] 27)).frozen? ⟨w.heap.size + 1, 2, none⟩ = false := by simp [go_sem]
  have o0 : (((w.alloc (.cells #[.int .i64 ep, .int .i64 us, .slice a n c] 49)).alloc (.cells #[.int .i64 0, .int .i64 0, .slice none 0 0] 27)).alloc (.cells #[.int .i64 ep, .int .i64 us, .slice none 0 0] 27)).cell? ⟨w.heap.size + 1 + 1, 0, none⟩ = some (.int .i64 ep) := by simp [go_sem]
  have o1 : (((w.alloc (.cells #[.int .i64 ep, .int .i64 us, .slice a n c] 49)).alloc (.cells #[.int .i64 0, .int .i64 0, .slice none 0 0] 27)).alloc (.cells #[.int .i64 ep, .int .i64 us, .slice none 0 0] 27)).cell? ⟨w.heap.size + 1 + 1, 1, none⟩ = some (.int .i64 us) := by simp [go_sem]
  have o2 : (((w.alloc (.cells #[.int .i64 ep, .int .i64 us, .slice a n c] 49)).alloc (.cells #[.int .i64 0, .int .i64 0, .slice none 0 0] 27)).alloc (.cells #[.int .i64 ep, .int .i64 us, .slice none 0 0] 27)).cell? ⟨w.heap.size + 1 + 1, 2, none⟩ = some (.slice none 0 0) := by simp [go_sem]
  have g2 : (((w.alloc (.cells #[.int .i64 ep, .int .i64 us, .slice a n c] 49)).alloc (.cells #[.int .i64 0, .int .i64 0, .slice none 0 0] 27)).alloc (.cells #[.int .i64 ep, .int .i64 us, .slice none 0 0] 27)).frozen? ⟨w.heap.size + 1 + 1, 2, none⟩ = false := by simp [go_sem]
  clear h
  go_enter Tryd.func24, Tryd.ntmps24
  go_wp2_with fail
  refine C.mono ?_
  rintro e w1 ⟨rfl, R1, hb⟩
  have l3 := R1.lt
  have q0 := (hb.cell (p := ⟨w.heap.size + 1, 0, none⟩) (by simp)).trans r0
  have k0 := (hb.frozen (p := ⟨w.heap.size + 1, 0, none⟩) (by simp)).trans f0
  have q1 := (hb.cell (p := ⟨w.heap.size + 1, 1, none⟩) (by simp)).trans r1
  have k1 := (hb.frozen (p := ⟨w.heap.size + 1, 1, none⟩) (by simp)).trans f1
  have q2 := (hb.cell (p := ⟨w.heap.size + 1, 2, none⟩) (by simp)).trans r2
  have k2 := (hb.frozen (p := ⟨w.heap.size + 1, 2, none⟩) (by simp)).trans f2
  have p0 := (hb.cell (p := ⟨w.heap.size + 1 + 1, 0, none⟩) (by simp)).trans o0
  have p1 := (hb.cell (p := ⟨w.heap.size + 1 + 1, 1, none⟩) (by simp)).trans o1
  have p2 := (hb.cell (p := ⟨w.heap.size + 1 + 1, 2, none⟩) (by simp)).trans o2
  have j2 := (hb.frozen (p := ⟨w.heap.size + 1 + 1, 2, none⟩) (by simp)).trans g2
  have B1 := A0.trans (hb.mono (by omega))
  have RF : RowF ((((w1.setCell ⟨w.heap.size + 1 + 1, 2, none⟩ (.slice (some ⟨w.heap.size + 3, 0, none⟩) n n)).setCell ⟨w.heap.size + 1, 0, none⟩ (.int .i64 ep)).setCell ⟨w.heap.size + 1, 1, none⟩ (.int .i64 us)).setCell ⟨w.heap.size + 1, 2, none⟩ (.slice (some ⟨w.heap.size + 3, 0, none⟩) n n)) (w.heap.size + 3) 72 (n * 2) (n * 2) (MFSlot M) := (((R1.setO (by omega) _ _).setO (by omega) _ _).setO (by omega) _ _).setO (by omega) _ _
  have BF : Below w.heap.size w ((((w1.setCell ⟨w.heap.size + 1 + 1, 2, none⟩ (.slice (some ⟨w.heap.size + 3, 0, none⟩) n n)).setCell ⟨w.heap.size + 1, 0, none⟩ (.int .i64 ep)).setCell ⟨w.heap.size + 1, 1, none⟩ (.int .i64 us)).setCell ⟨w.heap.size + 1, 2, none⟩ (.slice (some ⟨w.heap.size + 3, 0, none⟩) n n)) := (((B1.setCell (by simp; omega) _).setCell (by simp) _).setCell (by simp) _).setCell (by simp) _
  have s1 : w.heap.size + 1 < w1.heap.size := by omega
  have s2 : w.heap.size + 1 + 1 < w1.heap.size := by omega
  clear hb C r0 r1 r2 o0 o1 o2 f0 f1 f2 g2 A0 z3 R1 B1
  go_wp2_with fail
  exact bodyPost_ret (v := .agg #[.int .i64 ep, .int .i64 us, .slice (some ⟨w.heap.size + 3, 0, none⟩) n n]) (by simp (maxDischargeDepth := 6) [results, Tryd.results24, go_sem, *]) rfl ⟨rfl, RF, BF⟩
set_option maxHeartbeats 2000000 in
theorem eqPlan_same (ep us : Int) (a a' : Option Addr) (n c c' : Nat) (M : Nat → SlT) (w : World) (hn : n ≤ maxLen) (h : SrcC w a (n * 2) (MFSlot M)) (h' : SrcC w a' (n * 2) (MFSlot M)) :
    Calls Tryd.prog 28 #[.agg #[.int .i64 ep, .int .i64 us, .slice a n c], .agg #[.int .i64 ep, .int .i64 us, .slice a' n c']] w fun e w' => e = .returned (.bool true) ∧ Below w.heap.size w w' := by
  have A0 := (Below.nw w (.cells #[.int .i64 ep, .int .i64 us, .slice a n c] 27)).alloc (by simp) (.cells #[.int .i64 ep, .int .i64 us, .slice a' n c'] 27)
  have C := eqSlotS_src a a' n c c' M _ hn (h.below A0) (h'.below A0)
  clear h h'
  go_enter Tryd.func28, Tryd.ntmps28
  go_wp2_with fail
  refine C.mono ?_
  rintro e w1 ⟨rfl, hb⟩
  go_wp2_with fail
  go_ret
  exact ⟨rfl, A0.trans (hb.mono A0.size)⟩
set_option maxHeartbeats 2000000 in
theorem markPlan_row (ep us : Int) (b N n c : Nat) (w : World) (hn : n ≤ 1048576) (hN : n * 2 ≤ N) (h : RowF w b 72 N 0 (mkSlot 1)) :
    Calls Tryd.prog 30 #[.agg #[.int .i64 ep, .int .i64 us, .slice (some ⟨b, 0, none⟩) n c], .int .i64 1] w fun e w' => e = .returned (.int .i64 (1 + (n : Int) * 2)) ∧ RowF w' b 72 N (n * 2) (mkSlot 1) ∧ But b w w' := by
  have A0 := Below.nw w (.cells #[.int .i64 ep, .int .i64 us, .slice (some ⟨b, 0, none⟩) n c] 27)
  have C := markSlotS_row b N n c 1 _ hn (by omega) (by omega) hN (RowF.below' A0 h)
  clear h
  go_enter Tryd.func30, Tryd.ntmps30
  go_wp2_with fail
  refine C.mono ?_
  rintro e w1 ⟨rfl, R1, hb⟩
  go_wp2_with fail
  go_ret
  exact ⟨rfl, R1, (But.of_below A0).trans hb⟩
set_option maxHeartbeats 2000000 in
theorem markPlan_any (ep us : Int) (a : Option Addr) (n c base : Nat) (xs : List Value) (w : World) (hn : n ≤ 1048576) (hb : base ≤ w.heap.size) (h : w.ownsRow base 72 2 (.slice a n c) n xs) :
    Calls Tryd.prog 30 #[.agg #[.int .i64 ep, .int .i64 us, .slice a n c], .int .i64 1] w fun e w' => e = .returned (.int .i64 (1 + (n : Int) * 2)) ∧ SrcC w' a (n * 2) (mkSlot 1) ∧ Below base w w' := by
  have A0 := Below.nw w (.cells #[.int .i64 ep, .int .i64 us, .slice a n c] 27)
  have C := markSlotS_any a n c base 1 xs _ hn (by omega) (by omega) (Nat.le_trans hb A0.size) (World.ownsRow.alloc h _)
  clear h
  go_enter Tryd.func30, Tryd.ntmps30
  go_wp2_with fail
  refine C.mono ?_
  rintro e w1 ⟨rfl, R1, hb'⟩
  go_wp2_with fail
  go_ret
  exact ⟨rfl, R1, (A0.mono hb).trans hb'⟩
end Go.Proofs.YtdahabbdhjgpdaaDoor
namespace Go.Proofs.YtdahabbdhjgpdaaDoor
open Go.RowKit
set_option linter.unusedVariables false
/- What the laws of chapter 16 make of their arguments, from any number on. -/
theorem szHeardS_le (a : Option Addr) (n c : Nat) (Z : Int) (w : World) (hm : n ≤ maxLen) (h0 : 0 ≤ Z) (h1 : Z ≤ 1048576) :
    Calls Tryd.prog 20 #[.slice a n c, .int .i64 Z] w fun e w' => ∃ L : Int, e = .returned (.int .i64 L) ∧ (0 ≤ L → n ≤ 1048576 ∧ L ≤ 1048576) ∧ Below w.heap.size w w' := by
  refine (szHeardS_any a n c Z w hm h0 h1).mono ?_
  rintro e w' ⟨rfl, rfl⟩
  refine ⟨_, rfl, fun h => ?_, Below.refl _ _⟩
  split at h
  · rename_i hq; rw [if_pos hq]; constructor <;> omega
  · omega
set_option maxHeartbeats 2000000 in
theorem szPlan_at (ep us : Int) (a : Option Addr) (n c : Nat) (Z : Int) (w : World) (hm : n ≤ maxLen) (h0 : 0 ≤ Z) (h1 : Z ≤ 1048576) :
    Calls Tryd.prog 21 #[.agg #[.int .i64 ep, .int .i64 us, .slice a n c], .int .i64 Z] w fun e w' => ∃ L : Int, e = .returned (.int .i64 L) ∧ (0 ≤ L → n ≤ 1048576 ∧ L ≤ 1048576) ∧ Below w.heap.size w w' := by
  have A0 := Below.nw w (.cells #[.int .i64 ep, .int .i64 us, .slice a n c] 49)
  by_cases h : (n : Int) ≤ Z
  · have hneg : ¬ (Z - (n : Int) < 0) := by omega
    go_enter Tryd.func21, Tryd.ntmps21
    go_wp2_with fail
    refine (szSlotS_any _ _ _ _ _ hm h0 h1).mono ?_
    rintro e w1 ⟨rfl, rfl⟩
    rw [if_pos h]
    go_wp2_with fail
    go_ret
    exact ⟨_, rfl, fun _ => ⟨by omega, by omega⟩, A0⟩
  · go_enter Tryd.func21, Tryd.ntmps21
    go_wp2_with fail
    refine (szSlotS_any _ _ _ _ _ hm h0 h1).mono ?_
    rintro e w1 ⟨rfl, rfl⟩
    rw [if_neg (Int.not_le.2 h)]
    go_wp2_with fail
    go_ret
    exact ⟨_, rfl, fun h => absurd h (by decide), A0⟩
set_option maxHeartbeats 2000000 in
theorem markPlan_rowQ (ep us : Int) (b N n c : Nat) (q0 : Int) (w : World) (hn : n ≤ 1048576) (hq : 0 < q0) (hq1 : q0 ≤ 1073741824) (hN : n * 2 ≤ N) (h : RowF w b 72 N 0 (mkSlot q0)) :
    Calls Tryd.prog 30 #[.agg #[.int .i64 ep, .int .i64 us, .slice (some ⟨b, 0, none⟩) n c], .int .i64 q0] w fun e w' => e = .returned (.int .i64 (q0 + (n : Int) * 2)) ∧ RowF w' b 72 N (n * 2) (mkSlot q0) ∧ But b w w' := by
  have A0 := Below.nw w (.cells #[.int .i64 ep, .int .i64 us, .slice (some ⟨b, 0, none⟩) n c] 27)
  have C := markSlotS_row b N n c q0 _ hn hq hq1 hN (RowF.below' A0 h)
  have hk : ¬ (q0 + (n : Int) * 2 < 0) := by omega
  clear h
  go_enter Tryd.func30, Tryd.ntmps30
  go_wp2_with fail
  refine C.mono ?_
  rintro e w1 ⟨rfl, R1, hb⟩
  go_wp2_with fail
  go_ret
  exact ⟨rfl, R1, (But.of_below A0).trans hb⟩
theorem rowF_but {w w' : World} {q b N m : Nat} {T : TypeId} {F : Nat → Value} (h : RowF w b T N m F) (hb : But q w w') (hq : b ≠ q) : RowF w' b T N m F := by
  have hl := h.lt
  obtain ⟨g, hr, hg⟩ := h
  exact ⟨g, hr.of_block (hb.2.2.2.2 b hl hq), hg⟩
theorem nwL_len (M : Nat → VT) (n : Nat) (s g : Int) (PM : Nat → SlT) (m : Nat) (nu de c : Int) : (nwL M n s g PM m nu de c).length ≤ 61 := by
  unfold nwL
  cases h : rtB M n s g PM m nu de c
  · simp
  · have h1 := fiL_len (nwP M s g PM m nu de c) (slS M) n
    have h2 := (hrB_t (rtB_t h).1).1
    simp only
    omega
theorem loL_len (M : Nat → VT) (n : Nat) (s g : Int) (PM : Nat → SlT) (m : Nat) (nu de c : Int) : (loL M n s g PM m nu de c).length ≤ 61 := by
  unfold loL
  cases h : rtB M n s g PM m nu de c
  · simp
  · have h1 := slJ_len (loP (nwL M n s g PM m nu de c)) m
    have h2 := (plB_t (rtB_t h).2.1).2.2.1.2
    simp only
    omega
theorem unL_len (M : Nat → VT) (n : Nat) (W : Nat → VT) (k : Nat) : (unL M n W k).length ≤ 61 := by
  unfold unL
  cases h : hrB M n && hrB W k
  · simp
  · have h1 := slJ_len (unP M n W k) 16
    simp only
    omega
theorem onL_len (M : Nat → VT) (n : Nat) (s g : Int) (PM : Nat → SlT) (m : Nat) : (onL M n s g PM m).length ≤ 61 := by
  unfold onL
  cases h : hrB M n && plB s g PM m
  · simp
  · have h1 := slJ_len (owP M n PM m) 8
    simp only
    omega
theorem Box8.kept {w w' : World} {q : Option Nat} {j : Nat} {k fr tu no lo hi sl : Int} {s : ByteArray} (h : Box8 w j k fr tu no lo hi sl s) (hg : w.grownBy w' q) (hq : some j ≠ q) : Box8 w' j k fr tu no lo hi sl s := by
  obtain ⟨h0, h1, h2, h3, h4, h5, h6, h7, h8⟩ := h
  have cc : ∀ i, w'.cell? ⟨j, i, none⟩ = w.cell? ⟨j, i, none⟩ := fun i => cell_grown hg h0 hq
  exact ⟨Nat.lt_of_lt_of_le h0 hg.size, by rw [cc]; exact h1, by rw [cc]; exact h2, by rw [cc]; exact h3, by rw [cc]; exact h4, by rw [cc]; exact h5, by rw [cc]; exact h6, by rw [cc]; exact h7, by rw [cc]; exact h8⟩
end Go.Proofs.YtdahabbdhjgpdaaDoor
namespace Go.Proofs.YtdahabbdhjgpdaaDoor
open Go.RowKit
set_option linter.unusedVariables false
/- The last slot so far. -/
def lstI (M : Nat → VT) : Nat → Int
  | 0 => -1
  | j + 1 => (M j).1
theorem lst_ge {M : Nat → VT} : ∀ {k : Nat}, hrA M k = true → (k : Int) - 1 ≤ lstI M k
  | 0, _ => by show (0 : Int) - 1 ≤ -1; decide
  | k + 1, h => by
    have h1 := hrA_at h (Nat.lt_succ_self k)
    have h0 : hrA M k = true := by
      cases e : hrA M k
      · rw [hrA, e, Bool.false_and] at h; exact absurd h (by decide)
      · rfl
    have ih := lst_ge h0
    have h2 := hrO_t h1.1
    show ((k + 1 : Nat) : Int) - 1 ≤ (M k).1
    cases k with
    | zero => omega
    | succ j =>
      have h3 : (M j).1 < (M (j + 1)).1 := by
        rcases h1.2 with q | q
        · omega
        · simpa using q
      have ih' : ((j + 1 : Nat) : Int) - 1 ≤ (M j).1 := ih
      omega
theorem hr_sixteen {M : Nat → VT} {n : Nat} (h : hrA M n = true) : hrB M n = true := by
  unfold hrB
  rw [h, Bool.and_true]
  refine decide_eq_true ?_
  cases n with
  | zero => omega
  | succ j =>
    have h1 := lst_ge h
    have h2 := hrO_t (hrA_at h (Nat.lt_succ_self j)).1
    have h3 : ((j + 1 : Nat) : Int) - 1 ≤ (M j).1 := h1
    omega
theorem hr_step {M : Nat → VT} {k : Nat} {x0 x1 : Int} (h : hrA M k = true) (hM : M k = (x0, x1)) : hrA M (k + 1) = (decide (lstI M k < x0) && (decide (x0 < 16) && okT x1)) := by
  have hl := lst_ge h
  rw [hrA, h, Bool.true_and, hM]
  unfold hrO
  cases k with
  | zero =>
    show (decide (0 ≤ x0 ∧ x0 ≤ 15) && okT x1 && (decide (0 = 0) || _)) = (decide ((-1 : Int) < x0) && (decide (x0 < 16) && okT x1))
    rw [Bool.eq_iff_iff]
    simp only [Bool.and_eq_true, Bool.or_eq_true, decide_eq_true_eq]
    constructor
    · rintro ⟨⟨h1, h2⟩, h3⟩; exact ⟨by omega, by omega, h2⟩
    · rintro ⟨h1, h2, h3⟩; exact ⟨⟨by omega, h3⟩, by first | trivial | exact Or.inl trivial | exact Or.inl rfl | simp⟩
  | succ j =>
    have hl' : ((j + 1 : Nat) : Int) - 1 ≤ (M j).1 := hl
    show (decide (0 ≤ x0 ∧ x0 ≤ 15) && okT x1 && (decide (j + 1 = 0) || decide ((M (j + 1 - 1)).1 < x0))) = (decide ((M j).1 < x0) && (decide (x0 < 16) && okT x1))
    rw [Nat.add_sub_cancel]
    generalize (M j).1 = z at *
    rw [Bool.eq_iff_iff]
    simp only [Bool.and_eq_true, Bool.or_eq_true, decide_eq_true_eq]
    constructor
    · rintro ⟨⟨h1, h2⟩, h3⟩; exact ⟨by omega, by omega, h2⟩
    · rintro ⟨h1, h2, h3⟩; exact ⟨⟨by omega, h3⟩, Or.inr h1⟩
set_option maxRecDepth 100000 in
set_option maxHeartbeats 8000000 in
theorem implHeardOk_any (a : Option Addr) (n c : Nat) (M : Nat → VT) (w : World) (hm : n ≤ maxLen) (hs : SrcC w a (n * 2) (MFIval M)) :
    Calls Tryd.prog 43 #[.slice a n c] w fun e w' => e = .returned (.bool (hrB M n)) ∧ Below w.heap.size w w' := by
  have HS : Hid (SrcC w a (n * 2) (MFIval M)) := hs
  clear hs
  unfold maxLen at hm
  go_enter Tryd.func43, Tryd.ntmps43
  go_wp2_with fail
  go_loopw [3, 8] (fun l i wr => ∃ (k : Nat), k ≤ n ∧ l = .int .i64 (lstI M k) ∧ i = .int .i64 k ∧ hrA M k = true ∧ Below w.heap.size w wr) (fun _ i _ => n - (intOf i).toNat)
  case atStart => exact ⟨0, Nat.zero_le _, rfl, rfl, rfl, Below.refl _ _⟩
  case round =>
    obtain ⟨k, hk, rfl, rfl, hA, B⟩ := hrel
    by_cases hlt : k < n
    · obtain ⟨x0, x1, hM⟩ := tupIval M k
      obtain ⟨b, off, rfl, hf⟩ : ∃ b off, a = some ⟨b, off, none⟩ ∧ Cs w b off (n * 2) (MFIval M) := by
        rcases HS.out with q | q
        · exact absurd q (by omega)
        · exact q
      obtain ⟨c0, c1⟩ := (hf.below B hf.1).elIval hlt hM
      have HLT : Hid (k < n) := hlt
      have hli : (k : Int) < (n : Int) := by omega
      have C1 := fun w' => isTime_any x1 w'
      have A1 := Below.nw wr (.cells #[.int .i64 x0, .int .i64 x1] 80)
      replace B := B.trans (A1.mono B.size)
      have HX : Hid (hrA M (k + 1) = (decide (lstI M k < x0) && (decide (x0 < 16) && okT x1))) := hr_step hA hM
      have HNX : Hid (lstI M (k + 1) = x0) := by rw [Hid, lstI, hM]
      generalize lstI M k = la at *
      clear hM hA hf A1 HS
      by_cases h1 : x0 ≤ la
      · have HN : Hid (hrA M (k + 1) = false) := by rw [Hid, HX.out, decide_eq_false (by omega)]; rfl
        clear HX HNX C1
        go_wp2_with fail
        go_ret
        exact ⟨ret_bool (hrB_no HN.out HLT.out).symm, B⟩
      by_cases h2 : 16 ≤ x0
      · have HN : Hid (hrA M (k + 1) = false) := by rw [Hid, HX.out, decide_eq_false (p := x0 < 16) (by omega)]; simp
        clear HX HNX C1
        go_wp2_with fail
        go_ret
        exact ⟨ret_bool (hrB_no HN.out HLT.out).symm, B⟩
      replace HX : Hid (hrA M (k + 1) = okT x1) := by rw [Hid, HX.out, decide_eq_true (p := x0 < 16) (by omega), decide_eq_true (p := la < x0) (by omega)]; rfl
      go_wp2_with fail
      refine (C1 _).mono ?_
      rintro e v1 ⟨rfl, rfl⟩
      cases h3 : okT x1
      · have HN : Hid (hrA M (k + 1) = false) := by rw [Hid, HX.out, h3]
        clear HX HNX C1
        go_wp2_with fail
        go_ret
        exact ⟨ret_bool (hrB_no HN.out HLT.out).symm, B⟩
      · have HT : Hid (hrA M (k + 1) = true) := by rw [Hid, HX.out, h3]
        clear HX C1
        go_wp2_with fail
        go_roundw
        case rel => exact ⟨k + 1, HLT.out, by rw [HNX.out], by go_num, HT.out, B⟩
        case measure => have hlt' := HLT.out; simp [intOf]; omega
    · have hkn : k = n := by omega
      subst hkn
      have hli : ¬ (k : Int) < (k : Int) := by omega
      have HR : Hid (hrB M k = true) := hr_sixteen hA
      clear hA
      go_wp2_with fail
      go_ret
      exact ⟨ret_bool HR.out.symm, B⟩
end Go.Proofs.YtdahabbdhjgpdaaDoor
namespace Go.Proofs.YtdahabbdhjgpdaaDoor
open Go.RowKit
set_option linter.unusedVariables false
/- The program's slots and plans: which are right; how long a round is; which round a time lies in. -/
set_option maxHeartbeats 2000000 in
theorem slotOk_any (o l : Int) (w : World) :
    Calls Tryd.prog 75 #[.agg #[.int .i64 o, .int .i64 l]] w fun e w' => e = .returned (.bool (slB o l)) ∧ Below w.heap.size w w' := by
  have B := Below.nw w (.cells #[.int .i64 o, .int .i64 l] 72)
  have C1 := fun w' => isNode_any o w'
  cases h1 : nodB o
  · have e0 : slB o l = false := by unfold slB; rw [h1]; rfl
    rw [e0]
    go_enter Tryd.func75, Tryd.ntmps75
    go_wp2_with fail
    refine (C1 _).mono ?_
    rintro e w' ⟨rfl, rfl⟩
    rw [h1]
    go_wp2_with fail
    go_ret
    exact ⟨rfl, B⟩
  · have e0 : slB o l = lnB l := by unfold slB; rw [h1]; rfl
    rw [e0]
    clear e0
    by_cases ha : 1 ≤ l
    · by_cases hb : l ≤ 1000000
      · have e0 : lnB l = true := decide_eq_true ⟨ha, hb⟩
        rw [e0]
        clear e0
        go_enter Tryd.func75, Tryd.ntmps75
        go_wp2_with fail
        refine (C1 _).mono ?_
        rintro e w' ⟨rfl, rfl⟩
        rw [h1]
        go_wp2_with fail
        go_ret
        exact ⟨rfl, B⟩
      · have e0 : lnB l = false := decide_eq_false (by omega)
        rw [e0]
        clear e0
        go_enter Tryd.func75, Tryd.ntmps75
        go_wp2_with fail
        refine (C1 _).mono ?_
        rintro e w' ⟨rfl, rfl⟩
        rw [h1]
        go_wp2_with fail
        go_ret
        exact ⟨ret_bool (decide_eq_false (by omega)), B⟩
    · have e0 : lnB l = false := decide_eq_false (by omega)
      rw [e0]
      clear e0
      go_enter Tryd.func75, Tryd.ntmps75
      go_wp2_with fail
      refine (C1 _).mono ?_
      rintro e w' ⟨rfl, rfl⟩
      rw [h1]
      go_wp2_with fail
      go_ret
      exact ⟨rfl, B⟩
set_option maxRecDepth 100000 in
set_option maxHeartbeats 8000000 in
theorem planOk_any (s g : Int) (a : Option Addr) (n c : Nat) (M : Nat → SlT) (w : World) (hm : n ≤ maxLen) (hs : SrcC w a (n * 2) (MFSlot M)) :
    Calls Tryd.prog 44 #[.agg #[.int .i64 s, .int .i64 g, .slice a n c]] w fun e w' => e = .returned (.bool (plB s g M n)) ∧ Below w.heap.size w w' := by
  unfold maxLen at hm
  have B := Below.nw w (.cells #[.int .i64 s, .int .i64 g, .slice a n c] 27)
  have N := Tx3.new w (.int .i64 s) (.int .i64 g) (.slice a n c) 27
  have C1 := fun w' => isTime_any s w'
  cases h1 : okT s
  · have e0 : plB s g M n = false := by unfold plB; rw [h1]; rfl
    rw [e0]
    clear e0 hs
    go_enter Tryd.func44, Tryd.ntmps44; go_upto_region 1 with fail; generalize w.alloc (.cells #[.int .i64 s, .int .i64 g, .slice a n c] 27) = v at *; obtain ⟨n0, n1, n2, n3, n4, n5, n6⟩ := id N; go_wp2_with fail; refine (C1 _).mono ?_; rintro e w' ⟨rfl, rfl⟩; rw [h1]; go_wp2_with fail; go_ret; exact ⟨rfl, B⟩
  by_cases h2 : g < 0
  · have e0 : plB s g M n = false := by unfold plB; rw [h1, show gpB g = false from decide_eq_false (by omega)]; rfl
    rw [e0]
    clear e0 hs
    go_enter Tryd.func44, Tryd.ntmps44; go_upto_region 1 with fail; generalize w.alloc (.cells #[.int .i64 s, .int .i64 g, .slice a n c] 27) = v at *; obtain ⟨n0, n1, n2, n3, n4, n5, n6⟩ := id N; go_wp2_with fail; refine (C1 _).mono ?_; rintro e w' ⟨rfl, rfl⟩; rw [h1]; go_wp2_with fail; go_ret; exact ⟨rfl, B⟩
  by_cases h3 : 100000 < g
  · have e0 : plB s g M n = false := by unfold plB; rw [h1, show gpB g = false from decide_eq_false (by omega)]; rfl
    rw [e0]
    clear e0 hs
    go_enter Tryd.func44, Tryd.ntmps44; go_upto_region 1 with fail; generalize w.alloc (.cells #[.int .i64 s, .int .i64 g, .slice a n c] 27) = v at *; obtain ⟨n0, n1, n2, n3, n4, n5, n6⟩ := id N; go_wp2_with fail; refine (C1 _).mono ?_; rintro e w' ⟨rfl, rfl⟩; rw [h1]; go_wp2_with fail; go_ret; exact ⟨rfl, B⟩
  have e2 : gpB g = true := decide_eq_true (by omega)
  by_cases h4 : (n : Int) < 1
  · have e0 : plB s g M n = false := by unfold plB; rw [h1, e2, show cnB n = false from decide_eq_false (by omega)]; rfl
    rw [e0]
    clear e0 hs e2
    go_enter Tryd.func44, Tryd.ntmps44; go_upto_region 1 with fail; generalize w.alloc (.cells #[.int .i64 s, .int .i64 g, .slice a n c] 27) = v at *; obtain ⟨n0, n1, n2, n3, n4, n5, n6⟩ := id N; go_wp2_with fail; refine (C1 _).mono ?_; rintro e w' ⟨rfl, rfl⟩; rw [h1]; go_wp2_with fail; go_ret; exact ⟨rfl, B⟩
  by_cases h5 : 12 < (n : Int)
  · have e0 : plB s g M n = false := by unfold plB; rw [h1, e2, show cnB n = false from decide_eq_false (by omega)]; rfl
    rw [e0]
    clear e0 hs e2
    go_enter Tryd.func44, Tryd.ntmps44; go_upto_region 1 with fail; generalize w.alloc (.cells #[.int .i64 s, .int .i64 g, .slice a n c] 27) = v at *; obtain ⟨n0, n1, n2, n3, n4, n5, n6⟩ := id N; go_wp2_with fail; refine (C1 _).mono ?_; rintro e w' ⟨rfl, rfl⟩; rw [h1]; go_wp2_with fail; go_ret; exact ⟨rfl, B⟩
  have e0 : plB s g M n = slA M n := by unfold plB; rw [h1, e2, show cnB n = true from decide_eq_true (by omega)]; rfl
  rw [e0]
  clear e0 e2
  obtain ⟨b, off, rfl, hf⟩ : ∃ b off, a = some ⟨b, off, none⟩ ∧ Cs w b off (n * 2) (MFSlot M) := by
    rcases hs with q | q
    · exact absurd q (by omega)
    · exact q
  have HF : Hid (Cs w b off (n * 2) (MFSlot M)) := hf
  clear hf hs
  go_enter Tryd.func44, Tryd.ntmps44; go_upto_region 1 with fail; generalize w.alloc (.cells #[.int .i64 s, .int .i64 g, .slice (some ⟨b, off, none⟩) n c] 27) = v at *
  obtain ⟨n0, n1, n2, n3, n4, n5, n6⟩ := id N; go_wp2_with fail; refine (C1 _).mono ?_; rintro e w' ⟨rfl, rfl⟩; rw [h1]
  clear C1 h1
  go_wp2_with fail
  clear h2 h3 h4 h5 N
  clear n0 n1 n2 n3 n4 n5 n6
  go_loopw [34] (fun i wr => ∃ (k : Nat), k ≤ n ∧ i = .int .i64 k ∧ slA M k = true ∧ Below w.heap.size w wr) (fun i _ => n - (intOf i).toNat)
  case atStart => exact ⟨0, Nat.zero_le _, rfl, rfl, B⟩
  case round =>
    clear B
    obtain ⟨k, hk, rfl, hA, B⟩ := hrel
    by_cases hlt : k < n
    · obtain ⟨o, l, hM⟩ := tupSlot M k
      obtain ⟨c1, c2⟩ := (HF.out.below B HF.out.1).elSlot hlt hM
      have HA : Hid (slA M (k + 1) = slB o l) := by rw [Hid, slA, hA, hM]; rfl
      have HLT : Hid (k < n) := hlt
      have hli : (k : Int) < (n : Int) := by omega
      have C1 := fun w' => slotOk_any o l w'
      have A1 := Below.nw wr (.cells #[.int .i64 o, .int .i64 l] 72)
      replace B := B.trans (A1.mono B.size)
      clear hM hA HF A1
      go_wp2_with fail
      refine (C1 _).mono ?_
      rintro e v1 ⟨rfl, hb⟩
      replace B := B.trans (hb.mono B.size)
      clear hb
      cases h1 : slB o l
      · have HN : Hid (slA M (k + 1) = false) := by rw [Hid, HA.out, h1]
        clear HA
        go_wp2_with fail
        go_ret
        exact ⟨ret_bool (slA_no HN.out HLT.out).symm, B⟩
      · have HT : Hid (slA M (k + 1) = true) := by rw [Hid, HA.out, h1]
        clear HA
        go_wp2_with fail
        go_roundw
        case rel => exact ⟨k + 1, HLT.out, by go_num, HT.out, B⟩
        case measure => have hlt' := HLT.out; simp [intOf]; omega
    · have hkn : k = n := by omega
      subst hkn
      have hli : ¬ (k : Int) < (k : Int) := by omega
      go_wp2_with fail
      go_ret
      exact ⟨by first | rfl | exact ret_bool hA.symm, B⟩

/- How long a round is. -/
theorem upS_next {g : Int} {M : Nat → SlT} {j : Nat} {o l : Int} (h : M j = (o, l)) : upS g M (j + 1) = upS g M j + (l + g) := by rw [upS, h]; show upS g M j + l + g = _; omega
set_option maxRecDepth 100000 in
set_option maxHeartbeats 8000000 in
theorem planRound_any (s g : Int) (a : Option Addr) (n c : Nat) (M : Nat → SlT) (w : World) (hp : plB s g M n = true) (hs : SrcC w a (n * 2) (MFSlot M)) :
    Calls Tryd.prog 56 #[.agg #[.int .i64 s, .int .i64 g, .slice a n c]] w fun e w' => e = .returned (.int .i64 (upS g M n)) ∧ Below w.heap.size w w' := by
  obtain ⟨p1, p2, p3, p4⟩ := plB_t hp
  have B := Below.nw w (.cells #[.int .i64 s, .int .i64 g, .slice a n c] 27)
  have N := Tx3.new w (.int .i64 s) (.int .i64 g) (.slice a n c) 27
  obtain ⟨b, off, rfl, hf⟩ : ∃ b off, a = some ⟨b, off, none⟩ ∧ Cs w b off (n * 2) (MFSlot M) := by
    rcases hs with q | q
    · exact absurd q (by omega)
    · exact q
  have HF : Hid (Cs w b off (n * 2) (MFSlot M)) := hf
  have HP2 : Hid (0 ≤ g ∧ g ≤ 100000) := p2
  have HP4 : Hid (slA M n = true) := p4
  have hn : n ≤ 12 := p3.2
  clear hf hs hp p1 p2 p3 p4
  go_enter Tryd.func56, Tryd.ntmps56
  go_upto_region 1 with fail
  generalize w.alloc (.cells #[.int .i64 s, .int .i64 g, .slice (some ⟨b, off, none⟩) n c] 27) = v at *
  obtain ⟨n0, n1, n2, n3, n4, n5, n6⟩ := id N
  go_wp2_with fail
  clear n0 n1 n2 n3 n4 n5 n6
  go_loopw [3, 9] (fun s5 i wr => ∃ (j : Nat), j ≤ n ∧ i = .int .i64 j ∧ s5 = .int .i64 (upS g M j) ∧ Tx3 wr w.heap.size (.int .i64 s) (.int .i64 g) (.slice (some ⟨b, off, none⟩) n c) ∧ Below w.heap.size w wr) (fun _ i _ => n - (intOf i).toNat)
  case atStart => exact ⟨0, Nat.zero_le _, rfl, rfl, N, B⟩
  case round =>
    clear N B
    obtain ⟨j, hj, rfl, rfl, N, B⟩ := hrel
    by_cases hlt : j < n
    · obtain ⟨o, l, hM⟩ := tupSlot M j
      obtain ⟨c1, c2⟩ := (HF.out.below B HF.out.1).elSlot hlt hM
      have hb := upS_bd HP2.out HP4.out j (by omega)
      have hl := (slB_t (slA_at HP4.out hlt)).2
      have hg := HP2.out
      rw [hM] at hl
      have HU : Hid (upS g M (j + 1) = upS g M j + (l + g)) := upS_next hM
      have HLT : Hid (j < n) := hlt
      have hli : (j : Int) < (n : Int) := by omega
      have hw1 : IntKind.i64.wrap (l + g) = l + g := Go.IntWalk.i64_in _ ⟨by omega, by omega⟩
      have hw2 : IntKind.i64.wrap (upS g M j + (l + g)) = upS g M j + (l + g) := Go.IntWalk.i64_in _ ⟨by omega, by omega⟩
      clear hM hb hl hg
      generalize upS g M j = u at *
      have A1 := Below.nw wr (.cells #[.int .i64 o, .int .i64 l] 72)
      replace B := B.trans (A1.mono B.size)
      have N1 := N.below A1
      clear A1
      obtain ⟨n0, n1, n2, n3, n4, n5, n6⟩ := id N
      go_upto_region 5 with fail
      clear n0 n1 n2 n3 n4 n5 n6
      clear N
      obtain ⟨n0, n1, n2, n3, n4, n5, n6⟩ := id N1
      go_wp2_with fail
      go_roundw
      case rel => exact ⟨j + 1, HLT.out, by go_num, by rw [HU.out], N1, B⟩
      case measure => have hlt' := HLT.out; simp [intOf]; omega
    · have hkn : j = n := by omega
      subst hkn
      have hli : ¬ (j : Int) < (j : Int) := by omega
      go_wp2_with fail
      go_ret
      exact ⟨rfl, B⟩
/- Which round a time lies in. -/
def raI (s g : Int) (M : Nat → SlT) (n : Nat) (t : Int) : Int := (imx 0 (t - s)).tdiv (upS g M n)
set_option maxHeartbeats 4000000 in
theorem planHas_any (s g : Int) (a : Option Addr) (n c : Nat) (M : Nat → SlT) (i : Int) (w : World) (hm : n ≤ maxLen) (hs : SrcC w a (n * 2) (MFSlot M)) :
    Calls Tryd.prog 77 #[.agg #[.int .i64 s, .int .i64 g, .slice a n c], .int .i64 i] w fun e w' => e = .returned (.bool (sfB s g M n i)) ∧ Below w.heap.size w w' := by
  have B := Below.nw w (.cells #[.int .i64 s, .int .i64 g, .slice a n c] 27)
  have N := Tx3.new w (.int .i64 s) (.int .i64 g) (.slice a n c) 27
  have HS : Hid (SrcC w a (n * 2) (MFSlot M)) := hs
  clear hs
  have C1 := fun w' h => planOk_any s g a n c M w' hm h
  unfold sfB
  cases h1 : plB s g M n
  · rw [h1] at C1
    go_enter Tryd.func77, Tryd.ntmps77
    go_upto_region 1 with fail
    generalize w.alloc (.cells #[.int .i64 s, .int .i64 g, .slice a n c] 27) = v at *
    obtain ⟨n0, n1, n2, n3, n4, n5, n6⟩ := id N
    go_wp2_with fail
    refine (C1 _ (HS.out.below B)).mono ?_
    rintro e v1 ⟨rfl, hb⟩
    clear n0 n1 n2 n3 n4 n5 n6
    replace B := B.trans (hb.mono B.size)
    clear hb
    go_wp2_with fail
    go_ret
    exact ⟨rfl, B⟩
  · rw [h1] at C1
    by_cases h2 : 0 ≤ i
    · have e0 : ixB n i = decide (i < (n : Int)) := by unfold ixB; by_cases h3 : i < (n : Int) <;> simp [h3] <;> omega
      rw [e0]
      go_enter Tryd.func77, Tryd.ntmps77
      go_upto_region 1 with fail
      generalize w.alloc (.cells #[.int .i64 s, .int .i64 g, .slice a n c] 27) = v at *
      obtain ⟨n0, n1, n2, n3, n4, n5, n6⟩ := id N
      go_wp2_with fail
      refine (C1 _ (HS.out.below B)).mono ?_
      rintro e v1 ⟨rfl, hb⟩
      clear n0 n1 n2 n3 n4 n5 n6
      replace B := B.trans (hb.mono B.size)
      replace N := N.below hb
      clear hb
      obtain ⟨n0, n1, n2, n3, n4, n5, n6⟩ := id N
      go_wp2_with fail
      go_ret
      exact ⟨by first | rfl | simp, B⟩
    · have e0 : ixB n i = false := decide_eq_false (by omega)
      rw [e0]
      go_enter Tryd.func77, Tryd.ntmps77
      go_upto_region 1 with fail
      generalize w.alloc (.cells #[.int .i64 s, .int .i64 g, .slice a n c] 27) = v at *
      obtain ⟨n0, n1, n2, n3, n4, n5, n6⟩ := id N
      go_wp2_with fail
      refine (C1 _ (HS.out.below B)).mono ?_
      rintro e v1 ⟨rfl, hb⟩
      clear n0 n1 n2 n3 n4 n5 n6
      replace B := B.trans (hb.mono B.size)
      clear hb
      go_wp2_with fail
      go_ret
      exact ⟨by first | rfl | simp, B⟩
set_option maxHeartbeats 4000000 in
theorem implRoundOf_any (s g : Int) (a : Option Addr) (n c : Nat) (M : Nat → SlT) (w : World) (hm : n ≤ maxLen) (hs : SrcC w a (n * 2) (MFSlot M)) :
    Calls Tryd.prog 17 #[.agg #[.int .i64 s, .int .i64 g, .slice a n c]] w fun e w' => e = .returned (.int .i64 (rnI s g M n)) ∧ Below w.heap.size w w' := by
  have B := Below.nw w (.cells #[.int .i64 s, .int .i64 g, .slice a n c] 27)
  have N := Tx3.new w (.int .i64 s) (.int .i64 g) (.slice a n c) 27
  have HS : Hid (SrcC w a (n * 2) (MFSlot M)) := hs
  clear hs
  have C1 := fun w' h => planOk_any s g a n c M w' hm h
  cases h1 : plB s g M n
  · rw [rnI_f h1]
    rw [h1] at C1
    go_enter Tryd.func17, Tryd.ntmps17
    go_upto_region 1 with fail
    generalize w.alloc (.cells #[.int .i64 s, .int .i64 g, .slice a n c] 27) = v at *
    obtain ⟨n0, n1, n2, n3, n4, n5, n6⟩ := id N
    go_wp2_with fail
    refine (C1 _ (HS.out.below B)).mono ?_
    rintro e v1 ⟨rfl, hb⟩
    clear n0 n1 n2 n3 n4 n5 n6
    replace B := B.trans (hb.mono B.size)
    clear hb
    go_wp2_with fail
    go_ret
    exact ⟨rfl, B⟩
  · rw [rnI_t h1]
    have C2 := fun w' h => planRound_any s g a n c M w' h1 h
    rw [h1] at C1
    generalize upS g M n = u at *
    go_enter Tryd.func17, Tryd.ntmps17
    go_upto_region 1 with fail
    generalize w.alloc (.cells #[.int .i64 s, .int .i64 g, .slice a n c] 27) = v at *
    obtain ⟨n0, n1, n2, n3, n4, n5, n6⟩ := id N
    go_wp2_with fail
    refine (C1 _ (HS.out.below B)).mono ?_
    rintro e v1 ⟨rfl, hb⟩
    clear n0 n1 n2 n3 n4 n5 n6
    replace B := B.trans (hb.mono B.size)
    replace N := N.below hb
    clear hb
    obtain ⟨n0, n1, n2, n3, n4, n5, n6⟩ := id N
    go_wp2_with fail
    refine (C2 _ (HS.out.below B)).mono ?_
    rintro e v2 ⟨rfl, hb⟩
    clear n0 n1 n2 n3 n4 n5 n6
    replace B := B.trans (hb.mono B.size)
    clear hb
    go_wp2_with fail
    go_ret
    exact ⟨rfl, B⟩
end Go.Proofs.YtdahabbdhjgpdaaDoor
