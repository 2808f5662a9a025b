/- What the draw of a message of chapter 4 leaves: DrawPack. -/
import Derived.Test.YtbflhhifkhoapaaY2
import Derived.WalkKit
import Derived.WalkSpells
import Derived.WalkLawsBesides
import Derived.Deep.QuietTactic
import Derived.BigQuiet
namespace Go.Proofs.Ytbflhhifkhoapaa
open Go.RowKit
set_option linter.unusedVariables false
set_option maxHeartbeats 8000000 in
theorem l4DrawMsg_any (B p : Nat) (w : World) (hcur : CurOk w B p) :
    Calls Try.prog 35 #[.pointer (some ⟨p, 0, none⟩)] w fun e w' => ∃ (k fr tu no lo hi sl : Int) (s : ByteArray), e = .returned (.agg #[.int .i64 k, .int .i64 fr, .int .i64 tu, .int .i64 no, .int .i64 lo, .int .i64 hi, .int .i64 sl, .string s]) ∧ s.size ≤ 100 ∧ CurOk w' B p ∧ But p w w' := by
  have hpl := hcur.lt
  have A1 := Below.al w (.cells #[.int .i64 0, .int .i64 0, .int .i64 0, .int .i64 0, .int .i64 0, .int .i64 0, .int .i64 0, .string ⟨#[]⟩] 27)
  have R := Box8.new w 0 0 0 0 0 0 0 ⟨#[]⟩ 27
  have T := Thaw8.new w 0 0 0 0 0 0 0 ⟨#[]⟩ 27
  go_enter Try.func35, Try.ntmps35
  go_wp2_with fail
  refine (l4DrawRight_any B p _ (hcur.below A1)).mono ?_
  rintro e w1 ⟨m1, m2, m3, m4, m5, m6, m7, m8, rfl, hm8, c1, b1⟩
  replace T := T.but b1 R.1 (by omega)
  replace R := R.but b1 (by omega)
  replace b1 := (But.of_below A1).trans b1
  have S := St.start c1 b1 R T hpl.1 m1 m2 m3 m4 m5 m6 m7 m8 hm8 27
  have hJM : w.heap.size < w1.heap.size := S.2.2.2.1
  clear A1 hcur c1 b1 R T
  go_wp2_with fail
  refine (l1Below_any B p 25 _ S.1).mono ?_
  rintro e w2 ⟨x, rfl, xl, xh, xp, xz, c, b⟩
  replace S := S.but c b
  clear xp xz b c
  by_cases h0 : x = 0
  · subst h0
    obtain ⟨-, -, ⟨k, fr, tu, no, lo, hi, sl, s, ⟨a0, a1, a2, a3, a4, a5, a6, a7, a8⟩, ⟨t0, t1, t2, t3, t4, t5, t6, t7⟩, -⟩, -, -, -, -, -⟩ := id S
    go_wp2_with fail
    have hp := pickLit B p w2 [0, 4, 3, 1] S.1 (by simp) (by simp)
    simp only [List.map_cons, List.map_nil, List.length_cons, List.length_nil, Nat.zero_add, Nat.reduceAdd] at hp
    refine hp.mono ?_
    clear hp
    clear a0 a1 a2 a3 a4 a5 a6 a7 a8 t0 t1 t2 t3 t4 t5 t6 t7
    rintro e w3 ⟨v, rfl, c, b⟩
    replace S := S.but c b
    clear b c
    obtain ⟨-, -, ⟨k, fr, tu, no, lo, hi, sl, s, ⟨a0, a1, a2, a3, a4, a5, a6, a7, a8⟩, ⟨t0, t1, t2, t3, t4, t5, t6, t7⟩, -⟩, -, -, -, -, -⟩ := id S
    go_upto_region 17 with fail
    clear a0 a1 a2 a3 a4 a5 a6 a7 a8 t0 t1 t2 t3 t4 t5 t6 t7
    replace S := S.setI 0 (by omega) v
    generalize w3.setCell ⟨w1.heap.size, 0, none⟩ (.int .i64 v) = wz at *
    obtain ⟨hc, hb, ⟨k, fr, tu, no, lo, hi, sl, s, bx, tx, hs⟩, hj, r, t, hp, hB⟩ := S
    have Q := box8 r k fr tu no lo hi sl s
    have QC := cur8 (J := w.heap.size) hc (by omega) (by omega) k fr tu no lo hi sl s
    have QB := but8 (J := w.heap.size) hb (Nat.le_refl _) k fr tu no lo hi sl s
    obtain ⟨a0, a1, a2, a3, a4, a5, a6, a7, a8⟩ := bx
    obtain ⟨r0, r1, r2, r3, r4, r5, r6, r7, r8⟩ := r
    obtain ⟨t0, t1, t2, t3, t4, t5, t6, t7⟩ := t
    go_wp2_with fail
    generalize ((((((((wz.setCell ⟨w.heap.size, 0, none⟩ (.int .i64 k)).setCell ⟨w.heap.size, 1, none⟩ (.int .i64 fr)).setCell ⟨w.heap.size, 2, none⟩ (.int .i64 tu)).setCell ⟨w.heap.size, 3, none⟩ (.int .i64 no)).setCell ⟨w.heap.size, 4, none⟩ (.int .i64 lo)).setCell ⟨w.heap.size, 5, none⟩ (.int .i64 hi)).setCell ⟨w.heap.size, 6, none⟩ (.int .i64 sl)).setCell ⟨w.heap.size, 7, none⟩ (.string s)) = wq at *
    obtain ⟨q0, q1, q2, q3, q4, q5, q6, q7, q8⟩ := Q
    exact bodyPost_ret (v := .agg #[.int .i64 k, .int .i64 fr, .int .i64 tu, .int .i64 no, .int .i64 lo, .int .i64 hi, .int .i64 sl, .string s]) (by simp (maxDischargeDepth := 6) [results, Try.results35, go_sem, q1, q2, q3, q4, q5, q6, q7, q8]) rfl ⟨_, _, _, _, _, _, _, _, rfl, hs, QC, QB⟩
  · have e0 : (x == 0) = false := by simp; omega
    by_cases h1 : x = 1
    · subst h1
      obtain ⟨-, -, ⟨k, fr, tu, no, lo, hi, sl, s, ⟨a0, a1, a2, a3, a4, a5, a6, a7, a8⟩, ⟨t0, t1, t2, t3, t4, t5, t6, t7⟩, -⟩, -, -, -, -, -⟩ := id S
      go_wp2_with fail
      have hp := pickLit B p w2 [-1, 8, tu] S.1 (by simp) (by simp)
      simp only [List.map_cons, List.map_nil, List.length_cons, List.length_nil, Nat.zero_add, Nat.reduceAdd] at hp
      refine hp.mono ?_
      clear hp
      clear a0 a1 a2 a3 a4 a5 a6 a7 a8 t0 t1 t2 t3 t4 t5 t6 t7
      rintro e w3 ⟨v, rfl, c, b⟩
      replace S := S.but c b
      clear b c
      obtain ⟨-, -, ⟨k, fr, tu, no, lo, hi, sl, s, ⟨a0, a1, a2, a3, a4, a5, a6, a7, a8⟩, ⟨t0, t1, t2, t3, t4, t5, t6, t7⟩, -⟩, -, -, -, -, -⟩ := id S
      go_upto_region 17 with fail
      clear a0 a1 a2 a3 a4 a5 a6 a7 a8 t0 t1 t2 t3 t4 t5 t6 t7
      replace S := S.setI 1 (by omega) v
      generalize w3.setCell ⟨w1.heap.size, 1, none⟩ (.int .i64 v) = wz at *
      obtain ⟨hc, hb, ⟨k, fr, tu, no, lo, hi, sl, s, bx, tx, hs⟩, hj, r, t, hp, hB⟩ := S
      have Q := box8 r k fr tu no lo hi sl s
      have QC := cur8 (J := w.heap.size) hc (by omega) (by omega) k fr tu no lo hi sl s
      have QB := but8 (J := w.heap.size) hb (Nat.le_refl _) k fr tu no lo hi sl s
      obtain ⟨a0, a1, a2, a3, a4, a5, a6, a7, a8⟩ := bx
      obtain ⟨r0, r1, r2, r3, r4, r5, r6, r7, r8⟩ := r
      obtain ⟨t0, t1, t2, t3, t4, t5, t6, t7⟩ := t
      go_wp2_with fail
      generalize ((((((((wz.setCell ⟨w.heap.size, 0, none⟩ (.int .i64 k)).setCell ⟨w.heap.size, 1, none⟩ (.int .i64 fr)).setCell ⟨w.heap.size, 2, none⟩ (.int .i64 tu)).setCell ⟨w.heap.size, 3, none⟩ (.int .i64 no)).setCell ⟨w.heap.size, 4, none⟩ (.int .i64 lo)).setCell ⟨w.heap.size, 5, none⟩ (.int .i64 hi)).setCell ⟨w.heap.size, 6, none⟩ (.int .i64 sl)).setCell ⟨w.heap.size, 7, none⟩ (.string s)) = wq at *
      obtain ⟨q0, q1, q2, q3, q4, q5, q6, q7, q8⟩ := Q
      exact bodyPost_ret (v := .agg #[.int .i64 k, .int .i64 fr, .int .i64 tu, .int .i64 no, .int .i64 lo, .int .i64 hi, .int .i64 sl, .string s]) (by simp (maxDischargeDepth := 6) [results, Try.results35, go_sem, q1, q2, q3, q4, q5, q6, q7, q8]) rfl ⟨_, _, _, _, _, _, _, _, rfl, hs, QC, QB⟩
    · have e1 : (x == 1) = false := by simp; omega
      by_cases h2 : x = 2
      · subst h2
        obtain ⟨-, -, ⟨k, fr, tu, no, lo, hi, sl, s, ⟨a0, a1, a2, a3, a4, a5, a6, a7, a8⟩, ⟨t0, t1, t2, t3, t4, t5, t6, t7⟩, -⟩, -, -, -, -, -⟩ := id S
        go_wp2_with fail
        have hp := pickLit B p w2 [-1, 8, fr] S.1 (by simp) (by simp)
        simp only [List.map_cons, List.map_nil, List.length_cons, List.length_nil, Nat.zero_add, Nat.reduceAdd] at hp
        refine hp.mono ?_
        clear hp
        clear a0 a1 a2 a3 a4 a5 a6 a7 a8 t0 t1 t2 t3 t4 t5 t6 t7
        rintro e w3 ⟨v, rfl, c, b⟩
        replace S := S.but c b
        clear b c
        obtain ⟨-, -, ⟨k, fr, tu, no, lo, hi, sl, s, ⟨a0, a1, a2, a3, a4, a5, a6, a7, a8⟩, ⟨t0, t1, t2, t3, t4, t5, t6, t7⟩, -⟩, -, -, -, -, -⟩ := id S
        go_upto_region 17 with fail
        clear a0 a1 a2 a3 a4 a5 a6 a7 a8 t0 t1 t2 t3 t4 t5 t6 t7
        replace S := S.setI 2 (by omega) v
        generalize w3.setCell ⟨w1.heap.size, 2, none⟩ (.int .i64 v) = wz at *
        obtain ⟨hc, hb, ⟨k, fr, tu, no, lo, hi, sl, s, bx, tx, hs⟩, hj, r, t, hp, hB⟩ := S
        have Q := box8 r k fr tu no lo hi sl s
        have QC := cur8 (J := w.heap.size) hc (by omega) (by omega) k fr tu no lo hi sl s
        have QB := but8 (J := w.heap.size) hb (Nat.le_refl _) k fr tu no lo hi sl s
        obtain ⟨a0, a1, a2, a3, a4, a5, a6, a7, a8⟩ := bx
        obtain ⟨r0, r1, r2, r3, r4, r5, r6, r7, r8⟩ := r
        obtain ⟨t0, t1, t2, t3, t4, t5, t6, t7⟩ := t
        go_wp2_with fail
        generalize ((((((((wz.setCell ⟨w.heap.size, 0, none⟩ (.int .i64 k)).setCell ⟨w.heap.size, 1, none⟩ (.int .i64 fr)).setCell ⟨w.heap.size, 2, none⟩ (.int .i64 tu)).setCell ⟨w.heap.size, 3, none⟩ (.int .i64 no)).setCell ⟨w.heap.size, 4, none⟩ (.int .i64 lo)).setCell ⟨w.heap.size, 5, none⟩ (.int .i64 hi)).setCell ⟨w.heap.size, 6, none⟩ (.int .i64 sl)).setCell ⟨w.heap.size, 7, none⟩ (.string s)) = wq at *
        obtain ⟨q0, q1, q2, q3, q4, q5, q6, q7, q8⟩ := Q
        exact bodyPost_ret (v := .agg #[.int .i64 k, .int .i64 fr, .int .i64 tu, .int .i64 no, .int .i64 lo, .int .i64 hi, .int .i64 sl, .string s]) (by simp (maxDischargeDepth := 6) [results, Try.results35, go_sem, q1, q2, q3, q4, q5, q6, q7, q8]) rfl ⟨_, _, _, _, _, _, _, _, rfl, hs, QC, QB⟩
      · have e2 : (x == 2) = false := by simp; omega
        by_cases h3 : x = 3
        · subst h3
          obtain ⟨-, -, ⟨k, fr, tu, no, lo, hi, sl, s, ⟨a0, a1, a2, a3, a4, a5, a6, a7, a8⟩, ⟨t0, t1, t2, t3, t4, t5, t6, t7⟩, -⟩, -, -, -, -, -⟩ := id S
          go_wp2_with fail
          have hp := pickLit B p w2 [-1, 100001000, 1] S.1 (by simp) (by simp)
          simp only [List.map_cons, List.map_nil, List.length_cons, List.length_nil, Nat.zero_add, Nat.reduceAdd] at hp
          refine hp.mono ?_
          clear hp
          clear a0 a1 a2 a3 a4 a5 a6 a7 a8 t0 t1 t2 t3 t4 t5 t6 t7
          rintro e w3 ⟨v, rfl, c, b⟩
          replace S := S.but c b
          clear b c
          obtain ⟨-, -, ⟨k, fr, tu, no, lo, hi, sl, s, ⟨a0, a1, a2, a3, a4, a5, a6, a7, a8⟩, ⟨t0, t1, t2, t3, t4, t5, t6, t7⟩, -⟩, -, -, -, -, -⟩ := id S
          go_upto_region 17 with fail
          clear a0 a1 a2 a3 a4 a5 a6 a7 a8 t0 t1 t2 t3 t4 t5 t6 t7
          replace S := S.setI 3 (by omega) v
          generalize w3.setCell ⟨w1.heap.size, 3, none⟩ (.int .i64 v) = wz at *
          obtain ⟨hc, hb, ⟨k, fr, tu, no, lo, hi, sl, s, bx, tx, hs⟩, hj, r, t, hp, hB⟩ := S
          have Q := box8 r k fr tu no lo hi sl s
          have QC := cur8 (J := w.heap.size) hc (by omega) (by omega) k fr tu no lo hi sl s
          have QB := but8 (J := w.heap.size) hb (Nat.le_refl _) k fr tu no lo hi sl s
          obtain ⟨a0, a1, a2, a3, a4, a5, a6, a7, a8⟩ := bx
          obtain ⟨r0, r1, r2, r3, r4, r5, r6, r7, r8⟩ := r
          obtain ⟨t0, t1, t2, t3, t4, t5, t6, t7⟩ := t
          go_wp2_with fail
          generalize ((((((((wz.setCell ⟨w.heap.size, 0, none⟩ (.int .i64 k)).setCell ⟨w.heap.size, 1, none⟩ (.int .i64 fr)).setCell ⟨w.heap.size, 2, none⟩ (.int .i64 tu)).setCell ⟨w.heap.size, 3, none⟩ (.int .i64 no)).setCell ⟨w.heap.size, 4, none⟩ (.int .i64 lo)).setCell ⟨w.heap.size, 5, none⟩ (.int .i64 hi)).setCell ⟨w.heap.size, 6, none⟩ (.int .i64 sl)).setCell ⟨w.heap.size, 7, none⟩ (.string s)) = wq at *
          obtain ⟨q0, q1, q2, q3, q4, q5, q6, q7, q8⟩ := Q
          exact bodyPost_ret (v := .agg #[.int .i64 k, .int .i64 fr, .int .i64 tu, .int .i64 no, .int .i64 lo, .int .i64 hi, .int .i64 sl, .string s]) (by simp (maxDischargeDepth := 6) [results, Try.results35, go_sem, q1, q2, q3, q4, q5, q6, q7, q8]) rfl ⟨_, _, _, _, _, _, _, _, rfl, hs, QC, QB⟩
        · have e3 : (x == 3) = false := by simp; omega
          by_cases h4 : x = 4
          · subst h4
            go_wp2_with fail
            refine (l1DrawIval_any B p _ S.1).mono ?_
            rintro e w3 ⟨lo', hi', rfl, c, b⟩
            replace S := S.but c b
            clear b c
            obtain ⟨-, -, ⟨k, fr, tu, no, lo, hi, sl, s, ⟨a0, a1, a2, a3, a4, a5, a6, a7, a8⟩, ⟨t0, t1, t2, t3, t4, t5, t6, t7⟩, -⟩, -, -, -, -, -⟩ := id S
            go_upto_region 17 with fail
            clear a0 a1 a2 a3 a4 a5 a6 a7 a8 t0 t1 t2 t3 t4 t5 t6 t7
            replace S := (S.setI 4 (by omega) lo').setI 5 (by omega) hi'
            generalize ((w3.setCell ⟨w1.heap.size, 4, none⟩ (.int .i64 lo')).setCell ⟨w1.heap.size, 5, none⟩ (.int .i64 hi')) = wz at *
            obtain ⟨hc, hb, ⟨k, fr, tu, no, lo, hi, sl, s, bx, tx, hs⟩, hj, r, t, hp, hB⟩ := S
            have Q := box8 r k fr tu no lo hi sl s
            have QC := cur8 (J := w.heap.size) hc (by omega) (by omega) k fr tu no lo hi sl s
            have QB := but8 (J := w.heap.size) hb (Nat.le_refl _) k fr tu no lo hi sl s
            obtain ⟨a0, a1, a2, a3, a4, a5, a6, a7, a8⟩ := bx
            obtain ⟨r0, r1, r2, r3, r4, r5, r6, r7, r8⟩ := r
            obtain ⟨t0, t1, t2, t3, t4, t5, t6, t7⟩ := t
            go_wp2_with fail
            generalize ((((((((wz.setCell ⟨w.heap.size, 0, none⟩ (.int .i64 k)).setCell ⟨w.heap.size, 1, none⟩ (.int .i64 fr)).setCell ⟨w.heap.size, 2, none⟩ (.int .i64 tu)).setCell ⟨w.heap.size, 3, none⟩ (.int .i64 no)).setCell ⟨w.heap.size, 4, none⟩ (.int .i64 lo)).setCell ⟨w.heap.size, 5, none⟩ (.int .i64 hi)).setCell ⟨w.heap.size, 6, none⟩ (.int .i64 sl)).setCell ⟨w.heap.size, 7, none⟩ (.string s)) = wq at *
            obtain ⟨q0, q1, q2, q3, q4, q5, q6, q7, q8⟩ := Q
            exact bodyPost_ret (v := .agg #[.int .i64 k, .int .i64 fr, .int .i64 tu, .int .i64 no, .int .i64 lo, .int .i64 hi, .int .i64 sl, .string s]) (by simp (maxDischargeDepth := 6) [results, Try.results35, go_sem, q1, q2, q3, q4, q5, q6, q7, q8]) rfl ⟨_, _, _, _, _, _, _, _, rfl, hs, QC, QB⟩
          · have e4 : (x == 4) = false := by simp; omega
            by_cases h5 : x = 5
            · subst h5
              obtain ⟨-, -, ⟨k, fr, tu, no, lo, hi, sl, s, ⟨a0, a1, a2, a3, a4, a5, a6, a7, a8⟩, ⟨t0, t1, t2, t3, t4, t5, t6, t7⟩, -⟩, -, -, -, -, -⟩ := id S
              go_wp2_with fail
              have hp := pickLit B p w2 [-1, 16, 15] S.1 (by simp) (by simp)
              simp only [List.map_cons, List.map_nil, List.length_cons, List.length_nil, Nat.zero_add, Nat.reduceAdd] at hp
              refine hp.mono ?_
              clear hp
              clear a0 a1 a2 a3 a4 a5 a6 a7 a8 t0 t1 t2 t3 t4 t5 t6 t7
              rintro e w3 ⟨v, rfl, c, b⟩
              replace S := S.but c b
              clear b c
              obtain ⟨-, -, ⟨k, fr, tu, no, lo, hi, sl, s, ⟨a0, a1, a2, a3, a4, a5, a6, a7, a8⟩, ⟨t0, t1, t2, t3, t4, t5, t6, t7⟩, -⟩, -, -, -, -, -⟩ := id S
              go_upto_region 17 with fail
              clear a0 a1 a2 a3 a4 a5 a6 a7 a8 t0 t1 t2 t3 t4 t5 t6 t7
              replace S := S.setI 6 (by omega) v
              generalize w3.setCell ⟨w1.heap.size, 6, none⟩ (.int .i64 v) = wz at *
              obtain ⟨hc, hb, ⟨k, fr, tu, no, lo, hi, sl, s, bx, tx, hs⟩, hj, r, t, hp, hB⟩ := S
              have Q := box8 r k fr tu no lo hi sl s
              have QC := cur8 (J := w.heap.size) hc (by omega) (by omega) k fr tu no lo hi sl s
              have QB := but8 (J := w.heap.size) hb (Nat.le_refl _) k fr tu no lo hi sl s
              obtain ⟨a0, a1, a2, a3, a4, a5, a6, a7, a8⟩ := bx
              obtain ⟨r0, r1, r2, r3, r4, r5, r6, r7, r8⟩ := r
              obtain ⟨t0, t1, t2, t3, t4, t5, t6, t7⟩ := t
              go_wp2_with fail
              generalize ((((((((wz.setCell ⟨w.heap.size, 0, none⟩ (.int .i64 k)).setCell ⟨w.heap.size, 1, none⟩ (.int .i64 fr)).setCell ⟨w.heap.size, 2, none⟩ (.int .i64 tu)).setCell ⟨w.heap.size, 3, none⟩ (.int .i64 no)).setCell ⟨w.heap.size, 4, none⟩ (.int .i64 lo)).setCell ⟨w.heap.size, 5, none⟩ (.int .i64 hi)).setCell ⟨w.heap.size, 6, none⟩ (.int .i64 sl)).setCell ⟨w.heap.size, 7, none⟩ (.string s)) = wq at *
              obtain ⟨q0, q1, q2, q3, q4, q5, q6, q7, q8⟩ := Q
              exact bodyPost_ret (v := .agg #[.int .i64 k, .int .i64 fr, .int .i64 tu, .int .i64 no, .int .i64 lo, .int .i64 hi, .int .i64 sl, .string s]) (by simp (maxDischargeDepth := 6) [results, Try.results35, go_sem, q1, q2, q3, q4, q5, q6, q7, q8]) rfl ⟨_, _, _, _, _, _, _, _, rfl, hs, QC, QB⟩
            · have e5 : (x == 5) = false := by simp; omega
              by_cases h6 : x = 6
              · subst h6
                obtain ⟨-, -, ⟨k, fr, tu, no, lo, hi, sl, s, ⟨a0, a1, a2, a3, a4, a5, a6, a7, a8⟩, ⟨t0, t1, t2, t3, t4, t5, t6, t7⟩, -⟩, -, -, -, -, -⟩ := id S
                go_upto_region 17 with fail
                clear a0 a1 a2 a3 a4 a5 a6 a7 a8 t0 t1 t2 t3 t4 t5 t6 t7
                replace S := S.setS ⟨#[97, 98, 99, 100, 101, 102, 103, 104, 105, 106, 107, 108, 109, 110, 111, 112, 113, 114, 115, 116, 117, 118, 119, 120, 121]⟩ (by decide)
                generalize w2.setCell ⟨w1.heap.size, 7, none⟩ (.string ⟨#[97, 98, 99, 100, 101, 102, 103, 104, 105, 106, 107, 108, 109, 110, 111, 112, 113, 114, 115, 116, 117, 118, 119, 120, 121]⟩) = wz at *
                obtain ⟨hc, hb, ⟨k, fr, tu, no, lo, hi, sl, s, bx, tx, hs⟩, hj, r, t, hp, hB⟩ := S
                have Q := box8 r k fr tu no lo hi sl s
                have QC := cur8 (J := w.heap.size) hc (by omega) (by omega) k fr tu no lo hi sl s
                have QB := but8 (J := w.heap.size) hb (Nat.le_refl _) k fr tu no lo hi sl s
                obtain ⟨a0, a1, a2, a3, a4, a5, a6, a7, a8⟩ := bx
                obtain ⟨r0, r1, r2, r3, r4, r5, r6, r7, r8⟩ := r
                obtain ⟨t0, t1, t2, t3, t4, t5, t6, t7⟩ := t
                go_wp2_with fail
                generalize ((((((((wz.setCell ⟨w.heap.size, 0, none⟩ (.int .i64 k)).setCell ⟨w.heap.size, 1, none⟩ (.int .i64 fr)).setCell ⟨w.heap.size, 2, none⟩ (.int .i64 tu)).setCell ⟨w.heap.size, 3, none⟩ (.int .i64 no)).setCell ⟨w.heap.size, 4, none⟩ (.int .i64 lo)).setCell ⟨w.heap.size, 5, none⟩ (.int .i64 hi)).setCell ⟨w.heap.size, 6, none⟩ (.int .i64 sl)).setCell ⟨w.heap.size, 7, none⟩ (.string s)) = wq at *
                obtain ⟨q0, q1, q2, q3, q4, q5, q6, q7, q8⟩ := Q
                exact bodyPost_ret (v := .agg #[.int .i64 k, .int .i64 fr, .int .i64 tu, .int .i64 no, .int .i64 lo, .int .i64 hi, .int .i64 sl, .string s]) (by simp (maxDischargeDepth := 6) [results, Try.results35, go_sem, q1, q2, q3, q4, q5, q6, q7, q8]) rfl ⟨_, _, _, _, _, _, _, _, rfl, hs, QC, QB⟩
              · have e6 : (x == 6) = false := by simp; omega
                go_upto_region 17 with fail
                obtain ⟨hc, hb, ⟨k, fr, tu, no, lo, hi, sl, s, bx, tx, hs⟩, hj, r, t, hp, hB⟩ := S
                have Q := box8 r k fr tu no lo hi sl s
                have QC := cur8 (J := w.heap.size) hc (by omega) (by omega) k fr tu no lo hi sl s
                have QB := but8 (J := w.heap.size) hb (Nat.le_refl _) k fr tu no lo hi sl s
                obtain ⟨a0, a1, a2, a3, a4, a5, a6, a7, a8⟩ := bx
                obtain ⟨r0, r1, r2, r3, r4, r5, r6, r7, r8⟩ := r
                obtain ⟨t0, t1, t2, t3, t4, t5, t6, t7⟩ := t
                go_wp2_with fail
                generalize ((((((((w2.setCell ⟨w.heap.size, 0, none⟩ (.int .i64 k)).setCell ⟨w.heap.size, 1, none⟩ (.int .i64 fr)).setCell ⟨w.heap.size, 2, none⟩ (.int .i64 tu)).setCell ⟨w.heap.size, 3, none⟩ (.int .i64 no)).setCell ⟨w.heap.size, 4, none⟩ (.int .i64 lo)).setCell ⟨w.heap.size, 5, none⟩ (.int .i64 hi)).setCell ⟨w.heap.size, 6, none⟩ (.int .i64 sl)).setCell ⟨w.heap.size, 7, none⟩ (.string s)) = wq at *
                obtain ⟨q0, q1, q2, q3, q4, q5, q6, q7, q8⟩ := Q
                exact bodyPost_ret (v := .agg #[.int .i64 k, .int .i64 fr, .int .i64 tu, .int .i64 no, .int .i64 lo, .int .i64 hi, .int .i64 sl, .string s]) (by simp (maxDischargeDepth := 6) [results, Try.results35, go_sem, q1, q2, q3, q4, q5, q6, q7, q8]) rfl ⟨_, _, _, _, _, _, _, _, rfl, hs, QC, QB⟩
set_option maxHeartbeats 1000000 in
theorem DrawPack_any (a : Option Addr) (n c : Nat) (w : World) (hn : n ≤ 1048576) (hcode : CodeB w w.heap.size a n) :
    Calls Try.prog 9 #[.slice a n c] w fun e w' => ∃ (k fr tu no lo hi sl : Int) (s : ByteArray), e = .returned (.agg #[.int .i64 k, .int .i64 fr, .int .i64 tu, .int .i64 no, .int .i64 lo, .int .i64 hi, .int .i64 sl, .string s]) ∧ s.size ≤ 100 ∧ Below w.heap.size w w' := by
  have A1 := Below.al w (.cells #[.int .i64 0, .int .i64 0, .int .i64 0, .int .i64 0, .int .i64 0, .int .i64 0, .int .i64 0, .string ⟨#[]⟩] 27)
  have R := Box8.new w 0 0 0 0 0 0 0 ⟨#[]⟩ 27
  have T := Thaw8.new w 0 0 0 0 0 0 0 ⟨#[]⟩ 27
  go_enter Try.func9, Try.ntmps9
  go_wp2_with fail
  refine (l1New_any a n c _ hn ((hcode.below A1).more A1.size)).mono ?_
  rintro e w1 ⟨p, rfl, hc, hb⟩
  have hl := hc.lt
  have R1 := R.below hb
  have T1 := T.belowB hb R.1
  have B1 := A1.trans (hb.mono A1.size)
  have hp : w.heap.size < p := by have := hl.2; simp at this; omega
  clear R T hb A1
  go_wp2_with fail
  refine (l4DrawMsg_any _ p _ hc).mono ?_
  rintro e w2 ⟨k, fr, tu, no, lo, hi, sl, s, rfl, hs, hc2, hb2⟩
  have R2 := R1.but hb2 (by omega)
  have T2 := T1.but hb2 R1.1 (by omega)
  have B2 := B1.trans (hb2.below (by omega) B1.size)
  clear R1 T1 B1 hb2 hc hc2
  have Q := box8 R2 k fr tu no lo hi sl s
  have QB : Below w.heap.size w ((((((((w2.setCell ⟨w.heap.size, 0, none⟩ (.int .i64 k)).setCell ⟨w.heap.size, 1, none⟩ (.int .i64 fr)).setCell ⟨w.heap.size, 2, none⟩ (.int .i64 tu)).setCell ⟨w.heap.size, 3, none⟩ (.int .i64 no)).setCell ⟨w.heap.size, 4, none⟩ (.int .i64 lo)).setCell ⟨w.heap.size, 5, none⟩ (.int .i64 hi)).setCell ⟨w.heap.size, 6, none⟩ (.int .i64 sl)).setCell ⟨w.heap.size, 7, none⟩ (.string s)) := (((((((B2.setCell (p := ⟨w.heap.size, 0, none⟩) (Nat.le_refl _) _).setCell (p := ⟨w.heap.size, 1, none⟩) (Nat.le_refl _) _).setCell (p := ⟨w.heap.size, 2, none⟩) (Nat.le_refl _) _).setCell (p := ⟨w.heap.size, 3, none⟩) (Nat.le_refl _) _).setCell (p := ⟨w.heap.size, 4, none⟩) (Nat.le_refl _) _).setCell (p := ⟨w.heap.size, 5, none⟩) (Nat.le_refl _) _).setCell (p := ⟨w.heap.size, 6, none⟩) (Nat.le_refl _) _).setCell (p := ⟨w.heap.size, 7, none⟩) (Nat.le_refl _) _
  obtain ⟨r0, r1, r2, r3, r4, r5, r6, r7, r8⟩ := R2
  obtain ⟨t0, t1, t2, t3, t4, t5, t6, t7⟩ := T2
  go_wp2_with fail
  generalize ((((((((w2.setCell ⟨w.heap.size, 0, none⟩ (.int .i64 k)).setCell ⟨w.heap.size, 1, none⟩ (.int .i64 fr)).setCell ⟨w.heap.size, 2, none⟩ (.int .i64 tu)).setCell ⟨w.heap.size, 3, none⟩ (.int .i64 no)).setCell ⟨w.heap.size, 4, none⟩ (.int .i64 lo)).setCell ⟨w.heap.size, 5, none⟩ (.int .i64 hi)).setCell ⟨w.heap.size, 6, none⟩ (.int .i64 sl)).setCell ⟨w.heap.size, 7, none⟩ (.string s)) = wq at *
  obtain ⟨q0, q1, q2, q3, q4, q5, q6, q7, q8⟩ := Q
  exact bodyPost_ret (v := .agg #[.int .i64 k, .int .i64 fr, .int .i64 tu, .int .i64 no, .int .i64 lo, .int .i64 hi, .int .i64 sl, .string s]) (by simp (maxDischargeDepth := 6) [results, Try.results9, go_sem, q1, q2, q3, q4, q5, q6, q7, q8]) rfl ⟨_, _, _, _, _, _, _, _, rfl, hs, QB⟩
end Go.Proofs.Ytbflhhifkhoapaa
