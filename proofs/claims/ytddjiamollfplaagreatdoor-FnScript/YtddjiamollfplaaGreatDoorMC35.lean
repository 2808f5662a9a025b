/- What the draw of a message of chapter 4 leaves: some message. -/
import Derived.Test.YtddjiamollfplaaGreatDoorMC0
import Derived.Test.YtddjiamollfplaaGreatDoorMC33
namespace Go.Proofs.YtddjiamollfplaaGreatDoor
open Go.RowKit
set_option linter.unusedVariables false
def bY (w : World) (j : Nat) : Prop := ∃ (k fr tu no lo hi sl : Int) (s : ByteArray), aN w j k fr tu no lo hi sl s ∧ bw w j ∧ s.size ≤ 100
theorem bY.but {p j : Nat} {w w' : World} (h : bY w j) (hb : But p w w') (hj : j ≠ p) : bY w' j := by
 obtain ⟨k, fr, tu, no, lo, hi, sl, s, a, t, hs⟩ := h
 exact ⟨k, fr, tu, no, lo, hi, sl, s, a.but hb hj, t.but hb a.1 hj, hs⟩
theorem bY.below {j : Nat} {w w' : World} (h : bY w j) (hb : Below w.heap.size w w') : bY w' j := by
 obtain ⟨k, fr, tu, no, lo, hi, sl, s, a, t, hs⟩ := h
 exact ⟨k, fr, tu, no, lo, hi, sl, s, a.below hb, t.belowB hb a.1, hs⟩
theorem bY.setO {j b : Nat} {w : World} (h : bY w j) (hb : b ≠ j) (o : Nat) (u : Value) : bY (w.setCell ⟨b, o, none⟩ u) j := by
 obtain ⟨k, fr, tu, no, lo, hi, sl, s, a, t, hs⟩ := h
 exact ⟨k, fr, tu, no, lo, hi, sl, s, a.setO hb o u, t.set _ _, hs⟩
theorem bY.setS {j : Nat} {w : World} (h : bY w j) (s' : ByteArray) (hs' : s'.size ≤ 100) : bY (w.setCell ⟨j, 7, none⟩ (.string s')) j := by
 obtain ⟨k, fr, tu, no, lo, hi, sl, s, a, t, hs⟩ := h
 exact ⟨k, fr, tu, no, lo, hi, sl, s', a.set7 s', t.set _ _, hs'⟩
theorem bY.setI {j : Nat} {w : World} (h : bY w j) (o : Nat) (ho : o ≤ 6) (x : Int) : bY (w.setCell ⟨j, o, none⟩ (.int .i64 x)) j := by
 obtain ⟨k, fr, tu, no, lo, hi, sl, s, a, t, hs⟩ := h
 have e : o = 0 ∨ o = 1 ∨ o = 2 ∨ o = 3 ∨ o = 4 ∨ o = 5 ∨ o = 6 := by omega
 rcases e with rfl | rfl | rfl | rfl | rfl | rfl | rfl
 ·exact ⟨x, fr, tu, no, lo, hi, sl, s, a.set0 x, t.set _ _, hs⟩
 ·exact ⟨k, x, tu, no, lo, hi, sl, s, a.set1 x, t.set _ _, hs⟩
 ·exact ⟨k, fr, x, no, lo, hi, sl, s, a.set2 x, t.set _ _, hs⟩
 ·exact ⟨k, fr, tu, x, lo, hi, sl, s, a.set3 x, t.set _ _, hs⟩
 ·exact ⟨k, fr, tu, no, x, hi, sl, s, a.set4 x, t.set _ _, hs⟩
 ·exact ⟨k, fr, tu, no, lo, x, sl, s, a.set5 x, t.set _ _, hs⟩
 ·exact ⟨k, fr, tu, no, lo, hi, x, s, a.set6 x, t.set _ _, hs⟩
def St (w0 : World) (B p j : Nat) (w : World) : Prop := aq w B p ∧ But p w0 w ∧ bY w j ∧ w0.heap.size < j ∧ aN w w0.heap.size 0 0 0 0 0 0 0 ⟨#[]⟩ ∧ bw w w0.heap.size ∧ p < w0.heap.size ∧ B ≤ p
theorem St.but {w0 w w' : World} {B p j : Nat} (h : St w0 B p j w) (hc : aq w' B p) (hb : But p w w') : St w0 B p j w' := by
 obtain ⟨a1, a2, a3, a4, a5, a6, a7, a8⟩ := h
 exact ⟨hc, a2.trans hb, a3.but hb (by omega), a4, a5.but hb (by omega), a6.but hb a5.1 (by omega), a7, a8⟩
theorem St.below {w0 w w' : World} {B p j : Nat} (h : St w0 B p j w) (hb : Below w.heap.size w w') : St w0 B p j w' := by
 obtain ⟨a1, a2, a3, a4, a5, a6, a7, a8⟩ := h
 exact ⟨a1.below hb, a2.trans (But.of_below hb), a3.below hb, a4, a5.below hb, a6.belowB hb a5.1, a7, a8⟩
theorem St.drew {w0 w : World} {B p j : Nat} (h : St w0 B p j w) : St w0 B p j w.drew := h
theorem St.setI {w0 w : World} {B p j : Nat} (h : St w0 B p j w) (o : Nat) (ho : o ≤ 6) (x : Int) : St w0 B p j (w.setCell ⟨j, o, none⟩ (.int .i64 x)) := by
 obtain ⟨a1, a2, a3, a4, a5, a6, a7, a8⟩ := h
 exact ⟨a1.setOther (by omega) (by omega) _ _, a2.setNew (by omega) _ _, a3.setI o ho x, a4, a5.setO (by omega) _ _, a6.set _ _, a7, a8⟩
theorem St.setS {w0 w : World} {B p j : Nat} (h : St w0 B p j w) (s' : ByteArray) (hs' : s'.size ≤ 100) : St w0 B p j (w.setCell ⟨j, 7, none⟩ (.string s')) := by
 obtain ⟨a1, a2, a3, a4, a5, a6, a7, a8⟩ := h
 exact ⟨a1.setOther (by omega) (by omega) _ _, a2.setNew (by omega) _ _, a3.setS s' hs', a4, a5.setO (by omega) _ _, a6.set _ _, a7, a8⟩
theorem St.setO {w0 w : World} {B p j : Nat} (h : St w0 B p j w) {k : Nat} (hk : w0.heap.size < k) (hj : k ≠ j) (o : Nat) (u : Value) : St w0 B p j (w.setCell ⟨k, o, none⟩ u) := by
 obtain ⟨a1, a2, a3, a4, a5, a6, a7, a8⟩ := h
 exact ⟨a1.setOther (by omega) (by omega) _ _, a2.setNew (by omega) _ _, a3.setO hj _ _, a4, a5.setO (by omega) _ _, a6.set _ _, a7, a8⟩
theorem St.start {w0 w : World} {B p : Nat} (c : aq w B p) (b : But p w0 w) (r : aN w w0.heap.size 0 0 0 0 0 0 0 ⟨#[]⟩) (t : bw w w0.heap.size) (hp : p < w0.heap.size) (k fr tu no lo hi sl : Int) (s : ByteArray) (hs : s.size ≤ 100) (T : TypeId) : St w0 B p w.heap.size (w.alloc (.cells #[.int .i64 k, .int .i64 fr, .int .i64 tu, .int .i64 no, .int .i64 lo, .int .i64 hi, .int .i64 sl, .string s] T)) :=
 ⟨c.below (Below.al _ _), b.alloc _, ⟨k, fr, tu, no, lo, hi, sl, s, aN.new _ _ _ _ _ _ _ _ _ _, bw.new _ _ _ _ _ _ _ _ _ _, hs⟩, r.1, r.alloc _, t.alloc r.1 _, hp, c.lt.2⟩
theorem gJ {w : World} {B p J : Nat} (h : aq w B p) (hJ : J ≠ p) (hB : B ≤ J) (k fr tu no lo hi sl : Int) (s : ByteArray) : aq ((((((((w.setCell ⟨J, 0, none⟩ (.int .i64 k)).setCell ⟨J, 1, none⟩ (.int .i64 fr)).setCell ⟨J, 2, none⟩ (.int .i64 tu)).setCell ⟨J, 3, none⟩ (.int .i64 no)).setCell ⟨J, 4, none⟩ (.int .i64 lo)).setCell ⟨J, 5, none⟩ (.int .i64 hi)).setCell ⟨J, 6, none⟩ (.int .i64 sl)).setCell ⟨J, 7, none⟩ (.string s)) B p :=
 (((((((h.setOther hJ hB _ _).setOther hJ hB _ _).setOther hJ hB _ _).setOther hJ hB _ _).setOther hJ hB _ _).setOther hJ hB _ _).setOther hJ hB _ _).setOther hJ hB _ _
theorem gE {w0 w : World} {p J : Nat} (h : But p w0 w) (hJ : w0.heap.size ≤ J) (k fr tu no lo hi sl : Int) (s : ByteArray) : But p w0 ((((((((w.setCell ⟨J, 0, none⟩ (.int .i64 k)).setCell ⟨J, 1, none⟩ (.int .i64 fr)).setCell ⟨J, 2, none⟩ (.int .i64 tu)).setCell ⟨J, 3, none⟩ (.int .i64 no)).setCell ⟨J, 4, none⟩ (.int .i64 lo)).setCell ⟨J, 5, none⟩ (.int .i64 hi)).setCell ⟨J, 6, none⟩ (.int .i64 sl)).setCell ⟨J, 7, none⟩ (.string s)) :=
 (((((((h.setNew hJ _ _).setNew hJ _ _).setNew hJ _ _).setNew hJ _ _).setNew hJ _ _).setNew hJ _ _).setNew hJ _ _).setNew hJ _ _
theorem gD {w : World} {J : Nat} {k' fr' tu' no' lo' hi' sl' : Int} {s' : ByteArray} (r : aN w J k' fr' tu' no' lo' hi' sl' s') (k fr tu no lo hi sl : Int) (s : ByteArray) : aN ((((((((w.setCell ⟨J, 0, none⟩ (.int .i64 k)).setCell ⟨J, 1, none⟩ (.int .i64 fr)).setCell ⟨J, 2, none⟩ (.int .i64 tu)).setCell ⟨J, 3, none⟩ (.int .i64 no)).setCell ⟨J, 4, none⟩ (.int .i64 lo)).setCell ⟨J, 5, none⟩ (.int .i64 hi)).setCell ⟨J, 6, none⟩ (.int .i64 sl)).setCell ⟨J, 7, none⟩ (.string s)) J k fr tu no lo hi sl s :=
 (((((((r.set0 k).set1 fr).set2 tu).set3 no).set4 lo).set5 hi).set6 sl).set7 s
set_option maxHeartbeats 8000000 in
theorem dX (B p : Nat) (w : World) (hcur : aq w B p) :
 Calls Tryz.prog 101 #[.pointer (some ⟨p, 0, none⟩)] w fun e w' => ∃ (k fr tu no lo hi sl : Int) (s : ByteArray), e = .returned (.agg #[.int .i64 k, .int .i64 fr, .int .i64 tu, .int .i64 no, .int .i64 lo, .int .i64 hi, .int .i64 sl, .string s]) ∧ s.size ≤ 100 ∧ aq w' B p ∧ But p w w' := by
 have hpl := hcur.lt
 have A1 := Below.al w (.cells #[.int .i64 0, .int .i64 0, .int .i64 0, .int .i64 0, .int .i64 0, .int .i64 0, .int .i64 0, .string ⟨#[]⟩] 151)
 have R := aN.new w 0 0 0 0 0 0 0 ⟨#[]⟩ 151
 have T := bw.new w 0 0 0 0 0 0 0 ⟨#[]⟩ 151
 go_enter Tryz.func101, Tryz.ntmps101
 go_wp2_with fail
 refine (af B p 3 _ (hcur.below A1)).mono ?_
 rintro e w1 ⟨x, rfl, xl, xh, xp, xz, c1, b1⟩
 have hx := xp (by omega)
 replace T := T.but b1 R.1 (by omega)
 replace R := R.but b1 (by omega)
 replace b1 := (But.of_below A1).trans b1
 clear xp xz A1 hcur
 go_wp2_with fail
 refine (af B p 8 _ c1).mono ?_
 rintro e w2 ⟨y, rfl, yl, yh, yp, yz, c2, b2⟩
 replace T := T.but b2 R.1 (by omega)
 replace R := R.but b2 (by omega)
 replace b2 := b1.trans b2
 have S := St.start c2 b2 R T hpl.1 (1 + x) y 0 0 0 0 0 ⟨#[]⟩ (by decide) 151
 clear yp yz b1 c1 c2 b2 R T
 by_cases hk : x = 2
 ·subst hk
  go_wp2_with fail
  refine (af B p 16 _ S.1).mono ?_
  rintro e w3 ⟨z, rfl, zl, zh, zp, zz, c, b⟩
  replace S := S.but c b
  clear zp zz b c
  obtain ⟨-, -, ⟨k, fr, tu, no, lo, hi, sl, s, ⟨a0, a1, a2, a3, a4, a5, a6, a7, a8⟩, ⟨t0, t1, t2, t3, t4, t5, t6, t7⟩, -⟩, -, -, -, -, -⟩ := id S
  replace S := S.setI 6 (by omega) z
  go_wp2_with fail
  clear a0 a1 a2 a3 a4 a5 a6 a7 a8 t0 t1 t2 t3 t4 t5 t6 t7
  refine (bI B p 6 _ S.1 (by omega) (by omega)).mono ?_
  rintro e w4 ⟨s', rfl, hs', c, b⟩
  replace S := S.but c b
  clear b c
  obtain ⟨-, -, ⟨k, fr, tu, no, lo, hi, sl, s, ⟨a0, a1, a2, a3, a4, a5, a6, a7, a8⟩, ⟨t0, t1, t2, t3, t4, t5, t6, t7⟩, -⟩, -, -, -, -, -⟩ := id S
  replace S := S.setS s' hs'
  go_wp2_with fail
  clear a0 a1 a2 a3 a4 a5 a6 a7 a8 t0 t1 t2 t3 t4 t5 t6 t7
  refine (aB B p 15 _ S.1).mono ?_
  rintro e w5 ⟨oo, rfl, c, b⟩
  replace S := S.but c b
  clear b c
  cases oo
  ·go_upto_region 7 with fail
   obtain ⟨hc, hb, ⟨k, fr, tu, no, lo, hi, sl, s, bx, tx, hs⟩, hj, r, t, hp, hB⟩ := S
   have Q := gD r k fr tu no lo hi sl s
   have QC := gJ (J := w.heap.size) hc (by omega) (by omega) k fr tu no lo hi sl s
   have QB := gE (J := w.heap.size) hb (Nat.le_refl _) k fr tu no lo hi sl s
   obtain ⟨a0, a1, a2, a3, a4, a5, a6, a7, a8⟩ := bx
   obtain ⟨r0, r1, r2, r3, r4, r5, r6, r7, r8⟩ := r
   obtain ⟨t0, t1, t2, t3, t4, t5, t6, t7⟩ := t
   go_wp2_with fail
   generalize ((((((((w5.setCell ⟨w.heap.size, 0, none⟩ (.int .i64 k)).setCell ⟨w.heap.size, 1, none⟩ (.int .i64 fr)).setCell ⟨w.heap.size, 2, none⟩ (.int .i64 tu)).setCell ⟨w.heap.size, 3, none⟩ (.int .i64 no)).setCell ⟨w.heap.size, 4, none⟩ (.int .i64 lo)).setCell ⟨w.heap.size, 5, none⟩ (.int .i64 hi)).setCell ⟨w.heap.size, 6, none⟩ (.int .i64 sl)).setCell ⟨w.heap.size, 7, none⟩ (.string s)) = wq at *
   obtain ⟨q0, q1, q2, q3, q4, q5, q6, q7, q8⟩ := Q
   exact bodyPost_ret (v := .agg #[.int .i64 k, .int .i64 fr, .int .i64 tu, .int .i64 no, .int .i64 lo, .int .i64 hi, .int .i64 sl, .string s]) (by simp (maxDischargeDepth := 6) [results, Tryz.results101, go_sem, q1, q2, q3, q4, q5, q6, q7, q8]) rfl ⟨_, _, _, _, _, _, _, _, rfl, hs, QC, QB⟩
  ·obtain ⟨-, -, ⟨k, fr, tu, no, lo, hi, sl, s, ⟨a0, a1, a2, a3, a4, a5, a6, a7, a8⟩, ⟨t0, t1, t2, t3, t4, t5, t6, t7⟩, -⟩, -, -, -, -, -⟩ := id S
   replace S := S.setS ⟨#[97, 98, 99, 100, 101, 102, 103, 104, 105, 106, 107, 108, 109, 110, 111, 112, 113, 114, 115, 116, 117, 118, 119, 120]⟩ (by decide)
   go_upto_region 7 with fail
   clear a0 a1 a2 a3 a4 a5 a6 a7 a8 t0 t1 t2 t3 t4 t5 t6 t7
   generalize w5.setCell ⟨w2.heap.size, 7, none⟩ (.string ⟨#[97, 98, 99, 100, 101, 102, 103, 104, 105, 106, 107, 108, 109, 110, 111, 112, 113, 114, 115, 116, 117, 118, 119, 120]⟩) = wz at *
   obtain ⟨hc, hb, ⟨k, fr, tu, no, lo, hi, sl, s, bx, tx, hs⟩, hj, r, t, hp, hB⟩ := S
   have Q := gD r k fr tu no lo hi sl s
   have QC := gJ (J := w.heap.size) hc (by omega) (by omega) k fr tu no lo hi sl s
   have QB := gE (J := w.heap.size) hb (Nat.le_refl _) k fr tu no lo hi sl s
   obtain ⟨a0, a1, a2, a3, a4, a5, a6, a7, a8⟩ := bx
   obtain ⟨r0, r1, r2, r3, r4, r5, r6, r7, r8⟩ := r
   obtain ⟨t0, t1, t2, t3, t4, t5, t6, t7⟩ := t
   go_wp2_with fail
   generalize ((((((((wz.setCell ⟨w.heap.size, 0, none⟩ (.int .i64 k)).setCell ⟨w.heap.size, 1, none⟩ (.int .i64 fr)).setCell ⟨w.heap.size, 2, none⟩ (.int .i64 tu)).setCell ⟨w.heap.size, 3, none⟩ (.int .i64 no)).setCell ⟨w.heap.size, 4, none⟩ (.int .i64 lo)).setCell ⟨w.heap.size, 5, none⟩ (.int .i64 hi)).setCell ⟨w.heap.size, 6, none⟩ (.int .i64 sl)).setCell ⟨w.heap.size, 7, none⟩ (.string s)) = wq at *
   obtain ⟨q0, q1, q2, q3, q4, q5, q6, q7, q8⟩ := Q
   exact bodyPost_ret (v := .agg #[.int .i64 k, .int .i64 fr, .int .i64 tu, .int .i64 no, .int .i64 lo, .int .i64 hi, .int .i64 sl, .string s]) (by simp (maxDischargeDepth := 6) [results, Tryz.results101, go_sem, q1, q2, q3, q4, q5, q6, q7, q8]) rfl ⟨_, _, _, _, _, _, _, _, rfl, hs, QC, QB⟩
 ·have hk1 : ¬ 1 + x = 3 := by omega
  have hJM : w.heap.size < w2.heap.size := S.2.2.2.1
  go_upto_region 8 with fail
  generalize w2.alloc (.cells #[.int .i64 (1 + x), .int .i64 y, .int .i64 0, .int .i64 0, .int .i64 0, .int .i64 0, .int .i64 0, .string ⟨#[]⟩] 151) = wm at *
  obtain ⟨-, -, ⟨k, fr, tu, no, lo, hi, sl, s, ⟨a0, a1, a2, a3, a4, a5, a6, a7, a8⟩, ⟨t0, t1, t2, t3, t4, t5, t6, t7⟩, -⟩, -, -, -, -, -⟩ := id S
  refine wp_region_held_drew (S := (fun w' => w'.cell? ⟨w2.heap.size, 1, none⟩ = some (.int .i64 fr))) (by kernel_rfl) ?_ (fun hHeld => ?_)
  ·first | exact a2 | (simp (maxDischargeDepth := 6) [go_sem, *]; done)
  refine zT4 0 ?_
  refine zQ 4 fun K hK => ?_
  go_simp
  refine (af B p 7 _ (aq.drew S.1)).mono ?_; rintro e w3 ⟨z, rfl, zl, zh, zp, zz, c, b⟩; (have hz := zp (by omega)); (have a2' := (b.cell (k := w2.heap.size) (o := 1) a0 (by omega)).trans a2); (replace S := S.drew.but c b); clear zp zz b c; clear a0 a1 a2 a3 a4 a5 a6 a7 a8 t0 t1 t2 t3 t4 t5 t6 t7; obtain ⟨-, -, ⟨k', fr', tu', no', lo', hi', sl', s', ⟨a0, a1, -, a3, a4, a5, a6, a7, a8⟩, ⟨t0, t1, t2, t3, t4, t5, t6, t7⟩, -⟩, -, -, -, -, -⟩ := id S; (have a2 := a2'); clear a2'
  (try go_wp2_with fail)
  refine hK.out _ _ ?_ (fun hHeld => ?_)
  ·first | exact a2 | (simp (maxDischargeDepth := 6) [go_sem, *]; done)
  clear hK K
  (try simp only [zA])
  refine zT2 5 ?_
  refine zTk 7 ?_
  refine zQ 8 fun K hK => ?_
  go_simp
  refine hK.out _ _ ?_ (fun hHeld => ?_)
  ·first | exact a2 | (simp (maxDischargeDepth := 6) [go_sem, *]; done)
  clear hK K
  (try simp only [zA])
  refine wpAnyH_done (by kernel_rfl) ?_ _
  go_wp2_with fail
  clear a0 a1 a2 a3 a4 a5 a6 a7 a8 t0 t1 t2 t3 t4 t5 t6 t7
  refine (af B p 4000 _ (S.setI 2 (by omega) _).1).mono ?_
  rintro e w4 ⟨n4, rfl, nl, nh, np, nz, c, b⟩
  replace S := (S.setI 2 (by omega) _).but c b
  clear b c np nz hHeld
  obtain ⟨-, -, ⟨k, fr, tu, no, lo, hi, sl, s, ⟨a0, a1, a2, a3, a4, a5, a6, a7, a8⟩, ⟨t0, t1, t2, t3, t4, t5, t6, t7⟩, -⟩, -, -, -, -, -⟩ := id S
  go_wp2_with fail
  clear a0 a1 a2 a3 a4 a5 a6 a7 a8 t0 t1 t2 t3 t4 t5 t6 t7
  refine (aB B p 12 _ (S.setI 3 (by omega) _).1).mono ?_
  rintro e w5 ⟨oo, rfl, c, b⟩
  replace S := (S.setI 3 (by omega) _).but c b
  clear b c
  cases oo
  ·go_upto_region 12 with fail
   obtain ⟨-, -, ⟨k, fr, tu, no, lo, hi, sl, s, ⟨a0, a1, a2, a3, a4, a5, a6, a7, a8⟩, ⟨t0, t1, t2, t3, t4, t5, t6, t7⟩, -⟩, -, -, -, -, -⟩ := id S
   by_cases hk2 : k = 2
   ·subst hk2
    go_wp2_with fail
    clear a0 a1 a2 a3 a4 a5 a6 a7 a8 t0 t1 t2 t3 t4 t5 t6 t7
    refine (cR B p _ S.1).mono ?_
    rintro e w7 ⟨lo', hi', rfl, c, b⟩
    replace S := S.but c b
    clear b c
    have hA : w2.heap.size < w7.heap.size ∧ w.heap.size < w7.heap.size := by
     obtain ⟨-, -, ⟨k, fr, tu, no, lo, hi, sl, s, a, -, -⟩, -, r, -, -, -⟩ := id S
     exact ⟨a.1, r.1⟩
    have N := Box.new w7 lo' hi' 137
    replace S := S.below (Below.al w7 (.cells #[.int .i64 lo', .int .i64 hi'] 137))
    go_wp2_with fail
    refine (cr _ _ _).mono ?_
    rintro e w8 ⟨rfl, b⟩
    replace S := S.below b
    replace N := N.below b
    clear b
    obtain ⟨-, -, ⟨k, fr, tu, no, lo, hi, sl, s, ⟨a0, a1, a2, a3, a4, a5, a6, a7, a8⟩, ⟨t0, t1, t2, t3, t4, t5, t6, t7⟩, -⟩, -, -, -, -, -⟩ := id S
    obtain ⟨g1, g2, g3, g4, g5⟩ := N
    cases hok : okI lo' hi'
    ·go_upto_region 17 with fail
     clear a0 a1 a2 a3 a4 a5 a6 a7 a8 t0 t1 t2 t3 t4 t5 t6 t7
     clear g1 g2 g3 g4 g5
     replace S := (((S.setO (k := w7.heap.size) hA.2 (by omega) 0 (.int .i64 (-64))).setO (k := w7.heap.size) hA.2 (by omega) 1 (.int .i64 64)).setI 4 (by omega) (-64)).setI 5 (by omega) 64
     generalize ((((w8.setCell ⟨w7.heap.size, 0, none⟩ (.int .i64 (-64))).setCell ⟨w7.heap.size, 1, none⟩ (.int .i64 64)).setCell ⟨w2.heap.size, 4, none⟩ (.int .i64 (-64))).setCell ⟨w2.heap.size, 5, none⟩ (.int .i64 64)) = wz at *
     obtain ⟨hc, hb, ⟨k, fr, tu, no, lo, hi, sl, s, bx, tx, hs⟩, hj, r, t, hp, hB⟩ := S
     have Q := gD r k fr tu no lo hi sl s
     have QC := gJ (J := w.heap.size) hc (by omega) (by omega) k fr tu no lo hi sl s
     have QB := gE (J := w.heap.size) hb (Nat.le_refl _) k fr tu no lo hi sl s
     obtain ⟨a0, a1, a2, a3, a4, a5, a6, a7, a8⟩ := bx
     obtain ⟨r0, r1, r2, r3, r4, r5, r6, r7, r8⟩ := r
     obtain ⟨t0, t1, t2, t3, t4, t5, t6, t7⟩ := t
     go_wp2_with fail
     generalize ((((((((wz.setCell ⟨w.heap.size, 0, none⟩ (.int .i64 k)).setCell ⟨w.heap.size, 1, none⟩ (.int .i64 fr)).setCell ⟨w.heap.size, 2, none⟩ (.int .i64 tu)).setCell ⟨w.heap.size, 3, none⟩ (.int .i64 no)).setCell ⟨w.heap.size, 4, none⟩ (.int .i64 lo)).setCell ⟨w.heap.size, 5, none⟩ (.int .i64 hi)).setCell ⟨w.heap.size, 6, none⟩ (.int .i64 sl)).setCell ⟨w.heap.size, 7, none⟩ (.string s)) = wq at *
     obtain ⟨q0, q1, q2, q3, q4, q5, q6, q7, q8⟩ := Q
     exact bodyPost_ret (v := .agg #[.int .i64 k, .int .i64 fr, .int .i64 tu, .int .i64 no, .int .i64 lo, .int .i64 hi, .int .i64 sl, .string s]) (by simp (maxDischargeDepth := 6) [results, Tryz.results101, go_sem, q1, q2, q3, q4, q5, q6, q7, q8]) rfl ⟨_, _, _, _, _, _, _, _, rfl, hs, QC, QB⟩
    ·go_upto_region 17 with fail
     clear a0 a1 a2 a3 a4 a5 a6 a7 a8 t0 t1 t2 t3 t4 t5 t6 t7
     clear g1 g2 g3 g4 g5
     replace S := (S.setI 4 (by omega) lo').setI 5 (by omega) hi'
     generalize ((w8.setCell ⟨w2.heap.size, 4, none⟩ (.int .i64 lo')).setCell ⟨w2.heap.size, 5, none⟩ (.int .i64 hi')) = wz at *
     obtain ⟨hc, hb, ⟨k, fr, tu, no, lo, hi, sl, s, bx, tx, hs⟩, hj, r, t, hp, hB⟩ := S
     have Q := gD r k fr tu no lo hi sl s
     have QC := gJ (J := w.heap.size) hc (by omega) (by omega) k fr tu no lo hi sl s
     have QB := gE (J := w.heap.size) hb (Nat.le_refl _) k fr tu no lo hi sl s
     obtain ⟨a0, a1, a2, a3, a4, a5, a6, a7, a8⟩ := bx
     obtain ⟨r0, r1, r2, r3, r4, r5, r6, r7, r8⟩ := r
     obtain ⟨t0, t1, t2, t3, t4, t5, t6, t7⟩ := t
     go_wp2_with fail
     generalize ((((((((wz.setCell ⟨w.heap.size, 0, none⟩ (.int .i64 k)).setCell ⟨w.heap.size, 1, none⟩ (.int .i64 fr)).setCell ⟨w.heap.size, 2, none⟩ (.int .i64 tu)).setCell ⟨w.heap.size, 3, none⟩ (.int .i64 no)).setCell ⟨w.heap.size, 4, none⟩ (.int .i64 lo)).setCell ⟨w.heap.size, 5, none⟩ (.int .i64 hi)).setCell ⟨w.heap.size, 6, none⟩ (.int .i64 sl)).setCell ⟨w.heap.size, 7, none⟩ (.string s)) = wq at *
     obtain ⟨q0, q1, q2, q3, q4, q5, q6, q7, q8⟩ := Q
     exact bodyPost_ret (v := .agg #[.int .i64 k, .int .i64 fr, .int .i64 tu, .int .i64 no, .int .i64 lo, .int .i64 hi, .int .i64 sl, .string s]) (by simp (maxDischargeDepth := 6) [results, Tryz.results101, go_sem, q1, q2, q3, q4, q5, q6, q7, q8]) rfl ⟨_, _, _, _, _, _, _, _, rfl, hs, QC, QB⟩
   ·go_upto_region 17 with fail
    clear a0 a1 a2 a3 a4 a5 a6 a7 a8 t0 t1 t2 t3 t4 t5 t6 t7
    obtain ⟨hc, hb, ⟨k, fr, tu, no, lo, hi, sl, s, bx, tx, hs⟩, hj, r, t, hp, hB⟩ := S
    have Q := gD r k fr tu no lo hi sl s
    have QC := gJ (J := w.heap.size) hc (by omega) (by omega) k fr tu no lo hi sl s
    have QB := gE (J := w.heap.size) hb (Nat.le_refl _) k fr tu no lo hi sl s
    obtain ⟨a0, a1, a2, a3, a4, a5, a6, a7, a8⟩ := bx
    obtain ⟨r0, r1, r2, r3, r4, r5, r6, r7, r8⟩ := r
    obtain ⟨t0, t1, t2, t3, t4, t5, t6, t7⟩ := t
    go_wp2_with fail
    generalize ((((((((w5.setCell ⟨w.heap.size, 0, none⟩ (.int .i64 k)).setCell ⟨w.heap.size, 1, none⟩ (.int .i64 fr)).setCell ⟨w.heap.size, 2, none⟩ (.int .i64 tu)).setCell ⟨w.heap.size, 3, none⟩ (.int .i64 no)).setCell ⟨w.heap.size, 4, none⟩ (.int .i64 lo)).setCell ⟨w.heap.size, 5, none⟩ (.int .i64 hi)).setCell ⟨w.heap.size, 6, none⟩ (.int .i64 sl)).setCell ⟨w.heap.size, 7, none⟩ (.string s)) = wq at *
    obtain ⟨q0, q1, q2, q3, q4, q5, q6, q7, q8⟩ := Q
    exact bodyPost_ret (v := .agg #[.int .i64 k, .int .i64 fr, .int .i64 tu, .int .i64 no, .int .i64 lo, .int .i64 hi, .int .i64 sl, .string s]) (by simp (maxDischargeDepth := 6) [results, Tryz.results101, go_sem, q1, q2, q3, q4, q5, q6, q7, q8]) rfl ⟨_, _, _, _, _, _, _, _, rfl, hs, QC, QB⟩
  ·go_wp2_with fail
   have hp := dB B p w5 [0, 127, 128, 16383, 16384, 100000999] S.1 (by simp) (by simp)
   simp only [List.map_cons, List.map_nil, List.length_cons, List.length_nil, Nat.zero_add, Nat.reduceAdd] at hp
   refine hp.mono ?_
   clear hp
   rintro e w6 ⟨v, rfl, c, b⟩
   replace S := S.but c b
   clear b c
   obtain ⟨-, -, ⟨k, fr, tu, no, lo, hi, sl, s, ⟨a0, a1, a2, a3, a4, a5, a6, a7, a8⟩, ⟨t0, t1, t2, t3, t4, t5, t6, t7⟩, -⟩, -, -, -, -, -⟩ := id S
   go_upto_region 12 with fail
   clear a0 a1 a2 a3 a4 a5 a6 a7 a8 t0 t1 t2 t3 t4 t5 t6 t7
   replace S := S.setI 3 (by omega) v
   generalize w6.setCell ⟨w2.heap.size, 3, none⟩ (.int .i64 v) = wy at *
   obtain ⟨-, -, ⟨k, fr, tu, no, lo, hi, sl, s, ⟨a0, a1, a2, a3, a4, a5, a6, a7, a8⟩, ⟨t0, t1, t2, t3, t4, t5, t6, t7⟩, -⟩, -, -, -, -, -⟩ := id S
   by_cases hk2 : k = 2
   ·subst hk2
    go_wp2_with fail
    clear a0 a1 a2 a3 a4 a5 a6 a7 a8 t0 t1 t2 t3 t4 t5 t6 t7
    refine (cR B p _ S.1).mono ?_
    rintro e w7 ⟨lo', hi', rfl, c, b⟩
    replace S := S.but c b
    clear b c
    have hA : w2.heap.size < w7.heap.size ∧ w.heap.size < w7.heap.size := by
     obtain ⟨-, -, ⟨k, fr, tu, no, lo, hi, sl, s, a, -, -⟩, -, r, -, -, -⟩ := id S
     exact ⟨a.1, r.1⟩
    have N := Box.new w7 lo' hi' 137
    replace S := S.below (Below.al w7 (.cells #[.int .i64 lo', .int .i64 hi'] 137))
    go_wp2_with fail
    refine (cr _ _ _).mono ?_
    rintro e w8 ⟨rfl, b⟩
    replace S := S.below b
    replace N := N.below b
    clear b
    obtain ⟨-, -, ⟨k, fr, tu, no, lo, hi, sl, s, ⟨a0, a1, a2, a3, a4, a5, a6, a7, a8⟩, ⟨t0, t1, t2, t3, t4, t5, t6, t7⟩, -⟩, -, -, -, -, -⟩ := id S
    obtain ⟨g1, g2, g3, g4, g5⟩ := N
    cases hok : okI lo' hi'
    ·go_upto_region 17 with fail
     clear a0 a1 a2 a3 a4 a5 a6 a7 a8 t0 t1 t2 t3 t4 t5 t6 t7
     clear g1 g2 g3 g4 g5
     replace S := (((S.setO (k := w7.heap.size) hA.2 (by omega) 0 (.int .i64 (-64))).setO (k := w7.heap.size) hA.2 (by omega) 1 (.int .i64 64)).setI 4 (by omega) (-64)).setI 5 (by omega) 64
     generalize ((((w8.setCell ⟨w7.heap.size, 0, none⟩ (.int .i64 (-64))).setCell ⟨w7.heap.size, 1, none⟩ (.int .i64 64)).setCell ⟨w2.heap.size, 4, none⟩ (.int .i64 (-64))).setCell ⟨w2.heap.size, 5, none⟩ (.int .i64 64)) = wz at *
     obtain ⟨hc, hb, ⟨k, fr, tu, no, lo, hi, sl, s, bx, tx, hs⟩, hj, r, t, hp, hB⟩ := S
     have Q := gD r k fr tu no lo hi sl s
     have QC := gJ (J := w.heap.size) hc (by omega) (by omega) k fr tu no lo hi sl s
     have QB := gE (J := w.heap.size) hb (Nat.le_refl _) k fr tu no lo hi sl s
     obtain ⟨a0, a1, a2, a3, a4, a5, a6, a7, a8⟩ := bx
     obtain ⟨r0, r1, r2, r3, r4, r5, r6, r7, r8⟩ := r
     obtain ⟨t0, t1, t2, t3, t4, t5, t6, t7⟩ := t
     go_wp2_with fail
     generalize ((((((((wz.setCell ⟨w.heap.size, 0, none⟩ (.int .i64 k)).setCell ⟨w.heap.size, 1, none⟩ (.int .i64 fr)).setCell ⟨w.heap.size, 2, none⟩ (.int .i64 tu)).setCell ⟨w.heap.size, 3, none⟩ (.int .i64 no)).setCell ⟨w.heap.size, 4, none⟩ (.int .i64 lo)).setCell ⟨w.heap.size, 5, none⟩ (.int .i64 hi)).setCell ⟨w.heap.size, 6, none⟩ (.int .i64 sl)).setCell ⟨w.heap.size, 7, none⟩ (.string s)) = wq at *
     obtain ⟨q0, q1, q2, q3, q4, q5, q6, q7, q8⟩ := Q
     exact bodyPost_ret (v := .agg #[.int .i64 k, .int .i64 fr, .int .i64 tu, .int .i64 no, .int .i64 lo, .int .i64 hi, .int .i64 sl, .string s]) (by simp (maxDischargeDepth := 6) [results, Tryz.results101, go_sem, q1, q2, q3, q4, q5, q6, q7, q8]) rfl ⟨_, _, _, _, _, _, _, _, rfl, hs, QC, QB⟩
    ·go_upto_region 17 with fail
     clear a0 a1 a2 a3 a4 a5 a6 a7 a8 t0 t1 t2 t3 t4 t5 t6 t7
     clear g1 g2 g3 g4 g5
     replace S := (S.setI 4 (by omega) lo').setI 5 (by omega) hi'
     generalize ((w8.setCell ⟨w2.heap.size, 4, none⟩ (.int .i64 lo')).setCell ⟨w2.heap.size, 5, none⟩ (.int .i64 hi')) = wz at *
     obtain ⟨hc, hb, ⟨k, fr, tu, no, lo, hi, sl, s, bx, tx, hs⟩, hj, r, t, hp, hB⟩ := S
     have Q := gD r k fr tu no lo hi sl s
     have QC := gJ (J := w.heap.size) hc (by omega) (by omega) k fr tu no lo hi sl s
     have QB := gE (J := w.heap.size) hb (Nat.le_refl _) k fr tu no lo hi sl s
     obtain ⟨a0, a1, a2, a3, a4, a5, a6, a7, a8⟩ := bx
     obtain ⟨r0, r1, r2, r3, r4, r5, r6, r7, r8⟩ := r
     obtain ⟨t0, t1, t2, t3, t4, t5, t6, t7⟩ := t
     go_wp2_with fail
     generalize ((((((((wz.setCell ⟨w.heap.size, 0, none⟩ (.int .i64 k)).setCell ⟨w.heap.size, 1, none⟩ (.int .i64 fr)).setCell ⟨w.heap.size, 2, none⟩ (.int .i64 tu)).setCell ⟨w.heap.size, 3, none⟩ (.int .i64 no)).setCell ⟨w.heap.size, 4, none⟩ (.int .i64 lo)).setCell ⟨w.heap.size, 5, none⟩ (.int .i64 hi)).setCell ⟨w.heap.size, 6, none⟩ (.int .i64 sl)).setCell ⟨w.heap.size, 7, none⟩ (.string s)) = wq at *
     obtain ⟨q0, q1, q2, q3, q4, q5, q6, q7, q8⟩ := Q
     exact bodyPost_ret (v := .agg #[.int .i64 k, .int .i64 fr, .int .i64 tu, .int .i64 no, .int .i64 lo, .int .i64 hi, .int .i64 sl, .string s]) (by simp (maxDischargeDepth := 6) [results, Tryz.results101, go_sem, q1, q2, q3, q4, q5, q6, q7, q8]) rfl ⟨_, _, _, _, _, _, _, _, rfl, hs, QC, QB⟩
   ·go_upto_region 17 with fail
    clear a0 a1 a2 a3 a4 a5 a6 a7 a8 t0 t1 t2 t3 t4 t5 t6 t7
    obtain ⟨hc, hb, ⟨k, fr, tu, no, lo, hi, sl, s, bx, tx, hs⟩, hj, r, t, hp, hB⟩ := S
    have Q := gD r k fr tu no lo hi sl s
    have QC := gJ (J := w.heap.size) hc (by omega) (by omega) k fr tu no lo hi sl s
    have QB := gE (J := w.heap.size) hb (Nat.le_refl _) k fr tu no lo hi sl s
    obtain ⟨a0, a1, a2, a3, a4, a5, a6, a7, a8⟩ := bx
    obtain ⟨r0, r1, r2, r3, r4, r5, r6, r7, r8⟩ := r
    obtain ⟨t0, t1, t2, t3, t4, t5, t6, t7⟩ := t
    go_wp2_with fail
    generalize ((((((((wy.setCell ⟨w.heap.size, 0, none⟩ (.int .i64 k)).setCell ⟨w.heap.size, 1, none⟩ (.int .i64 fr)).setCell ⟨w.heap.size, 2, none⟩ (.int .i64 tu)).setCell ⟨w.heap.size, 3, none⟩ (.int .i64 no)).setCell ⟨w.heap.size, 4, none⟩ (.int .i64 lo)).setCell ⟨w.heap.size, 5, none⟩ (.int .i64 hi)).setCell ⟨w.heap.size, 6, none⟩ (.int .i64 sl)).setCell ⟨w.heap.size, 7, none⟩ (.string s)) = wq at *
    obtain ⟨q0, q1, q2, q3, q4, q5, q6, q7, q8⟩ := Q
    exact bodyPost_ret (v := .agg #[.int .i64 k, .int .i64 fr, .int .i64 tu, .int .i64 no, .int .i64 lo, .int .i64 hi, .int .i64 sl, .string s]) (by simp (maxDischargeDepth := 6) [results, Tryz.results101, go_sem, q1, q2, q3, q4, q5, q6, q7, q8]) rfl ⟨_, _, _, _, _, _, _, _, rfl, hs, QC, QB⟩
end Go.Proofs.YtddjiamollfplaaGreatDoor
