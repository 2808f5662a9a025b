/- The draw of a life. -/
import Derived.Test.YteifibajafdnlaaT170
import Derived.Test.YteifibajafdnlaaK1
import Derived.Test.YteifibajafdnlaaX1
import Derived.Test.YteifibajafdnlaaD2
import Derived.Test.YteifibajafdnlaaD4
import Derived.Test.YteifibajafdnlaaD3
import Derived.WalkKit
import Derived.WalkSpells
import Derived.WalkLawsBesides
import Derived.Deep.RegionHeld
namespace Go.Proofs.Yteifibajafdnlaa
open Go.RowKit
set_option linter.unusedVariables false
theorem CurOk.below17 {w w' : World} {B p Q : Nat} (h : CurOk w B p) (hb : Below Q w w') (hq : p < Q) : CurOk w' B p := by
  obtain ⟨a, n, c, i, hh, h0, h1, h2, f0, f1, f2, hi, hn, hc, hB, hp⟩ := h
  refine ⟨a, n, c, i, hh, ?_, ?_, ?_, ?_, ?_, ?_, hi, hn, hc.below (hb.mono (by omega)), hB, Nat.lt_of_lt_of_le hp hb.size⟩
  · rw [hb.cell (p := ⟨p, 0, none⟩) hq]; exact h0
  · rw [hb.cell (p := ⟨p, 1, none⟩) hq]; exact h1
  · rw [hb.cell (p := ⟨p, 2, none⟩) hq]; exact h2
  · rw [hb.frozen (p := ⟨p, 0, none⟩) hq]; exact f0
  · rw [hb.frozen (p := ⟨p, 1, none⟩) hq]; exact f1
  · rw [hb.frozen (p := ⟨p, 2, none⟩) hq]; exact f2
theorem CurOk.kept17 {w w' : World} {B p : Nat} {o : Option Nat} (h : CurOk w B p) (hg : w.grownBy w' o) (hne : ∀ k, k ≤ p → some k ≠ o) : CurOk w' B p :=
  h.below17 (grown_bel hg (B := p + 1) (by have := h.lt; omega) (fun b hb => hne b (by omega))) (Nat.lt_succ_self _)
theorem But.other17 {p j : Nat} {w w' w'' : World} (h : But p w w') (hb : But j w' w'') (hj : w.heap.size ≤ j) : But p w w'' := ⟨hb.1.trans h.1, hb.2.1.trans h.2.1, hb.2.2.1.trans h.2.2.1, Nat.le_trans h.2.2.2.1 hb.2.2.2.1, fun k hk hp => (hb.2.2.2.2 k (Nat.lt_of_lt_of_le hk h.2.2.2.1) (by omega)).trans (h.2.2.2.2 k hk hp)⟩
/- A life in a box, the box of the answer, and the cursor. -/
def Ly (w : World) (B p jy : Nat) (m e s : Int) (wr : World) : Prop := Tx3 wr jy (.int .i64 m) (.int .i64 e) (.int .i64 s) ∧ Tx3 wr w.heap.size (.int .i64 0) (.int .i64 0) (.int .i64 0) ∧ CurOk wr B p ∧ But p w wr
section
variable {w wr w' : World} {B p jy : Nat} {m e s : Int}
theorem Ly.but (h : Ly w B p jy m e s wr) (hp : p < w.heap.size) (hy : w.heap.size < jy) (hc : CurOk w' B p) (hb : But p wr w') : Ly w B p jy m e s w' := ⟨h.1.but hb (by omega), h.2.1.but hb (by omega), hc, h.2.2.2.trans hb⟩
theorem Ly.put {m' e' s' : Int} (h : Ly w B p jy m e s wr) (hp : p < w.heap.size) (hy : w.heap.size < jy) (hb : But jy wr w') (hn : Tx3 w' jy (.int .i64 m') (.int .i64 e') (.int .i64 s')) : Ly w B p jy m' e' s' w' := ⟨hn, h.2.1.but hb (by omega), h.2.2.1.kept17 hb.grK (fun k hk e => by (have e' := Option.some.inj e); omega), h.2.2.2.other17 hb (Nat.le_of_lt hy)⟩
end
set_option maxRecDepth 100000 in
set_option maxHeartbeats 8000000 in
theorem l17DrawLife_any (B p : Nat) (w : World) (hcur : CurOk w B p) :
    Calls Try.prog 38 #[.pointer (some ⟨p, 0, none⟩)] w fun x w' => ∃ m e s : Int, x = .returned (.agg #[.int .i64 m, .int .i64 e, .int .i64 s]) ∧ CurOk w' B p ∧ But p w w' := by
  have hpl := hcur.lt
  have hp : p < w.heap.size := hpl.1
  have A0 := Below.nw w (.cells #[.int .i64 0, .int .i64 0, .int .i64 0] 25)
  have R := Tx3.new w (.int .i64 0) (.int .i64 0) (.int .i64 0) 25
  have c0 := hcur.below A0
  have b0 := But.of_below (p := p) A0
  clear hpl hcur A0
  go_enter Try.func38, Try.ntmps38
  go_upto_region 1 with fail
  generalize w.alloc (.cells #[.int .i64 0, .int .i64 0, .int .i64 0] 25) = v at *
  go_wp2_with fail
  refine (l1Below_any B p 4 _ c0).mono ?_
  rintro x v1 ⟨m, rfl, _, _, _, _, c1, b1⟩
  replace R := R.but b1 (by omega)
  replace b0 := b0.trans b1
  clear c0 b1
  go_wp2_with fail
  refine (l1Below_any B p 5 _ c1).mono ?_
  rintro x v2 ⟨e, rfl, _, _, _, _, c2, b1⟩
  replace R := R.but b1 (by omega)
  replace b0 := b0.trans b1
  clear c1 b1
  go_wp2_with fail
  refine (l1Below_any B p 60 _ c2).mono ?_
  rintro x v3 ⟨s, rfl, _, _, _, _, c3, b1⟩
  replace R := R.but b1 (by omega)
  replace b0 := b0.trans b1
  clear c2 b1
  have hb := Below.nw v3 (.cells #[.int .i64 m, .int .i64 e, .int .i64 s] 25)
  have T : Ly w B p v3.heap.size m e s (v3.alloc (.cells #[.int .i64 m, .int .i64 e, .int .i64 s] 25)) := ⟨Tx3.new v3 (.int .i64 m) (.int .i64 e) (.int .i64 s) 25, R.below hb, c3.below hb, b0.trans (But.of_below hb)⟩
  have hy : w.heap.size < v3.heap.size := R.1
  clear hb R c3 b0
  go_upto_region 2 with fail
  generalize v3.alloc (.cells #[.int .i64 m, .int .i64 e, .int .i64 s] 25) = v4 at *
  generalize v3.heap.size = jy at *
  go_wp2_with fail
  refine (l1Below_any B p 20 _ T.2.2.1).mono ?_
  rintro x v5 ⟨y, rfl, _, _, _, _, cc, bb⟩
  replace T := T.but hp hy cc bb
  clear cc bb
  cases h0 : (y == 0)
  rotate_left
  · go_wp2_with fail
    refine (pickIn B p _ [-1, 4] T.2.2.1 (by decide) (by decide)).mono ?_
    rintro x v6 ⟨z, rfl, _, cc, bb⟩
    replace T := T.but hp hy cc bb
    clear cc bb
    obtain ⟨y0, y1, y2, y3, y4, y5, y6⟩ := id T.1
    go_upto_region 9 with fail
    clear y0 y1 y2 y3 y4 y5 y6
    replace T := T.put hp hy ((But.refl jy v6).setCell 0 (.int .i64 z)) (T.1.set0 (.int .i64 z))
    generalize v6.setCell ⟨jy, 0, none⟩ (.int .i64 z) = v7 at *
    have RR := ((T.2.1.set0 (.int .i64 (z))).set1 (.int .i64 (e))).set2 (.int .i64 (s)); have bz : But w.heap.size v7 _ := (((But.refl w.heap.size v7).setCell 0 (.int .i64 (z))).setCell 1 (.int .i64 (e))).setCell 2 (.int .i64 (s)); have cz := T.2.2.1.kept17 bz.grK (fun k hk e => by (have e' := Option.some.inj e); omega); have uz := T.2.2.2.other17 bz (Nat.le_refl _); obtain ⟨y0, y1, y2, y3, y4, y5, y6⟩ := id T.1; obtain ⟨r0, r1, r2, r3, r4, r5, r6⟩ := id T.2.1; go_wp2_with fail; clear y0 y1 y2 y3 y4 y5 y6; clear r0 r1 r2 r3 r4 r5 r6 bz T; generalize ((v7.setCell ⟨w.heap.size, 0, none⟩ (.int .i64 (z))).setCell ⟨w.heap.size, 1, none⟩ (.int .i64 (e))).setCell ⟨w.heap.size, 2, none⟩ (.int .i64 (s)) = vz at *; obtain ⟨r0, r1, r2, r3, r4, r5, r6⟩ := id RR; exact bodyPost_ret (v := .agg #[.int .i64 (z), .int .i64 (e), .int .i64 (s)]) (by simp (maxDischargeDepth := 6) [results, Try.results38, go_sem, r1, r2, r3]) rfl ⟨_, _, _, rfl, cz, uz⟩
  cases h1 : (y == 1)
  rotate_left
  · go_wp2_with fail
    refine (pickIn B p _ [-1, 100000, 100001] T.2.2.1 (by decide) (by decide)).mono ?_
    rintro x v6 ⟨z, rfl, _, cc, bb⟩
    replace T := T.but hp hy cc bb
    clear cc bb
    obtain ⟨y0, y1, y2, y3, y4, y5, y6⟩ := id T.1
    go_upto_region 9 with fail
    clear y0 y1 y2 y3 y4 y5 y6
    replace T := T.put hp hy ((But.refl jy v6).setCell 1 (.int .i64 z)) (T.1.set1 (.int .i64 z))
    generalize v6.setCell ⟨jy, 1, none⟩ (.int .i64 z) = v7 at *
    have RR := ((T.2.1.set0 (.int .i64 (m))).set1 (.int .i64 (z))).set2 (.int .i64 (s)); have bz : But w.heap.size v7 _ := (((But.refl w.heap.size v7).setCell 0 (.int .i64 (m))).setCell 1 (.int .i64 (z))).setCell 2 (.int .i64 (s)); have cz := T.2.2.1.kept17 bz.grK (fun k hk e => by (have e' := Option.some.inj e); omega); have uz := T.2.2.2.other17 bz (Nat.le_refl _); obtain ⟨y0, y1, y2, y3, y4, y5, y6⟩ := id T.1; obtain ⟨r0, r1, r2, r3, r4, r5, r6⟩ := id T.2.1; go_wp2_with fail; clear y0 y1 y2 y3 y4 y5 y6; clear r0 r1 r2 r3 r4 r5 r6 bz T; generalize ((v7.setCell ⟨w.heap.size, 0, none⟩ (.int .i64 (m))).setCell ⟨w.heap.size, 1, none⟩ (.int .i64 (z))).setCell ⟨w.heap.size, 2, none⟩ (.int .i64 (s)) = vz at *; obtain ⟨r0, r1, r2, r3, r4, r5, r6⟩ := id RR; exact bodyPost_ret (v := .agg #[.int .i64 (m), .int .i64 (z), .int .i64 (s)]) (by simp (maxDischargeDepth := 6) [results, Try.results38, go_sem, r1, r2, r3]) rfl ⟨_, _, _, rfl, cz, uz⟩
  cases h2 : (y == 2)
  rotate_left
  · go_wp2_with fail
    refine (l2DrawCount_any B p _ T.2.2.1).mono ?_
    rintro x v6 ⟨z, rfl, cc, bb⟩
    replace T := T.but hp hy cc bb
    clear cc bb
    obtain ⟨y0, y1, y2, y3, y4, y5, y6⟩ := id T.1
    go_upto_region 9 with fail
    clear y0 y1 y2 y3 y4 y5 y6
    replace T := T.put hp hy ((But.refl jy v6).setCell 2 (.int .i64 z)) (T.1.set2 (.int .i64 z))
    generalize v6.setCell ⟨jy, 2, none⟩ (.int .i64 z) = v7 at *
    have RR := ((T.2.1.set0 (.int .i64 (m))).set1 (.int .i64 (e))).set2 (.int .i64 (z)); have bz : But w.heap.size v7 _ := (((But.refl w.heap.size v7).setCell 0 (.int .i64 (m))).setCell 1 (.int .i64 (e))).setCell 2 (.int .i64 (z)); have cz := T.2.2.1.kept17 bz.grK (fun k hk e => by (have e' := Option.some.inj e); omega); have uz := T.2.2.2.other17 bz (Nat.le_refl _); obtain ⟨y0, y1, y2, y3, y4, y5, y6⟩ := id T.1; obtain ⟨r0, r1, r2, r3, r4, r5, r6⟩ := id T.2.1; go_wp2_with fail; clear y0 y1 y2 y3 y4 y5 y6; clear r0 r1 r2 r3 r4 r5 r6 bz T; generalize ((v7.setCell ⟨w.heap.size, 0, none⟩ (.int .i64 (m))).setCell ⟨w.heap.size, 1, none⟩ (.int .i64 (e))).setCell ⟨w.heap.size, 2, none⟩ (.int .i64 (z)) = vz at *; obtain ⟨r0, r1, r2, r3, r4, r5, r6⟩ := id RR; exact bodyPost_ret (v := .agg #[.int .i64 (m), .int .i64 (e), .int .i64 (z)]) (by simp (maxDischargeDepth := 6) [results, Try.results38, go_sem, r1, r2, r3]) rfl ⟨_, _, _, rfl, cz, uz⟩
  have RR := ((T.2.1.set0 (.int .i64 (m))).set1 (.int .i64 (e))).set2 (.int .i64 (s)); have bz : But w.heap.size v5 _ := (((But.refl w.heap.size v5).setCell 0 (.int .i64 (m))).setCell 1 (.int .i64 (e))).setCell 2 (.int .i64 (s)); have cz := T.2.2.1.kept17 bz.grK (fun k hk e => by (have e' := Option.some.inj e); omega); have uz := T.2.2.2.other17 bz (Nat.le_refl _); obtain ⟨y0, y1, y2, y3, y4, y5, y6⟩ := id T.1; obtain ⟨r0, r1, r2, r3, r4, r5, r6⟩ := id T.2.1; go_wp2_with fail; clear y0 y1 y2 y3 y4 y5 y6; clear r0 r1 r2 r3 r4 r5 r6 bz T; generalize ((v5.setCell ⟨w.heap.size, 0, none⟩ (.int .i64 (m))).setCell ⟨w.heap.size, 1, none⟩ (.int .i64 (e))).setCell ⟨w.heap.size, 2, none⟩ (.int .i64 (s)) = vz at *; obtain ⟨r0, r1, r2, r3, r4, r5, r6⟩ := id RR; exact bodyPost_ret (v := .agg #[.int .i64 (m), .int .i64 (e), .int .i64 (s)]) (by simp (maxDischargeDepth := 6) [results, Try.results38, go_sem, r1, r2, r3]) rfl ⟨_, _, _, rfl, cz, uz⟩
end Go.Proofs.Yteifibajafdnlaa
