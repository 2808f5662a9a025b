/- The draw of an event. -/
import Derived.Test.YteifibajafdnlaaV180
import Derived.WalkKit
import Derived.WalkSpells
import Derived.WalkLawsBesides
import Derived.Deep.RegionHeld
namespace Go.Proofs.Yteifibajafdnlaa
open Go.RowKit
set_option linter.unusedVariables false
/- An event in a box, the box of the answer, and the cursor. -/
def Ey (w : World) (B p jy : Nat) (k t : Int) (wr : World) : Prop := Bx2 wr jy (.int .i64 k) (.int .i64 t) ∧ Bx2 wr w.heap.size (.int .i64 0) (.int .i64 0) ∧ CurOk wr B p ∧ But p w wr
section
variable {w wr w' : World} {B p jy : Nat} {k t : Int}
theorem Ey.but (h : Ey w B p jy k t wr) (hp : p < w.heap.size) (hy : w.heap.size < jy) (hc : CurOk w' B p) (hb : But p wr w') : Ey w B p jy k t w' := ⟨h.1.but hb (by omega), h.2.1.but hb (by omega), hc, h.2.2.2.trans hb⟩
theorem Ey.put {k' t' : Int} (h : Ey w B p jy k t wr) (hp : p < w.heap.size) (hy : w.heap.size < jy) (hb : But jy wr w') (hn : Bx2 w' jy (.int .i64 k') (.int .i64 t')) : Ey w B p jy k' t' w' := ⟨hn, h.2.1.but hb (by omega), h.2.2.1.kept17 hb.grK (fun k hk e => by (have e' := Option.some.inj e); omega), h.2.2.2.other17 hb (Nat.le_of_lt hy)⟩
end
set_option maxRecDepth 100000 in
set_option maxHeartbeats 8000000 in
theorem l17DrawEvent_any (B p : Nat) (at' : Int) (w : World) (hcur : CurOk w B p) :
    Calls Try.prog 42 #[.pointer (some ⟨p, 0, none⟩), .int .i64 at'] w fun x w' => ∃ k t : Int, x = .returned (.agg #[.int .i64 k, .int .i64 t]) ∧ CurOk w' B p ∧ But p w w' := by
  have hpl := hcur.lt
  have hp : p < w.heap.size := hpl.1
  have A0 := Below.nw w (.cells #[.int .i64 0, .int .i64 0] 32)
  have R := Bx2.new w (.int .i64 0) (.int .i64 0) 32
  have c0 := hcur.below A0
  have b0 := But.of_below (p := p) A0
  clear hpl hcur A0
  go_enter Try.func42, Try.ntmps42
  go_upto_region 1 with fail
  generalize w.alloc (.cells #[.int .i64 0, .int .i64 0] 32) = v at *
  go_wp2_with fail
  refine (l1Below_any B p 6 _ c0).mono ?_
  rintro x v3 ⟨k0, rfl, k1, _, k2, _, c3, b1⟩
  have k3 := k2 (by decide)
  have hw1 : wrap64 (1 + k0) = 1 + k0 := Go.IntWalk.wrap64_in _ ⟨by omega, by omega⟩
  have hw2 : IntKind.i64.wrap (1 + k0) = 1 + k0 := Go.IntWalk.i64_in _ ⟨by omega, by omega⟩
  replace R := R.but b1 (by omega)
  replace b0 := b0.trans b1
  clear c0 b1 k1 k2 k3
  have hb := Below.nw v3 (.cells #[.int .i64 (1 + k0), .int .i64 at'] 32)
  have T : Ey w B p v3.heap.size (1 + k0) at' (v3.alloc (.cells #[.int .i64 (1 + k0), .int .i64 at'] 32)) := ⟨Bx2.new v3 (.int .i64 (1 + k0)) (.int .i64 at') 32, R.below hb, c3.below hb, b0.trans (But.of_below hb)⟩
  have hy : w.heap.size < v3.heap.size := R.1
  clear hb R c3 b0
  go_upto_region 2 with fail
  clear hw1 hw2
  generalize v3.alloc (.cells #[.int .i64 (1 + k0), .int .i64 at'] 32) = v4 at *
  generalize v3.heap.size = jy at *
  generalize 1 + k0 = k at *
  go_wp2_with fail
  refine (l1Below_any B p 25 _ T.2.2.1).mono ?_
  rintro x v5 ⟨y, rfl, _, _, _, _, cc, bb⟩
  replace T := T.but hp hy cc bb
  clear cc bb
  cases h0 : (y == 0)
  rotate_left
  · go_wp2_with fail
    refine (pickIn B p _ [0, 7, -1] T.2.2.1 (by decide) (by decide)).mono ?_
    rintro x v6 ⟨z, rfl, _, cc, bb⟩
    replace T := T.but hp hy cc bb
    clear cc bb
    obtain ⟨y0, y1, y2, y3, y4⟩ := id T.1
    go_upto_region 7 with fail
    clear y0 y1 y2 y3 y4
    replace T := T.put hp hy ((But.refl jy v6).setCell 0 (.int .i64 z)) (T.1.set0 (.int .i64 z))
    generalize v6.setCell ⟨jy, 0, none⟩ (.int .i64 z) = v7 at *
    have RR := (T.2.1.set0 (.int .i64 (z))).set1 (.int .i64 (at')); have bz : But w.heap.size v7 _ := ((But.refl w.heap.size v7).setCell 0 (.int .i64 (z))).setCell 1 (.int .i64 (at')); have cz := T.2.2.1.kept17 bz.grK (fun k hk e => by (have e' := Option.some.inj e); omega); have uz := T.2.2.2.other17 bz (Nat.le_refl _); obtain ⟨y0, y1, y2, y3, y4⟩ := id T.1; obtain ⟨r0, r1, r2, r3, r4⟩ := id T.2.1; go_wp2_with fail; clear y0 y1 y2 y3 y4; clear r0 r1 r2 r3 r4 bz T; generalize (v7.setCell ⟨w.heap.size, 0, none⟩ (.int .i64 (z))).setCell ⟨w.heap.size, 1, none⟩ (.int .i64 (at')) = vz at *; obtain ⟨r0, r1, r2, r3, r4⟩ := id RR; exact bodyPost_ret (v := .agg #[.int .i64 (z), .int .i64 (at')]) (by simp (maxDischargeDepth := 6) [results, Try.results42, go_sem, r1, r2]) rfl ⟨_, _, rfl, cz, uz⟩
  cases h1 : (y == 1)
  rotate_left
  · go_wp2_with fail
    refine (l2DrawCount_any B p _ T.2.2.1).mono ?_
    rintro x v6 ⟨z, rfl, cc, bb⟩
    replace T := T.but hp hy cc bb
    clear cc bb
    obtain ⟨y0, y1, y2, y3, y4⟩ := id T.1
    go_upto_region 7 with fail
    clear y0 y1 y2 y3 y4
    replace T := T.put hp hy ((But.refl jy v6).setCell 1 (.int .i64 z)) (T.1.set1 (.int .i64 z))
    generalize v6.setCell ⟨jy, 1, none⟩ (.int .i64 z) = v7 at *
    have RR := (T.2.1.set0 (.int .i64 (k))).set1 (.int .i64 (z)); have bz : But w.heap.size v7 _ := ((But.refl w.heap.size v7).setCell 0 (.int .i64 (k))).setCell 1 (.int .i64 (z)); have cz := T.2.2.1.kept17 bz.grK (fun k hk e => by (have e' := Option.some.inj e); omega); have uz := T.2.2.2.other17 bz (Nat.le_refl _); obtain ⟨y0, y1, y2, y3, y4⟩ := id T.1; obtain ⟨r0, r1, r2, r3, r4⟩ := id T.2.1; go_wp2_with fail; clear y0 y1 y2 y3 y4; clear r0 r1 r2 r3 r4 bz T; generalize (v7.setCell ⟨w.heap.size, 0, none⟩ (.int .i64 (k))).setCell ⟨w.heap.size, 1, none⟩ (.int .i64 (z)) = vz at *; obtain ⟨r0, r1, r2, r3, r4⟩ := id RR; exact bodyPost_ret (v := .agg #[.int .i64 (k), .int .i64 (z)]) (by simp (maxDischargeDepth := 6) [results, Try.results42, go_sem, r1, r2]) rfl ⟨_, _, rfl, cz, uz⟩
  have RR := (T.2.1.set0 (.int .i64 (k))).set1 (.int .i64 (at')); have bz : But w.heap.size v5 _ := ((But.refl w.heap.size v5).setCell 0 (.int .i64 (k))).setCell 1 (.int .i64 (at')); have cz := T.2.2.1.kept17 bz.grK (fun k hk e => by (have e' := Option.some.inj e); omega); have uz := T.2.2.2.other17 bz (Nat.le_refl _); obtain ⟨y0, y1, y2, y3, y4⟩ := id T.1; obtain ⟨r0, r1, r2, r3, r4⟩ := id T.2.1; go_wp2_with fail; clear y0 y1 y2 y3 y4; clear r0 r1 r2 r3 r4 bz T; generalize (v5.setCell ⟨w.heap.size, 0, none⟩ (.int .i64 (k))).setCell ⟨w.heap.size, 1, none⟩ (.int .i64 (at')) = vz at *; obtain ⟨r0, r1, r2, r3, r4⟩ := id RR; exact bodyPost_ret (v := .agg #[.int .i64 (k), .int .i64 (at')]) (by simp (maxDischargeDepth := 6) [results, Try.results42, go_sem, r1, r2]) rfl ⟨_, _, rfl, cz, uz⟩
end Go.Proofs.Yteifibajafdnlaa
