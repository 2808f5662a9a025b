/- What DrawFracOf leaves; a drawn fraction. -/
import Derived.Test.YtblappilppfkiaaDoorD2
import Derived.Test.YtblappilppfkiaaDoorD4
import Derived.Test.YtblappilppfkiaaDoorD3
import Derived.Test.YtblappilppfkiaaDoorI105
import Derived.Test.YtblappilppfkiaaDoorF113
import Derived.Deep.RegionHeld3
import Derived.WalkKit
import Derived.WalkSpells
import Derived.WalkLawsBesides
import Derived.Deep.RegionHeld
namespace Go.Proofs.YtblappilppfkiaaDoor
open Go.RowKit
set_option linter.unusedVariables false
/- The cursor and what is known of the world behind a draw: all in two facts, cc and bb. -/
set_option maxHeartbeats 4000000 in
theorem DrawFracOf_any (a : Option Addr) (n c : Nat) (w : World) (hn : n ≤ 1048576) (hcode : CodeB w w.heap.size a n) :
    Calls Tryd.prog 6 #[.slice a n c] w fun e w' => ∃ x y : Int, e = .returned (.tuple #[.int .i64 x, .int .i64 y]) ∧ Below w.heap.size w w' := by
  go_enter Tryd.func6, Tryd.ntmps6
  go_wp2_with fail
  refine (l1New_any a n c _ hn hcode).mono ?_
  rintro e w1 ⟨p, rfl, cc, bb⟩
  have hwp := cc.lt.2
  clear hcode
  go_wp2_with fail
  refine (l1Below_any _ p _ _ cc).mono ?_; rintro e w2 ⟨x, rfl, xl, xh, xp, xz, nc, nb⟩; clear xp xz; replace cc := nc; replace bb := bb.trans (nb.below hwp bb.size); clear nc nb
  go_wp2_with fail
  refine (l1Below_any _ p _ _ cc).mono ?_; rintro e w3 ⟨y, rfl, yl, yh, yp, yz, nc, nb⟩; clear yp yz; replace cc := nc; replace bb := bb.trans (nb.below hwp bb.size); clear nc nb
  go_wp2_with fail
  refine (l1Once_any _ p _ _ cc).mono ?_; rintro e w4 ⟨o, rfl, nc, nb⟩; replace cc := nc; replace bb := bb.trans (nb.below hwp bb.size); clear nc nb
  cases o
  · go_wp2_with fail
    refine (l1Once_any _ p _ _ cc).mono ?_; rintro e w5 ⟨o2, rfl, nc, nb⟩; replace cc := nc; replace bb := bb.trans (nb.below hwp bb.size); clear nc nb
    cases o2
    · go_wp2_with fail
      go_ret2
      exact ⟨_, _, rfl, bb⟩
    · go_wp2_with fail
      have hp := pickLit _ p w5 [4000000000000, -4000000000000, 4000000000001, 0, -9223372036854775807] cc (by decide) (by decide); simp only [List.map_cons, List.map_nil, List.length_cons, List.length_nil, Nat.zero_add, Nat.reduceAdd] at hp; refine hp.mono ?_; clear hp; rintro e w6 ⟨v, rfl, nc, nb⟩; replace cc := nc; replace bb := bb.trans (nb.below hwp bb.size); clear nc nb
      go_wp2_with fail
      go_ret2
      exact ⟨_, _, rfl, bb⟩
  · go_wp2_with fail
    have hp := pickLit _ p w4 [4000000000000, -4000000000000, 4000000000001, -4000000000001, 0] cc (by decide) (by decide); simp only [List.map_cons, List.map_nil, List.length_cons, List.length_nil, Nat.zero_add, Nat.reduceAdd] at hp; refine hp.mono ?_; clear hp; rintro e w7 ⟨u, rfl, nc, nb⟩; replace cc := nc; replace bb := bb.trans (nb.below hwp bb.size); clear nc nb
    go_wp2_with fail
    refine (l1Once_any _ p _ _ cc).mono ?_; rintro e w5 ⟨o2, rfl, nc, nb⟩; replace cc := nc; replace bb := bb.trans (nb.below hwp bb.size); clear nc nb
    cases o2
    · go_wp2_with fail
      go_ret2
      exact ⟨_, _, rfl, bb⟩
    · go_wp2_with fail
      have hp := pickLit _ p w5 [4000000000000, -4000000000000, 4000000000001, 0, -9223372036854775807] cc (by decide) (by decide); simp only [List.map_cons, List.map_nil, List.length_cons, List.length_nil, Nat.zero_add, Nat.reduceAdd] at hp; refine hp.mono ?_; clear hp; rintro e w6 ⟨v, rfl, nc, nb⟩; replace cc := nc; replace bb := bb.trans (nb.below hwp bb.size); clear nc nb
      go_wp2_with fail
      go_ret2
      exact ⟨_, _, rfl, bb⟩
theorem but_two {p j : Nat} {w wr : World} (h : But p w wr) (hj : w.heap.size ≤ j) (x y : Value) : But p w ((wr.setCell ⟨j, 0, none⟩ x).setCell ⟨j, 1, none⟩ y) := by
  obtain ⟨h1, h2, h3, h4, h5⟩ := h
  refine ⟨h1, h2, h3, by simpa using h4, fun k hk hp => ?_⟩
  rw [Below.heap_setCell _ _ _ _ (show k ≠ j by omega), Below.heap_setCell _ _ _ _ (show k ≠ j by omega)]
  exact h5 k hk hp
theorem cur_two {w : World} {B p j : Nat} (h : CurOk w B p) (hj : j ≠ p) (hB : B ≤ j) (x y : Value) : CurOk ((w.setCell ⟨j, 0, none⟩ x).setCell ⟨j, 1, none⟩ y) B p := (h.setOther hj hB 0 x).setOther hj hB 1 y
set_option maxRecDepth 100000 in
set_option maxHeartbeats 8000000 in
theorem l11DrawFrac_any (B p : Nat) (w : World) (hcur : CurOk w B p) :
    Calls Tryd.prog 30 #[.pointer (some ⟨p, 0, none⟩)] w fun e w' => ∃ x y : Int, e = .returned (.agg #[.int .i64 x, .int .i64 y]) ∧ CurOk w' B p ∧ But p w w' := by
  have nl := Below.nw w (.cells #[.int .i64 0, .int .i64 0] 27)
  have R := Bx2.new w (.int .i64 0) (.int .i64 0) 27
  have cc := hcur.below nl
  have bb : But p w _ := But.of_below nl
  have hjp : w.heap.size ≠ p := by have := hcur.lt; omega
  have hBj : B ≤ w.heap.size := by have := hcur.lt; omega
  clear nl hcur
  go_enter Tryd.func30, Tryd.ntmps30
  go_upto_region 1 with fail
  generalize w.alloc (.cells #[.int .i64 0, .int .i64 0] 27) = v at *
  go_wp2_with fail
  refine (l1Below_any B p _ _ cc).mono ?_; rintro e w2 ⟨t, rfl, tl, th, tp, tz, nc, nb⟩; clear tp tz; replace cc := nc; replace R := R.but nb hjp; replace bb := bb.trans nb; clear nc nb
  by_cases t0 : t = 0
  · subst t0
    go_wp2_with fail
    have hp := pickLit B p w2 [2, 0, -4, 4000000000000, 4000000000001, -4000000000000] cc (by decide) (by decide); simp only [List.map_cons, List.map_nil, List.length_cons, List.length_nil, Nat.zero_add, Nat.reduceAdd] at hp; refine hp.mono ?_; clear hp; rintro e w3 ⟨x, rfl, nc, nb⟩; replace cc := nc; replace R := R.but nb hjp; replace bb := bb.trans nb; clear nc nb
    go_wp2_with fail
    have hp := pickLit B p w3 [0, 1, 2, -1, 4000000000000, 3999999999999, 4000000000001] cc (by decide) (by decide); simp only [List.map_cons, List.map_nil, List.length_cons, List.length_nil, Nat.zero_add, Nat.reduceAdd] at hp; refine hp.mono ?_; clear hp; rintro e w4 ⟨y, rfl, nc, nb⟩; replace cc := nc; replace R := R.but nb hjp; replace bb := bb.trans nb; clear nc nb
    have RR := (R.set0 (.int .i64 x)).set1 (.int .i64 y); have CC := cur_two cc hjp hBj (.int .i64 x) (.int .i64 y); have BB := but_two bb (Nat.le_refl _) (.int .i64 x) (.int .i64 y); obtain ⟨r0, r1, r2, r3, r4⟩ := id R
    go_wp2_with fail
    clear r0 r1 r2 r3 r4 R cc bb; generalize (w4.setCell ⟨w.heap.size, 0, none⟩ (.int .i64 x)).setCell ⟨w.heap.size, 1, none⟩ (.int .i64 y) = vz at *; obtain ⟨r0, r1, r2, r3, r4⟩ := id RR; exact bodyPost_ret (v := .agg #[.int .i64 x, .int .i64 y]) (by simp (maxDischargeDepth := 6) [results, Tryd.results30, go_sem, *]) rfl ⟨x, y, rfl, CC, BB⟩
  have t0' : (t == 0) = false := beq_eq_false_iff_ne.2 t0
  by_cases t1 : t = 1
  · subst t1
    go_wp2_with fail
    refine (l1Below_any B p _ _ cc).mono ?_; rintro e w3 ⟨x, rfl, xl, xh, xp, xz, nc, nb⟩; clear xp xz; replace cc := nc; replace R := R.but nb hjp; replace bb := bb.trans nb; clear nc nb
    go_wp2_with fail
    refine (l1Below_any B p _ _ cc).mono ?_; rintro e w4 ⟨y, rfl, yl, yh, yp, yz, nc, nb⟩; clear yp yz; replace cc := nc; replace R := R.but nb hjp; replace bb := bb.trans nb; clear nc nb
    go_wp2_with fail
    refine (specFracOf_any _ _ _).mono ?_; rintro e w5 ⟨rfl, nl⟩; replace cc := cc.below nl; replace R := R.below nl; replace bb := bb.trans (But.of_below nl); clear nl
    generalize foX (4000000000000 - x) (4000000000000 - y) = fx at *
    generalize foY (4000000000000 - x) (4000000000000 - y) = fy at *
    have nl := Below.nw w5 (.cells #[.int .i64 fx, .int .i64 fy] 27); have K := Bx2.new w5 (.int .i64 fx) (.int .i64 fy) 27; replace cc := cc.below nl; replace R := R.below nl; replace bb := bb.trans (But.of_below nl); clear nl
    go_upto_region 6 with fail
    generalize w5.alloc (.cells #[.int .i64 fx, .int .i64 fy] 27) = w6 at *
    have RR := (R.set0 (.int .i64 fx)).set1 (.int .i64 fy); have CC := cur_two cc hjp hBj (.int .i64 fx) (.int .i64 fy); have BB := but_two bb (Nat.le_refl _) (.int .i64 fx) (.int .i64 fy); obtain ⟨r0, r1, r2, r3, r4⟩ := id R
    obtain ⟨k0, k1, k2, k3, k4⟩ := id K
    go_wp2_with fail
    clear k0 k1 k2 k3 k4 K
    clear r0 r1 r2 r3 r4 R cc bb; generalize (w6.setCell ⟨w.heap.size, 0, none⟩ (.int .i64 fx)).setCell ⟨w.heap.size, 1, none⟩ (.int .i64 fy) = vz at *; obtain ⟨r0, r1, r2, r3, r4⟩ := id RR; exact bodyPost_ret (v := .agg #[.int .i64 fx, .int .i64 fy]) (by simp (maxDischargeDepth := 6) [results, Tryd.results30, go_sem, *]) rfl ⟨fx, fy, rfl, CC, BB⟩
  have t1' : (t == 1) = false := beq_eq_false_iff_ne.2 t1
  clear t0 t1
  go_wp2_with fail
  refine (l1Below_any B p _ _ cc).mono ?_; rintro e w3 ⟨x, rfl, xl, xh, xp, xz, nc, nb⟩; clear xp xz; replace cc := nc; replace R := R.but nb hjp; replace bb := bb.trans nb; clear nc nb
  go_wp2_with fail
  refine (l1Below_any B p _ _ cc).mono ?_; rintro e w4 ⟨y, rfl, yl, yh, yp, yz, nc, nb⟩; clear yp yz; replace cc := nc; replace R := R.but nb hjp; replace bb := bb.trans nb; clear nc nb
  go_wp2_with fail
  refine (specFracOf_any _ _ _).mono ?_; rintro e w5 ⟨rfl, nl⟩; replace cc := cc.below nl; replace R := R.below nl; replace bb := bb.trans (But.of_below nl); clear nl
  generalize foX (x - 20) (1 + y) = fx at *
  generalize foY (x - 20) (1 + y) = fy at *
  have nl := Below.nw w5 (.cells #[.int .i64 fx, .int .i64 fy] 27); have K := Bx2.new w5 (.int .i64 fx) (.int .i64 fy) 27; replace cc := cc.below nl; replace R := R.below nl; replace bb := bb.trans (But.of_below nl); clear nl
  go_upto_region 8 with fail
  generalize w5.alloc (.cells #[.int .i64 fx, .int .i64 fy] 27) = w6 at *
  have RR := (R.set0 (.int .i64 fx)).set1 (.int .i64 fy); have CC := cur_two cc hjp hBj (.int .i64 fx) (.int .i64 fy); have BB := but_two bb (Nat.le_refl _) (.int .i64 fx) (.int .i64 fy); obtain ⟨r0, r1, r2, r3, r4⟩ := id R
  obtain ⟨k0, k1, k2, k3, k4⟩ := id K
  go_wp2_with fail
  clear k0 k1 k2 k3 k4 K
  clear r0 r1 r2 r3 r4 R cc bb; generalize (w6.setCell ⟨w.heap.size, 0, none⟩ (.int .i64 fx)).setCell ⟨w.heap.size, 1, none⟩ (.int .i64 fy) = vz at *; obtain ⟨r0, r1, r2, r3, r4⟩ := id RR; exact bodyPost_ret (v := .agg #[.int .i64 fx, .int .i64 fy]) (by simp (maxDischargeDepth := 6) [results, Tryd.results30, go_sem, *]) rfl ⟨fx, fy, rfl, CC, BB⟩
end Go.Proofs.YtblappilppfkiaaDoor
