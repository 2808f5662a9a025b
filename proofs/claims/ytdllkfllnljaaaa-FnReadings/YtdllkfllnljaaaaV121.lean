/- What the draws of a clock that is read leave. -/
import Derived.Test.YtdllkfllnljaaaaD2
import Derived.Test.YtdllkfllnljaaaaD4
import Derived.Test.YtdllkfllnljaaaaD3
import Derived.Test.YtdllkfllnljaaaaA120
import Derived.Deep.RegionHeld3
import Derived.WalkKit
import Derived.WalkSpells
import Derived.WalkLawsBesides
import Derived.Deep.RegionHeld
namespace Go.Proofs.Ytdllkfllnljaaaa
open Go.RowKit
set_option linter.unusedVariables false
theorem but_twoA {p j : Nat} {w wr : World} (h : But p w wr) (hj : w.heap.size ≤ j) (x y : Value) : But p w ((wr.setCell ⟨j, 0, none⟩ x).setCell ⟨j, 1, none⟩ y) := by
  obtain ⟨h1, h2, h3, h4, h5⟩ := h
  refine ⟨h1, h2, h3, by simpa using h4, fun k hk hp => ?_⟩
  rw [Below.heap_setCell _ _ _ _ (show k ≠ j by omega), Below.heap_setCell _ _ _ _ (show k ≠ j by omega)]
  exact h5 k hk hp
theorem cur_twoA {w : World} {B p j : Nat} (h : CurOk w B p) (hj : j ≠ p) (hB : B ≤ j) (x y : Value) : CurOk ((w.setCell ⟨j, 0, none⟩ x).setCell ⟨j, 1, none⟩ y) B p := (h.setOther hj hB 0 x).setOther hj hB 1 y
set_option maxRecDepth 100000 in
set_option maxHeartbeats 8000000 in
theorem l12DrawApp_any (B p : Nat) (w : World) (hcur : CurOk w B p) :
    Calls Try.prog 38 #[.pointer (some ⟨p, 0, none⟩)] w fun e w' => ∃ (h : Bool) (l : Int), e = .returned (.agg #[.bool h, .int .i64 l]) ∧ CurOk w' B p ∧ But p w w' := by
  have nl := Below.nw w (.cells #[.bool false, .int .i64 0] 25)
  have R := Bx2.new w (.bool false) (.int .i64 0) 25
  have cc := hcur.below nl
  have bb : But p w _ := But.of_below nl
  have hjp : w.heap.size ≠ p := by have := hcur.lt; omega
  have hBj : B ≤ w.heap.size := by have := hcur.lt; omega
  clear nl hcur
  go_enter Try.func38, Try.ntmps38
  go_upto_region 1 with fail
  generalize w.alloc (.cells #[.bool false, .int .i64 0] 25) = v at *
  go_wp2_with fail
  refine (l1Once_any B p _ _ cc).mono ?_; rintro e w1 ⟨o, rfl, nc, nb⟩; replace cc := nc; replace R := R.but nb hjp; replace bb := bb.trans nb; clear nc nb
  cases o
  · go_wp2_with fail
    refine (l1Below_any B p _ _ cc).mono ?_; rintro e w2 ⟨x, rfl, xl, xh, xp, xz, nc, nb⟩; clear xp xz; replace cc := nc; replace R := R.but nb hjp; replace bb := bb.trans nb; clear nc nb
    have nl := Below.nw w2 (.cells #[.bool true, .int .i64 x] 25)
    have K := Bx2.new w2 (.bool true) (.int .i64 x) 25
    have hk1 : w2.heap.size ≠ w.heap.size := Nat.ne_of_gt R.1
    have hkp : w2.heap.size ≠ p := Nat.ne_of_gt cc.lt.1
    have hkB : B ≤ w2.heap.size := Nat.le_trans hBj (Nat.le_of_lt R.1)
    have hkw : w.heap.size ≤ w2.heap.size := Nat.le_of_lt R.1
    replace cc := cc.below nl
    replace R := R.below nl
    replace bb := bb.trans (But.of_below nl)
    clear nl
    go_upto_region 4 with fail
    generalize w2.alloc (.cells #[.bool true, .int .i64 x] 25) = w3 at *
    generalize w2.heap.size = kk at *
    go_wp2_with fail
    refine (l1Once_any B p _ _ cc).mono ?_
    rintro e w4 ⟨o2, rfl, nc, nb⟩
    replace K := K.but nb hkp
    replace cc := nc; replace R := R.but nb hjp; replace bb := bb.trans nb; clear nc nb
    cases o2
    · have RR := (R.set0 (.bool true)).set1 (.int .i64 x); have CC := cur_twoA cc hjp hBj (.bool true) (.int .i64 x); have BB := but_twoA bb (Nat.le_refl _) (.bool true) (.int .i64 x); obtain ⟨r0, r1, r2, r3, r4⟩ := id R
      obtain ⟨k0, k1, k2, k3, k4⟩ := id K
      go_wp2_with fail
      clear k0 k1 k2 k3 k4 K
      clear r0 r1 r2 r3 r4 R cc bb; generalize (w4.setCell ⟨w.heap.size, 0, none⟩ (.bool true)).setCell ⟨w.heap.size, 1, none⟩ (.int .i64 x) = vz at *; obtain ⟨r0, r1, r2, r3, r4⟩ := id RR; exact bodyPost_ret (v := .agg #[.bool true, .int .i64 x]) (by simp (maxDischargeDepth := 6) [results, Try.results38, go_sem, *]) rfl ⟨_, _, rfl, CC, BB⟩
    · go_wp2_with fail
      have hp := pickLit B p w4 [1000000000000, 1000000000001, -1000000000000, -1000000000001] cc (by decide) (by decide); simp only [List.map_cons, List.map_nil, List.length_cons, List.length_nil, Nat.zero_add, Nat.reduceAdd] at hp; refine hp.mono ?_; clear hp; rintro e w5 ⟨z, rfl, nc, nb⟩
      replace K := K.but nb hkp
      replace cc := nc; replace R := R.but nb hjp; replace bb := bb.trans nb; clear nc nb
      obtain ⟨k0, k1, k2, k3, k4⟩ := id K
      go_upto_region 6 with fail
      replace K := K.set1 (.int .i64 z)
      replace R := R.setO hk1 1 (.int .i64 z)
      replace cc := cc.setOther hkp hkB 1 (.int .i64 z)
      replace bb := bb.setNew hkw 1 (.int .i64 z)
      clear k0 k1 k2 k3 k4
      generalize w5.setCell ⟨kk, 1, none⟩ (.int .i64 z) = w6 at *
      have RR := (R.set0 (.bool true)).set1 (.int .i64 z); have CC := cur_twoA cc hjp hBj (.bool true) (.int .i64 z); have BB := but_twoA bb (Nat.le_refl _) (.bool true) (.int .i64 z); obtain ⟨r0, r1, r2, r3, r4⟩ := id R
      obtain ⟨k0, k1, k2, k3, k4⟩ := id K
      go_wp2_with fail
      clear k0 k1 k2 k3 k4 K
      clear r0 r1 r2 r3 r4 R cc bb; generalize (w6.setCell ⟨w.heap.size, 0, none⟩ (.bool true)).setCell ⟨w.heap.size, 1, none⟩ (.int .i64 z) = vz at *; obtain ⟨r0, r1, r2, r3, r4⟩ := id RR; exact bodyPost_ret (v := .agg #[.bool true, .int .i64 z]) (by simp (maxDischargeDepth := 6) [results, Try.results38, go_sem, *]) rfl ⟨_, _, rfl, CC, BB⟩
  · go_wp2_with fail
    refine (l1Below_any B p _ _ cc).mono ?_; rintro e w2 ⟨x, rfl, xl, xh, xp, xz, nc, nb⟩; clear xp xz; replace cc := nc; replace R := R.but nb hjp; replace bb := bb.trans nb; clear nc nb
    have hq : Int.tdiv x 19 = x / 19 := Int.tdiv_eq_ediv_of_nonneg xl
    have q0 : 0 ≤ x / 19 := by omega
    have q1 : x / 19 ≤ 4294967295 := by omega
    have RR := (R.set0 (.bool false)).set1 (.int .i64 (x / 19)); have CC := cur_twoA cc hjp hBj (.bool false) (.int .i64 (x / 19)); have BB := but_twoA bb (Nat.le_refl _) (.bool false) (.int .i64 (x / 19)); obtain ⟨r0, r1, r2, r3, r4⟩ := id R
    go_wp2_with fail
    clear r0 r1 r2 r3 r4 R cc bb; generalize (w2.setCell ⟨w.heap.size, 0, none⟩ (.bool false)).setCell ⟨w.heap.size, 1, none⟩ (.int .i64 (x / 19)) = vz at *; obtain ⟨r0, r1, r2, r3, r4⟩ := id RR; exact bodyPost_ret (v := .agg #[.bool false, .int .i64 (x / 19)]) (by simp (maxDischargeDepth := 6) [results, Try.results38, go_sem, *]) rfl ⟨_, _, rfl, CC, BB⟩
set_option maxRecDepth 100000 in
set_option maxHeartbeats 8000000 in
theorem l12DrawNow_any (B p : Nat) (w : World) (hcur : CurOk w B p) :
    Calls Try.prog 47 #[.pointer (some ⟨p, 0, none⟩)] w fun e w' => ∃ x y : Int, e = .returned (.agg #[.int .i64 x, .int .i64 y]) ∧ CurOk w' B p ∧ But p w w' := by
  have nl := Below.nw w (.cells #[.int .i64 0, .int .i64 0] 30)
  have R := Bx2.new w (.int .i64 0) (.int .i64 0) 30
  have cc := hcur.below nl
  have bb : But p w _ := But.of_below nl
  have hjp : w.heap.size ≠ p := by have := hcur.lt; omega
  have hBj : B ≤ w.heap.size := by have := hcur.lt; omega
  clear nl hcur
  go_enter Try.func47, Try.ntmps47
  go_upto_region 1 with fail
  generalize w.alloc (.cells #[.int .i64 0, .int .i64 0] 30) = v at *
  go_wp2_with fail
  refine (l1Below_any B p _ _ cc).mono ?_; rintro e w1 ⟨x, rfl, xl, xh, xp, xz, nc, nb⟩; clear xp xz; replace cc := nc; replace R := R.but nb hjp; replace bb := bb.trans nb; clear nc nb
  go_wp2_with fail
  refine (l1Once_any B p _ _ cc).mono ?_; rintro e w2 ⟨o, rfl, nc, nb⟩; replace cc := nc; replace R := R.but nb hjp; replace bb := bb.trans nb; clear nc nb
  cases o
  · go_wp2_with fail
    refine (l1Below_any B p _ _ cc).mono ?_; rintro e w3 ⟨y, rfl, yl, yh, yp, yz, nc, nb⟩; clear yp yz; replace cc := nc; replace R := R.but nb hjp; replace bb := bb.trans nb; clear nc nb
    have RR := (R.set0 (.int .i64 x)).set1 (.int .i64 (x + y)); have CC := cur_twoA cc hjp hBj (.int .i64 x) (.int .i64 (x + y)); have BB := but_twoA bb (Nat.le_refl _) (.int .i64 x) (.int .i64 (x + y)); obtain ⟨r0, r1, r2, r3, r4⟩ := id R
    go_wp2_with fail
    clear r0 r1 r2 r3 r4 R cc bb; generalize (w3.setCell ⟨w.heap.size, 0, none⟩ (.int .i64 x)).setCell ⟨w.heap.size, 1, none⟩ (.int .i64 (x + y)) = vz at *; obtain ⟨r0, r1, r2, r3, r4⟩ := id RR; exact bodyPost_ret (v := .agg #[.int .i64 x, .int .i64 (x + y)]) (by simp (maxDischargeDepth := 6) [results, Try.results47, go_sem, *]) rfl ⟨_, _, rfl, CC, BB⟩
  · go_wp2_with fail
    refine (l1DrawIval_any B p _ cc).mono ?_
    rintro e w3 ⟨x1, y1, rfl, nc, nb⟩
    replace cc := nc; replace R := R.but nb hjp; replace bb := bb.trans nb; clear nc nb
    have RR := (R.set0 (.int .i64 x1)).set1 (.int .i64 y1); have CC := cur_twoA cc hjp hBj (.int .i64 x1) (.int .i64 y1); have BB := but_twoA bb (Nat.le_refl _) (.int .i64 x1) (.int .i64 y1); obtain ⟨r0, r1, r2, r3, r4⟩ := id R
    go_wp2_with fail
    clear r0 r1 r2 r3 r4 R cc bb; generalize (w3.setCell ⟨w.heap.size, 0, none⟩ (.int .i64 x1)).setCell ⟨w.heap.size, 1, none⟩ (.int .i64 y1) = vz at *; obtain ⟨r0, r1, r2, r3, r4⟩ := id RR; exact bodyPost_ret (v := .agg #[.int .i64 x1, .int .i64 y1]) (by simp (maxDischargeDepth := 6) [results, Try.results47, go_sem, *]) rfl ⟨_, _, rfl, CC, BB⟩
end Go.Proofs.Ytdllkfllnljaaaa
