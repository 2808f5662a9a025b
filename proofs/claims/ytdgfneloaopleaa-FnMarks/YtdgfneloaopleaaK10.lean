/- The walk of FnMarks. -/
import Derived.Test.YtdgfneloaopleaaV3
import Derived.Test.YtdgfneloaopleaaV4
import Derived.WalkKit
import Derived.WalkSpells
import Derived.WalkLawsBesides
import Derived.Deep.RegionHeld
import Derived.Deep.RegionHeld3
namespace Go.Proofs.Ytdgfneloaopleaa
open Go.RowKit
set_option linter.unusedVariables false
theorem implHolds_v4 (lo hi t : Int) (v : Bool) (w : World) (h : holdsI lo hi t = v) :
    Calls Try.prog 15 #[.agg #[.int .i64 lo, .int .i64 hi], .int .i64 t] w fun e w' => e = .returned (.bool v) ∧ Below w.heap.size w w' := by
  subst h; exact implHolds_any lo hi t w
theorem implMarksAll_v (n d : Int) (a : Option Addr) (m c : Nat) (f : Nat → Int × Int) (v : Bool) (w : World) (hm : m ≤ c) (hc : c ≤ maxLen) (hs : Src w a m f) (h : mrB n d f m m = v) :
    Calls Try.prog 11 #[.agg #[.int .i64 n, .int .i64 d], .slice a m c] w fun e w' => e = .returned (.bool v) ∧ Below w.heap.size w w' := by
  subst h; exact implMarksAll_any n d a m c f w hm hc hs
set_option maxRecDepth 100000 in
set_option maxHeartbeats 4000000 in
theorem walkMarks (a0 : Option Addr) (n0 c0 : Nat) (w : World) (hcode : CodeB w w.heap.size a0 n0) :
    Calls Try.prog 3 #[.slice a0 n0 c0] w fun e w' => e = .returned (.bool true) ∧ Below w.heap.size w w' := by
  by_cases hbig : (1048576 : Int) < (n0 : Int)
  · go_enter Try.func3, Try.ntmps3
    go_wp2_with (go_at_call 6; refine (big_any _ _ _ _).mono ?_; rintro e w' ⟨rfl, rfl⟩)
    go_ret
    exact ⟨rfl, Below.refl _ _⟩
  have hd : decide ((1048576 : Int) < (n0 : Int)) = false := by simp; omega
  have hn0 : n0 ≤ 1048576 := by omega
  have HC : Hid (CodeB w w.heap.size a0 n0) := hcode
  clear hcode hbig
  go_enter Try.func3, Try.ntmps3
  go_wp2_with (go_at_call 6; refine (big_any _ _ _ _).mono ?_; rintro e w' ⟨rfl, rfl⟩)
  refine (DrawOscRun_any a0 n0 c0 _ hn0 HC.out).mono ?_
  rintro e w1 ⟨x, y, t, u, vs, LS, rfl, O1, hLS, B1⟩
  obtain ⟨a, cp, rfl, hmc, hcm, hsrc⟩ := own_src O1
  have SR : Hid (Src w1 a LS.length fun i => LS.getD i (0, 0)) := hsrc
  clear O1 hsrc
  generalize (fun i => LS.getD i (0, 0)) = fs at *
  generalize LS.length = m at *
  have hmm : m ≤ maxLen := by unfold maxLen; omega
  have A1 := Below.alc w1 (.cells #[.int .i64 x, .int .i64 y, .int .i64 t, .int .i64 u] 27)
  have N := Box4.new w1 x y t u 27
  have B := B1.trans (A1.mono B1.size)
  have SR' : Hid (Src (w1.alloc (.cells #[.int .i64 x, .int .i64 y, .int .i64 t, .int .i64 u] 27)) a m fs) := SR.out.below A1
  have CI := fun (w' : World) (h : Src w' a m fs) => implOscRun_any x y t u a m cp fs w' hmm h
  have CS := fun (w' : World) (h : Src w' a m fs) => specOscRun_any x y t u a m cp fs w' hmm h
  have hLen := runL_len x y t u fs m
  have HR : Hid ((runL x y t u fs m).length ≠ 0 → mrB x y (fun i => (runL x y t u fs m).getD i (0, 0)) (runL x y t u fs m).length 1 = true) := run_marks
  clear A1 SR B1
  generalize runL x y t u fs m = L at *
  generalize runD x y t u fs m = D at *
  go_wp2_with fail
  generalize w1.alloc (.cells #[.int .i64 x, .int .i64 y, .int .i64 t, .int .i64 u] 27) = v1 at *
  generalize w1.heap.size = k at *
  refine (CI _ SR'.out).mono ?_
  rintro e v2 ⟨vm, rfl, OM, hb⟩
  replace B := B.trans (hb.mono B.size)
  replace N := N.below hb
  have SR2 : Hid (Src v2 a m fs) := SR'.out.below hb
  clear hb CI SR'
  obtain ⟨g0, g1, g2, g3, g4, g5, g6, g7, g8⟩ := id N
  go_wp2_with fail
  clear g0 g1 g2 g3 g4 g5 g6 g7 g8
  refine (CS _ SR2.out).mono ?_
  rintro e v3 ⟨vw, rfl, OW, hb⟩
  replace B := B.trans (hb.mono B.size)
  replace N := N.below hb
  replace OM := own_below OM hb
  clear hb CS SR2
  obtain ⟨am, cm, rfl, hmc', hmm', SM⟩ := own_src OM
  obtain ⟨aw, cw, rfl, hwc, hwm, SW⟩ := own_src OW
  have S : Hid (Src v3 am L.length fun i => L.getD i (0, 0)) := SM
  have Sw : Hid (Src v3 aw L.length fun i => L.getD i (0, 0)) := SW
  clear OW SW OM SM
  generalize (fun i => L.getD i (0, 0)) = f at *
  generalize L.length = l at *
  obtain ⟨g0, g1, g2, g3, g4, g5, g6, g7, g8⟩ := id N
  by_cases hl : l = 0
  · subst hl
    go_wp2_with fail
    refine (implMarksOk_v x y am 0 cm f false _ hmc' hmm' S.out (mr_zero _ _ _ _)).mono ?_
    rintro e v4 ⟨rfl, hb⟩
    have B3 := B.trans (hb.mono B.size)
    clear hb
    go_wp2_with fail; go_ret; exact ⟨rfl, B3⟩
  have hl0 : ((l : Int) == 0) = false := by rw [beq_eq_false_iff_ne]; omega
  have hr1 := HR.out hl
  have hr2 : mrB x y f l l = true := by rw [mrB_all (by omega)]; exact hr1
  have HR1 : Hid (mrB x y f l 1 = true) := hr1
  have HR2 : Hid (mrB x y f l l = true) := hr2
  clear hr1 hr2 HR
  go_wp2_with fail
  refine (implMarksOk_v x y am l cm f true _ hmc' hmm' S.out HR1.out).mono ?_
  rintro e v4 ⟨rfl, hb⟩
  replace B := B.trans (hb.mono B.size)
  replace N := N.below hb
  replace S : Hid (Src v4 am l f) := S.out.below hb
  replace Sw : Hid (Src v4 aw l f) := Sw.out.below hb
  clear hb g0 g1 g2 g3 g4 g5 g6 g7 g8
  obtain ⟨g0, g1, g2, g3, g4, g5, g6, g7, g8⟩ := id N
  go_wp2_with fail
  refine (implMarksAll_v x y am l cm f true _ hmc' hmm' S.out HR2.out).mono ?_
  rintro e v5 ⟨rfl, hb⟩
  replace B := B.trans (hb.mono B.size)
  replace N := N.below hb
  replace S : Hid (Src v5 am l f) := S.out.below hb
  replace Sw : Hid (Src v5 aw l f) := Sw.out.below hb
  clear hb g0 g1 g2 g3 g4 g5 g6 g7 g8
  go_wp2_with fail
  refine (at_any a0 n0 c0 1 w.heap.size _ hn0 (by omega) (HC.out.below B)).mono ?_
  rintro e w' ⟨z, rfl, z0, z1, rfl⟩
  obtain ⟨i, hi, him⟩ := tmod_in z0 (show 1 ≤ l by omega)
  have hi' : (i : Int) < (l : Int) := by omega
  have hlz : ¬ (l : Int) = 0 := by omega
  go_wp2_with fail
  refine (at_any a0 n0 c0 2 w.heap.size _ hn0 (by omega) (HC.out.below B)).mono ?_
  rintro e w' ⟨z', rfl, z0', z1', rfl⟩
  obtain ⟨r, hr, hrm⟩ := tmod_in z0' (show 1 ≤ l - i by omega)
  rw [show ((l - i : Nat) : Int) = (l : Int) - (i : Int) by omega] at hr
  have hlz' : ¬ (l : Int) - (i : Int) = 0 := by omega
  have hjj : (i : Int) + (r : Int) = ((i + r : Nat) : Int) := by omega
  have hjm : i + r < l := by omega
  have hij : i ≤ i + r := Nat.le_add_right _ _
  generalize hj : i + r = j at *
  clear hj
  have hjm' : (j : Int) < (l : Int) := by omega
  have EL : elB x y f l (i : Int) (j : Int) = true := by simp only [elB, HR1.out, Bool.true_and, decide_eq_true_eq]; omega
  have EQ : elQ f (i : Int) (j : Int) = (f j).2 - (f i).2 := rfl
  have HH : Hid (btB x y ((f j).2 - (f i).2) = true → holdsI (upI (((f j).2 - (f i).2) * y) (y + x)) (dnI (((f j).2 - (f i).2) * y) (y - x)) ((f j).1 - (f i).1) = true) := fun h => elapsed_holds HR1.out hij hjm h
  have ⟨_, _, _, hok⟩ := mkB_t (mrB_t HR1.out).1
  have ⟨i1, i2⟩ := okT_t (hok i him).1
  have ⟨j1, j2⟩ := okT_t (hok j hjm).1
  have wq : IntKind.i64.wrap ((f j).1 - (f i).1) = (f j).1 - (f i).1 := Go.IntWalk.i64_in _ ⟨by omega, by omega⟩
  clear hok
  have C1 := fun (w' : World) (h : Src w' am l f) => implElapsedAt_any x y am l cm f (i : Int) (j : Int) w' hmc' hmm' h
  have C2 := fun (w' : World) (h : Src w' aw l f) => specElapsedAt_any x y aw l cw f (i : Int) (j : Int) w' hwc hwm h
  rw [EL, EQ, Bool.true_and] at C1 C2
  clear EL EQ
  generalize upI (((f j).2 - (f i).2) * y) (y + x) = r1 at *
  generalize dnI (((f j).2 - (f i).2) * y) (y - x) = r2 at *
  generalize btB x y ((f j).2 - (f i).2) = ok at *
  obtain ⟨g0, g1, g2, g3, g4, g5, g6, g7, g8⟩ := id N
  go_wp2_with fail
  refine (C1 _ S.out).mono ?_
  rintro e v6 ⟨rfl, hb⟩
  have A6 := Below.alc v6 (.cells #[.int .i64 (sel ok r1), .int .i64 (sel ok r2)] 37)
  have X6 := Bx.new v6 (sel ok r1) (sel ok r2) 37
  have B6 := (B.trans (hb.mono B.size)).trans (A6.mono (Nat.le_trans B.size hb.size))
  have N6 := (N.below hb).below A6
  have S6 : Hid (Src (v6.alloc (.cells #[.int .i64 (sel ok r1), .int .i64 (sel ok r2)] 37)) am l f) := (S.out.below hb).below A6
  have Sw6 : Hid (Src (v6.alloc (.cells #[.int .i64 (sel ok r1), .int .i64 (sel ok r2)] 37)) aw l f) := (Sw.out.below hb).below A6
  clear hb A6 B N S Sw C1 g0 g1 g2 g3 g4 g5 g6 g7 g8
  obtain ⟨g0, g1, g2, g3, g4, g5, g6, g7, g8⟩ := id N6
  go_wp2_with fail
  generalize v6.alloc (.cells #[.int .i64 (sel ok r1), .int .i64 (sel ok r2)] 37) = v7 at *
  generalize v6.heap.size = j6 at *
  refine (C2 _ Sw6.out).mono ?_
  rintro e v8 ⟨rfl, hb⟩
  have A8 := Below.alc v8 (.cells #[.int .i64 (sel ok r1), .int .i64 (sel ok r2)] 37)
  have X8 := (X6.below hb).below A8
  have B8 := (B6.trans (hb.mono B6.size)).trans (A8.mono (Nat.le_trans B6.size hb.size))
  have S8 : Hid (Src (v8.alloc (.cells #[.int .i64 (sel ok r1), .int .i64 (sel ok r2)] 37)) am l f) := (S6.out.below hb).below A8
  clear hb A8 B6 N6 S6 Sw6 C2 X6 g0 g1 g2 g3 g4 g5 g6 g7 g8
  go_wp2_with fail
  generalize v8.alloc (.cells #[.int .i64 (sel ok r1), .int .i64 (sel ok r2)] 37) = v9 at *
  rcases S8.out with h0 | ⟨b, off, rfl, hp⟩
  · omega
  have c1 : v9.cell? ⟨b, off + i * 2, none⟩ = some (.int .i64 (f i).1) := (hp.2 i him).1
  have c2 : v9.cell? ⟨b, off + j * 2, none⟩ = some (.int .i64 (f j).1) := (hp.2 j hjm).1
  have bw : b < v9.heap.size := hp.1
  clear hp S8
  generalize (f i).1 = p1 at *
  generalize (f j).1 = p2 at *
  cases ok
  · have x1 : v9.cell? ⟨j6, 0, none⟩ = some (.int .i64 0) := X8.2.1
    refine wp_region_held_drew (S := (fun w' => w'.cell? ⟨j6, 0, none⟩ = some (.int .i64 0))) (by kernel_rfl) ?_ (fun hHeld => ?_)
    · simp (maxDischargeDepth := 6) [go_sem, *]
    refine wpAnyH_take (i := 0) (v := ?_) (by rw [List.getElem?_toArray]; rfl) (by kernel_rfl) (by kernel_rfl) (by kernel_rfl) (by intro _ _ _ h; exact h) (Or.inl ⟨by rfl, ?_⟩) (by assumption) ?_
    rotate_left
    · (intro w hSw; (try dsimp only at hSw); go_simp; all_goals with_reducible rfl)
    (try simp only [Act.put, List.setIfInBounds_toArray, List.set_cons_zero, List.set_cons_succ])
    refine wpAnyH_take (i := 1) (v := ?_) (by rw [List.getElem?_toArray]; rfl) (by kernel_rfl) (by kernel_rfl) (by kernel_rfl) (by intro _ _ _ h; exact h) (Or.inl ⟨by rfl, ?_⟩) (by assumption) ?_
    rotate_left
    · (intro w hSw; (try dsimp only at hSw); go_simp; all_goals with_reducible rfl)
    (try simp only [Act.put, List.setIfInBounds_toArray, List.set_cons_zero, List.set_cons_succ])
    refine wpAnyH_take (i := 2) (v := ?_) (by rw [List.getElem?_toArray]; rfl) (by kernel_rfl) (by kernel_rfl) (by kernel_rfl) (by intro _ _ _ h; exact h) (Or.inl ⟨by rfl, ?_⟩) (by assumption) ?_
    rotate_left
    · (intro w hSw; (try dsimp only at hSw); go_simp; all_goals with_reducible rfl)
    (try simp only [Act.put, List.setIfInBounds_toArray, List.set_cons_zero, List.set_cons_succ])
    refine wpAnyH_take (i := 3) (v := ?_) (by rw [List.getElem?_toArray]; rfl) (by kernel_rfl) (by kernel_rfl) (by kernel_rfl) (by intro _ _ _ h; exact h) (Or.inl ⟨by rfl, ?_⟩) (by assumption) ?_
    rotate_left
    · (intro w hSw; (try dsimp only at hSw); go_simp; all_goals with_reducible rfl)
    (try simp only [Act.put, List.setIfInBounds_toArray, List.set_cons_zero, List.set_cons_succ])
    refine wpAnyH_take (i := 4) (v := ?_) (by rw [List.getElem?_toArray]; rfl) (by kernel_rfl) (by kernel_rfl) (by kernel_rfl) (by intro _ _ _ h; exact h) (Or.inl ⟨by rfl, ?_⟩) (by assumption) ?_
    rotate_left
    · (intro w hSw; (try dsimp only at hSw); go_simp; all_goals with_reducible rfl)
    (try simp only [Act.put, List.setIfInBounds_toArray, List.set_cons_zero, List.set_cons_succ])
    refine wpAnyH_take (i := 5) (v := ?_) (by rw [List.getElem?_toArray]; rfl) (by kernel_rfl) (by kernel_rfl) (by kernel_rfl) (by intro _ _ _ h; exact h) (Or.inl ⟨by rfl, ?_⟩) (by assumption) ?_
    rotate_left
    · (intro w hSw; (try dsimp only at hSw); go_simp; all_goals with_reducible rfl)
    (try simp only [Act.put, List.setIfInBounds_toArray, List.set_cons_zero, List.set_cons_succ])
    refine wpAnyH_take (i := 6) (v := ?_) (by rw [List.getElem?_toArray]; rfl) (by kernel_rfl) (by kernel_rfl) (by kernel_rfl) (by intro _ _ _ h; exact h) (Or.inl ⟨by rfl, ?_⟩) (by assumption) ?_
    rotate_left
    · (intro w hSw; (try dsimp only at hSw); go_simp; all_goals with_reducible rfl)
    (try simp only [Act.put, List.setIfInBounds_toArray, List.set_cons_zero, List.set_cons_succ])
    refine wpAnyH_take (i := 7) (v := undef) (by rw [List.getElem?_toArray]; rfl) (by kernel_rfl) (by kernel_rfl) (by kernel_rfl) (by intro _ _ _ h; exact h) (Or.inr ⟨by rfl, rfl⟩) (by assumption) ?_
    (try simp only [Act.put, List.setIfInBounds_toArray, List.set_cons_zero, List.set_cons_succ])
    refine wpAnyH_take (i := 8) (v := undef) (by rw [List.getElem?_toArray]; rfl) (by kernel_rfl) (by kernel_rfl) (by kernel_rfl) (by intro _ _ _ h; exact h) (Or.inr ⟨by rfl, rfl⟩) (by assumption) ?_
    (try simp only [Act.put, List.setIfInBounds_toArray, List.set_cons_zero, List.set_cons_succ])
    refine wpAnyH_take (i := 9) (v := undef) (by rw [List.getElem?_toArray]; rfl) (by kernel_rfl) (by kernel_rfl) (by kernel_rfl) (by intro _ _ _ h; exact h) (Or.inr ⟨by rfl, rfl⟩) (by assumption) ?_
    (try simp only [Act.put, List.setIfInBounds_toArray, List.set_cons_zero, List.set_cons_succ])
    refine wpAnyH_take (i := 10) (v := undef) (by rw [List.getElem?_toArray]; rfl) (by kernel_rfl) (by kernel_rfl) (by kernel_rfl) (by intro _ _ _ h; exact h) (Or.inr ⟨by rfl, rfl⟩) (by assumption) ?_
    (try simp only [Act.put, List.setIfInBounds_toArray, List.set_cons_zero, List.set_cons_succ])
    refine wpAnyH_take (i := 11) (v := undef) (by rw [List.getElem?_toArray]; rfl) (by kernel_rfl) (by kernel_rfl) (by kernel_rfl) (by intro _ _ _ h; exact h) (Or.inr ⟨by rfl, rfl⟩) (by assumption) ?_
    (try simp only [Act.put, List.setIfInBounds_toArray, List.set_cons_zero, List.set_cons_succ])
    refine wpAnyH_take (i := 12) (v := undef) (by rw [List.getElem?_toArray]; rfl) (by kernel_rfl) (by kernel_rfl) (by kernel_rfl) (by intro _ _ _ h; exact h) (Or.inr ⟨by rfl, rfl⟩) (by assumption) ?_
    (try simp only [Act.put, List.setIfInBounds_toArray, List.set_cons_zero, List.set_cons_succ])
    refine wpAnyH_take (i := 13) (v := undef) (by rw [List.getElem?_toArray]; rfl) (by kernel_rfl) (by kernel_rfl) (by kernel_rfl) (by intro _ _ _ h; exact h) (Or.inr ⟨by rfl, rfl⟩) (by assumption) ?_
    (try simp only [Act.put, List.setIfInBounds_toArray, List.set_cons_zero, List.set_cons_succ])
    refine wpAnyH_take (i := 14) (v := undef) (by rw [List.getElem?_toArray]; rfl) (by kernel_rfl) (by kernel_rfl) (by kernel_rfl) (by intro _ _ _ h; exact h) (Or.inr ⟨by rfl, rfl⟩) (by assumption) ?_
    (try simp only [Act.put, List.setIfInBounds_toArray, List.set_cons_zero, List.set_cons_succ])
    refine wpAnyH_take (i := 15) (v := undef) (by rw [List.getElem?_toArray]; rfl) (by kernel_rfl) (by kernel_rfl) (by kernel_rfl) (by intro _ _ _ h; exact h) (Or.inr ⟨by rfl, rfl⟩) (by assumption) ?_
    (try simp only [Act.put, List.setIfInBounds_toArray, List.set_cons_zero, List.set_cons_succ])
    refine wpAnyH_take (i := 16) (v := undef) (by rw [List.getElem?_toArray]; rfl) (by kernel_rfl) (by kernel_rfl) (by kernel_rfl) (by intro _ _ _ h; exact h) (Or.inr ⟨by rfl, rfl⟩) (by assumption) ?_
    (try simp only [Act.put, List.setIfInBounds_toArray, List.set_cons_zero, List.set_cons_succ])
    refine wpAnyH_take (i := 17) (v := undef) (by rw [List.getElem?_toArray]; rfl) (by kernel_rfl) (by kernel_rfl) (by kernel_rfl) (by intro _ _ _ h; exact h) (Or.inr ⟨by rfl, rfl⟩) (by assumption) ?_
    (try simp only [Act.put, List.setIfInBounds_toArray, List.set_cons_zero, List.set_cons_succ])
    refine wpAnyH_take (i := 18) (v := undef) (by rw [List.getElem?_toArray]; rfl) (by kernel_rfl) (by kernel_rfl) (by kernel_rfl) (by intro _ _ _ h; exact h) (Or.inr ⟨by rfl, rfl⟩) (by assumption) ?_
    (try simp only [Act.put, List.setIfInBounds_toArray, List.set_cons_zero, List.set_cons_succ])
    refine wpAnyH_take (i := 19) (v := undef) (by rw [List.getElem?_toArray]; rfl) (by kernel_rfl) (by kernel_rfl) (by kernel_rfl) (by intro _ _ _ h; exact h) (Or.inr ⟨by rfl, rfl⟩) (by assumption) ?_
    (try simp only [Act.put, List.setIfInBounds_toArray, List.set_cons_zero, List.set_cons_succ])
    refine wpAnyH_take (i := 20) (v := ?_) (by rw [List.getElem?_toArray]; rfl) (by kernel_rfl) (by kernel_rfl) (by kernel_rfl) (by intro _ _ _ h; exact h) (Or.inl ⟨by rfl, ?_⟩) (by assumption) ?_
    rotate_left
    · (intro w hSw; (try dsimp only at hSw); go_simp; all_goals with_reducible rfl)
    (try simp only [Act.put, List.setIfInBounds_toArray, List.set_cons_zero, List.set_cons_succ])
    refine wpAnyH_take (i := 21) (v := ?_) (by rw [List.getElem?_toArray]; rfl) (by kernel_rfl) (by kernel_rfl) (by kernel_rfl) (by intro _ _ _ h; exact h) (Or.inl ⟨by rfl, ?_⟩) (by assumption) ?_
    rotate_left
    · (intro w hSw; (try dsimp only at hSw); go_simp; all_goals with_reducible rfl)
    (try simp only [Act.put, List.setIfInBounds_toArray, List.set_cons_zero, List.set_cons_succ])
    refine wpAnyH_take (i := 22) (v := ?_) (by rw [List.getElem?_toArray]; rfl) (by kernel_rfl) (by kernel_rfl) (by kernel_rfl) (by intro _ _ _ h; exact h) (Or.inl ⟨by rfl, ?_⟩) (by assumption) ?_
    rotate_left
    · (intro w hSw; (try dsimp only at hSw); go_simp; all_goals with_reducible rfl)
    (try simp only [Act.put, List.setIfInBounds_toArray, List.set_cons_zero, List.set_cons_succ])
    refine wpAnyH_done (by kernel_rfl) ?_ _
    go_wp2_with fail
    go_ret
    exact ⟨rfl, by first | exact B8 | exact Below.drew B8⟩
  · have hho : holdsI r1 r2 (p2 - p1) = true := HH.out rfl
    have x0 : j6 < v9.heap.size := X8.1
    have x1 : v9.cell? ⟨j6, 0, none⟩ = some (.int .i64 r1) := X8.2.1
    have x2 : v9.cell? ⟨j6, 1, none⟩ = some (.int .i64 r2) := X8.2.2.1
    refine wp_region_held_drew (S := (fun w' => w'.cell? ⟨j6, 0, none⟩ = some (.int .i64 r1) ∧ w'.cell? ⟨j6, 1, none⟩ = some (.int .i64 r2) ∧ w'.cell? ⟨b, off + i * 2, none⟩ = some (.int .i64 p1) ∧ w'.cell? ⟨b, off + j * 2, none⟩ = some (.int .i64 p2))) (by kernel_rfl) ?_ (fun hHeld => ?_)
    · simp (maxDischargeDepth := 6) [go_sem, *]
    refine wpAnyH_take (i := 0) (v := ?_) (by rw [List.getElem?_toArray]; rfl) (by kernel_rfl) (by kernel_rfl) (by kernel_rfl) (by intro _ _ _ h; exact h) (Or.inl ⟨by rfl, ?_⟩) (by assumption) ?_
    rotate_left
    · (intro w hSw; (try dsimp only at hSw); go_simp; all_goals with_reducible rfl)
    (try simp only [Act.put, List.setIfInBounds_toArray, List.set_cons_zero, List.set_cons_succ])
    refine wpAnyH_take (i := 1) (v := ?_) (by rw [List.getElem?_toArray]; rfl) (by kernel_rfl) (by kernel_rfl) (by kernel_rfl) (by intro _ _ _ h; exact h) (Or.inl ⟨by rfl, ?_⟩) (by assumption) ?_
    rotate_left
    · (intro w hSw; (try dsimp only at hSw); go_simp; all_goals with_reducible rfl)
    (try simp only [Act.put, List.setIfInBounds_toArray, List.set_cons_zero, List.set_cons_succ])
    refine wpAnyH_take (i := 2) (v := ?_) (by rw [List.getElem?_toArray]; rfl) (by kernel_rfl) (by kernel_rfl) (by kernel_rfl) (by intro _ _ _ h; exact h) (Or.inl ⟨by rfl, ?_⟩) (by assumption) ?_
    rotate_left
    · (intro w hSw; (try dsimp only at hSw); go_simp; all_goals with_reducible rfl)
    (try simp only [Act.put, List.setIfInBounds_toArray, List.set_cons_zero, List.set_cons_succ])
    refine wpAnyH_take (i := 3) (v := ?_) (by rw [List.getElem?_toArray]; rfl) (by kernel_rfl) (by kernel_rfl) (by kernel_rfl) (by intro _ _ _ h; exact h) (Or.inl ⟨by rfl, ?_⟩) (by assumption) ?_
    rotate_left
    · (intro w hSw; (try dsimp only at hSw); go_simp; all_goals with_reducible rfl)
    (try simp only [Act.put, List.setIfInBounds_toArray, List.set_cons_zero, List.set_cons_succ])
    refine wpAnyH_take (i := 4) (v := ?_) (by rw [List.getElem?_toArray]; rfl) (by kernel_rfl) (by kernel_rfl) (by kernel_rfl) (by intro _ _ _ h; exact h) (Or.inl ⟨by rfl, ?_⟩) (by assumption) ?_
    rotate_left
    · (intro w hSw; (try dsimp only at hSw); go_simp; all_goals with_reducible rfl)
    (try simp only [Act.put, List.setIfInBounds_toArray, List.set_cons_zero, List.set_cons_succ])
    refine wpAnyH_take (i := 5) (v := ?_) (by rw [List.getElem?_toArray]; rfl) (by kernel_rfl) (by kernel_rfl) (by kernel_rfl) (by intro _ _ _ h; exact h) (Or.inl ⟨by rfl, ?_⟩) (by assumption) ?_
    rotate_left
    · (intro w hSw; (try dsimp only at hSw); go_simp; all_goals with_reducible rfl)
    (try simp only [Act.put, List.setIfInBounds_toArray, List.set_cons_zero, List.set_cons_succ])
    refine wpAnyH_take (i := 6) (v := ?_) (by rw [List.getElem?_toArray]; rfl) (by kernel_rfl) (by kernel_rfl) (by kernel_rfl) (by intro _ _ _ h; exact h) (Or.inl ⟨by rfl, ?_⟩) (by assumption) ?_
    rotate_left
    · (intro w hSw; (try dsimp only at hSw); go_simp; all_goals with_reducible rfl)
    (try simp only [Act.put, List.setIfInBounds_toArray, List.set_cons_zero, List.set_cons_succ])
    refine wpAnyH_take (i := 7) (v := ?_) (by rw [List.getElem?_toArray]; rfl) (by kernel_rfl) (by kernel_rfl) (by kernel_rfl) (by intro _ _ _ h; exact h) (Or.inl ⟨by rfl, ?_⟩) (by assumption) ?_
    rotate_left
    · (intro w hSw; (try dsimp only at hSw); go_simp; all_goals with_reducible rfl)
    (try simp only [Act.put, List.setIfInBounds_toArray, List.set_cons_zero, List.set_cons_succ])
    refine wpAnyH_take (i := 8) (v := ?_) (by rw [List.getElem?_toArray]; rfl) (by kernel_rfl) (by kernel_rfl) (by kernel_rfl) (by intro _ _ _ h; exact h) (Or.inl ⟨by rfl, ?_⟩) (by assumption) ?_
    rotate_left
    · (intro w hSw; (try dsimp only at hSw); go_simp; all_goals with_reducible rfl)
    (try simp only [Act.put, List.setIfInBounds_toArray, List.set_cons_zero, List.set_cons_succ])
    refine wpAnyH_take (i := 9) (v := ?_) (by rw [List.getElem?_toArray]; rfl) (by kernel_rfl) (by kernel_rfl) (by kernel_rfl) (by intro _ _ _ h; exact h) (Or.inl ⟨by rfl, ?_⟩) (by assumption) ?_
    rotate_left
    · (intro w hSw; (try dsimp only at hSw); go_simp; all_goals with_reducible rfl)
    (try simp only [Act.put, List.setIfInBounds_toArray, List.set_cons_zero, List.set_cons_succ])
    refine wpAnyH_take (i := 10) (v := ?_) (by rw [List.getElem?_toArray]; rfl) (by kernel_rfl) (by kernel_rfl) (by kernel_rfl) (by intro _ _ _ h; exact h) (Or.inl ⟨by rfl, ?_⟩) (by assumption) ?_
    rotate_left
    · (intro w hSw; (try dsimp only at hSw); go_simp; all_goals with_reducible rfl)
    (try simp only [Act.put, List.setIfInBounds_toArray, List.set_cons_zero, List.set_cons_succ])
    refine wpAnyH_take (i := 11) (v := ?_) (by rw [List.getElem?_toArray]; rfl) (by kernel_rfl) (by kernel_rfl) (by kernel_rfl) (by intro _ _ _ h; exact h) (Or.inl ⟨by rfl, ?_⟩) (by assumption) ?_
    rotate_left
    · (intro w hSw; (try dsimp only at hSw); go_simp; all_goals with_reducible rfl)
    (try simp only [Act.put, List.setIfInBounds_toArray, List.set_cons_zero, List.set_cons_succ])
    refine wpAnyH_take (i := 12) (v := ?_) (by rw [List.getElem?_toArray]; rfl) (by kernel_rfl) (by kernel_rfl) (by kernel_rfl) (by intro _ _ _ h; exact h) (Or.inl ⟨by rfl, ?_⟩) (by assumption) ?_
    rotate_left
    · (intro w hSw; (try dsimp only at hSw); go_simp; all_goals with_reducible rfl)
    (try simp only [Act.put, List.setIfInBounds_toArray, List.set_cons_zero, List.set_cons_succ])
    refine wpAnyH_take (i := 13) (v := ?_) (by rw [List.getElem?_toArray]; rfl) (by kernel_rfl) (by kernel_rfl) (by kernel_rfl) (by intro _ _ _ h; exact h) (Or.inl ⟨by rfl, ?_⟩) (by assumption) ?_
    rotate_left
    · (intro w hSw; (try dsimp only at hSw); go_simp; all_goals with_reducible rfl)
    (try simp only [Act.put, List.setIfInBounds_toArray, List.set_cons_zero, List.set_cons_succ])
    refine wpAnyH_take (i := 14) (v := ?_) (by rw [List.getElem?_toArray]; rfl) (by kernel_rfl) (by kernel_rfl) (by kernel_rfl) (by intro _ _ _ h; exact h) (Or.inl ⟨by rfl, ?_⟩) (by assumption) ?_
    rotate_left
    · (intro w hSw; (try dsimp only at hSw); go_simp; all_goals with_reducible rfl)
    (try simp only [Act.put, List.setIfInBounds_toArray, List.set_cons_zero, List.set_cons_succ])
    refine wpAnyH_take (i := 15) (v := ?_) (by rw [List.getElem?_toArray]; rfl) (by kernel_rfl) (by kernel_rfl) (by kernel_rfl) (by intro _ _ _ h; exact h) (Or.inl ⟨by rfl, ?_⟩) (by assumption) ?_
    rotate_left
    · (intro w hSw; (try dsimp only at hSw); go_simp; all_goals with_reducible rfl)
    (try simp only [Act.put, List.setIfInBounds_toArray, List.set_cons_zero, List.set_cons_succ])
    refine wpAnyH_take (i := 16) (v := ?_) (by rw [List.getElem?_toArray]; rfl) (by kernel_rfl) (by kernel_rfl) (by kernel_rfl) (by intro _ _ _ h; exact h) (Or.inl ⟨by rfl, ?_⟩) (by assumption) ?_
    rotate_left
    · (intro w hSw; (try dsimp only at hSw); go_simp; all_goals with_reducible rfl)
    (try simp only [Act.put, List.setIfInBounds_toArray, List.set_cons_zero, List.set_cons_succ])
    refine wpAnyH_take (i := 17) (v := ?_) (by rw [List.getElem?_toArray]; rfl) (by kernel_rfl) (by kernel_rfl) (by kernel_rfl) (by intro _ _ _ h; exact h) (Or.inl ⟨by rfl, ?_⟩) (by assumption) ?_
    rotate_left
    · (intro w hSw; (try dsimp only at hSw); go_simp; all_goals with_reducible rfl)
    (try simp only [Act.put, List.setIfInBounds_toArray, List.set_cons_zero, List.set_cons_succ])
    refine wpAnyH_take (i := 18) (v := ?_) (by rw [List.getElem?_toArray]; rfl) (by kernel_rfl) (by kernel_rfl) (by kernel_rfl) (by intro _ _ _ h; exact h) (Or.inl ⟨by rfl, ?_⟩) (by assumption) ?_
    rotate_left
    · (intro w hSw; (try dsimp only at hSw); go_simp; all_goals with_reducible rfl)
    (try simp only [Act.put, List.setIfInBounds_toArray, List.set_cons_zero, List.set_cons_succ])
    refine wpAnyH_ready (rs := [19]) (by kernel_rfl) (by simp) ?_
    refine AllReadyH.cons (by rw [List.getElem?_toArray]; rfl) (fun K hK => ?_) AllReadyH.nil
    go_simp
    refine (implHolds_v4 r1 r2 (p2 - p1) true _ hho).mono ?_; rintro e v10 ⟨rfl, hb⟩; (first | have hb := Below.undrewA hb | skip); (have B10 := B8.trans (hb.mono B8.size)); (replace x1 := (hb.cell (p := ⟨j6, 0, none⟩) x0).trans x1); (replace x2 := (hb.cell (p := ⟨j6, 1, none⟩) x0).trans x2); (replace c1 := (hb.cell (p := ⟨b, off + i * 2, none⟩) bw).trans c1); (replace c2 := (hb.cell (p := ⟨b, off + j * 2, none⟩) bw).trans c2)
    (try go_wp2_with fail)
    refine hK.out _ _ ?_ (fun hHeld => ?_)
    · simp (maxDischargeDepth := 6) [go_sem, *]
    clear hK K
    (try simp only [Act.put, List.setIfInBounds_toArray, List.set_cons_zero, List.set_cons_succ])
    refine wpAnyH_take (i := 20) (v := ?_) (by rw [List.getElem?_toArray]; rfl) (by kernel_rfl) (by kernel_rfl) (by kernel_rfl) (by intro _ _ _ h; exact h) (Or.inl ⟨by rfl, ?_⟩) (by assumption) ?_
    rotate_left
    · (intro w hSw; (try dsimp only at hSw); go_simp; all_goals with_reducible rfl)
    (try simp only [Act.put, List.setIfInBounds_toArray, List.set_cons_zero, List.set_cons_succ])
    refine wpAnyH_take (i := 21) (v := ?_) (by rw [List.getElem?_toArray]; rfl) (by kernel_rfl) (by kernel_rfl) (by kernel_rfl) (by intro _ _ _ h; exact h) (Or.inl ⟨by rfl, ?_⟩) (by assumption) ?_
    rotate_left
    · (intro w hSw; (try dsimp only at hSw); go_simp; all_goals with_reducible rfl)
    (try simp only [Act.put, List.setIfInBounds_toArray, List.set_cons_zero, List.set_cons_succ])
    refine wpAnyH_take (i := 22) (v := ?_) (by rw [List.getElem?_toArray]; rfl) (by kernel_rfl) (by kernel_rfl) (by kernel_rfl) (by intro _ _ _ h; exact h) (Or.inl ⟨by rfl, ?_⟩) (by assumption) ?_
    rotate_left
    · (intro w hSw; (try dsimp only at hSw); go_simp; all_goals with_reducible rfl)
    (try simp only [Act.put, List.setIfInBounds_toArray, List.set_cons_zero, List.set_cons_succ])
    refine wpAnyH_done (by kernel_rfl) ?_ _
    go_wp2_with fail
    go_ret
    exact ⟨rfl, by first | exact B10 | exact Below.drew B10⟩
end Go.Proofs.Ytdgfneloaopleaa
