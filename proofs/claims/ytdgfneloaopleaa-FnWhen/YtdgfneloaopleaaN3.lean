/- The contract of spec.CountWhen. -/
import Derived.Test.YtdgfneloaopleaaN0
import Derived.Deep.RegionHeld3
import Derived.WalkKit
import Derived.WalkSpells
import Derived.WalkLawsBesides
import Derived.Deep.RegionHeld
namespace Go.Proofs.Ytdgfneloaopleaa
open Go.RowKit
set_option linter.unusedVariables false
set_option maxRecDepth 100000 in
set_option maxHeartbeats 4000000 in
theorem specCountWhen_any (n d : Int) (a : Option Addr) (m c : Nat) (f : Nat → Int × Int) (x : Int) (w : World) (hm : m ≤ c) (hc : c ≤ maxLen) (hs : Src w a m f) :
    Calls Try.prog 20 #[.agg #[.int .i64 n, .int .i64 d], .slice a m c, .int .i64 x] w fun e w' => e = .returned (.tuple #[.agg #[.int .i64 (sel (cwB n d f m x) (cwL n d f m x)), .int .i64 (sel (cwB n d f m x) (cwH n d f m x))], .bool (cwB n d f m x)]) ∧ Below w.heap.size w w' := by
  have B0 : Below w.heap.size w ((w.alloc (.cells #[.int .i64 n, .int .i64 d] 25)).alloc (.cells #[.int .i64 0, .int .i64 0] 37)) := (Below.alc _ _).alloc (by simp) _
  have P0 := (Bx.new w n d 25).alloc (.cells #[.int .i64 0, .int .i64 0] 37)
  have Q0 := Bx.new (w.alloc (.cells #[.int .i64 n, .int .i64 d] 25)) 0 0 37
  simp only [World.size_alloc] at Q0
  have HS : Hid (Src ((w.alloc (.cells #[.int .i64 n, .int .i64 d] 25)).alloc (.cells #[.int .i64 0, .int .i64 0] 37)) a m f) := hs.below B0
  have HS0 : Hid (Src w a m f) := hs
  have hmx : m ≤ 2 ^ 63 - 1 := by unfold maxLen at hc; omega
  clear hs
  cases hr : mrB n d f m 1
  · rw [show (cwB n d f m x) = false by simp [cwB, hr], sel_f rfl, sel_f rfl]
    go_enter Try.func20, Try.ntmps20
    go_wp2_with fail
    refine (specMarksOk_v n d a m c f false _ hm hc HS.out hr).mono ?_
    rintro e w1 ⟨rfl, hb⟩
    have B1 := B0.trans (hb.mono B0.size)
    have Q1 := Q0.below hb
    clear hb Q0 P0 B0 HS HS0
    obtain ⟨q0, q1, q2, q3, q4⟩ := id Q1
    go_wp2_with fail
    exact bodyPost_ret (v := .tuple #[.agg #[.int .i64 0, .int .i64 0], .bool false]) (by simp (maxDischargeDepth := 6) [results, Try.results20, go_sem, *]) rfl ⟨rfl, by repeat (first | refine Below.drew ?_ | refine Below.setCell ?_ (by first | (simp; done) | (simp; omega) | omega) _ | exact B1)⟩
  have ⟨hk1, u1, u2, hok⟩ := mkB_t (mrB_t hr).1
  have HOK : Hid (∀ i, i < m → okT (f i).1 = true ∧ okT (f i).2 = true) := hok
  have HU : Hid (∀ i j, i ≤ j → j < m → (f i).1 ≤ (f j).1) := fun i j h1 h2 => (up_time hr h1 h2).1
  have HD : Hid (okD n d = true) := hk1
  rcases HS0.out with h0 | ⟨b, off, rfl, hp0⟩
  · omega
  have hp := hp0.below B0 hp0.1
  have bn1 : ¬ b = w.heap.size + 1 := by have := hp0.1; omega
  have bn2 : ¬ w.heap.size + 1 = b := by have := hp0.1; omega
  have bn3 : b < w.heap.size + 1 := by have := hp0.1; omega
  have bn4 : b < w.heap.size := hp0.1
  have ⟨z1, z2⟩ := okT_t (hok 0 (by omega)).1
  have ⟨z3, z4⟩ := okT_t (hok (m - 1) (by omega)).1
  have hm1 : (m : Int) - 1 = ((m - 1 : Nat) : Int) := by omega
  have hmw : IntKind.i64.wrap ((m : Int) - 1) = ((m - 1 : Nat) : Int) := by rw [hm1]; exact Go.IntWalk.i64_in _ ⟨by omega, by omega⟩
  have hml : m - 1 < m := by omega
  have hm0 : (0 : Int) < (m : Int) := by omega
  have hml' : ((m - 1 : Nat) : Int) < (m : Int) := by omega
  clear hok hk1 hp0 HS0
  cases hin : inB (t1 f) x m
  · rw [show (cwB n d f m x) = false by simp [cwB, hr, whB, hin], sel_f rfl, sel_f rfl]
    have hout : x < (f 0).1 ∨ (¬ x < (f 0).1 ∧ (f (m - 1)).1 < x) := by have hh := of_decide_eq_false hin; simp only [t1] at hh; omega
    rcases hout with h1 | ⟨h1, h2⟩
    all_goals
      go_enter Try.func20, Try.ntmps20
      go_wp2_with fail
      refine (specMarksOk_v n d _ m c f true _ hm hc HS.out hr).mono ?_
      rintro e w1 ⟨rfl, hb⟩
      have B1 := B0.trans (hb.mono B0.size)
      have Q1 := Q0.below hb
      have hp1 := hp.below hb hp.1
      have c1 : w1.cell? ⟨b, off, none⟩ = some (.int .i64 (f 0).1) := by have := (hp1.2 0 (by omega)).1; simpa using this
      have c2 : w1.cell? ⟨b, off + (m - 1) * 2, none⟩ = some (.int .i64 (f (m - 1)).1) := (hp1.2 (m - 1) (by omega)).1
      clear hb Q0 P0 B0 HS hp hp1 hm1
      obtain ⟨q0, q1, q2, q3, q4⟩ := id Q1
      go_wp2_with fail
      exact bodyPost_ret (v := .tuple #[.agg #[.int .i64 0, .int .i64 0], .bool false]) (by simp (maxDischargeDepth := 6) [results, Try.results20, go_sem, *]) rfl ⟨rfl, by repeat (first | refine Below.drew ?_ | refine Below.setCell ?_ (by first | (simp; done) | (simp; omega) | omega) _ | exact B1)⟩
  have hin' : (f 0).1 ≤ x ∧ x ≤ (f (m - 1)).1 := of_decide_eq_true hin
  obtain ⟨x1, x2⟩ := hin'
  have d1 : decide (x < (f 0).1) = false := by simp; omega
  have d2 : decide ((f (m - 1)).1 < x) = false := by simp; omega
  have HW : Hid ((cwB n d f m x) = whB (ctB n d) (fun x => upI (x * (d - n)) d) (fun x => dnI (x * (d + n)) d) (t1 f) (t2 f) x m) := by simp [Hid, cwB, hr]
  have HIN : Hid (inB (t1 f) x m = true) := hin
  go_enter Try.func20, Try.ntmps20
  go_wp2_with fail
  refine (specMarksOk_v n d _ m c f true _ hm hc HS.out hr).mono ?_
  rintro e w1 ⟨rfl, hb⟩
  have B1 := B0.trans (hb.mono B0.size)
  have P1 := P0.below hb
  have Q1 := Q0.below hb
  have hp1 := hp.below hb hp.1
  have HP1 : Hid (Prs w1 b off m f) := hp1
  have c1 : w1.cell? ⟨b, off, none⟩ = some (.int .i64 (f 0).1) := by have := (hp1.2 0 (by omega)).1; simpa using this
  have c2 : w1.cell? ⟨b, off + (m - 1) * 2, none⟩ = some (.int .i64 (f (m - 1)).1) := (hp1.2 (m - 1) (by omega)).1
  have bw1 : b < w1.heap.size := hp1.1
  clear hb Q0 P0 B0 HS hp hp1 hm1 hr
  go_wp2_with fail
  clear c1 c2
  go_loopw [8, 9] (fun s8 s9 wr => ∃ k : Nat, k ≤ m ∧ s9 = .int .i64 k ∧ s8 = .int .i64 (lastLe (t1 f) x k : Int) ∧ wr = w1) (fun _ i _ => m - (intOf i).toNat)
  case atStart => exact ⟨0, Nat.zero_le _, rfl, rfl, rfl⟩
  case round =>
    obtain ⟨k, hk, rfl, rfl, rfl⟩ := hrel
    by_cases hlt : k < m
    · have e0 : wr.cell? ⟨b, off + k * 2, none⟩ = some (.int .i64 (f k).1) := (HP1.out.2 k hlt).1
      have hli : (k : Int) < (m : Int) := by omega
      by_cases hle : (f k).1 ≤ x
      · have HL : Hid (lastLe (t1 f) x (k + 1) = k) := lastLe_y hle
        go_wp2_with fail
        go_roundw
        case rel => exact ⟨k + 1, by omega, by go_num, by rw [HL.out], by first | rfl | trivial⟩
        case measure => simp [intOf]; omega
      · have HL : Hid (lastLe (t1 f) x (k + 1) = lastLe (t1 f) x k) := lastLe_n hle
        go_wp2_with fail
        go_roundw
        case rel => exact ⟨k + 1, by omega, by go_num, by rw [HL.out], by first | rfl | trivial⟩
        case measure => simp [intOf]; omega
    · have hkm : m = k := by omega
      subst hkm
      have hli : ¬ (m : Int) < (m : Int) := by omega
      have l1 : lastLe (t1 f) x m < m := lastLe_lt u1
      have l2 : (f (lastLe (t1 f) x m)).1 ≤ x := lastLe_le (g := t1 f) u1 x1
      have l3 : ∀ i, lastLe (t1 f) x m < i → i < m → x < (f i).1 := fun i h1 h2 => lastLe_gt (g := t1 f) h1 h2
      clear hlt hk
      have ⟨y1, y2⟩ := okT_t (HOK.out (lastLe (t1 f) x m) l1).1
      have ⟨y3, y4⟩ := okT_t (HOK.out (lastLe (t1 f) x m) l1).2
      have q0 : wr.cell? ⟨b, off + (lastLe (t1 f) x m) * 2, none⟩ = some (.int .i64 (f (lastLe (t1 f) x m)).1) := (HP1.out.2 _ l1).1
      have q1 : wr.cell? ⟨b, off + (lastLe (t1 f) x m) * 2 + 1, none⟩ = some (.int .i64 (f (lastLe (t1 f) x m)).2) := (HP1.out.2 _ l1).2
      generalize hI : lastLe (t1 f) x m = I at *
      have HI : Hid (lastLe (t1 f) x m = I) := hI
      have L3 : Hid (∀ i, I < i → i < m → x < (f i).1) := l3
      clear hI l3
      have hIm : (I : Int) < (m : Int) := by omega
      have wA : IntKind.i64.wrap (x - (f I).1) = x - (f I).1 := Go.IntWalk.i64_in _ ⟨by omega, by omega⟩
      have tA : okT (x - (f I).1) = true := decide_eq_true ⟨by omega, by omega⟩
      have bwr : b < wr.heap.size := bw1
      obtain ⟨p0, p1, p2, p3, p4⟩ := id P1
      have R1 : Hid (rB n d (x - (f I).1) (upI ((x - (f I).1) * (d - n)) d) = okT (upI ((x - (f I).1) * (d - n)) d)) := rB_r HD.out tA
      have R2 : Hid (rB n d (x - (f I).1) (dnI ((x - (f I).1) * (d + n)) d) = okT (dnI ((x - (f I).1) * (d + n)) d)) := rB_r HD.out tA
      have LE1 := lc_le HD.out tA
      have E2 : Hid (ctB n d (x - (f I).1) = (rB n d (x - (f I).1) (upI ((x - (f I).1) * (d - n)) d) && rB n d (x - (f I).1) (dnI ((x - (f I).1) * (d + n)) d))) := rfl
      have C1 := fun w' => specLeastCount_any n d (x - (f I).1) w'
      have C2 := fun w' => specMostCount_any n d (x - (f I).1) w'
      rw [R1.out, R2.out] at E2
      rw [R1.out] at C1
      rw [R2.out] at C2
      clear R1 R2
      generalize hla : (upI ((x - (f I).1) * (d - n)) d) = la at *
      generalize hma : (dnI ((x - (f I).1) * (d + n)) d) = ma at *
      have HLA : Hid ((upI ((x - (f I).1) * (d - n)) d) = la) := hla
      have HMA : Hid ((dnI ((x - (f I).1) * (d + n)) d) = ma) := hma
      clear hla hma
      go_wp2_with fail

      refine wp_region_held_drew (S := (fun w' => w'.cell? ⟨w.heap.size, 0, none⟩ = some (.int .i64 n) ∧ w'.cell? ⟨w.heap.size, 1, none⟩ = some (.int .i64 d) ∧ w'.cell? ⟨b, off + I * 2, none⟩ = some (.int .i64 (f I).1) ∧ w'.cell? ⟨b, off + I * 2 + 1, none⟩ = some (.int .i64 (f I).2))) (by kernel_rfl) ?_ (fun hHeld => ?_)
      · simp (maxDischargeDepth := 6) [go_sem, *]
      refine wpAnyH_take (i := 0) (v := ?_) (by rw [List.getElem?_toArray]; rfl) (by kernel_rfl) (by kernel_rfl) (by kernel_rfl) (by intro _ _ _ h; exact h) (Or.inl ⟨by rfl, ?_⟩) (by assumption) ?_
      rotate_left
      · (intro w hSw; (try dsimp only at hSw); go_simp; all_goals with_reducible rfl)
      (try simp only [Act.put, List.setIfInBounds_toArray, List.set_cons_zero, List.set_cons_succ])
      refine wpAnyH_take (i := 1) (v := ?_) (by rw [List.getElem?_toArray]; rfl) (by kernel_rfl) (by kernel_rfl) (by kernel_rfl) (by intro _ _ _ h; exact h) (Or.inl ⟨by rfl, ?_⟩) (by assumption) ?_
      rotate_left
      · (intro w hSw; (try dsimp only at hSw); go_simp; all_goals with_reducible rfl)
      (try simp only [Act.put, List.setIfInBounds_toArray, List.set_cons_zero, List.set_cons_succ])
      refine wpAnyH_take (i := 2) (v := ?_) (by rw [List.getElem?_toArray]; rfl) (by kernel_rfl) (by kernel_rfl) (by kernel_rfl) (by intro _ _ _ h; exact h) (Or.inl ⟨by rfl, ?_⟩) (by assumption) ?_
      rotate_left
      · (intro w hSw; (try dsimp only at hSw); go_simp; all_goals with_reducible rfl)
      (try simp only [Act.put, List.setIfInBounds_toArray, List.set_cons_zero, List.set_cons_succ])
      refine wpAnyH_take (i := 3) (v := ?_) (by rw [List.getElem?_toArray]; rfl) (by kernel_rfl) (by kernel_rfl) (by kernel_rfl) (by intro _ _ _ h; exact h) (Or.inl ⟨by rfl, ?_⟩) (by assumption) ?_
      rotate_left
      · (intro w hSw; (try dsimp only at hSw); go_simp; all_goals with_reducible rfl)
      (try simp only [Act.put, List.setIfInBounds_toArray, List.set_cons_zero, List.set_cons_succ])
      refine wpAnyH_take (i := 4) (v := ?_) (by rw [List.getElem?_toArray]; rfl) (by kernel_rfl) (by kernel_rfl) (by kernel_rfl) (by intro _ _ _ h; exact h) (Or.inl ⟨by rfl, ?_⟩) (by assumption) ?_
      rotate_left
      · (intro w hSw; (try dsimp only at hSw); go_simp; all_goals with_reducible rfl)
      (try simp only [Act.put, List.setIfInBounds_toArray, List.set_cons_zero, List.set_cons_succ])
      refine wpAnyH_take (i := 5) (v := ?_) (by rw [List.getElem?_toArray]; rfl) (by kernel_rfl) (by kernel_rfl) (by kernel_rfl) (by intro _ _ _ h; exact h) (Or.inl ⟨by rfl, ?_⟩) (by assumption) ?_
      rotate_left
      · (intro w hSw; (try dsimp only at hSw); go_simp; all_goals with_reducible rfl)
      (try simp only [Act.put, List.setIfInBounds_toArray, List.set_cons_zero, List.set_cons_succ])
      refine wpAnyH_take (i := 6) (v := ?_) (by rw [List.getElem?_toArray]; rfl) (by kernel_rfl) (by kernel_rfl) (by kernel_rfl) (by intro _ _ _ h; exact h) (Or.inl ⟨by rfl, ?_⟩) (by assumption) ?_
      rotate_left
      · (intro w hSw; (try dsimp only at hSw); go_simp; all_goals with_reducible rfl)
      (try simp only [Act.put, List.setIfInBounds_toArray, List.set_cons_zero, List.set_cons_succ])
      refine wpAnyH_take (i := 7) (v := ?_) (by rw [List.getElem?_toArray]; rfl) (by kernel_rfl) (by kernel_rfl) (by kernel_rfl) (by intro _ _ _ h; exact h) (Or.inl ⟨by rfl, ?_⟩) (by assumption) ?_
      rotate_left
      · (intro w hSw; (try dsimp only at hSw); go_simp; all_goals with_reducible rfl)
      (try simp only [Act.put, List.setIfInBounds_toArray, List.set_cons_zero, List.set_cons_succ])
      refine wpAnyH_ready (rs := [8]) (by kernel_rfl) (by simp) ?_
      refine AllReadyH.cons (by rw [List.getElem?_toArray]; rfl) (fun K hK => ?_) AllReadyH.nil
      go_simp
      refine (C1 _).mono ?_; rintro e w2 ⟨rfl, hb⟩; (first | have hb := Below.undrewO hb | skip); (have B2 := B1.trans (hb.mono B1.size)); (have P2 := P1.below hb); (have Q2 := Q1.below hb); (replace q0 := (hb.cell (p := ⟨b, off + I * 2, none⟩) bwr).trans q0); (replace q1 := (hb.cell (p := ⟨b, off + I * 2 + 1, none⟩) bwr).trans q1); (replace bwr := Nat.lt_of_lt_of_le bwr hb.size); (replace HP1 : Hid (Prs w2 b off m f) := HP1.out.below hb HP1.out.1); clear hb p0 p1 p2 p3 p4; obtain ⟨p0, p1, p2, p3, p4⟩ := id P2
      (try go_wp2_with fail)
      refine hK.out _ _ ?_ (fun hHeld => ?_)
      · simp (maxDischargeDepth := 6) [go_sem, *]
      clear hK K
      (try simp only [Act.put, List.setIfInBounds_toArray, List.set_cons_zero, List.set_cons_succ])
      refine wpAnyH_take (i := 9) (v := ?_) (by rw [List.getElem?_toArray]; rfl) (by kernel_rfl) (by kernel_rfl) (by kernel_rfl) (by intro _ _ _ h; exact h) (Or.inl ⟨by rfl, ?_⟩) (by assumption) ?_
      rotate_left
      · (intro w hSw; (try dsimp only at hSw); go_simp; all_goals with_reducible rfl)
      (try simp only [Act.put, List.setIfInBounds_toArray, List.set_cons_zero, List.set_cons_succ])
      refine wpAnyH_take (i := 10) (v := ?_) (by rw [List.getElem?_toArray]; rfl) (by kernel_rfl) (by kernel_rfl) (by kernel_rfl) (by intro _ _ _ h; exact h) (Or.inl ⟨by rfl, ?_⟩) (by assumption) ?_
      rotate_left
      · (intro w hSw; (try dsimp only at hSw); go_simp; all_goals with_reducible rfl)
      (try simp only [Act.put, List.setIfInBounds_toArray, List.set_cons_zero, List.set_cons_succ])
      refine wpAnyH_take (i := 11) (v := ?_) (by rw [List.getElem?_toArray]; rfl) (by kernel_rfl) (by kernel_rfl) (by kernel_rfl) (by intro _ _ _ h; exact h) (Or.inl ⟨by rfl, ?_⟩) (by assumption) ?_
      rotate_left
      · (intro w hSw; (try dsimp only at hSw); go_simp; all_goals with_reducible rfl)
      (try simp only [Act.put, List.setIfInBounds_toArray, List.set_cons_zero, List.set_cons_succ])
      refine wpAnyH_take (i := 12) (v := ?_) (by rw [List.getElem?_toArray]; rfl) (by kernel_rfl) (by kernel_rfl) (by kernel_rfl) (by intro _ _ _ h; exact h) (Or.inl ⟨by rfl, ?_⟩) (by assumption) ?_
      rotate_left
      · (intro w hSw; (try dsimp only at hSw); go_simp; all_goals with_reducible rfl)
      (try simp only [Act.put, List.setIfInBounds_toArray, List.set_cons_zero, List.set_cons_succ])
      refine wpAnyH_take (i := 13) (v := ?_) (by rw [List.getElem?_toArray]; rfl) (by kernel_rfl) (by kernel_rfl) (by kernel_rfl) (by intro _ _ _ h; exact h) (Or.inl ⟨by rfl, ?_⟩) (by assumption) ?_
      rotate_left
      · (intro w hSw; (try dsimp only at hSw); go_simp; all_goals with_reducible rfl)
      (try simp only [Act.put, List.setIfInBounds_toArray, List.set_cons_zero, List.set_cons_succ])
      refine wpAnyH_done (by kernel_rfl) ?_ _

      go_wp2_with fail

      refine wp_region_held_drew (S := (fun w' => w'.cell? ⟨w.heap.size, 0, none⟩ = some (.int .i64 n) ∧ w'.cell? ⟨w.heap.size, 1, none⟩ = some (.int .i64 d) ∧ w'.cell? ⟨b, off + I * 2, none⟩ = some (.int .i64 (f I).1) ∧ w'.cell? ⟨b, off + I * 2 + 1, none⟩ = some (.int .i64 (f I).2))) (by kernel_rfl) ?_ (fun hHeld => ?_)
      · simp (maxDischargeDepth := 6) [go_sem, *]
      refine wpAnyH_take (i := 0) (v := ?_) (by rw [List.getElem?_toArray]; rfl) (by kernel_rfl) (by kernel_rfl) (by kernel_rfl) (by intro _ _ _ h; exact h) (Or.inl ⟨by rfl, ?_⟩) (by assumption) ?_
      rotate_left
      · (intro w hSw; (try dsimp only at hSw); go_simp; all_goals with_reducible rfl)
      (try simp only [Act.put, List.setIfInBounds_toArray, List.set_cons_zero, List.set_cons_succ])
      refine wpAnyH_take (i := 1) (v := ?_) (by rw [List.getElem?_toArray]; rfl) (by kernel_rfl) (by kernel_rfl) (by kernel_rfl) (by intro _ _ _ h; exact h) (Or.inl ⟨by rfl, ?_⟩) (by assumption) ?_
      rotate_left
      · (intro w hSw; (try dsimp only at hSw); go_simp; all_goals with_reducible rfl)
      (try simp only [Act.put, List.setIfInBounds_toArray, List.set_cons_zero, List.set_cons_succ])
      refine wpAnyH_take (i := 2) (v := ?_) (by rw [List.getElem?_toArray]; rfl) (by kernel_rfl) (by kernel_rfl) (by kernel_rfl) (by intro _ _ _ h; exact h) (Or.inl ⟨by rfl, ?_⟩) (by assumption) ?_
      rotate_left
      · (intro w hSw; (try dsimp only at hSw); go_simp; all_goals with_reducible rfl)
      (try simp only [Act.put, List.setIfInBounds_toArray, List.set_cons_zero, List.set_cons_succ])
      refine wpAnyH_take (i := 3) (v := ?_) (by rw [List.getElem?_toArray]; rfl) (by kernel_rfl) (by kernel_rfl) (by kernel_rfl) (by intro _ _ _ h; exact h) (Or.inl ⟨by rfl, ?_⟩) (by assumption) ?_
      rotate_left
      · (intro w hSw; (try dsimp only at hSw); go_simp; all_goals with_reducible rfl)
      (try simp only [Act.put, List.setIfInBounds_toArray, List.set_cons_zero, List.set_cons_succ])
      refine wpAnyH_take (i := 4) (v := ?_) (by rw [List.getElem?_toArray]; rfl) (by kernel_rfl) (by kernel_rfl) (by kernel_rfl) (by intro _ _ _ h; exact h) (Or.inl ⟨by rfl, ?_⟩) (by assumption) ?_
      rotate_left
      · (intro w hSw; (try dsimp only at hSw); go_simp; all_goals with_reducible rfl)
      (try simp only [Act.put, List.setIfInBounds_toArray, List.set_cons_zero, List.set_cons_succ])
      refine wpAnyH_take (i := 5) (v := ?_) (by rw [List.getElem?_toArray]; rfl) (by kernel_rfl) (by kernel_rfl) (by kernel_rfl) (by intro _ _ _ h; exact h) (Or.inl ⟨by rfl, ?_⟩) (by assumption) ?_
      rotate_left
      · (intro w hSw; (try dsimp only at hSw); go_simp; all_goals with_reducible rfl)
      (try simp only [Act.put, List.setIfInBounds_toArray, List.set_cons_zero, List.set_cons_succ])
      refine wpAnyH_take (i := 6) (v := ?_) (by rw [List.getElem?_toArray]; rfl) (by kernel_rfl) (by kernel_rfl) (by kernel_rfl) (by intro _ _ _ h; exact h) (Or.inl ⟨by rfl, ?_⟩) (by assumption) ?_
      rotate_left
      · (intro w hSw; (try dsimp only at hSw); go_simp; all_goals with_reducible rfl)
      (try simp only [Act.put, List.setIfInBounds_toArray, List.set_cons_zero, List.set_cons_succ])
      refine wpAnyH_take (i := 7) (v := ?_) (by rw [List.getElem?_toArray]; rfl) (by kernel_rfl) (by kernel_rfl) (by kernel_rfl) (by intro _ _ _ h; exact h) (Or.inl ⟨by rfl, ?_⟩) (by assumption) ?_
      rotate_left
      · (intro w hSw; (try dsimp only at hSw); go_simp; all_goals with_reducible rfl)
      (try simp only [Act.put, List.setIfInBounds_toArray, List.set_cons_zero, List.set_cons_succ])
      refine wpAnyH_ready (rs := [8]) (by kernel_rfl) (by simp) ?_
      refine AllReadyH.cons (by rw [List.getElem?_toArray]; rfl) (fun K hK => ?_) AllReadyH.nil
      go_simp
      refine (C2 _).mono ?_; rintro e w3 ⟨rfl, hb⟩; (first | have hb := Below.undrewO hb | skip); (have B3 := B2.trans (hb.mono B2.size)); (have P3 := P2.below hb); (have Q3 := Q2.below hb); (replace q0 := (hb.cell (p := ⟨b, off + I * 2, none⟩) bwr).trans q0); (replace q1 := (hb.cell (p := ⟨b, off + I * 2 + 1, none⟩) bwr).trans q1); (replace bwr := Nat.lt_of_lt_of_le bwr hb.size); (replace HP1 : Hid (Prs w3 b off m f) := HP1.out.below hb HP1.out.1); clear hb p0 p1 p2 p3 p4; obtain ⟨p0, p1, p2, p3, p4⟩ := id P3
      (try go_wp2_with fail)
      refine hK.out _ _ ?_ (fun hHeld => ?_)
      · simp (maxDischargeDepth := 6) [go_sem, *]
      clear hK K
      (try simp only [Act.put, List.setIfInBounds_toArray, List.set_cons_zero, List.set_cons_succ])
      refine wpAnyH_take (i := 9) (v := ?_) (by rw [List.getElem?_toArray]; rfl) (by kernel_rfl) (by kernel_rfl) (by kernel_rfl) (by intro _ _ _ h; exact h) (Or.inl ⟨by rfl, ?_⟩) (by assumption) ?_
      rotate_left
      · (intro w hSw; (try dsimp only at hSw); go_simp; all_goals with_reducible rfl)
      (try simp only [Act.put, List.setIfInBounds_toArray, List.set_cons_zero, List.set_cons_succ])
      refine wpAnyH_take (i := 10) (v := ?_) (by rw [List.getElem?_toArray]; rfl) (by kernel_rfl) (by kernel_rfl) (by kernel_rfl) (by intro _ _ _ h; exact h) (Or.inl ⟨by rfl, ?_⟩) (by assumption) ?_
      rotate_left
      · (intro w hSw; (try dsimp only at hSw); go_simp; all_goals with_reducible rfl)
      (try simp only [Act.put, List.setIfInBounds_toArray, List.set_cons_zero, List.set_cons_succ])
      refine wpAnyH_take (i := 11) (v := ?_) (by rw [List.getElem?_toArray]; rfl) (by kernel_rfl) (by kernel_rfl) (by kernel_rfl) (by intro _ _ _ h; exact h) (Or.inl ⟨by rfl, ?_⟩) (by assumption) ?_
      rotate_left
      · (intro w hSw; (try dsimp only at hSw); go_simp; all_goals with_reducible rfl)
      (try simp only [Act.put, List.setIfInBounds_toArray, List.set_cons_zero, List.set_cons_succ])
      refine wpAnyH_take (i := 12) (v := ?_) (by rw [List.getElem?_toArray]; rfl) (by kernel_rfl) (by kernel_rfl) (by kernel_rfl) (by intro _ _ _ h; exact h) (Or.inl ⟨by rfl, ?_⟩) (by assumption) ?_
      rotate_left
      · (intro w hSw; (try dsimp only at hSw); go_simp; all_goals with_reducible rfl)
      (try simp only [Act.put, List.setIfInBounds_toArray, List.set_cons_zero, List.set_cons_succ])
      refine wpAnyH_take (i := 13) (v := ?_) (by rw [List.getElem?_toArray]; rfl) (by kernel_rfl) (by kernel_rfl) (by kernel_rfl) (by intro _ _ _ h; exact h) (Or.inl ⟨by rfl, ?_⟩) (by assumption) ?_
      rotate_left
      · (intro w hSw; (try dsimp only at hSw); go_simp; all_goals with_reducible rfl)
      (try simp only [Act.put, List.setIfInBounds_toArray, List.set_cons_zero, List.set_cons_succ])
      refine wpAnyH_done (by kernel_rfl) ?_ _

      obtain ⟨r0, r1, r2, r3, r4⟩ := id Q3
      cases oa : okT la
      · have HB : Hid ((cwB n d f m x) = false) := by
          rw [Hid, HW.out]; exact whB_a HI.out (by show ctB n d (x - (f I).1) = false; rw [E2.out, oa]; rfl)
        go_wp2_with fail
        exact bodyPost_ret (v := .tuple #[.agg #[.int .i64 0, .int .i64 0], .bool false]) (by simp (maxDischargeDepth := 6) [results, Try.results20, go_sem, *]) rfl ⟨by rw [HB.out, sel_f rfl, sel_f rfl], by repeat (first | refine Below.drew ?_ | refine Below.setCell ?_ (by first | (simp; done) | (simp; omega) | omega) _ | exact B3 | exact Below.drew B3)⟩
      cases om : okT ma
      · have HB : Hid ((cwB n d f m x) = false) := by
          rw [Hid, HW.out]; exact whB_a HI.out (by show ctB n d (x - (f I).1) = false; rw [E2.out, oa, om]; rfl)
        go_wp2_with fail
        exact bodyPost_ret (v := .tuple #[.agg #[.int .i64 0, .int .i64 0], .bool false]) (by simp (maxDischargeDepth := 6) [results, Try.results20, go_sem, *]) rfl ⟨by rw [HB.out, sel_f rfl, sel_f rfl], by repeat (first | refine Below.drew ?_ | refine Below.setCell ?_ (by first | (simp; done) | (simp; omega) | omega) _ | exact B3 | exact Below.drew B3)⟩
      have HA2 : Hid (ctB n d (x - (f I).1) = true) := by rw [Hid, E2.out, oa, om]; rfl
      have ⟨o1, o2⟩ := okT_t oa
      have ⟨o3, o4⟩ := okT_t om
      have sl1 : sel true la = la := rfl
      have sl2 : sel true ma = ma := rfl
      rw [sl1, sl2]
      have wl : IntKind.i64.wrap ((f I).2 + la) = (f I).2 + la := Go.IntWalk.i64_in _ ⟨by omega, by omega⟩
      have wm : IntKind.i64.wrap ((f I).2 + ma) = (f I).2 + ma := Go.IntWalk.i64_in _ ⟨by omega, by omega⟩
      clear E2
      go_wp2_with fail

      refine wp_region_held_drew (S := (fun w' => w'.cell? ⟨b, off + I * 2 + 1, none⟩ = some (.int .i64 (f I).2))) (by kernel_rfl) ?_ (fun hHeld => ?_)
      · simp (maxDischargeDepth := 6) [go_sem, *]
      refine wpAnyH_take (i := 0) (v := ?_) (by rw [List.getElem?_toArray]; rfl) (by kernel_rfl) (by kernel_rfl) (by kernel_rfl) (by intro _ _ _ h; exact h) (Or.inl ⟨by rfl, ?_⟩) (by assumption) ?_
      rotate_left
      · (intro w hSw; (try dsimp only at hSw); go_simp; all_goals with_reducible rfl)
      (try simp only [Act.put, List.setIfInBounds_toArray, List.set_cons_zero, List.set_cons_succ])
      refine wpAnyH_take (i := 1) (v := ?_) (by rw [List.getElem?_toArray]; rfl) (by kernel_rfl) (by kernel_rfl) (by kernel_rfl) (by intro _ _ _ h; exact h) (Or.inl ⟨by rfl, ?_⟩) (by assumption) ?_
      rotate_left
      · (intro w hSw; (try dsimp only at hSw); go_simp; all_goals with_reducible rfl)
      (try simp only [Act.put, List.setIfInBounds_toArray, List.set_cons_zero, List.set_cons_succ])
      refine wpAnyH_take (i := 2) (v := ?_) (by rw [List.getElem?_toArray]; rfl) (by kernel_rfl) (by kernel_rfl) (by kernel_rfl) (by intro _ _ _ h; exact h) (Or.inl ⟨by rfl, ?_⟩) (by assumption) ?_
      rotate_left
      · (intro w hSw; (try dsimp only at hSw); go_simp; all_goals with_reducible rfl)
      (try simp only [Act.put, List.setIfInBounds_toArray, List.set_cons_zero, List.set_cons_succ])
      refine wpAnyH_take (i := 3) (v := ?_) (by rw [List.getElem?_toArray]; rfl) (by kernel_rfl) (by kernel_rfl) (by kernel_rfl) (by intro _ _ _ h; exact h) (Or.inl ⟨by rfl, ?_⟩) (by assumption) ?_
      rotate_left
      · (intro w hSw; (try dsimp only at hSw); go_simp; all_goals with_reducible rfl)
      (try simp only [Act.put, List.setIfInBounds_toArray, List.set_cons_zero, List.set_cons_succ])
      refine wpAnyH_take (i := 4) (v := ?_) (by rw [List.getElem?_toArray]; rfl) (by kernel_rfl) (by kernel_rfl) (by kernel_rfl) (by intro _ _ _ h; exact h) (Or.inl ⟨by rfl, ?_⟩) (by assumption) ?_
      rotate_left
      · (intro w hSw; (try dsimp only at hSw); go_simp; all_goals with_reducible rfl)
      (try simp only [Act.put, List.setIfInBounds_toArray, List.set_cons_zero, List.set_cons_succ])
      refine wpAnyH_take (i := 5) (v := ?_) (by rw [List.getElem?_toArray]; rfl) (by kernel_rfl) (by kernel_rfl) (by kernel_rfl) (by intro _ _ _ h; exact h) (Or.inl ⟨by rfl, ?_⟩) (by assumption) ?_
      rotate_left
      · (intro w hSw; (try dsimp only at hSw); go_simp; all_goals with_reducible rfl)
      (try simp only [Act.put, List.setIfInBounds_toArray, List.set_cons_zero, List.set_cons_succ])
      refine wpAnyH_take (i := 6) (v := ?_) (by rw [List.getElem?_toArray]; rfl) (by kernel_rfl) (by kernel_rfl) (by kernel_rfl) (by intro _ _ _ h; exact h) (Or.inl ⟨by rfl, ?_⟩) (by assumption) ?_
      rotate_left
      · (intro w hSw; (try dsimp only at hSw); go_simp; all_goals with_reducible rfl)
      (try simp only [Act.put, List.setIfInBounds_toArray, List.set_cons_zero, List.set_cons_succ])
      refine wpAnyH_take (i := 7) (v := ?_) (by rw [List.getElem?_toArray]; rfl) (by kernel_rfl) (by kernel_rfl) (by kernel_rfl) (by intro _ _ _ h; exact h) (Or.inl ⟨by rfl, ?_⟩) (by assumption) ?_
      rotate_left
      · (intro w hSw; (try dsimp only at hSw); go_simp; all_goals with_reducible rfl)
      (try simp only [Act.put, List.setIfInBounds_toArray, List.set_cons_zero, List.set_cons_succ])
      refine wpAnyH_take (i := 8) (v := ?_) (by rw [List.getElem?_toArray]; rfl) (by kernel_rfl) (by kernel_rfl) (by kernel_rfl) (by intro _ _ _ h; exact h) (Or.inl ⟨by rfl, ?_⟩) (by assumption) ?_
      rotate_left
      · (intro w hSw; (try dsimp only at hSw); go_simp; all_goals with_reducible rfl)
      (try simp only [Act.put, List.setIfInBounds_toArray, List.set_cons_zero, List.set_cons_succ])
      refine wpAnyH_take (i := 9) (v := ?_) (by rw [List.getElem?_toArray]; rfl) (by kernel_rfl) (by kernel_rfl) (by kernel_rfl) (by intro _ _ _ h; exact h) (Or.inl ⟨by rfl, ?_⟩) (by assumption) ?_
      rotate_left
      · (intro w hSw; (try dsimp only at hSw); go_simp; all_goals with_reducible rfl)
      (try simp only [Act.put, List.setIfInBounds_toArray, List.set_cons_zero, List.set_cons_succ])
      refine wpAnyH_take (i := 10) (v := ?_) (by rw [List.getElem?_toArray]; rfl) (by kernel_rfl) (by kernel_rfl) (by kernel_rfl) (by intro _ _ _ h; exact h) (Or.inl ⟨by rfl, ?_⟩) (by assumption) ?_
      rotate_left
      · (intro w hSw; (try dsimp only at hSw); go_simp; all_goals with_reducible rfl)
      (try simp only [Act.put, List.setIfInBounds_toArray, List.set_cons_zero, List.set_cons_succ])
      refine wpAnyH_take (i := 11) (v := ?_) (by rw [List.getElem?_toArray]; rfl) (by kernel_rfl) (by kernel_rfl) (by kernel_rfl) (by intro _ _ _ h; exact h) (Or.inl ⟨by rfl, ?_⟩) (by assumption) ?_
      rotate_left
      · (intro w hSw; (try dsimp only at hSw); go_simp; all_goals with_reducible rfl)
      (try simp only [Act.put, List.setIfInBounds_toArray, List.set_cons_zero, List.set_cons_succ])
      refine wpAnyH_take (i := 12) (v := ?_) (by rw [List.getElem?_toArray]; rfl) (by kernel_rfl) (by kernel_rfl) (by kernel_rfl) (by intro _ _ _ h; exact h) (Or.inl ⟨by rfl, ?_⟩) (by assumption) ?_
      rotate_left
      · (intro w hSw; (try dsimp only at hSw); go_simp; all_goals with_reducible rfl)
      (try simp only [Act.put, List.setIfInBounds_toArray, List.set_cons_zero, List.set_cons_succ])
      refine wpAnyH_take (i := 13) (v := ?_) (by rw [List.getElem?_toArray]; rfl) (by kernel_rfl) (by kernel_rfl) (by kernel_rfl) (by intro _ _ _ h; exact h) (Or.inl ⟨by rfl, ?_⟩) (by assumption) ?_
      rotate_left
      · (intro w hSw; (try dsimp only at hSw); go_simp; all_goals with_reducible rfl)
      (try simp only [Act.put, List.setIfInBounds_toArray, List.set_cons_zero, List.set_cons_succ])
      refine wpAnyH_take (i := 14) (v := ?_) (by rw [List.getElem?_toArray]; rfl) (by kernel_rfl) (by kernel_rfl) (by kernel_rfl) (by intro _ _ _ h; exact h) (Or.inl ⟨by rfl, ?_⟩) (by assumption) ?_
      rotate_left
      · (intro w hSw; (try dsimp only at hSw); go_simp; all_goals with_reducible rfl)
      (try simp only [Act.put, List.setIfInBounds_toArray, List.set_cons_zero, List.set_cons_succ])
      refine wpAnyH_take (i := 15) (v := ?_) (by rw [List.getElem?_toArray]; rfl) (by kernel_rfl) (by kernel_rfl) (by kernel_rfl) (by intro _ _ _ h; exact h) (Or.inl ⟨by rfl, ?_⟩) (by assumption) ?_
      rotate_left
      · (intro w hSw; (try dsimp only at hSw); go_simp; all_goals with_reducible rfl)
      (try simp only [Act.put, List.setIfInBounds_toArray, List.set_cons_zero, List.set_cons_succ])
      refine wpAnyH_done (by kernel_rfl) ?_ _

      by_cases hl : I + 1 = m
      · have hN : decide ((I : Int) + 1 < (m : Int)) = false := by simp; omega
        have hle : ¬ (f I).2 + ma < (f I).2 + la := by omega
        have WL : Hid ((cwL n d f m x) = (f I).2 + la) := by rw [← HLA.out]; exact whLo_last HI.out hl
        have WH : Hid ((cwH n d f m x) = (f I).2 + ma) := by rw [← HMA.out]; exact whHi_last HI.out hl
        have HB : Hid ((cwB n d f m x) = true) := by
          rw [Hid, HW.out]
          exact whB_last HIN.out HI.out hl HA2.out (by have e1 := WL.out; have e2 := WH.out; unfold cwL at e1; unfold cwH at e2; rw [e1, e2]; omega)
        go_wp2_with fail
        exact bodyPost_ret (v := .tuple #[.agg #[.int .i64 ((f I).2 + la), .int .i64 ((f I).2 + ma)], .bool true]) (by simp (maxDischargeDepth := 6) [results, Try.results20, go_sem, *]) rfl ⟨by rw [HB.out, sel_t rfl, sel_t rfl, WL.out, WH.out], by repeat (first | refine Below.drew ?_ | refine Below.setCell ?_ (by first | (simp; done) | (simp; omega) | omega) _ | exact B3 | exact Below.drew B3)⟩
      have hJm0 : I + 1 < m := by omega
      have g1 := L3.out (I + 1) (by omega) hJm0
      have WL : Hid ((cwL n d f m x) = imx ((f I).2 + la) ((f (I + 1)).2 - (dnI (((f (I + 1)).1 - x) * (d + n)) d))) := by rw [← HLA.out]; exact whLo_next HI.out hl
      have WH : Hid ((cwH n d f m x) = imn ((f I).2 + ma) ((f (I + 1)).2 - (upI (((f (I + 1)).1 - x) * (d - n)) d))) := by rw [← HMA.out]; exact whHi_next HI.out hl
      have HF1 : Hid (ctB n d ((f (I + 1)).1 - x) = false → (cwB n d f m x) = false) := fun h => by rw [HW.out]; exact whB_b HI.out hl h
      have HF2 : Hid (¬ (cwL n d f m x) ≤ (cwH n d f m x) → (cwB n d f m x) = false) := fun h => by rw [HW.out]; exact whB_c h
      have HF3 : Hid (ctB n d ((f (I + 1)).1 - x) = true → (cwL n d f m x) ≤ (cwH n d f m x) → (cwB n d f m x) = true) := fun h1 h2 => by rw [HW.out]; exact whB_next HIN.out HI.out hl HA2.out h1 h2
      have hJ1 : (I : Int) + 1 = ((I + 1 : Nat) : Int) := by omega
      have hJm : ((I + 1 : Nat) : Int) < (m : Int) := by omega
      clear hl HW HIN HI HA2 L3
      generalize hJe : I + 1 = J at *
      clear hJe
      have ⟨j1, j2⟩ := okT_t (HOK.out J hJm0).1
      have ⟨j3, j4⟩ := okT_t (HOK.out J hJm0).2
      have k0 : w3.cell? ⟨b, off + J * 2, none⟩ = some (.int .i64 (f J).1) := (HP1.out.2 J hJm0).1
      have k1 : w3.cell? ⟨b, off + J * 2 + 1, none⟩ = some (.int .i64 (f J).2) := (HP1.out.2 J hJm0).2
      have tB : okT ((f J).1 - x) = true := decide_eq_true ⟨by omega, by omega⟩
      have R1 : Hid (rB n d ((f J).1 - x) (upI (((f J).1 - x) * (d - n)) d) = okT (upI (((f J).1 - x) * (d - n)) d)) := rB_r HD.out tB
      have R2 : Hid (rB n d ((f J).1 - x) (dnI (((f J).1 - x) * (d + n)) d) = okT (dnI (((f J).1 - x) * (d + n)) d)) := rB_r HD.out tB
      have E2 : Hid (ctB n d ((f J).1 - x) = (rB n d ((f J).1 - x) (upI (((f J).1 - x) * (d - n)) d) && rB n d ((f J).1 - x) (dnI (((f J).1 - x) * (d + n)) d))) := rfl
      have C3 := fun w' => specLeastCount_any n d ((f J).1 - x) w'
      have C4 := fun w' => specMostCount_any n d ((f J).1 - x) w'
      rw [R1.out, R2.out] at E2
      rw [R1.out] at C3
      rw [R2.out] at C4
      clear R1 R2 LE1 C1 C2 HLA HMA
      generalize (upI (((f J).1 - x) * (d - n)) d) = lb at *
      generalize (dnI (((f J).1 - x) * (d + n)) d) = mb at *
      have A := Below.alc w3 (.cells #[.int .i64 (f J).1, .int .i64 (f J).2] 42)
      have N3 := Bx.new w3 (f J).1 (f J).2 42
      have B4 := B3.trans (A.mono B3.size)
      have P4 := P3.below A
      have Q4 := Q3.below A
      have sN : w.heap.size + 1 < w3.heap.size := Q3.1
      clear A
      go_wp2_with fail
      clear p0 p1 p2 p3 p4 r0 r1 r2 r3 r4 k0 k1 q0 q1 HP1
      generalize w3.alloc (.cells #[.int .i64 (f J).1, .int .i64 (f J).2] 42) = v3 at *
      refine (C3 _).mono ?_
      rintro e w4 ⟨rfl, hb⟩
      (first | have hb := Below.undrewO hb | skip)
      have B5 := B4.trans (hb.mono B4.size)
      have P5 := P4.below hb
      have Q5 := Q4.below hb
      have N5 := N3.below hb
      clear hb
      obtain ⟨p0, p1, p2, p3, p4⟩ := id P5
      obtain ⟨n0, n1, n2, n3, n4⟩ := id N5
      go_wp2_with fail
      refine (C4 _).mono ?_
      rintro e w5 ⟨rfl, hb⟩
      (first | have hb := Below.undrewO hb | skip)
      have B6 := B5.trans (hb.mono B5.size)
      have Q6 := Q5.below hb
      have N6 := N5.below hb
      clear hb p0 p1 p2 p3 p4 n0 n1 n2 n3 n4
      obtain ⟨r0, r1, r2, r3, r4⟩ := id Q6
      obtain ⟨n0, n1, n2, n3, n4⟩ := id N6
      cases ob : okT lb
      · have HB : Hid ((cwB n d f m x) = false) := HF1.out (by rw [E2.out, ob]; rfl)
        go_wp2_with fail
        exact bodyPost_ret (v := .tuple #[.agg #[.int .i64 0, .int .i64 0], .bool false]) (by simp (maxDischargeDepth := 6) [results, Try.results20, go_sem, *]) rfl ⟨by rw [HB.out, sel_f rfl, sel_f rfl], by repeat (first | refine Below.drew ?_ | refine Below.setCell ?_ (by first | (simp; done) | (simp; omega) | omega) _ | exact B6)⟩
      cases on : okT mb
      · have HB : Hid ((cwB n d f m x) = false) := HF1.out (by rw [E2.out, ob, on]; rfl)
        go_wp2_with fail
        exact bodyPost_ret (v := .tuple #[.agg #[.int .i64 0, .int .i64 0], .bool false]) (by simp (maxDischargeDepth := 6) [results, Try.results20, go_sem, *]) rfl ⟨by rw [HB.out, sel_f rfl, sel_f rfl], by repeat (first | refine Below.drew ?_ | refine Below.setCell ?_ (by first | (simp; done) | (simp; omega) | omega) _ | exact B6)⟩
      have HB2 : Hid (ctB n d ((f J).1 - x) = true) := by rw [Hid, E2.out, ob, on]; rfl
      have ⟨o5, o6⟩ := okT_t ob
      have ⟨o7, o8⟩ := okT_t on
      have sl3 : sel true lb = lb := rfl
      have sl4 : sel true mb = mb := rfl
      rw [sl3, sl4]
      have wl2 : IntKind.i64.wrap ((f J).2 - mb) = (f J).2 - mb := Go.IntWalk.i64_in _ ⟨by omega, by omega⟩
      have wm2 : IntKind.i64.wrap ((f J).2 - lb) = (f J).2 - lb := Go.IntWalk.i64_in _ ⟨by omega, by omega⟩
      go_wp2_with fail

      refine wp_region_held_drew (S := (fun w' => w'.cell? ⟨w3.heap.size, 1, none⟩ = some (.int .i64 (f J).2))) (by kernel_rfl) ?_ (fun hHeld => ?_)
      · simp (maxDischargeDepth := 6) [go_sem, *]
      refine wpAnyH_take (i := 0) (v := ?_) (by rw [List.getElem?_toArray]; rfl) (by kernel_rfl) (by kernel_rfl) (by kernel_rfl) (by intro _ _ _ h; exact h) (Or.inl ⟨by rfl, ?_⟩) (by assumption) ?_
      rotate_left
      · (intro w hSw; (try dsimp only at hSw); go_simp; all_goals with_reducible rfl)
      (try simp only [Act.put, List.setIfInBounds_toArray, List.set_cons_zero, List.set_cons_succ])
      refine wpAnyH_take (i := 1) (v := ?_) (by rw [List.getElem?_toArray]; rfl) (by kernel_rfl) (by kernel_rfl) (by kernel_rfl) (by intro _ _ _ h; exact h) (Or.inl ⟨by rfl, ?_⟩) (by assumption) ?_
      rotate_left
      · (intro w hSw; (try dsimp only at hSw); go_simp; all_goals with_reducible rfl)
      (try simp only [Act.put, List.setIfInBounds_toArray, List.set_cons_zero, List.set_cons_succ])
      refine wpAnyH_take (i := 2) (v := ?_) (by rw [List.getElem?_toArray]; rfl) (by kernel_rfl) (by kernel_rfl) (by kernel_rfl) (by intro _ _ _ h; exact h) (Or.inl ⟨by rfl, ?_⟩) (by assumption) ?_
      rotate_left
      · (intro w hSw; (try dsimp only at hSw); go_simp; all_goals with_reducible rfl)
      (try simp only [Act.put, List.setIfInBounds_toArray, List.set_cons_zero, List.set_cons_succ])
      refine wpAnyH_take (i := 3) (v := ?_) (by rw [List.getElem?_toArray]; rfl) (by kernel_rfl) (by kernel_rfl) (by kernel_rfl) (by intro _ _ _ h; exact h) (Or.inl ⟨by rfl, ?_⟩) (by assumption) ?_
      rotate_left
      · (intro w hSw; (try dsimp only at hSw); go_simp; all_goals with_reducible rfl)
      (try simp only [Act.put, List.setIfInBounds_toArray, List.set_cons_zero, List.set_cons_succ])
      refine wpAnyH_take (i := 4) (v := ?_) (by rw [List.getElem?_toArray]; rfl) (by kernel_rfl) (by kernel_rfl) (by kernel_rfl) (by intro _ _ _ h; exact h) (Or.inl ⟨by rfl, ?_⟩) (by assumption) ?_
      rotate_left
      · (intro w hSw; (try dsimp only at hSw); go_simp; all_goals with_reducible rfl)
      (try simp only [Act.put, List.setIfInBounds_toArray, List.set_cons_zero, List.set_cons_succ])
      refine wpAnyH_take (i := 6) (v := ?_) (by rw [List.getElem?_toArray]; rfl) (by kernel_rfl) (by kernel_rfl) (by kernel_rfl) (by intro _ _ _ h; exact h) (Or.inl ⟨by rfl, ?_⟩) (by assumption) ?_
      rotate_left
      · (intro w hSw; (try dsimp only at hSw); go_simp; all_goals with_reducible rfl)
      (try simp only [Act.put, List.setIfInBounds_toArray, List.set_cons_zero, List.set_cons_succ])
      refine wpAnyH_take (i := 7) (v := ?_) (by rw [List.getElem?_toArray]; rfl) (by kernel_rfl) (by kernel_rfl) (by kernel_rfl) (by intro _ _ _ h; exact h) (Or.inl ⟨by rfl, ?_⟩) (by assumption) ?_
      rotate_left
      · (intro w hSw; (try dsimp only at hSw); go_simp; all_goals with_reducible rfl)
      (try simp only [Act.put, List.setIfInBounds_toArray, List.set_cons_zero, List.set_cons_succ])
      refine wpAnyH_take (i := 8) (v := ?_) (by rw [List.getElem?_toArray]; rfl) (by kernel_rfl) (by kernel_rfl) (by kernel_rfl) (by intro _ _ _ h; exact h) (Or.inl ⟨by rfl, ?_⟩) (by assumption) ?_
      rotate_left
      · (intro w hSw; (try dsimp only at hSw); go_simp; all_goals with_reducible rfl)
      (try simp only [Act.put, List.setIfInBounds_toArray, List.set_cons_zero, List.set_cons_succ])
      refine wpAnyH_take (i := 9) (v := ?_) (by rw [List.getElem?_toArray]; rfl) (by kernel_rfl) (by kernel_rfl) (by kernel_rfl) (by intro _ _ _ h; exact h) (Or.inl ⟨by rfl, ?_⟩) (by assumption) ?_
      rotate_left
      · (intro w hSw; (try dsimp only at hSw); go_simp; all_goals with_reducible rfl)
      (try simp only [Act.put, List.setIfInBounds_toArray, List.set_cons_zero, List.set_cons_succ])
      refine wpAnyH_take (i := 10) (v := ?_) (by rw [List.getElem?_toArray]; rfl) (by kernel_rfl) (by kernel_rfl) (by kernel_rfl) (by intro _ _ _ h; exact h) (Or.inl ⟨by rfl, ?_⟩) (by assumption) ?_
      rotate_left
      · (intro w hSw; (try dsimp only at hSw); go_simp; all_goals with_reducible rfl)
      (try simp only [Act.put, List.setIfInBounds_toArray, List.set_cons_zero, List.set_cons_succ])
      refine wpAnyH_ready (rs := [5]) (by kernel_rfl) (by simp) ?_
      refine AllReadyH.cons (by rw [List.getElem?_toArray]; rfl) (fun K hK => ?_) AllReadyH.nil
      go_simp
      refine (l1Max_any _ _ _).mono ?_; rintro e w' ⟨rfl, rfl⟩
      (try go_wp2_with fail)
      refine hK.out _ _ ?_ (fun hHeld => ?_)
      · simp (maxDischargeDepth := 6) [go_sem, *]
      clear hK K
      (try simp only [Act.put, List.setIfInBounds_toArray, List.set_cons_zero, List.set_cons_succ])
      refine wpAnyH_ready (rs := [11]) (by kernel_rfl) (by simp) ?_
      refine AllReadyH.cons (by rw [List.getElem?_toArray]; rfl) (fun K hK => ?_) AllReadyH.nil
      go_simp
      refine (l1Min_any _ _ _).mono ?_; rintro e w' ⟨rfl, rfl⟩
      (try go_wp2_with fail)
      refine hK.out _ _ ?_ (fun hHeld => ?_)
      · simp (maxDischargeDepth := 6) [go_sem, *]
      clear hK K
      (try simp only [Act.put, List.setIfInBounds_toArray, List.set_cons_zero, List.set_cons_succ])
      refine wpAnyH_take (i := 12) (v := ?_) (by rw [List.getElem?_toArray]; rfl) (by kernel_rfl) (by kernel_rfl) (by kernel_rfl) (by intro _ _ _ h; exact h) (Or.inl ⟨by rfl, ?_⟩) (by assumption) ?_
      rotate_left
      · (intro w hSw; (try dsimp only at hSw); go_simp; all_goals with_reducible rfl)
      (try simp only [Act.put, List.setIfInBounds_toArray, List.set_cons_zero, List.set_cons_succ])
      refine wpAnyH_take (i := 13) (v := ?_) (by rw [List.getElem?_toArray]; rfl) (by kernel_rfl) (by kernel_rfl) (by kernel_rfl) (by intro _ _ _ h; exact h) (Or.inl ⟨by rfl, ?_⟩) (by assumption) ?_
      rotate_left
      · (intro w hSw; (try dsimp only at hSw); go_simp; all_goals with_reducible rfl)
      (try simp only [Act.put, List.setIfInBounds_toArray, List.set_cons_zero, List.set_cons_succ])
      refine wpAnyH_done (by kernel_rfl) ?_ _

      by_cases hc2 : imn ((f I).2 + ma) ((f J).2 - lb) < imx ((f I).2 + la) ((f J).2 - mb)
      · have HB : Hid ((cwB n d f m x) = false) := HF2.out (by rw [WL.out, WH.out]; omega)
        go_wp2_with fail
        exact bodyPost_ret (v := .tuple #[.agg #[.int .i64 0, .int .i64 0], .bool false]) (by simp (maxDischargeDepth := 6) [results, Try.results20, go_sem, *]) rfl ⟨by rw [HB.out, sel_f rfl, sel_f rfl], by repeat (first | refine Below.drew ?_ | refine Below.setCell ?_ (by first | (simp; done) | (simp; omega) | omega) _ | exact B6 | exact Below.drew B6)⟩
      · have HB : Hid ((cwB n d f m x) = true) := HF3.out HB2.out (by rw [WL.out, WH.out]; omega)
        go_wp2_with fail
        exact bodyPost_ret (v := .tuple #[.agg #[.int .i64 (imx ((f I).2 + la) ((f J).2 - mb)), .int .i64 (imn ((f I).2 + ma) ((f J).2 - lb))], .bool true]) (by simp (maxDischargeDepth := 6) [results, Try.results20, go_sem, *]) rfl ⟨by rw [HB.out, sel_t rfl, sel_t rfl, WL.out, WH.out], by repeat (first | refine Below.drew ?_ | refine Below.setCell ?_ (by first | (simp; done) | (simp; omega) | omega) _ | exact B6 | exact Below.drew B6)⟩
end Go.Proofs.Ytdgfneloaopleaa
