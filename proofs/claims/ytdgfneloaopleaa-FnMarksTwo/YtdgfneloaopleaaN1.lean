/- Contracts of ElapsedAt. -/
import Derived.Test.YtdgfneloaopleaaM6
import Derived.Deep.RegionHeld3
import Derived.WalkKit
import Derived.WalkSpells
import Derived.WalkLawsBesides
import Derived.Deep.RegionHeld
namespace Go.Proofs.Ytdgfneloaopleaa
open Go.RowKit
set_option linter.unusedVariables false
def elB (n d : Int) (f : Nat → Int × Int) (m : Nat) (i j : Int) : Bool := mrB n d f m 1 && decide (0 ≤ i ∧ i ≤ j ∧ j < (m : Int))
def elQ (f : Nat → Int × Int) (i j : Int) : Int := (f j.toNat).2 - (f i.toNat).2
theorem elB_f {n d : Int} {f : Nat → Int × Int} {m : Nat} {i j : Int} (h : elB n d f m i j = false) : mrB n d f m 1 = false ∨ (mrB n d f m 1 = true ∧ (i < 0 ∨ (¬ i < 0 ∧ (j < i ∨ (¬ j < i ∧ (m : Int) ≤ j))))) := by
  cases h1 : mrB n d f m 1
  · exact .inl rfl
  · right
    simp [elB, h1] at h
    exact ⟨rfl, by omega⟩
theorem specMarksOk_v (n d : Int) (a : Option Addr) (m c : Nat) (f : Nat → Int × Int) (v : Bool) (w : World) (hm : m ≤ c) (hc : c ≤ maxLen) (hs : Src w a m f) (h : mrB n d f m 1 = v) :
    Calls Try.prog 35 #[.agg #[.int .i64 n, .int .i64 d], .slice a m c] w fun e w' => e = .returned (.bool v) ∧ Below w.heap.size w w' := by
  subst h; exact specMarksOk_any n d a m c f w (Nat.le_trans hm hc) hs
set_option maxHeartbeats 2000000 in
theorem specElapsedAt_any (n d : Int) (a : Option Addr) (m c : Nat) (f : Nat → Int × Int) (i j : Int) (w : World) (hm : m ≤ c) (hc : c ≤ maxLen) (hs : Src w a m f) :
    Calls Try.prog 14 #[.agg #[.int .i64 n, .int .i64 d], .slice a m c, .int .i64 i, .int .i64 j] w fun e w' => e = .returned (.tuple #[.agg #[.int .i64 (sel (elB n d f m i j && btB n d (elQ f i j)) (upI (elQ f i j * d) (d + n))), .int .i64 (sel (elB n d f m i j && btB n d (elQ f i j)) (dnI (elQ f i j * d) (d - n)))], .bool (elB n d f m i j && btB n d (elQ f i j))]) ∧ Below w.heap.size w w' := by
  have B0 : Below w.heap.size w ((w.alloc (.cells #[.int .i64 n, .int .i64 d] 25)).alloc (.cells #[.int .i64 0, .int .i64 0] 37)) := (Below.alc _ _).alloc (by simp) _
  have P0 := (Bx.new w n d 25).alloc (.cells #[.int .i64 0, .int .i64 0] 37)
  have Q0 := Bx.new (w.alloc (.cells #[.int .i64 n, .int .i64 d] 25)) 0 0 37
  simp only [World.size_alloc] at Q0
  have HS : Hid (Src ((w.alloc (.cells #[.int .i64 n, .int .i64 d] 25)).alloc (.cells #[.int .i64 0, .int .i64 0] 37)) a m f) := hs.below B0
  have HS0 : Hid (Src w a m f) := hs
  have hmx : m ≤ 2 ^ 63 - 1 := by unfold maxLen at hc; omega
  clear hs
  cases he : elB n d f m i j
  · rw [Bool.false_and, sel_f rfl, sel_f rfl]
    rcases elB_f he with hr | ⟨hr, hh⟩
    · go_enter Try.func14, Try.ntmps14
      go_wp2_with fail
      refine (specMarksOk_v n d a m c f false _ hm hc HS.out hr).mono ?_
      rintro e w1 ⟨rfl, hb⟩
      have B1 := B0.trans (hb.mono B0.size)
      have Q1 := Q0.below hb
      clear hb Q0 P0 B0 HS
      obtain ⟨q0, q1, q2, q3, q4⟩ := id Q1
      go_wp2_with fail
      exact bodyPost_ret (v := .tuple #[.agg #[.int .i64 0, .int .i64 0], .bool false]) (by simp (maxDischargeDepth := 6) [results, Try.results14, go_sem, *]) rfl ⟨rfl, by repeat (first | refine Below.setCell ?_ (by first | (simp; done) | (simp; omega) | omega) _ | exact B1)⟩
    · rcases hh with h1 | ⟨h1, h2 | ⟨h2, h3⟩⟩
      all_goals
        go_enter Try.func14, Try.ntmps14
        go_wp2_with fail
        refine (specMarksOk_v n d a m c f true _ hm hc HS.out hr).mono ?_
        rintro e w1 ⟨rfl, hb⟩
        have B1 := B0.trans (hb.mono B0.size)
        have Q1 := Q0.below hb
        clear hb Q0 P0 B0 HS
        obtain ⟨q0, q1, q2, q3, q4⟩ := id Q1
        go_wp2_with fail
        exact bodyPost_ret (v := .tuple #[.agg #[.int .i64 0, .int .i64 0], .bool false]) (by simp (maxDischargeDepth := 6) [results, Try.results14, go_sem, *]) rfl ⟨rfl, by repeat (first | refine Below.setCell ?_ (by first | (simp; done) | (simp; omega) | omega) _ | exact B1)⟩
  · rw [Bool.true_and]
    have hr : mrB n d f m 1 = true ∧ 0 ≤ i ∧ i ≤ j ∧ j < (m : Int) := by simp only [elB, Bool.and_eq_true, decide_eq_true_eq] at he; exact he
    obtain ⟨hr, hi, hij, hj⟩ := hr
    obtain ⟨x, rfl⟩ := Int.eq_ofNat_of_zero_le hi
    obtain ⟨y, rfl⟩ := Int.eq_ofNat_of_zero_le (show 0 ≤ j by omega)
    have ⟨_, u1, u2, hok⟩ := mkB_t (mrB_t hr).1
    have ⟨x1, x2⟩ := okT_t (hok x (by omega)).2
    have ⟨y1, y2⟩ := okT_t (hok y (by omega)).2
    have d1 : decide ((x : Int) < 0) = false := by simp
    have d2 : decide ((y : Int) < (x : Int)) = false := by simp; omega
    have d3 : decide ((m : Int) ≤ (y : Int)) = false := by simp; omega
    have xm : (x : Int) < (m : Int) := by omega
    have eq : elQ f (x : Int) (y : Int) = (f y).2 - (f x).2 := rfl
    have wq : IntKind.i64.wrap ((f y).2 - (f x).2) = (f y).2 - (f x).2 := Go.IntWalk.i64_in _ ⟨by omega, by omega⟩
    rw [eq]
    rcases HS0.out with h0 | ⟨b, off, rfl, hp0⟩
    · omega
    have hp := hp0.below B0 hp0.1
    have bn1 : ¬ b = w.heap.size + 1 := by have := hp0.1; omega
    have bn2 : ¬ w.heap.size + 1 = b := by have := hp0.1; omega
    have bn3 : b < w.heap.size + 1 := by have := hp0.1; omega
    clear hp0 HS0
    go_enter Try.func14, Try.ntmps14
    go_wp2_with fail
    refine (specMarksOk_v n d _ m c f true _ hm hc HS.out hr).mono ?_
    rintro e w1 ⟨rfl, hb⟩
    have B1 := B0.trans (hb.mono B0.size)
    have P1 := P0.below hb
    have Q1 := Q0.below hb
    have hp1 := hp.below hb hp.1
    have c1 : w1.cell? ⟨b, off + x * 2 + 1, none⟩ = some (.int .i64 (f x).2) := (hp1.2 x (by omega)).2
    have c2 : w1.cell? ⟨b, off + y * 2 + 1, none⟩ = some (.int .i64 (f y).2) := (hp1.2 y (by omega)).2
    have bw1 : b < w1.heap.size := hp1.1
    clear hb Q0 P0 B0 HS hp hp1 hr hok eq he hi
    obtain ⟨p0, p1, p2, p3, p4⟩ := id P1
    obtain ⟨q0, q1, q2, q3, q4⟩ := id Q1
    go_wp2_with fail
    refine wp_region_held_drew (S := (fun w' => w'.cell? ⟨w.heap.size, 0, none⟩ = some (.int .i64 n) ∧ w'.cell? ⟨w.heap.size, 1, none⟩ = some (.int .i64 d) ∧ w'.cell? ⟨b, off + x * 2 + 1, none⟩ = some (.int .i64 (f x).2) ∧ w'.cell? ⟨b, off + y * 2 + 1, none⟩ = some (.int .i64 (f y).2))) (by kernel_rfl) ?_ (fun hHeld => ?_)
    · first | (simp (maxDischargeDepth := 6) [go_sem, *]; done) | exact ⟨p1, p2, c1, c2⟩
    refine wpAnyH_take (i := 0) (v := ?_) (by rw [List.getElem?_toArray]; rfl) (by kernel_rfl) (by kernel_rfl) (by kernel_rfl) (by intro _ _ _ h; exact h) (Or.inl ⟨by rfl, ?_⟩) (by assumption) ?_
    rotate_left
    · (intro w hSw; (try dsimp only at hSw); go_simp; all_goals with_reducible rfl)
    (try simp only [Act.put, List.setIfInBounds_toArray, List.set_cons_zero, List.set_cons_succ])
    refine wpAnyH_take (i := 1) (v := ?_) (by rw [List.getElem?_toArray]; rfl) (by kernel_rfl) (by kernel_rfl) (by kernel_rfl) (by intro _ _ _ h; exact h) (Or.inl ⟨by rfl, ?_⟩) (by assumption) ?_
    rotate_left
    · (intro w hSw; (try dsimp only at hSw); go_simp; all_goals with_reducible rfl)
    (try simp only [Act.put, List.setIfInBounds_toArray, List.set_cons_zero, List.set_cons_succ])
    refine wpAnyH_take (i := 2) (v := ?_) (by rw [List.getElem?_toArray]; rfl) (by kernel_rfl) (by kernel_rfl) (by kernel_rfl) (by intro _ _ _ h; exact h) (Or.inl ⟨by rfl, ?_⟩) (by assumption) ?_
    rotate_left
    · (intro w hSw; (try dsimp only at hSw); go_simp; all_goals with_reducible rfl)
    (try simp only [Act.put, List.setIfInBounds_toArray, List.set_cons_zero, List.set_cons_succ])
    refine wpAnyH_take (i := 3) (v := ?_) (by rw [List.getElem?_toArray]; rfl) (by kernel_rfl) (by kernel_rfl) (by kernel_rfl) (by intro _ _ _ h; exact h) (Or.inl ⟨by rfl, ?_⟩) (by assumption) ?_
    rotate_left
    · (intro w hSw; (try dsimp only at hSw); go_simp; all_goals with_reducible rfl)
    (try simp only [Act.put, List.setIfInBounds_toArray, List.set_cons_zero, List.set_cons_succ])
    refine wpAnyH_take (i := 4) (v := ?_) (by rw [List.getElem?_toArray]; rfl) (by kernel_rfl) (by kernel_rfl) (by kernel_rfl) (by intro _ _ _ h; exact h) (Or.inl ⟨by rfl, ?_⟩) (by assumption) ?_
    rotate_left
    · (intro w hSw; (try dsimp only at hSw); go_simp; all_goals with_reducible rfl)
    (try simp only [Act.put, List.setIfInBounds_toArray, List.set_cons_zero, List.set_cons_succ])
    refine wpAnyH_take (i := 5) (v := ?_) (by rw [List.getElem?_toArray]; rfl) (by kernel_rfl) (by kernel_rfl) (by kernel_rfl) (by intro _ _ _ h; exact h) (Or.inl ⟨by rfl, ?_⟩) (by assumption) ?_
    rotate_left
    · (intro w hSw; (try dsimp only at hSw); go_simp; all_goals with_reducible rfl)
    (try simp only [Act.put, List.setIfInBounds_toArray, List.set_cons_zero, List.set_cons_succ])
    refine wpAnyH_take (i := 6) (v := ?_) (by rw [List.getElem?_toArray]; rfl) (by kernel_rfl) (by kernel_rfl) (by kernel_rfl) (by intro _ _ _ h; exact h) (Or.inl ⟨by rfl, ?_⟩) (by assumption) ?_
    rotate_left
    · (intro w hSw; (try dsimp only at hSw); go_simp; all_goals with_reducible rfl)
    (try simp only [Act.put, List.setIfInBounds_toArray, List.set_cons_zero, List.set_cons_succ])
    refine wpAnyH_take (i := 7) (v := ?_) (by rw [List.getElem?_toArray]; rfl) (by kernel_rfl) (by kernel_rfl) (by kernel_rfl) (by intro _ _ _ h; exact h) (Or.inl ⟨by rfl, ?_⟩) (by assumption) ?_
    rotate_left
    · (intro w hSw; (try dsimp only at hSw); go_simp; all_goals with_reducible rfl)
    (try simp only [Act.put, List.setIfInBounds_toArray, List.set_cons_zero, List.set_cons_succ])
    refine wpAnyH_take (i := 8) (v := ?_) (by rw [List.getElem?_toArray]; rfl) (by kernel_rfl) (by kernel_rfl) (by kernel_rfl) (by intro _ _ _ h; exact h) (Or.inl ⟨by rfl, ?_⟩) (by assumption) ?_
    rotate_left
    · (intro w hSw; (try dsimp only at hSw); go_simp; all_goals with_reducible rfl)
    (try simp only [Act.put, List.setIfInBounds_toArray, List.set_cons_zero, List.set_cons_succ])
    refine wpAnyH_take (i := 9) (v := ?_) (by rw [List.getElem?_toArray]; rfl) (by kernel_rfl) (by kernel_rfl) (by kernel_rfl) (by intro _ _ _ h; exact h) (Or.inl ⟨by rfl, ?_⟩) (by assumption) ?_
    rotate_left
    · (intro w hSw; (try dsimp only at hSw); go_simp; all_goals with_reducible rfl)
    (try simp only [Act.put, List.setIfInBounds_toArray, List.set_cons_zero, List.set_cons_succ])
    refine wpAnyH_take (i := 10) (v := ?_) (by rw [List.getElem?_toArray]; rfl) (by kernel_rfl) (by kernel_rfl) (by kernel_rfl) (by intro _ _ _ h; exact h) (Or.inl ⟨by rfl, ?_⟩) (by assumption) ?_
    rotate_left
    · (intro w hSw; (try dsimp only at hSw); go_simp; all_goals with_reducible rfl)
    (try simp only [Act.put, List.setIfInBounds_toArray, List.set_cons_zero, List.set_cons_succ])
    refine wpAnyH_take (i := 11) (v := ?_) (by rw [List.getElem?_toArray]; rfl) (by kernel_rfl) (by kernel_rfl) (by kernel_rfl) (by intro _ _ _ h; exact h) (Or.inl ⟨by rfl, ?_⟩) (by assumption) ?_
    rotate_left
    · (intro w hSw; (try dsimp only at hSw); go_simp; all_goals with_reducible rfl)
    (try simp only [Act.put, List.setIfInBounds_toArray, List.set_cons_zero, List.set_cons_succ])
    refine wpAnyH_ready (rs := [12]) (by kernel_rfl) (by simp) ?_
    refine AllReadyH.cons (by rw [List.getElem?_toArray]; rfl) (fun K hK => ?_) AllReadyH.nil
    go_simp
    refine (specBetween_any _ _ _ _).mono ?_; rintro e w2 ⟨rfl, hb⟩; (first | have hb := Below.undrewO hb | skip); (have B2 := B1.trans (hb.mono B1.size)); (have Q2 := Q1.below hb); (have P2 := P1.below hb); (have c1 := (hb.cell (p := ⟨b, off + x * 2 + 1, none⟩) (by first | exact bw1 | (simp; exact bw1))).trans c1); (have c2 := (hb.cell (p := ⟨b, off + y * 2 + 1, none⟩) (by first | exact bw1 | (simp; exact bw1))).trans c2); (have bw2 : b < w2.heap.size := Nat.lt_of_lt_of_le bw1 hb.size); clear hb p0 p1 p2 p3 p4 q0 q1 q2 q3 q4; obtain ⟨p0, p1, p2, p3, p4⟩ := id P2; obtain ⟨q0, q1, q2, q3, q4⟩ := id Q2
    (try go_wp2_with fail)
    refine hK.out _ _ ?_ (fun hHeld => ?_)
    · first | (simp (maxDischargeDepth := 6) [go_sem, *]; done) | exact ⟨p1, p2, c1, c2⟩
    clear hK K
    (try simp only [Act.put, List.setIfInBounds_toArray, List.set_cons_zero, List.set_cons_succ])
    refine wpAnyH_take (i := 13) (v := ?_) (by rw [List.getElem?_toArray]; rfl) (by kernel_rfl) (by kernel_rfl) (by kernel_rfl) (by intro _ _ _ h; exact h) (Or.inl ⟨by rfl, ?_⟩) (by assumption) ?_
    rotate_left
    · (intro w hSw; (try dsimp only at hSw); go_simp; all_goals with_reducible rfl)
    (try simp only [Act.put, List.setIfInBounds_toArray, List.set_cons_zero, List.set_cons_succ])
    refine wpAnyH_take (i := 14) (v := ?_) (by rw [List.getElem?_toArray]; rfl) (by kernel_rfl) (by kernel_rfl) (by kernel_rfl) (by intro _ _ _ h; exact h) (Or.inl ⟨by rfl, ?_⟩) (by assumption) ?_
    rotate_left
    · (intro w hSw; (try dsimp only at hSw); go_simp; all_goals with_reducible rfl)
    (try simp only [Act.put, List.setIfInBounds_toArray, List.set_cons_zero, List.set_cons_succ])
    refine wpAnyH_ready (rs := [15]) (by kernel_rfl) (by simp) ?_
    refine AllReadyH.cons (by rw [List.getElem?_toArray]; rfl) (fun K hK => ?_) AllReadyH.nil
    go_simp
    refine hK.out _ _ ?_ (fun hHeld => ?_)
    · first | (simp (maxDischargeDepth := 6) [go_sem, *]; done) | exact ⟨p1, p2, c1, c2⟩
    clear hK K
    (try simp only [Act.put, List.setIfInBounds_toArray, List.set_cons_zero, List.set_cons_succ])
    refine wpAnyH_take (i := 16) (v := ?_) (by rw [List.getElem?_toArray]; rfl) (by kernel_rfl) (by kernel_rfl) (by kernel_rfl) (by intro _ _ _ h; exact h) (Or.inl ⟨by rfl, ?_⟩) (by assumption) ?_
    rotate_left
    · (intro w hSw; (try dsimp only at hSw); go_simp; all_goals with_reducible rfl)
    (try simp only [Act.put, List.setIfInBounds_toArray, List.set_cons_zero, List.set_cons_succ])
    refine wpAnyH_done (by kernel_rfl) ?_ _
    go_wp2_with fail
    exact bodyPost_ret (v := .tuple #[.agg #[.int .i64 (sel (btB n d ((f y).2 - (f x).2)) (upI (((f y).2 - (f x).2) * d) (d + n))), .int .i64 (sel (btB n d ((f y).2 - (f x).2)) (dnI (((f y).2 - (f x).2) * d) (d - n)))], .bool (btB n d ((f y).2 - (f x).2))]) (by simp (maxDischargeDepth := 6) [results, Try.results14, go_sem, *]) rfl ⟨rfl, by repeat (first | refine Below.setCell ?_ (by first | (simp; done) | (simp; omega) | omega) _ | exact B2 | exact Below.drew B2)⟩
theorem implMarksOk_v (n d : Int) (a : Option Addr) (m c : Nat) (f : Nat → Int × Int) (v : Bool) (w : World) (hm : m ≤ c) (hc : c ≤ maxLen) (hs : Src w a m f) (h : mrB n d f m 1 = v) :
    Calls Try.prog 10 #[.agg #[.int .i64 n, .int .i64 d], .slice a m c] w fun e w' => e = .returned (.bool v) ∧ Below w.heap.size w w' := by
  subst h; exact implMarksOk_any n d a m c f w hm hc hs
set_option maxHeartbeats 2000000 in
theorem implElapsedAt_any (n d : Int) (a : Option Addr) (m c : Nat) (f : Nat → Int × Int) (i j : Int) (w : World) (hm : m ≤ c) (hc : c ≤ maxLen) (hs : Src w a m f) :
    Calls Try.prog 13 #[.agg #[.int .i64 n, .int .i64 d], .slice a m c, .int .i64 i, .int .i64 j] w fun e w' => e = .returned (.tuple #[.agg #[.int .i64 (sel (elB n d f m i j && btB n d (elQ f i j)) (upI (elQ f i j * d) (d + n))), .int .i64 (sel (elB n d f m i j && btB n d (elQ f i j)) (dnI (elQ f i j * d) (d - n)))], .bool (elB n d f m i j && btB n d (elQ f i j))]) ∧ Below w.heap.size w w' := by
  have B0 : Below w.heap.size w ((w.alloc (.cells #[.int .i64 n, .int .i64 d] 25)).alloc (.cells #[.int .i64 0, .int .i64 0] 37)) := (Below.alc _ _).alloc (by simp) _
  have P0 := (Bx.new w n d 25).alloc (.cells #[.int .i64 0, .int .i64 0] 37)
  have Q0 := Bx.new (w.alloc (.cells #[.int .i64 n, .int .i64 d] 25)) 0 0 37
  simp only [World.size_alloc] at Q0
  have HS : Hid (Src ((w.alloc (.cells #[.int .i64 n, .int .i64 d] 25)).alloc (.cells #[.int .i64 0, .int .i64 0] 37)) a m f) := hs.below B0
  have HS0 : Hid (Src w a m f) := hs
  have hmx : m ≤ 2 ^ 63 - 1 := by unfold maxLen at hc; omega
  clear hs
  cases he : elB n d f m i j
  · rw [Bool.false_and, sel_f rfl, sel_f rfl]
    rcases elB_f he with hr | ⟨hr, hh⟩
    · go_enter Try.func13, Try.ntmps13
      go_wp2_with fail
      refine (implMarksOk_v n d a m c f false _ hm hc HS.out hr).mono ?_
      rintro e w1 ⟨rfl, hb⟩
      have B1 := B0.trans (hb.mono B0.size)
      have Q1 := Q0.below hb
      clear hb Q0 P0 B0 HS
      obtain ⟨q0, q1, q2, q3, q4⟩ := id Q1
      go_wp2_with fail
      exact bodyPost_ret (v := .tuple #[.agg #[.int .i64 0, .int .i64 0], .bool false]) (by simp (maxDischargeDepth := 6) [results, Try.results13, go_sem, *]) rfl ⟨rfl, by repeat (first | refine Below.setCell ?_ (by first | (simp; done) | (simp; omega) | omega) _ | exact B1)⟩
    · rcases hh with h1 | ⟨h1, h2 | ⟨h2, h3⟩⟩
      all_goals
        go_enter Try.func13, Try.ntmps13
        go_wp2_with fail
        refine (implMarksOk_v n d a m c f true _ hm hc HS.out hr).mono ?_
        rintro e w1 ⟨rfl, hb⟩
        have B1 := B0.trans (hb.mono B0.size)
        have Q1 := Q0.below hb
        clear hb Q0 P0 B0 HS
        obtain ⟨q0, q1, q2, q3, q4⟩ := id Q1
        go_wp2_with fail
        exact bodyPost_ret (v := .tuple #[.agg #[.int .i64 0, .int .i64 0], .bool false]) (by simp (maxDischargeDepth := 6) [results, Try.results13, go_sem, *]) rfl ⟨rfl, by repeat (first | refine Below.setCell ?_ (by first | (simp; done) | (simp; omega) | omega) _ | exact B1)⟩
  · rw [Bool.true_and]
    have hr : mrB n d f m 1 = true ∧ 0 ≤ i ∧ i ≤ j ∧ j < (m : Int) := by simp only [elB, Bool.and_eq_true, decide_eq_true_eq] at he; exact he
    obtain ⟨hr, hi, hij, hj⟩ := hr
    obtain ⟨x, rfl⟩ := Int.eq_ofNat_of_zero_le hi
    obtain ⟨y, rfl⟩ := Int.eq_ofNat_of_zero_le (show 0 ≤ j by omega)
    have ⟨_, u1, u2, hok⟩ := mkB_t (mrB_t hr).1
    have ⟨x1, x2⟩ := okT_t (hok x (by omega)).2
    have ⟨y1, y2⟩ := okT_t (hok y (by omega)).2
    have d1 : decide ((x : Int) < 0) = false := by simp
    have d2 : decide ((y : Int) < (x : Int)) = false := by simp; omega
    have d3 : decide ((m : Int) ≤ (y : Int)) = false := by simp; omega
    have xm : (x : Int) < (m : Int) := by omega
    have eq : elQ f (x : Int) (y : Int) = (f y).2 - (f x).2 := rfl
    have wq : IntKind.i64.wrap ((f y).2 - (f x).2) = (f y).2 - (f x).2 := Go.IntWalk.i64_in _ ⟨by omega, by omega⟩
    rw [eq]
    rcases HS0.out with h0 | ⟨b, off, rfl, hp0⟩
    · omega
    have hp := hp0.below B0 hp0.1
    have bn1 : ¬ b = w.heap.size + 1 := by have := hp0.1; omega
    have bn2 : ¬ w.heap.size + 1 = b := by have := hp0.1; omega
    have bn3 : b < w.heap.size + 1 := by have := hp0.1; omega
    clear hp0 HS0
    go_enter Try.func13, Try.ntmps13
    go_wp2_with fail
    refine (implMarksOk_v n d _ m c f true _ hm hc HS.out hr).mono ?_
    rintro e w1 ⟨rfl, hb⟩
    have B1 := B0.trans (hb.mono B0.size)
    have P1 := P0.below hb
    have Q1 := Q0.below hb
    have hp1 := hp.below hb hp.1
    have c1 : w1.cell? ⟨b, off + x * 2 + 1, none⟩ = some (.int .i64 (f x).2) := (hp1.2 x (by omega)).2
    have c2 : w1.cell? ⟨b, off + y * 2 + 1, none⟩ = some (.int .i64 (f y).2) := (hp1.2 y (by omega)).2
    have bw1 : b < w1.heap.size := hp1.1
    clear hb Q0 P0 B0 HS hp hp1 hr hok eq he hi
    obtain ⟨p0, p1, p2, p3, p4⟩ := id P1
    obtain ⟨q0, q1, q2, q3, q4⟩ := id Q1
    go_wp2_with fail
    refine wp_region_held_drew (S := (fun w' => w'.cell? ⟨w.heap.size, 0, none⟩ = some (.int .i64 n) ∧ w'.cell? ⟨w.heap.size, 1, none⟩ = some (.int .i64 d) ∧ w'.cell? ⟨b, off + x * 2 + 1, none⟩ = some (.int .i64 (f x).2) ∧ w'.cell? ⟨b, off + y * 2 + 1, none⟩ = some (.int .i64 (f y).2))) (by kernel_rfl) ?_ (fun hHeld => ?_)
    · first | (simp (maxDischargeDepth := 6) [go_sem, *]; done) | exact ⟨p1, p2, c1, c2⟩
    refine wpAnyH_take (i := 0) (v := ?_) (by rw [List.getElem?_toArray]; rfl) (by kernel_rfl) (by kernel_rfl) (by kernel_rfl) (by intro _ _ _ h; exact h) (Or.inl ⟨by rfl, ?_⟩) (by assumption) ?_
    rotate_left
    · (intro w hSw; (try dsimp only at hSw); go_simp; all_goals with_reducible rfl)
    (try simp only [Act.put, List.setIfInBounds_toArray, List.set_cons_zero, List.set_cons_succ])
    refine wpAnyH_take (i := 1) (v := ?_) (by rw [List.getElem?_toArray]; rfl) (by kernel_rfl) (by kernel_rfl) (by kernel_rfl) (by intro _ _ _ h; exact h) (Or.inl ⟨by rfl, ?_⟩) (by assumption) ?_
    rotate_left
    · (intro w hSw; (try dsimp only at hSw); go_simp; all_goals with_reducible rfl)
    (try simp only [Act.put, List.setIfInBounds_toArray, List.set_cons_zero, List.set_cons_succ])
    refine wpAnyH_take (i := 2) (v := ?_) (by rw [List.getElem?_toArray]; rfl) (by kernel_rfl) (by kernel_rfl) (by kernel_rfl) (by intro _ _ _ h; exact h) (Or.inl ⟨by rfl, ?_⟩) (by assumption) ?_
    rotate_left
    · (intro w hSw; (try dsimp only at hSw); go_simp; all_goals with_reducible rfl)
    (try simp only [Act.put, List.setIfInBounds_toArray, List.set_cons_zero, List.set_cons_succ])
    refine wpAnyH_take (i := 3) (v := ?_) (by rw [List.getElem?_toArray]; rfl) (by kernel_rfl) (by kernel_rfl) (by kernel_rfl) (by intro _ _ _ h; exact h) (Or.inl ⟨by rfl, ?_⟩) (by assumption) ?_
    rotate_left
    · (intro w hSw; (try dsimp only at hSw); go_simp; all_goals with_reducible rfl)
    (try simp only [Act.put, List.setIfInBounds_toArray, List.set_cons_zero, List.set_cons_succ])
    refine wpAnyH_take (i := 4) (v := ?_) (by rw [List.getElem?_toArray]; rfl) (by kernel_rfl) (by kernel_rfl) (by kernel_rfl) (by intro _ _ _ h; exact h) (Or.inl ⟨by rfl, ?_⟩) (by assumption) ?_
    rotate_left
    · (intro w hSw; (try dsimp only at hSw); go_simp; all_goals with_reducible rfl)
    (try simp only [Act.put, List.setIfInBounds_toArray, List.set_cons_zero, List.set_cons_succ])
    refine wpAnyH_take (i := 5) (v := ?_) (by rw [List.getElem?_toArray]; rfl) (by kernel_rfl) (by kernel_rfl) (by kernel_rfl) (by intro _ _ _ h; exact h) (Or.inl ⟨by rfl, ?_⟩) (by assumption) ?_
    rotate_left
    · (intro w hSw; (try dsimp only at hSw); go_simp; all_goals with_reducible rfl)
    (try simp only [Act.put, List.setIfInBounds_toArray, List.set_cons_zero, List.set_cons_succ])
    refine wpAnyH_take (i := 6) (v := ?_) (by rw [List.getElem?_toArray]; rfl) (by kernel_rfl) (by kernel_rfl) (by kernel_rfl) (by intro _ _ _ h; exact h) (Or.inl ⟨by rfl, ?_⟩) (by assumption) ?_
    rotate_left
    · (intro w hSw; (try dsimp only at hSw); go_simp; all_goals with_reducible rfl)
    (try simp only [Act.put, List.setIfInBounds_toArray, List.set_cons_zero, List.set_cons_succ])
    refine wpAnyH_take (i := 7) (v := ?_) (by rw [List.getElem?_toArray]; rfl) (by kernel_rfl) (by kernel_rfl) (by kernel_rfl) (by intro _ _ _ h; exact h) (Or.inl ⟨by rfl, ?_⟩) (by assumption) ?_
    rotate_left
    · (intro w hSw; (try dsimp only at hSw); go_simp; all_goals with_reducible rfl)
    (try simp only [Act.put, List.setIfInBounds_toArray, List.set_cons_zero, List.set_cons_succ])
    refine wpAnyH_take (i := 8) (v := ?_) (by rw [List.getElem?_toArray]; rfl) (by kernel_rfl) (by kernel_rfl) (by kernel_rfl) (by intro _ _ _ h; exact h) (Or.inl ⟨by rfl, ?_⟩) (by assumption) ?_
    rotate_left
    · (intro w hSw; (try dsimp only at hSw); go_simp; all_goals with_reducible rfl)
    (try simp only [Act.put, List.setIfInBounds_toArray, List.set_cons_zero, List.set_cons_succ])
    refine wpAnyH_take (i := 9) (v := ?_) (by rw [List.getElem?_toArray]; rfl) (by kernel_rfl) (by kernel_rfl) (by kernel_rfl) (by intro _ _ _ h; exact h) (Or.inl ⟨by rfl, ?_⟩) (by assumption) ?_
    rotate_left
    · (intro w hSw; (try dsimp only at hSw); go_simp; all_goals with_reducible rfl)
    (try simp only [Act.put, List.setIfInBounds_toArray, List.set_cons_zero, List.set_cons_succ])
    refine wpAnyH_take (i := 10) (v := ?_) (by rw [List.getElem?_toArray]; rfl) (by kernel_rfl) (by kernel_rfl) (by kernel_rfl) (by intro _ _ _ h; exact h) (Or.inl ⟨by rfl, ?_⟩) (by assumption) ?_
    rotate_left
    · (intro w hSw; (try dsimp only at hSw); go_simp; all_goals with_reducible rfl)
    (try simp only [Act.put, List.setIfInBounds_toArray, List.set_cons_zero, List.set_cons_succ])
    refine wpAnyH_take (i := 11) (v := ?_) (by rw [List.getElem?_toArray]; rfl) (by kernel_rfl) (by kernel_rfl) (by kernel_rfl) (by intro _ _ _ h; exact h) (Or.inl ⟨by rfl, ?_⟩) (by assumption) ?_
    rotate_left
    · (intro w hSw; (try dsimp only at hSw); go_simp; all_goals with_reducible rfl)
    (try simp only [Act.put, List.setIfInBounds_toArray, List.set_cons_zero, List.set_cons_succ])
    refine wpAnyH_ready (rs := [12]) (by kernel_rfl) (by simp) ?_
    refine AllReadyH.cons (by rw [List.getElem?_toArray]; rfl) (fun K hK => ?_) AllReadyH.nil
    go_simp
    refine (implBetween_any _ _ _ _).mono ?_; rintro e w2 ⟨rfl, hb⟩; (first | have hb := Below.undrewO hb | skip); (have B2 := B1.trans (hb.mono B1.size)); (have Q2 := Q1.below hb); (have P2 := P1.below hb); (have c1 := (hb.cell (p := ⟨b, off + x * 2 + 1, none⟩) (by first | exact bw1 | (simp; exact bw1))).trans c1); (have c2 := (hb.cell (p := ⟨b, off + y * 2 + 1, none⟩) (by first | exact bw1 | (simp; exact bw1))).trans c2); (have bw2 : b < w2.heap.size := Nat.lt_of_lt_of_le bw1 hb.size); clear hb p0 p1 p2 p3 p4 q0 q1 q2 q3 q4; obtain ⟨p0, p1, p2, p3, p4⟩ := id P2; obtain ⟨q0, q1, q2, q3, q4⟩ := id Q2
    (try go_wp2_with fail)
    refine hK.out _ _ ?_ (fun hHeld => ?_)
    · first | (simp (maxDischargeDepth := 6) [go_sem, *]; done) | exact ⟨p1, p2, c1, c2⟩
    clear hK K
    (try simp only [Act.put, List.setIfInBounds_toArray, List.set_cons_zero, List.set_cons_succ])
    refine wpAnyH_take (i := 13) (v := ?_) (by rw [List.getElem?_toArray]; rfl) (by kernel_rfl) (by kernel_rfl) (by kernel_rfl) (by intro _ _ _ h; exact h) (Or.inl ⟨by rfl, ?_⟩) (by assumption) ?_
    rotate_left
    · (intro w hSw; (try dsimp only at hSw); go_simp; all_goals with_reducible rfl)
    (try simp only [Act.put, List.setIfInBounds_toArray, List.set_cons_zero, List.set_cons_succ])
    refine wpAnyH_take (i := 14) (v := ?_) (by rw [List.getElem?_toArray]; rfl) (by kernel_rfl) (by kernel_rfl) (by kernel_rfl) (by intro _ _ _ h; exact h) (Or.inl ⟨by rfl, ?_⟩) (by assumption) ?_
    rotate_left
    · (intro w hSw; (try dsimp only at hSw); go_simp; all_goals with_reducible rfl)
    (try simp only [Act.put, List.setIfInBounds_toArray, List.set_cons_zero, List.set_cons_succ])
    refine wpAnyH_ready (rs := [15]) (by kernel_rfl) (by simp) ?_
    refine AllReadyH.cons (by rw [List.getElem?_toArray]; rfl) (fun K hK => ?_) AllReadyH.nil
    go_simp
    refine hK.out _ _ ?_ (fun hHeld => ?_)
    · first | (simp (maxDischargeDepth := 6) [go_sem, *]; done) | exact ⟨p1, p2, c1, c2⟩
    clear hK K
    (try simp only [Act.put, List.setIfInBounds_toArray, List.set_cons_zero, List.set_cons_succ])
    refine wpAnyH_take (i := 16) (v := ?_) (by rw [List.getElem?_toArray]; rfl) (by kernel_rfl) (by kernel_rfl) (by kernel_rfl) (by intro _ _ _ h; exact h) (Or.inl ⟨by rfl, ?_⟩) (by assumption) ?_
    rotate_left
    · (intro w hSw; (try dsimp only at hSw); go_simp; all_goals with_reducible rfl)
    (try simp only [Act.put, List.setIfInBounds_toArray, List.set_cons_zero, List.set_cons_succ])
    refine wpAnyH_done (by kernel_rfl) ?_ _
    go_wp2_with fail
    exact bodyPost_ret (v := .tuple #[.agg #[.int .i64 (sel (btB n d ((f y).2 - (f x).2)) (upI (((f y).2 - (f x).2) * d) (d + n))), .int .i64 (sel (btB n d ((f y).2 - (f x).2)) (dnI (((f y).2 - (f x).2) * d) (d - n)))], .bool (btB n d ((f y).2 - (f x).2))]) (by simp (maxDischargeDepth := 6) [results, Try.results13, go_sem, *]) rfl ⟨rfl, by repeat (first | refine Below.setCell ?_ (by first | (simp; done) | (simp; omega) | omega) _ | exact B2 | exact Below.drew B2)⟩
end Go.Proofs.Ytdgfneloaopleaa
