/- Contracts of CountWhen and TimeWhen in the program. -/
import Derived.Test.YtdgfneloaopleaaU1
import Derived.Test.YtdgfneloaopleaaU4
import Derived.WalkKit
import Derived.WalkSpells
import Derived.WalkLawsBesides
import Derived.Deep.RegionHeld
namespace Go.Proofs.Ytdgfneloaopleaa
open Go.RowKit
set_option linter.unusedVariables false
theorem rowOfT_src (b off m c : Nat) (f : Nat → Int × Int) (w : World) (h1 : 1 ≤ m) (hm : m ≤ 201) (hf : Prs w b off m f) :
    Calls Try.prog 41 #[.slice (some ⟨b, off, none⟩) m c, .func (.func 42) #[] #[]] w fun e w' => ∃ b' off' c', e = .returned (.slice (some ⟨b', off', none⟩) m c') ∧ Prs w' b' off' m (fun i => ((f i).1, (f i).2)) ∧ Below w.heap.size w w' := by
  refine (rowOfT_any b off m c f w hm hf).mono fun e w' ⟨v, he, O, B⟩ => ?_
  have O' : w'.ownsRow w.heap.size 94 2 v (plT f m).length (prs (plT f m)) := by rw [plT_len]; exact O
  obtain ⟨a', c', hv, _, _, S⟩ := own_src O'
  rw [plT_len] at hv S
  rcases S with h0 | ⟨b', off', rfl, hp⟩
  · omega
  · refine ⟨b', off', c', by rw [he, hv], ⟨hp.1, fun i hi => ?_⟩, B⟩
    have h2 := hp.2 i hi
    simp only [plT_get f m i hi] at h2
    exact h2
set_option maxHeartbeats 2000000 in
theorem implCountWhen_any (n d : Int) (a : Option Addr) (m c : Nat) (f : Nat → Int × Int) (x : Int) (w : World) (hm : m ≤ c) (hc : c ≤ maxLen) (hs : Src w a m f) :
    Calls Try.prog 18 #[.agg #[.int .i64 n, .int .i64 d], .slice a m c, .int .i64 x] w fun e w' => e = .returned (.tuple #[.agg #[.int .i64 (sel (cwB n d f m x) (cwL n d f m x)), .int .i64 (sel (cwB n d f m x) (cwH n d f m x))], .bool (cwB n d f m x)]) ∧ Below w.heap.size w w' := by
  have B0 : Below w.heap.size w ((w.alloc (.cells #[.int .i64 n, .int .i64 d] 25)).alloc (.cells #[.int .i64 0, .int .i64 0] 37)) := (Below.alc _ _).alloc (by simp) _
  have P0 := (Bx.new w n d 25).alloc (.cells #[.int .i64 0, .int .i64 0] 37)
  have Q0 := Bx.new (w.alloc (.cells #[.int .i64 n, .int .i64 d] 25)) 0 0 37
  simp only [World.size_alloc] at Q0
  have HS : Hid (Src ((w.alloc (.cells #[.int .i64 n, .int .i64 d] 25)).alloc (.cells #[.int .i64 0, .int .i64 0] 37)) a m f) := hs.below B0
  clear hs
  cases hr : mrB n d f m 1
  · rw [show (cwB n d f m x) = false by simp [cwB, hr], sel_f rfl, sel_f rfl]
    go_enter Try.func18, Try.ntmps18
    go_wp2_with fail
    refine (implMarksOk_v n d a m c f false _ hm hc HS.out hr).mono ?_
    rintro e w1 ⟨rfl, hb⟩
    have B1 := B0.trans (hb.mono B0.size)
    have Q1 := Q0.below hb
    clear hb Q0 P0 B0 HS
    obtain ⟨q0, q1, q2, q3, q4⟩ := id Q1
    go_wp2_with fail
    exact bodyPost_ret (v := .tuple #[.agg #[.int .i64 0, .int .i64 0], .bool false]) (by simp (maxDischargeDepth := 6) [results, Try.results18, go_sem, *]) rfl ⟨rfl, by repeat (first | refine Below.setCell ?_ (by first | (simp; done) | (simp; omega) | omega) _ | exact B1)⟩
  have ⟨hk1, u1, u2, hok⟩ := mkB_t (mrB_t hr).1
  have HU : Hid (∀ i j, i ≤ j → j < m → ((fun i => ((f i).1, (f i).2)) i).1 ≤ ((fun i => ((f i).1, (f i).2)) j).1) := fun i j h1 h2 => (up_time hr h1 h2).1
  have HOK : Hid (∀ i, i < m → okT ((fun i => ((f i).1, (f i).2)) i).1 = true ∧ okT ((fun i => ((f i).1, (f i).2)) i).2 = true) := fun i hi => ⟨(hok i hi).1, (hok i hi).2⟩
  have HD : Hid (okD n d = true) := hk1
  have E1 : cwB n d f m x = whB (ctB n d) (fun x => upI (x * (d - n)) d) (fun x => dnI (x * (d + n)) d) (t1 (fun i => ((f i).1, (f i).2))) (t2 (fun i => ((f i).1, (f i).2))) x m := by
    have : cwB n d f m x = whB (ctB n d) (fun x => upI (x * (d - n)) d) (fun x => dnI (x * (d + n)) d) (t1 f) (t2 f) x m := by simp [cwB, hr]
    exact this
  have E2 : cwL n d f m x = whLo (fun x => upI (x * (d - n)) d) (fun x => dnI (x * (d + n)) d) (t1 (fun i => ((f i).1, (f i).2))) (t2 (fun i => ((f i).1, (f i).2))) x m := rfl
  have E3 : cwH n d f m x = whHi (fun x => upI (x * (d - n)) d) (fun x => dnI (x * (d + n)) d) (t1 (fun i => ((f i).1, (f i).2))) (t2 (fun i => ((f i).1, (f i).2))) x m := rfl
  have CW := fun (b' off' c' : Nat) (w' : World) (h : Prs w' b' off' m (fun i => ((f i).1, (f i).2))) => whenT_any n d b' off' m c' (fun i => ((f i).1, (f i).2)) x w' HD.out u1 u2 HU.out HOK.out h
  rw [← E1, ← E2, ← E3] at CW
  clear E1 E2 E3 hok hk1 HU HOK HD
  rcases HS.out with h0 | ⟨b, off, rfl, hp⟩
  · omega
  have CR := fun (w' : World) (h : Prs w' b off m f) => rowOfT_src b off m c f w' u1 u2 h
  go_enter Try.func18, Try.ntmps18
  go_wp2_with fail
  refine (implMarksOk_v n d _ m c f true _ hm hc HS.out hr).mono ?_
  rintro e w1 ⟨rfl, hb⟩
  have B1 := B0.trans (hb.mono B0.size)
  have P1 := P0.below hb
  have Q1 := Q0.below hb
  have HP1 : Hid (Prs w1 b off m f) := hp.below hb hp.1
  clear hb Q0 P0 B0 HS hp hr
  obtain ⟨p0, p1, p2, p3, p4⟩ := id P1
  obtain ⟨q0, q1, q2, q3, q4⟩ := id Q1
  go_wp2_with fail
  refine wp_region_held_drew (S := (fun w' => w'.cell? ⟨w.heap.size, 0, none⟩ = some (.int .i64 n) ∧ w'.cell? ⟨w.heap.size, 1, none⟩ = some (.int .i64 d))) (by kernel_rfl) ?_ (fun hHeld => ?_)
  · simp (maxDischargeDepth := 6) [go_sem, *]
  refine wpAnyH_take (i := 0) (v := ?_) (by rw [List.getElem?_toArray]; rfl) (by kernel_rfl) (by kernel_rfl) (by kernel_rfl) (by intro _ _ _ h; exact h) (Or.inl ⟨by rfl, ?_⟩) (by assumption) ?_
  rotate_left
  · (intro w hSw; (try dsimp only at hSw); go_simp; all_goals with_reducible rfl)
  (try simp only [Act.put, List.setIfInBounds_toArray, List.set_cons_zero, List.set_cons_succ])
  refine wpAnyH_take (i := 2) (v := ?_) (by rw [List.getElem?_toArray]; rfl) (by kernel_rfl) (by kernel_rfl) (by kernel_rfl) (by intro _ _ _ h; exact h) (Or.inl ⟨by rfl, ?_⟩) (by assumption) ?_
  rotate_left
  · (intro w hSw; (try dsimp only at hSw); go_simp; all_goals with_reducible rfl)
  (try simp only [Act.put, List.setIfInBounds_toArray, List.set_cons_zero, List.set_cons_succ])
  refine wpAnyH_take (i := 3) (v := ?_) (by rw [List.getElem?_toArray]; rfl) (by kernel_rfl) (by kernel_rfl) (by kernel_rfl) (by intro _ _ _ h; exact h) (Or.inl ⟨by rfl, ?_⟩) (by assumption) ?_
  rotate_left
  · (intro w hSw; (try dsimp only at hSw); go_simp; all_goals with_reducible rfl)
  (try simp only [Act.put, List.setIfInBounds_toArray, List.set_cons_zero, List.set_cons_succ])
  refine wpAnyH_ready (rs := [1]) (by kernel_rfl) (by simp) ?_
  refine AllReadyH.cons (by rw [List.getElem?_toArray]; rfl) (fun K hK => ?_) AllReadyH.nil
  go_simp
  refine (CR _ (by first | exact HP1.out | exact HP1.out.belo (Below.drew (Below.refl _ _)))).mono ?_; rintro e w2 ⟨b', off', c', rfl, hpr, hb⟩; (have HP2 : Hid (Prs w2 b' off' m _) := hpr); clear hpr; (first | have hb := Below.undrewO hb | skip); (have B2 := B1.trans (hb.mono B1.size)); (have P2 := P1.below hb); (have Q2 := Q1.below hb); clear hb p0 p1 p2 p3 p4 q0 q1 q2 q3 q4; obtain ⟨p0, p1, p2, p3, p4⟩ := id P2; obtain ⟨q0, q1, q2, q3, q4⟩ := id Q2
  (try go_wp2_with fail)
  refine hK.out _ _ ?_ (fun hHeld => ?_)
  · simp (maxDischargeDepth := 6) [go_sem, *]
  clear hK K
  (try simp only [Act.put, List.setIfInBounds_toArray, List.set_cons_zero, List.set_cons_succ])
  refine wpAnyH_ready (rs := [4]) (by kernel_rfl) (by simp) ?_
  refine AllReadyH.cons (by rw [List.getElem?_toArray]; rfl) (fun K hK => ?_) AllReadyH.nil
  go_simp
  refine (CW _ _ _ _ HP2.out).mono ?_; rintro e w3 ⟨rfl, hb⟩; (first | have hb := Below.undrewO hb | skip); (have B3 := B2.trans (hb.mono B2.size)); (have P3 := P2.below hb); (have Q3 := Q2.below hb); clear hb p0 p1 p2 p3 p4 q0 q1 q2 q3 q4; obtain ⟨p0, p1, p2, p3, p4⟩ := id P3; obtain ⟨q0, q1, q2, q3, q4⟩ := id Q3
  (try go_wp2_with fail)
  refine hK.out _ _ ?_ (fun hHeld => ?_)
  · simp (maxDischargeDepth := 6) [go_sem, *]
  clear hK K
  (try simp only [Act.put, List.setIfInBounds_toArray, List.set_cons_zero, List.set_cons_succ])
  refine wpAnyH_take (i := 5) (v := ?_) (by rw [List.getElem?_toArray]; rfl) (by kernel_rfl) (by kernel_rfl) (by kernel_rfl) (by intro _ _ _ h; exact h) (Or.inl ⟨by rfl, ?_⟩) (by assumption) ?_
  rotate_left
  · (intro w hSw; (try dsimp only at hSw); go_simp; all_goals with_reducible rfl)
  (try simp only [Act.put, List.setIfInBounds_toArray, List.set_cons_zero, List.set_cons_succ])
  refine wpAnyH_take (i := 6) (v := ?_) (by rw [List.getElem?_toArray]; rfl) (by kernel_rfl) (by kernel_rfl) (by kernel_rfl) (by intro _ _ _ h; exact h) (Or.inl ⟨by rfl, ?_⟩) (by assumption) ?_
  rotate_left
  · (intro w hSw; (try dsimp only at hSw); go_simp; all_goals with_reducible rfl)
  (try simp only [Act.put, List.setIfInBounds_toArray, List.set_cons_zero, List.set_cons_succ])
  refine wpAnyH_ready (rs := [7]) (by kernel_rfl) (by simp) ?_
  refine AllReadyH.cons (by rw [List.getElem?_toArray]; rfl) (fun K hK => ?_) AllReadyH.nil
  go_simp
  refine hK.out _ _ ?_ (fun hHeld => ?_)
  · simp (maxDischargeDepth := 6) [go_sem, *]
  clear hK K
  (try simp only [Act.put, List.setIfInBounds_toArray, List.set_cons_zero, List.set_cons_succ])
  refine wpAnyH_take (i := 8) (v := ?_) (by rw [List.getElem?_toArray]; rfl) (by kernel_rfl) (by kernel_rfl) (by kernel_rfl) (by intro _ _ _ h; exact h) (Or.inl ⟨by rfl, ?_⟩) (by assumption) ?_
  rotate_left
  · (intro w hSw; (try dsimp only at hSw); go_simp; all_goals with_reducible rfl)
  (try simp only [Act.put, List.setIfInBounds_toArray, List.set_cons_zero, List.set_cons_succ])
  refine wpAnyH_done (by kernel_rfl) ?_ _
  go_wp2_with fail
  exact bodyPost_ret (v := .tuple #[.agg #[.int .i64 (sel (cwB n d f m x) (cwL n d f m x)), .int .i64 (sel (cwB n d f m x) (cwH n d f m x))], .bool (cwB n d f m x)]) (by simp (maxDischargeDepth := 6) [results, Try.results18, go_sem, *]) rfl ⟨rfl, by repeat (first | refine Below.drew ?_ | refine Below.setCell ?_ (by first | (simp; done) | (simp; omega) | omega) _ | exact B3)⟩
theorem rowOfC_src (b off m c : Nat) (f : Nat → Int × Int) (w : World) (h1 : 1 ≤ m) (hm : m ≤ 201) (hf : Prs w b off m f) :
    Calls Try.prog 52 #[.slice (some ⟨b, off, none⟩) m c, .func (.func 53) #[] #[]] w fun e w' => ∃ b' off' c', e = .returned (.slice (some ⟨b', off', none⟩) m c') ∧ Prs w' b' off' m (fun i => ((f i).2, (f i).1)) ∧ Below w.heap.size w w' := by
  refine (rowOfC_any b off m c f w hm hf).mono fun e w' ⟨v, he, O, B⟩ => ?_
  have O' : w'.ownsRow w.heap.size 103 2 v (plC f m).length (prs (plC f m)) := by rw [plC_len]; exact O
  obtain ⟨a', c', hv, _, _, S⟩ := own_src O'
  rw [plC_len] at hv S
  rcases S with h0 | ⟨b', off', rfl, hp⟩
  · omega
  · refine ⟨b', off', c', by rw [he, hv], ⟨hp.1, fun i hi => ?_⟩, B⟩
    have h2 := hp.2 i hi
    simp only [plC_get f m i hi] at h2
    exact h2
set_option maxHeartbeats 2000000 in
theorem implTimeWhen_any (n d : Int) (a : Option Addr) (m c : Nat) (f : Nat → Int × Int) (x : Int) (w : World) (hm : m ≤ c) (hc : c ≤ maxLen) (hs : Src w a m f) :
    Calls Try.prog 21 #[.agg #[.int .i64 n, .int .i64 d], .slice a m c, .int .i64 x] w fun e w' => e = .returned (.tuple #[.agg #[.int .i64 (sel (twB n d f m x) (twL n d f m x)), .int .i64 (sel (twB n d f m x) (twH n d f m x))], .bool (twB n d f m x)]) ∧ Below w.heap.size w w' := by
  have B0 : Below w.heap.size w ((w.alloc (.cells #[.int .i64 n, .int .i64 d] 25)).alloc (.cells #[.int .i64 0, .int .i64 0] 37)) := (Below.alc _ _).alloc (by simp) _
  have P0 := (Bx.new w n d 25).alloc (.cells #[.int .i64 0, .int .i64 0] 37)
  have Q0 := Bx.new (w.alloc (.cells #[.int .i64 n, .int .i64 d] 25)) 0 0 37
  simp only [World.size_alloc] at Q0
  have HS : Hid (Src ((w.alloc (.cells #[.int .i64 n, .int .i64 d] 25)).alloc (.cells #[.int .i64 0, .int .i64 0] 37)) a m f) := hs.below B0
  clear hs
  cases hr : mrB n d f m 1
  · rw [show (twB n d f m x) = false by simp [twB, hr], sel_f rfl, sel_f rfl]
    go_enter Try.func21, Try.ntmps21
    go_wp2_with fail
    refine (implMarksOk_v n d a m c f false _ hm hc HS.out hr).mono ?_
    rintro e w1 ⟨rfl, hb⟩
    have B1 := B0.trans (hb.mono B0.size)
    have Q1 := Q0.below hb
    clear hb Q0 P0 B0 HS
    obtain ⟨q0, q1, q2, q3, q4⟩ := id Q1
    go_wp2_with fail
    exact bodyPost_ret (v := .tuple #[.agg #[.int .i64 0, .int .i64 0], .bool false]) (by simp (maxDischargeDepth := 6) [results, Try.results21, go_sem, *]) rfl ⟨rfl, by repeat (first | refine Below.setCell ?_ (by first | (simp; done) | (simp; omega) | omega) _ | exact B1)⟩
  have ⟨hk1, u1, u2, hok⟩ := mkB_t (mrB_t hr).1
  have HU : Hid (∀ i j, i ≤ j → j < m → ((fun i => ((f i).2, (f i).1)) i).1 ≤ ((fun i => ((f i).2, (f i).1)) j).1) := fun i j h1 h2 => (up_time hr h1 h2).2
  have HOK : Hid (∀ i, i < m → okT ((fun i => ((f i).2, (f i).1)) i).1 = true ∧ okT ((fun i => ((f i).2, (f i).1)) i).2 = true) := fun i hi => ⟨(hok i hi).2, (hok i hi).1⟩
  have HD : Hid (okD n d = true) := hk1
  have E1 : twB n d f m x = whB (btB n d) (fun x => upI (x * d) (d + n)) (fun x => dnI (x * d) (d - n)) (t1 (fun i => ((f i).2, (f i).1))) (t2 (fun i => ((f i).2, (f i).1))) x m := by
    have : twB n d f m x = whB (btB n d) (fun x => upI (x * d) (d + n)) (fun x => dnI (x * d) (d - n)) (t2 f) (t1 f) x m := by simp [twB, hr]
    exact this
  have E2 : twL n d f m x = whLo (fun x => upI (x * d) (d + n)) (fun x => dnI (x * d) (d - n)) (t1 (fun i => ((f i).2, (f i).1))) (t2 (fun i => ((f i).2, (f i).1))) x m := rfl
  have E3 : twH n d f m x = whHi (fun x => upI (x * d) (d + n)) (fun x => dnI (x * d) (d - n)) (t1 (fun i => ((f i).2, (f i).1))) (t2 (fun i => ((f i).2, (f i).1))) x m := rfl
  have CW := fun (b' off' c' : Nat) (w' : World) (h : Prs w' b' off' m (fun i => ((f i).2, (f i).1))) => whenC_any n d b' off' m c' (fun i => ((f i).2, (f i).1)) x w' HD.out u1 u2 HU.out HOK.out h
  rw [← E1, ← E2, ← E3] at CW
  clear E1 E2 E3 hok hk1 HU HOK HD
  rcases HS.out with h0 | ⟨b, off, rfl, hp⟩
  · omega
  have CR := fun (w' : World) (h : Prs w' b off m f) => rowOfC_src b off m c f w' u1 u2 h
  go_enter Try.func21, Try.ntmps21
  go_wp2_with fail
  refine (implMarksOk_v n d _ m c f true _ hm hc HS.out hr).mono ?_
  rintro e w1 ⟨rfl, hb⟩
  have B1 := B0.trans (hb.mono B0.size)
  have P1 := P0.below hb
  have Q1 := Q0.below hb
  have HP1 : Hid (Prs w1 b off m f) := hp.below hb hp.1
  clear hb Q0 P0 B0 HS hp hr
  obtain ⟨p0, p1, p2, p3, p4⟩ := id P1
  obtain ⟨q0, q1, q2, q3, q4⟩ := id Q1
  go_wp2_with fail
  refine wp_region_held_drew (S := (fun w' => w'.cell? ⟨w.heap.size, 0, none⟩ = some (.int .i64 n) ∧ w'.cell? ⟨w.heap.size, 1, none⟩ = some (.int .i64 d))) (by kernel_rfl) ?_ (fun hHeld => ?_)
  · simp (maxDischargeDepth := 6) [go_sem, *]
  refine wpAnyH_take (i := 0) (v := ?_) (by rw [List.getElem?_toArray]; rfl) (by kernel_rfl) (by kernel_rfl) (by kernel_rfl) (by intro _ _ _ h; exact h) (Or.inl ⟨by rfl, ?_⟩) (by assumption) ?_
  rotate_left
  · (intro w hSw; (try dsimp only at hSw); go_simp; all_goals with_reducible rfl)
  (try simp only [Act.put, List.setIfInBounds_toArray, List.set_cons_zero, List.set_cons_succ])
  refine wpAnyH_take (i := 2) (v := ?_) (by rw [List.getElem?_toArray]; rfl) (by kernel_rfl) (by kernel_rfl) (by kernel_rfl) (by intro _ _ _ h; exact h) (Or.inl ⟨by rfl, ?_⟩) (by assumption) ?_
  rotate_left
  · (intro w hSw; (try dsimp only at hSw); go_simp; all_goals with_reducible rfl)
  (try simp only [Act.put, List.setIfInBounds_toArray, List.set_cons_zero, List.set_cons_succ])
  refine wpAnyH_take (i := 3) (v := ?_) (by rw [List.getElem?_toArray]; rfl) (by kernel_rfl) (by kernel_rfl) (by kernel_rfl) (by intro _ _ _ h; exact h) (Or.inl ⟨by rfl, ?_⟩) (by assumption) ?_
  rotate_left
  · (intro w hSw; (try dsimp only at hSw); go_simp; all_goals with_reducible rfl)
  (try simp only [Act.put, List.setIfInBounds_toArray, List.set_cons_zero, List.set_cons_succ])
  refine wpAnyH_ready (rs := [1]) (by kernel_rfl) (by simp) ?_
  refine AllReadyH.cons (by rw [List.getElem?_toArray]; rfl) (fun K hK => ?_) AllReadyH.nil
  go_simp
  refine (CR _ (by first | exact HP1.out | exact HP1.out.belo (Below.drew (Below.refl _ _)))).mono ?_; rintro e w2 ⟨b', off', c', rfl, hpr, hb⟩; (have HP2 : Hid (Prs w2 b' off' m _) := hpr); clear hpr; (first | have hb := Below.undrewO hb | skip); (have B2 := B1.trans (hb.mono B1.size)); (have P2 := P1.below hb); (have Q2 := Q1.below hb); clear hb p0 p1 p2 p3 p4 q0 q1 q2 q3 q4; obtain ⟨p0, p1, p2, p3, p4⟩ := id P2; obtain ⟨q0, q1, q2, q3, q4⟩ := id Q2
  (try go_wp2_with fail)
  refine hK.out _ _ ?_ (fun hHeld => ?_)
  · simp (maxDischargeDepth := 6) [go_sem, *]
  clear hK K
  (try simp only [Act.put, List.setIfInBounds_toArray, List.set_cons_zero, List.set_cons_succ])
  refine wpAnyH_ready (rs := [4]) (by kernel_rfl) (by simp) ?_
  refine AllReadyH.cons (by rw [List.getElem?_toArray]; rfl) (fun K hK => ?_) AllReadyH.nil
  go_simp
  refine (CW _ _ _ _ HP2.out).mono ?_; rintro e w3 ⟨rfl, hb⟩; (first | have hb := Below.undrewO hb | skip); (have B3 := B2.trans (hb.mono B2.size)); (have P3 := P2.below hb); (have Q3 := Q2.below hb); clear hb p0 p1 p2 p3 p4 q0 q1 q2 q3 q4; obtain ⟨p0, p1, p2, p3, p4⟩ := id P3; obtain ⟨q0, q1, q2, q3, q4⟩ := id Q3
  (try go_wp2_with fail)
  refine hK.out _ _ ?_ (fun hHeld => ?_)
  · simp (maxDischargeDepth := 6) [go_sem, *]
  clear hK K
  (try simp only [Act.put, List.setIfInBounds_toArray, List.set_cons_zero, List.set_cons_succ])
  refine wpAnyH_take (i := 5) (v := ?_) (by rw [List.getElem?_toArray]; rfl) (by kernel_rfl) (by kernel_rfl) (by kernel_rfl) (by intro _ _ _ h; exact h) (Or.inl ⟨by rfl, ?_⟩) (by assumption) ?_
  rotate_left
  · (intro w hSw; (try dsimp only at hSw); go_simp; all_goals with_reducible rfl)
  (try simp only [Act.put, List.setIfInBounds_toArray, List.set_cons_zero, List.set_cons_succ])
  refine wpAnyH_take (i := 6) (v := ?_) (by rw [List.getElem?_toArray]; rfl) (by kernel_rfl) (by kernel_rfl) (by kernel_rfl) (by intro _ _ _ h; exact h) (Or.inl ⟨by rfl, ?_⟩) (by assumption) ?_
  rotate_left
  · (intro w hSw; (try dsimp only at hSw); go_simp; all_goals with_reducible rfl)
  (try simp only [Act.put, List.setIfInBounds_toArray, List.set_cons_zero, List.set_cons_succ])
  refine wpAnyH_ready (rs := [7]) (by kernel_rfl) (by simp) ?_
  refine AllReadyH.cons (by rw [List.getElem?_toArray]; rfl) (fun K hK => ?_) AllReadyH.nil
  go_simp
  refine hK.out _ _ ?_ (fun hHeld => ?_)
  · simp (maxDischargeDepth := 6) [go_sem, *]
  clear hK K
  (try simp only [Act.put, List.setIfInBounds_toArray, List.set_cons_zero, List.set_cons_succ])
  refine wpAnyH_take (i := 8) (v := ?_) (by rw [List.getElem?_toArray]; rfl) (by kernel_rfl) (by kernel_rfl) (by kernel_rfl) (by intro _ _ _ h; exact h) (Or.inl ⟨by rfl, ?_⟩) (by assumption) ?_
  rotate_left
  · (intro w hSw; (try dsimp only at hSw); go_simp; all_goals with_reducible rfl)
  (try simp only [Act.put, List.setIfInBounds_toArray, List.set_cons_zero, List.set_cons_succ])
  refine wpAnyH_done (by kernel_rfl) ?_ _
  go_wp2_with fail
  exact bodyPost_ret (v := .tuple #[.agg #[.int .i64 (sel (twB n d f m x) (twL n d f m x)), .int .i64 (sel (twB n d f m x) (twH n d f m x))], .bool (twB n d f m x)]) (by simp (maxDischargeDepth := 6) [results, Try.results21, go_sem, *]) rfl ⟨rfl, by repeat (first | refine Below.drew ?_ | refine Below.setCell ?_ (by first | (simp; done) | (simp; omega) | omega) _ | exact B3)⟩
end Go.Proofs.Ytdgfneloaopleaa
