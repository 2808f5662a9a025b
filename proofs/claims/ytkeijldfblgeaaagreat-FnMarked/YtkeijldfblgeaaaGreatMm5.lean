/- Contracts of the program's CarryOn. Contracts of Rebase, Learn, Narrow, WidthAt. What PeersCarried tells; the state of its loops. Contracts of PeersCarried. What PeersMark tells; the rows that its loops read. -/
import Derived.Test.YtkeijldfblgeaaaGreatMm4
import Derived.Deep.RegionHeld3
import Derived.Deep.DeepCutAuto
import Derived.WalkKit
import Derived.WalkSpells
import Derived.WalkLawsBesides
import Derived.Deep.RegionHeld
import Derived.Test.YtkeijldfblgeaaaGreatMm3
namespace Go.Proofs.YtkeijldfblgeaaaGreat
open Go.RowKit
set_option linter.unusedVariables false
set_option maxHeartbeats 4000000 in
theorem mayCarry_any (k : Nat) (kn : Bool) (lo hi a n d c : Int) (w : World) (H : BoxL w k kn lo hi a) :
    Calls Tryz.prog 87 #[.pointer (some ⟨k, 0, none⟩), .agg #[.int .i64 n, .int .i64 d], .int .i64 c] w fun e w' => e = .returned (.bool (crP kn lo hi a n d c)) ∧ Below w.heap.size w w' := by
  have B0 : Below w.heap.size w (w.alloc (.cells #[.int .i64 n, .int .i64 d] 26)) := Below.alc _ _
  have Q0 := Bx.new w n d 26
  have H0 := H.below B0
  cases h1 : okL kn lo hi a <;> cases h2 : okD n d <;> cases h3 : okT c
  all_goals
    go_enter Tryz.func87, Tryz.ntmps87
    go_wp2_with fail
    refine (ptrOk_any _ _ _ _ _ _ H0).mono ?_
    rintro e v ⟨rfl, hb⟩
    have B := B0.trans (hb.mono B0.size)
    obtain ⟨q0, q1, q2, q3, q4⟩ := Q0.below hb
    clear hb
    go_wp2_with (first | (go_at_call 99; refine (okd_any _ _ _).mono ?_; rintro e w' ⟨rfl, hb⟩; obtain ⟨hc, hf⟩ := bcell hb; (first | have hB := Below.trans (Below.trans hB (by repeat (first | exact Below.refl _ _ | refine Below.drew ?_ | refine Below.alloc ?_ (by first | (simp; done) | (simp; omega) | omega) _ | refine Below.setCell ?_ (by first | (simp; done) | (simp; omega) | omega) _ | refine Below.trans ?_ (Below.mono (by assumption) (by first | (simp; done) | (simp; omega) | omega))))) (Below.mono hb (by first | (simp; done) | (simp; omega) | omega)) | have hB := hb); obtain ⟨hC, hF⟩ := bcell hB; have hz := hb.size; (try simp at hz); (try (have hz0 : w.heap.size < w'.heap.size := by omega)); (try (have hz1 : w.heap.size + 1 < w'.heap.size := by omega)); (try (have hz2 : w.heap.size + 1 + 1 < w'.heap.size := by omega)); (try (have hz3 : w.heap.size + 1 + 1 + 1 < w'.heap.size := by omega))) | (go_at_call 52; refine (isTime_any _ _).mono ?_; rintro e w' ⟨rfl, rfl⟩))
    go_ret
    exact ⟨ret_bool (by simp [crP, *]), by repeat (first | exact Below.refl _ _ | refine Below.drew ?_ | refine Below.alloc ?_ (by first | (simp; done) | (simp; omega) | omega) _ | refine Below.setCell ?_ (by first | (simp; done) | (simp; omega) | omega) _ | refine Below.trans ?_ (Below.mono (by assumption) (by first | (simp; done) | (simp; omega) | omega)))⟩
set_option maxRecDepth 100000 in
set_option maxHeartbeats 4000000 in
theorem carry_any (k : Nat) (kn : Bool) (lo hi a n d c : Int) (w : World) (H : BoxL w k kn lo hi a) :
    Calls Tryz.prog 64 #[.pointer (some ⟨k, 0, none⟩), .agg #[.int .i64 n, .int .i64 d], .int .i64 c] w fun e w' => e = .returned (.tuple #[.agg #[.int .i64 (crL kn lo hi a n d c), .int .i64 (crH kn lo hi a n d c)], .int .i64 (crC kn lo hi a n d c)]) ∧ Below w.heap.size w w' := by
  have B : Below w.heap.size w ((w.alloc (.cells #[.int .i64 n, .int .i64 d] 26)).alloc (.cells #[.int .i64 0, .int .i64 0] 28)) := (Below.alc _ _).alloc (by simp) _
  have Q := (Bx.new w n d 26).alloc (.cells #[.int .i64 0, .int .i64 0] 28)
  have R := Bx.new (w.alloc (.cells #[.int .i64 n, .int .i64 d] 26)) 0 0 28
  simp only [World.size_alloc] at R
  have hk : k < w.heap.size := H.1
  replace H := H.below B
  cases hp : crP kn lo hi a n d c
  · obtain ⟨e1, e2, e3⟩ := crC_1 hp
    rw [e1, e2, e3]
    clear e1 e2 e3
    have CM := fun v H' => mayCarry_any k kn lo hi a n d c v H'
    rw [hp] at CM
    go_enter Tryz.func64, Tryz.ntmps64
    go_wp2_with fail
    refine (CM _ H).mono ?_
    rintro e v ⟨rfl, hb⟩
    replace B := B.trans (hb.mono B.size)
    obtain ⟨r0, r1, r2, r3, r4⟩ := R.below hb
    clear hb H Q R CM
    go_wp2
    exact bodyPost_ret (v := .tuple #[.agg #[.int .i64 0, .int .i64 0], .int .i64 1]) (by simp (maxDischargeDepth := 6) [results, Tryz.results64, go_sem, *]) rfl ⟨rfl, by repeat (first | exact Below.refl _ _ | refine Below.drew ?_ | refine Below.alloc ?_ (by first | (simp; done) | (simp; omega) | omega) _ | refine Below.setCell ?_ (by first | (simp; done) | (simp; omega) | omega) _ | refine Below.trans ?_ (Below.mono (by assumption) (by first | (simp; done) | (simp; omega) | omega)))⟩
  cases kn
  · obtain ⟨e1, e2, e3⟩ := crC_2 hp
    rw [e1, e2, e3]
    clear e1 e2 e3
    have CM := fun v H' => mayCarry_any k false lo hi a n d c v H'
    rw [hp] at CM
    go_enter Tryz.func64, Tryz.ntmps64
    go_wp2_with fail
    refine (CM _ H).mono ?_
    rintro e v ⟨rfl, hb⟩
    replace B := B.trans (hb.mono B.size)
    obtain ⟨r0, r1, r2, r3, r4⟩ := R.below hb
    obtain ⟨a0, a1, a2, a3, a4, a5, a6, a7, a8⟩ := H.below hb
    clear hb H Q R CM
    go_wp2
    exact bodyPost_ret (v := .tuple #[.agg #[.int .i64 0, .int .i64 0], .int .i64 2]) (by simp (maxDischargeDepth := 6) [results, Tryz.results64, go_sem, *]) rfl ⟨rfl, by repeat (first | exact Below.refl _ _ | refine Below.drew ?_ | refine Below.alloc ?_ (by first | (simp; done) | (simp; omega) | omega) _ | refine Below.setCell ?_ (by first | (simp; done) | (simp; omega) | omega) _ | refine Below.trans ?_ (Below.mono (by assumption) (by first | (simp; done) | (simp; omega) | omega)))⟩
  have CM := fun v H' => mayCarry_any k true lo hi a n d c v H'
  rw [hp] at CM
  by_cases h4 : c < a
  · obtain ⟨e1, e2, e3⟩ := crC_3 hp h4
    rw [e1, e2, e3]
    clear e1 e2 e3
    go_enter Tryz.func64, Tryz.ntmps64
    go_wp2_with fail
    refine (CM _ H).mono ?_
    rintro e v ⟨rfl, hb⟩
    replace B := B.trans (hb.mono B.size)
    obtain ⟨r0, r1, r2, r3, r4⟩ := R.below hb
    obtain ⟨a0, a1, a2, a3, a4, a5, a6, a7, a8⟩ := H.below hb
    clear hb H Q R CM
    go_wp2
    exact bodyPost_ret (v := .tuple #[.agg #[.int .i64 0, .int .i64 0], .int .i64 3]) (by simp (maxDischargeDepth := 6) [results, Tryz.results64, go_sem, *]) rfl ⟨rfl, by repeat (first | exact Below.refl _ _ | refine Below.drew ?_ | refine Below.alloc ?_ (by first | (simp; done) | (simp; omega) | omega) _ | refine Below.setCell ?_ (by first | (simp; done) | (simp; omega) | omega) _ | refine Below.trans ?_ (Below.mono (by assumption) (by first | (simp; done) | (simp; omega) | omega)))⟩
  obtain ⟨_, p2, _, p4⟩ := crP_p hp
  obtain ⟨g1, g2⟩ := okT_t p2
  obtain ⟨g3, g4⟩ := okT_t p4
  have hwr : IntKind.i64.wrap (c - a) = c - a := Go.IntWalk.i64_in _ ⟨by omega, by omega⟩
  have E : ∃ U D X Y : Int, ∃ bt pl : Bool, (∀ w', Calls Tryz.prog 88 #[.agg #[.int .i64 n, .int .i64 d], .int .i64 (IntKind.i64.wrap (c - a))] w' fun e w'' => e = .returned (.tuple #[.agg #[.int .i64 U, .int .i64 D], .bool bt]) ∧ Below w'.heap.size w' w'') ∧ (bt = true → ∀ w', Calls Tryz.prog 89 #[.agg #[.int .i64 lo, .int .i64 hi], .agg #[.int .i64 U, .int .i64 D]] w' fun e w'' => e = .returned (.tuple #[.agg #[.int .i64 X, .int .i64 Y], .bool pl]) ∧ Below w'.heap.size w' w'') ∧ (bt = false → crC true lo hi a n d c = 4 ∧ crL true lo hi a n d c = 0 ∧ crH true lo hi a n d c = 0) ∧ (bt = true → pl = false → crC true lo hi a n d c = 4 ∧ crL true lo hi a n d c = 0 ∧ crH true lo hi a n d c = 0) ∧ (bt = true → pl = true → crC true lo hi a n d c = 0 ∧ crL true lo hi a n d c = X ∧ crH true lo hi a n d c = Y) := by
    refine ⟨_, _, _, _, _, _, fun w' => by rw [hwr]; exact implBetween_any n d (c - a) w', fun hb w' => implPlusIval_any _ _ _ _ w', fun hb => crC_4 hp h4 hb, fun hb hq => ?_, fun hb hq => ?_⟩
    · rw [hb, sel_t rfl, sel_t rfl] at hq; exact crC_5 hp h4 hb hq
    · rw [hb, sel_t rfl, sel_t rfl] at hq; rw [hb, sel_t rfl, sel_t rfl, hq, sel_t rfl, sel_t rfl]; exact crC_0 hp h4 hb hq
  obtain ⟨U, D, X, Y, bt, pl, CB, CP, F1, F2, F3⟩ := E
  replace F1 : Hid (bt = false → crC true lo hi a n d c = 4 ∧ crL true lo hi a n d c = 0 ∧ crH true lo hi a n d c = 0) := F1
  replace F2 : Hid (bt = true → pl = false → crC true lo hi a n d c = 4 ∧ crL true lo hi a n d c = 0 ∧ crH true lo hi a n d c = 0) := F2
  replace F3 : Hid (bt = true → pl = true → crC true lo hi a n d c = 0 ∧ crL true lo hi a n d c = X ∧ crH true lo hi a n d c = Y) := F3
  replace CP : Hid (bt = true → ∀ w', Calls Tryz.prog 89 #[.agg #[.int .i64 lo, .int .i64 hi], .agg #[.int .i64 U, .int .i64 D]] w' fun e w'' => e = .returned (.tuple #[.agg #[.int .i64 X, .int .i64 Y], .bool pl]) ∧ Below w'.heap.size w' w'') := CP
  clear hp p2 p4 hwr
  go_enter Tryz.func64, Tryz.ntmps64
  go_wp2_with fail
  refine (CM _ H).mono ?_
  rintro e v ⟨rfl, hb⟩
  replace B := B.trans (hb.mono B.size)
  replace H := H.below hb
  replace Q := Q.below hb
  replace R := R.below hb
  clear hb CM
  obtain ⟨a0, a1, a2, a3, a4, a5, a6, a7, a8⟩ := id H
  obtain ⟨b0, b1, b2, b3, b4⟩ := id Q
  obtain ⟨r0, r1, r2, r3, r4⟩ := id R
  go_wp2_with fail
  go_cut [8, 9] (fun s8 s9 wx => ∃ j : Nat, s8 = .pointer (some ⟨j, 0, none⟩) ∧ s9 = .bool bt ∧ Bx wx j U D ∧ w.heap.size + 1 < j ∧ BoxL wx k true lo hi a ∧ Bx wx w.heap.size n d ∧ Bx wx (w.heap.size + 1) 0 0 ∧ Below w.heap.size w wx)
  case first =>
    refine wp_region_held_drew (S := (fun w' => w'.cell? ⟨k, 3, none⟩ = some (.int .i64 a) ∧ w'.cell? ⟨w.heap.size, 0, none⟩ = some (.int .i64 n) ∧ w'.cell? ⟨w.heap.size, 1, none⟩ = some (.int .i64 d))) (by kernel_rfl) ?_ (fun hHeld => ?_)
    · simp (maxDischargeDepth := 6) [go_sem, *]
    clear a0 a1 a2 a3 a4 a5 a6 a7 a8 b0 b1 b2 b3 b4 r0 r1 r2 r3 r4; (try clear n0 n1 n2 n3 n4); (try clear m0 m1 m2 m3 m4)
    replace H := H.drew
    replace Q := Q.drew
    replace R := R.drew
    replace B := B.drew
    (try replace M := M.drew)
    generalize v.drew = v at *
    obtain ⟨a0, a1, a2, a3, a4, a5, a6, a7, a8⟩ := id H; obtain ⟨b0, b1, b2, b3, b4⟩ := id Q; obtain ⟨r0, r1, r2, r3, r4⟩ := id R; (try (obtain ⟨n0, n1, n2, n3, n4⟩ := id N)); (try (obtain ⟨m0, m1, m2, m3, m4⟩ := id M))
    refine wpAnyH_take (i := 0) (v := ?_) (by rw [List.getElem?_toArray]; rfl) (by kernel_rfl) (by kernel_rfl) (by kernel_rfl) (by intro _ _ _ h; exact h) (Or.inl ⟨by rfl, ?_⟩) (by assumption) ?_
    rotate_left
    · (intro w hSw; (try dsimp only at hSw); go_simp; all_goals with_reducible rfl)
    (try simp only [Act.put, List.setIfInBounds_toArray, List.set_cons_zero, List.set_cons_succ])
    refine wpAnyH_take (i := 1) (v := ?_) (by rw [List.getElem?_toArray]; rfl) (by kernel_rfl) (by kernel_rfl) (by kernel_rfl) (by intro _ _ _ h; exact h) (Or.inl ⟨by rfl, ?_⟩) (by assumption) ?_
    rotate_left
    · (intro w hSw; (try dsimp only at hSw); go_simp; all_goals with_reducible rfl)
    (try simp only [Act.put, List.setIfInBounds_toArray, List.set_cons_zero, List.set_cons_succ])
    refine wpAnyH_take (i := 2) (v := ?_) (by rw [List.getElem?_toArray]; rfl) (by kernel_rfl) (by kernel_rfl) (by kernel_rfl) (by intro _ _ _ h; exact h) (Or.inl ⟨by rfl, ?_⟩) (by assumption) ?_
    rotate_left
    · (intro w hSw; (try dsimp only at hSw); go_simp; all_goals with_reducible rfl)
    (try simp only [Act.put, List.setIfInBounds_toArray, List.set_cons_zero, List.set_cons_succ])
    refine wpAnyH_take (i := 3) (v := ?_) (by rw [List.getElem?_toArray]; rfl) (by kernel_rfl) (by kernel_rfl) (by kernel_rfl) (by intro _ _ _ h; exact h) (Or.inl ⟨by rfl, ?_⟩) (by assumption) ?_
    rotate_left
    · (intro w hSw; (try dsimp only at hSw); go_simp; all_goals with_reducible rfl)
    (try simp only [Act.put, List.setIfInBounds_toArray, List.set_cons_zero, List.set_cons_succ])
    refine wpAnyH_take (i := 4) (v := ?_) (by rw [List.getElem?_toArray]; rfl) (by kernel_rfl) (by kernel_rfl) (by kernel_rfl) (by intro _ _ _ h; exact h) (Or.inl ⟨by rfl, ?_⟩) (by assumption) ?_
    rotate_left
    · (intro w hSw; (try dsimp only at hSw); go_simp; all_goals with_reducible rfl)
    (try simp only [Act.put, List.setIfInBounds_toArray, List.set_cons_zero, List.set_cons_succ])
    refine wpAnyH_take (i := 5) (v := ?_) (by rw [List.getElem?_toArray]; rfl) (by kernel_rfl) (by kernel_rfl) (by kernel_rfl) (by intro _ _ _ h; exact h) (Or.inl ⟨by rfl, ?_⟩) (by assumption) ?_
    rotate_left
    · (intro w hSw; (try dsimp only at hSw); go_simp; all_goals with_reducible rfl)
    (try simp only [Act.put, List.setIfInBounds_toArray, List.set_cons_zero, List.set_cons_succ])
    refine wpAnyH_take (i := 6) (v := ?_) (by rw [List.getElem?_toArray]; rfl) (by kernel_rfl) (by kernel_rfl) (by kernel_rfl) (by intro _ _ _ h; exact h) (Or.inl ⟨by rfl, ?_⟩) (by assumption) ?_
    rotate_left
    · (intro w hSw; (try dsimp only at hSw); go_simp; all_goals with_reducible rfl)
    (try simp only [Act.put, List.setIfInBounds_toArray, List.set_cons_zero, List.set_cons_succ])
    refine wpAnyH_ready (rs := [7, 11]) (by kernel_rfl) (by simp) ?_
    refine (AllReadyH.cons (by rw [List.getElem?_toArray]; rfl) (fun K hK => ?_) (AllReadyH.cons (by rw [List.getElem?_toArray]; rfl) (fun K hK => ?_) AllReadyH.nil))
    · go_simp
      refine (CB _).mono ?_; rintro e v ⟨rfl, hb⟩; clear a0 a1 a2 a3 a4 a5 a6 a7 a8 b0 b1 b2 b3 b4 r0 r1 r2 r3 r4; (try clear n0 n1 n2 n3 n4); (try clear m0 m1 m2 m3 m4); (replace H := H.below hb); (replace Q := Q.below hb); (replace R := R.below hb); (try (replace N := N.below hb)); (try (replace M := M.below hb)); (replace B := B.trans (hb.mono B.size)); clear hb; obtain ⟨a0, a1, a2, a3, a4, a5, a6, a7, a8⟩ := id H; obtain ⟨b0, b1, b2, b3, b4⟩ := id Q; obtain ⟨r0, r1, r2, r3, r4⟩ := id R; (try (obtain ⟨n0, n1, n2, n3, n4⟩ := id N)); (try (obtain ⟨m0, m1, m2, m3, m4⟩ := id M))
      (try go_wp2_with fail)
      refine hK.out _ _ ?_ (fun hHeld => ?_)
      · simp (maxDischargeDepth := 6) [go_sem, *]
      clear hK K
      (try simp only [Act.put, List.setIfInBounds_toArray, List.set_cons_zero, List.set_cons_succ])
      refine wpAnyH_take (i := 8) (v := ?_) (by rw [List.getElem?_toArray]; rfl) (by kernel_rfl) (by kernel_rfl) (by kernel_rfl) (by intro _ _ _ h; exact h) (Or.inl ⟨by rfl, ?_⟩) (by assumption) ?_
      rotate_left
      · (intro w hSw; (try dsimp only at hSw); go_simp; all_goals with_reducible rfl)
      (try simp only [Act.put, List.setIfInBounds_toArray, List.set_cons_zero, List.set_cons_succ])
      refine wpAnyH_take (i := 9) (v := ?_) (by rw [List.getElem?_toArray]; rfl) (by kernel_rfl) (by kernel_rfl) (by kernel_rfl) (by intro _ _ _ h; exact h) (Or.inl ⟨by rfl, ?_⟩) (by assumption) ?_
      rotate_left
      · (intro w hSw; (try dsimp only at hSw); go_simp; all_goals with_reducible rfl)
      (try simp only [Act.put, List.setIfInBounds_toArray, List.set_cons_zero, List.set_cons_succ])
      refine wpAnyH_take (i := 10) (v := ?_) (by rw [List.getElem?_toArray]; rfl) (by kernel_rfl) (by kernel_rfl) (by kernel_rfl) (by intro _ _ _ h; exact h) (Or.inl ⟨by rfl, ?_⟩) (by assumption) ?_
      rotate_left
      · (intro w hSw; (try dsimp only at hSw); go_simp; all_goals with_reducible rfl)
      (try simp only [Act.put, List.setIfInBounds_toArray, List.set_cons_zero, List.set_cons_succ])
      refine wpAnyH_ready (rs := [11]) (by kernel_rfl) (by simp) ?_
      refine (AllReadyH.cons (by rw [List.getElem?_toArray]; rfl) (fun K hK => ?_) AllReadyH.nil)
      go_simp
      (have N := Bx.new v 0 0 28); (have hj : w.heap.size + 1 < v.heap.size := r0); (try (have hjM : jM < v.heap.size := m0)); clear a0 a1 a2 a3 a4 a5 a6 a7 a8 b0 b1 b2 b3 b4 r0 r1 r2 r3 r4; (try clear n0 n1 n2 n3 n4); (try clear m0 m1 m2 m3 m4); (replace H := H.alloc (.cells #[.int .i64 0, .int .i64 0] 28)); (replace Q := Q.alloc (.cells #[.int .i64 0, .int .i64 0] 28)); (replace R := R.alloc (.cells #[.int .i64 0, .int .i64 0] 28)); (try (replace M := M.alloc (.cells #[.int .i64 0, .int .i64 0] 28))); (replace B := B.alloc B.size (.cells #[.int .i64 0, .int .i64 0] 28)); (generalize v.alloc (.cells #[.int .i64 0, .int .i64 0] 28) = v2 at *); obtain ⟨a0, a1, a2, a3, a4, a5, a6, a7, a8⟩ := id H; obtain ⟨b0, b1, b2, b3, b4⟩ := id Q; obtain ⟨r0, r1, r2, r3, r4⟩ := id R; (try (obtain ⟨n0, n1, n2, n3, n4⟩ := id N)); (try (obtain ⟨m0, m1, m2, m3, m4⟩ := id M))
      refine hK.out _ _ ?_ (fun hHeld => ?_)
      · simp (maxDischargeDepth := 6) [go_sem, *]
      clear hK K
      (try simp only [Act.put, List.setIfInBounds_toArray, List.set_cons_zero, List.set_cons_succ])
      refine wpAnyH_ready (rs := [12]) (by kernel_rfl) (by simp) ?_
      refine (AllReadyH.cons (by rw [List.getElem?_toArray]; rfl) (fun K hK => ?_) AllReadyH.nil)
      go_simp
      refine hK.out _ _ ?_ (fun hHeld => ?_)
      · simp (maxDischargeDepth := 6) [go_sem, *]
      clear hK K
      (try simp only [Act.put, List.setIfInBounds_toArray, List.set_cons_zero, List.set_cons_succ])
      refine wpAnyH_take (i := 13) (v := ?_) (by rw [List.getElem?_toArray]; rfl) (by kernel_rfl) (by kernel_rfl) (by kernel_rfl) (by intro _ _ _ h; exact h) (Or.inl ⟨by rfl, ?_⟩) (by assumption) ?_
      rotate_left
      · (intro w hSw; (try dsimp only at hSw); go_simp; all_goals with_reducible rfl)
      (try simp only [Act.put, List.setIfInBounds_toArray, List.set_cons_zero, List.set_cons_succ])
      refine wpAnyH_done (by kernel_rfl) ?_ _
      go_wp2_with fail
      go_meet
      case rel => exact ⟨_, rfl, rfl, N.setI U D, hj, H.setIO (by omega) U D, Q.setIO (by omega) U D, R.setIO (by omega) U D, Below.setI B (by omega) U D⟩
    · go_simp
      (have N := Bx.new v 0 0 28); (have hj : w.heap.size + 1 < v.heap.size := r0); (try (have hjM : jM < v.heap.size := m0)); clear a0 a1 a2 a3 a4 a5 a6 a7 a8 b0 b1 b2 b3 b4 r0 r1 r2 r3 r4; (try clear n0 n1 n2 n3 n4); (try clear m0 m1 m2 m3 m4); (replace H := H.alloc (.cells #[.int .i64 0, .int .i64 0] 28)); (replace Q := Q.alloc (.cells #[.int .i64 0, .int .i64 0] 28)); (replace R := R.alloc (.cells #[.int .i64 0, .int .i64 0] 28)); (try (replace M := M.alloc (.cells #[.int .i64 0, .int .i64 0] 28))); (replace B := B.alloc B.size (.cells #[.int .i64 0, .int .i64 0] 28)); (generalize v.alloc (.cells #[.int .i64 0, .int .i64 0] 28) = v2 at *); obtain ⟨a0, a1, a2, a3, a4, a5, a6, a7, a8⟩ := id H; obtain ⟨b0, b1, b2, b3, b4⟩ := id Q; obtain ⟨r0, r1, r2, r3, r4⟩ := id R; (try (obtain ⟨n0, n1, n2, n3, n4⟩ := id N)); (try (obtain ⟨m0, m1, m2, m3, m4⟩ := id M))
      refine hK.out _ _ ?_ (fun hHeld => ?_)
      · simp (maxDischargeDepth := 6) [go_sem, *]
      clear hK K
      (try simp only [Act.put, List.setIfInBounds_toArray, List.set_cons_zero, List.set_cons_succ])
      refine wpAnyH_ready (rs := [7]) (by kernel_rfl) (by simp) ?_
      refine (AllReadyH.cons (by rw [List.getElem?_toArray]; rfl) (fun K hK => ?_) AllReadyH.nil)
      go_simp
      refine (CB _).mono ?_; rintro e v ⟨rfl, hb⟩; clear a0 a1 a2 a3 a4 a5 a6 a7 a8 b0 b1 b2 b3 b4 r0 r1 r2 r3 r4; (try clear n0 n1 n2 n3 n4); (try clear m0 m1 m2 m3 m4); (replace H := H.below hb); (replace Q := Q.below hb); (replace R := R.below hb); (try (replace N := N.below hb)); (try (replace M := M.below hb)); (replace B := B.trans (hb.mono B.size)); clear hb; obtain ⟨a0, a1, a2, a3, a4, a5, a6, a7, a8⟩ := id H; obtain ⟨b0, b1, b2, b3, b4⟩ := id Q; obtain ⟨r0, r1, r2, r3, r4⟩ := id R; (try (obtain ⟨n0, n1, n2, n3, n4⟩ := id N)); (try (obtain ⟨m0, m1, m2, m3, m4⟩ := id M))
      (try go_wp2_with fail)
      refine hK.out _ _ ?_ (fun hHeld => ?_)
      · simp (maxDischargeDepth := 6) [go_sem, *]
      clear hK K
      (try simp only [Act.put, List.setIfInBounds_toArray, List.set_cons_zero, List.set_cons_succ])
      refine wpAnyH_take (i := 8) (v := ?_) (by rw [List.getElem?_toArray]; rfl) (by kernel_rfl) (by kernel_rfl) (by kernel_rfl) (by intro _ _ _ h; exact h) (Or.inl ⟨by rfl, ?_⟩) (by assumption) ?_
      rotate_left
      · (intro w hSw; (try dsimp only at hSw); go_simp; all_goals with_reducible rfl)
      (try simp only [Act.put, List.setIfInBounds_toArray, List.set_cons_zero, List.set_cons_succ])
      refine wpAnyH_take (i := 9) (v := ?_) (by rw [List.getElem?_toArray]; rfl) (by kernel_rfl) (by kernel_rfl) (by kernel_rfl) (by intro _ _ _ h; exact h) (Or.inl ⟨by rfl, ?_⟩) (by assumption) ?_
      rotate_left
      · (intro w hSw; (try dsimp only at hSw); go_simp; all_goals with_reducible rfl)
      (try simp only [Act.put, List.setIfInBounds_toArray, List.set_cons_zero, List.set_cons_succ])
      refine wpAnyH_take (i := 10) (v := ?_) (by rw [List.getElem?_toArray]; rfl) (by kernel_rfl) (by kernel_rfl) (by kernel_rfl) (by intro _ _ _ h; exact h) (Or.inl ⟨by rfl, ?_⟩) (by assumption) ?_
      rotate_left
      · (intro w hSw; (try dsimp only at hSw); go_simp; all_goals with_reducible rfl)
      (try simp only [Act.put, List.setIfInBounds_toArray, List.set_cons_zero, List.set_cons_succ])
      refine wpAnyH_ready (rs := [12]) (by kernel_rfl) (by simp) ?_
      refine (AllReadyH.cons (by rw [List.getElem?_toArray]; rfl) (fun K hK => ?_) AllReadyH.nil)
      go_simp
      refine hK.out _ _ ?_ (fun hHeld => ?_)
      · simp (maxDischargeDepth := 6) [go_sem, *]
      clear hK K
      (try simp only [Act.put, List.setIfInBounds_toArray, List.set_cons_zero, List.set_cons_succ])
      refine wpAnyH_take (i := 13) (v := ?_) (by rw [List.getElem?_toArray]; rfl) (by kernel_rfl) (by kernel_rfl) (by kernel_rfl) (by intro _ _ _ h; exact h) (Or.inl ⟨by rfl, ?_⟩) (by assumption) ?_
      rotate_left
      · (intro w hSw; (try dsimp only at hSw); go_simp; all_goals with_reducible rfl)
      (try simp only [Act.put, List.setIfInBounds_toArray, List.set_cons_zero, List.set_cons_succ])
      refine wpAnyH_done (by kernel_rfl) ?_ _
      go_wp2_with fail
      go_meet
      case rel => exact ⟨_, rfl, rfl, N.setI U D, hj, H.setIO (by omega) U D, Q.setIO (by omega) U D, R.setIO (by omega) U D, Below.setI B (by omega) U D⟩
  case rest =>
    obtain ⟨jM, rfl, rfl, M, hjm, H', Q', R', B'⟩ := hcut
    clear H Q R B a0 a1 a2 a3 a4 a5 a6 a7 a8 b0 b1 b2 b3 b4 r0 r1 r2 r3 r4
    have H := H'
    have Q := Q'
    have R := R'
    have B := B'
    clear H' Q' R' B'
    generalize wc = v at *
    obtain ⟨a0, a1, a2, a3, a4, a5, a6, a7, a8⟩ := id H
    obtain ⟨b0, b1, b2, b3, b4⟩ := id Q
    obtain ⟨r0, r1, r2, r3, r4⟩ := id R
    obtain ⟨m0, m1, m2, m3, m4⟩ := id M
    cases bt
    · go_wp2
      exact bodyPost_ret (v := .tuple #[.agg #[.int .i64 0, .int .i64 0], .int .i64 4]) (by simp (maxDischargeDepth := 6) [results, Tryz.results64, go_sem, *]) rfl ⟨by obtain ⟨e1, e2, e3⟩ := F1.out (by simp); rw [e1, e2, e3], by repeat (first | exact B | refine Below.drew ?_ | refine Below.setCell ?_ (by first | (simp; done) | (simp; omega) | omega) _)⟩
    replace CP := CP.out rfl
    go_wp2_with fail
    go_cut [10, 9] (fun s8 s9 wx => ∃ j : Nat, s8 = .pointer (some ⟨j, 0, none⟩) ∧ s9 = .bool pl ∧ Bx wx j X Y ∧ w.heap.size + 1 < j ∧ Bx wx (w.heap.size + 1) 0 0 ∧ Below w.heap.size w wx)
    case first =>
      refine wp_region_held_drew (S := (fun w' => w'.cell? ⟨k, 1, none⟩ = some (.int .i64 lo) ∧ w'.cell? ⟨k, 2, none⟩ = some (.int .i64 hi) ∧ w'.cell? ⟨jM, 0, none⟩ = some (.int .i64 U) ∧ w'.cell? ⟨jM, 1, none⟩ = some (.int .i64 D))) (by kernel_rfl) ?_ (fun hHeld => ?_)
      · simp (maxDischargeDepth := 6) [go_sem, *]
      clear a0 a1 a2 a3 a4 a5 a6 a7 a8 b0 b1 b2 b3 b4 r0 r1 r2 r3 r4; (try clear n0 n1 n2 n3 n4); (try clear m0 m1 m2 m3 m4)
      replace H := H.drew
      replace Q := Q.drew
      replace R := R.drew
      replace B := B.drew
      (try replace M := M.drew)
      generalize v.drew = v at *
      obtain ⟨a0, a1, a2, a3, a4, a5, a6, a7, a8⟩ := id H; obtain ⟨b0, b1, b2, b3, b4⟩ := id Q; obtain ⟨r0, r1, r2, r3, r4⟩ := id R; (try (obtain ⟨n0, n1, n2, n3, n4⟩ := id N)); (try (obtain ⟨m0, m1, m2, m3, m4⟩ := id M))
      refine wpAnyH_take (i := 0) (v := ?_) (by rw [List.getElem?_toArray]; rfl) (by kernel_rfl) (by kernel_rfl) (by kernel_rfl) (by intro _ _ _ h; exact h) (Or.inl ⟨by rfl, ?_⟩) (by assumption) ?_
      rotate_left
      · (intro w hSw; (try dsimp only at hSw); go_simp; all_goals with_reducible rfl)
      (try simp only [Act.put, List.setIfInBounds_toArray, List.set_cons_zero, List.set_cons_succ])
      refine wpAnyH_take (i := 1) (v := ?_) (by rw [List.getElem?_toArray]; rfl) (by kernel_rfl) (by kernel_rfl) (by kernel_rfl) (by intro _ _ _ h; exact h) (Or.inl ⟨by rfl, ?_⟩) (by assumption) ?_
      rotate_left
      · (intro w hSw; (try dsimp only at hSw); go_simp; all_goals with_reducible rfl)
      (try simp only [Act.put, List.setIfInBounds_toArray, List.set_cons_zero, List.set_cons_succ])
      refine wpAnyH_take (i := 2) (v := ?_) (by rw [List.getElem?_toArray]; rfl) (by kernel_rfl) (by kernel_rfl) (by kernel_rfl) (by intro _ _ _ h; exact h) (Or.inl ⟨by rfl, ?_⟩) (by assumption) ?_
      rotate_left
      · (intro w hSw; (try dsimp only at hSw); go_simp; all_goals with_reducible rfl)
      (try simp only [Act.put, List.setIfInBounds_toArray, List.set_cons_zero, List.set_cons_succ])
      refine wpAnyH_take (i := 3) (v := ?_) (by rw [List.getElem?_toArray]; rfl) (by kernel_rfl) (by kernel_rfl) (by kernel_rfl) (by intro _ _ _ h; exact h) (Or.inl ⟨by rfl, ?_⟩) (by assumption) ?_
      rotate_left
      · (intro w hSw; (try dsimp only at hSw); go_simp; all_goals with_reducible rfl)
      (try simp only [Act.put, List.setIfInBounds_toArray, List.set_cons_zero, List.set_cons_succ])
      refine wpAnyH_take (i := 4) (v := ?_) (by rw [List.getElem?_toArray]; rfl) (by kernel_rfl) (by kernel_rfl) (by kernel_rfl) (by intro _ _ _ h; exact h) (Or.inl ⟨by rfl, ?_⟩) (by assumption) ?_
      rotate_left
      · (intro w hSw; (try dsimp only at hSw); go_simp; all_goals with_reducible rfl)
      (try simp only [Act.put, List.setIfInBounds_toArray, List.set_cons_zero, List.set_cons_succ])
      refine wpAnyH_ready (rs := [5, 9]) (by kernel_rfl) (by simp) ?_
      refine (AllReadyH.cons (by rw [List.getElem?_toArray]; rfl) (fun K hK => ?_) (AllReadyH.cons (by rw [List.getElem?_toArray]; rfl) (fun K hK => ?_) AllReadyH.nil))
      · go_simp
        refine (CP _).mono ?_; rintro e v ⟨rfl, hb⟩; clear a0 a1 a2 a3 a4 a5 a6 a7 a8 b0 b1 b2 b3 b4 r0 r1 r2 r3 r4; (try clear n0 n1 n2 n3 n4); (try clear m0 m1 m2 m3 m4); (replace H := H.below hb); (replace Q := Q.below hb); (replace R := R.below hb); (try (replace N := N.below hb)); (try (replace M := M.below hb)); (replace B := B.trans (hb.mono B.size)); clear hb; obtain ⟨a0, a1, a2, a3, a4, a5, a6, a7, a8⟩ := id H; obtain ⟨b0, b1, b2, b3, b4⟩ := id Q; obtain ⟨r0, r1, r2, r3, r4⟩ := id R; (try (obtain ⟨n0, n1, n2, n3, n4⟩ := id N)); (try (obtain ⟨m0, m1, m2, m3, m4⟩ := id M))
        (try go_wp2_with fail)
        refine hK.out _ _ ?_ (fun hHeld => ?_)
        · simp (maxDischargeDepth := 6) [go_sem, *]
        clear hK K
        (try simp only [Act.put, List.setIfInBounds_toArray, List.set_cons_zero, List.set_cons_succ])
        refine wpAnyH_take (i := 6) (v := ?_) (by rw [List.getElem?_toArray]; rfl) (by kernel_rfl) (by kernel_rfl) (by kernel_rfl) (by intro _ _ _ h; exact h) (Or.inl ⟨by rfl, ?_⟩) (by assumption) ?_
        rotate_left
        · (intro w hSw; (try dsimp only at hSw); go_simp; all_goals with_reducible rfl)
        (try simp only [Act.put, List.setIfInBounds_toArray, List.set_cons_zero, List.set_cons_succ])
        refine wpAnyH_take (i := 7) (v := ?_) (by rw [List.getElem?_toArray]; rfl) (by kernel_rfl) (by kernel_rfl) (by kernel_rfl) (by intro _ _ _ h; exact h) (Or.inl ⟨by rfl, ?_⟩) (by assumption) ?_
        rotate_left
        · (intro w hSw; (try dsimp only at hSw); go_simp; all_goals with_reducible rfl)
        (try simp only [Act.put, List.setIfInBounds_toArray, List.set_cons_zero, List.set_cons_succ])
        refine wpAnyH_take (i := 8) (v := ?_) (by rw [List.getElem?_toArray]; rfl) (by kernel_rfl) (by kernel_rfl) (by kernel_rfl) (by intro _ _ _ h; exact h) (Or.inl ⟨by rfl, ?_⟩) (by assumption) ?_
        rotate_left
        · (intro w hSw; (try dsimp only at hSw); go_simp; all_goals with_reducible rfl)
        (try simp only [Act.put, List.setIfInBounds_toArray, List.set_cons_zero, List.set_cons_succ])
        refine wpAnyH_ready (rs := [9]) (by kernel_rfl) (by simp) ?_
        refine (AllReadyH.cons (by rw [List.getElem?_toArray]; rfl) (fun K hK => ?_) AllReadyH.nil)
        go_simp
        (have N := Bx.new v 0 0 28); (have hj : w.heap.size + 1 < v.heap.size := r0); (try (have hjM : jM < v.heap.size := m0)); clear a0 a1 a2 a3 a4 a5 a6 a7 a8 b0 b1 b2 b3 b4 r0 r1 r2 r3 r4; (try clear n0 n1 n2 n3 n4); (try clear m0 m1 m2 m3 m4); (replace H := H.alloc (.cells #[.int .i64 0, .int .i64 0] 28)); (replace Q := Q.alloc (.cells #[.int .i64 0, .int .i64 0] 28)); (replace R := R.alloc (.cells #[.int .i64 0, .int .i64 0] 28)); (try (replace M := M.alloc (.cells #[.int .i64 0, .int .i64 0] 28))); (replace B := B.alloc B.size (.cells #[.int .i64 0, .int .i64 0] 28)); (generalize v.alloc (.cells #[.int .i64 0, .int .i64 0] 28) = v2 at *); obtain ⟨a0, a1, a2, a3, a4, a5, a6, a7, a8⟩ := id H; obtain ⟨b0, b1, b2, b3, b4⟩ := id Q; obtain ⟨r0, r1, r2, r3, r4⟩ := id R; (try (obtain ⟨n0, n1, n2, n3, n4⟩ := id N)); (try (obtain ⟨m0, m1, m2, m3, m4⟩ := id M))
        refine hK.out _ _ ?_ (fun hHeld => ?_)
        · simp (maxDischargeDepth := 6) [go_sem, *]
        clear hK K
        (try simp only [Act.put, List.setIfInBounds_toArray, List.set_cons_zero, List.set_cons_succ])
        refine wpAnyH_ready (rs := [10]) (by kernel_rfl) (by simp) ?_
        refine (AllReadyH.cons (by rw [List.getElem?_toArray]; rfl) (fun K hK => ?_) AllReadyH.nil)
        go_simp
        refine hK.out _ _ ?_ (fun hHeld => ?_)
        · simp (maxDischargeDepth := 6) [go_sem, *]
        clear hK K
        (try simp only [Act.put, List.setIfInBounds_toArray, List.set_cons_zero, List.set_cons_succ])
        refine wpAnyH_take (i := 11) (v := ?_) (by rw [List.getElem?_toArray]; rfl) (by kernel_rfl) (by kernel_rfl) (by kernel_rfl) (by intro _ _ _ h; exact h) (Or.inl ⟨by rfl, ?_⟩) (by assumption) ?_
        rotate_left
        · (intro w hSw; (try dsimp only at hSw); go_simp; all_goals with_reducible rfl)
        (try simp only [Act.put, List.setIfInBounds_toArray, List.set_cons_zero, List.set_cons_succ])
        refine wpAnyH_done (by kernel_rfl) ?_ _
        go_wp2_with fail
        go_meet
        case rel => exact ⟨_, rfl, rfl, N.setI X Y, hj, R.setIO (by omega) X Y, Below.setI B (by omega) X Y⟩
      · go_simp
        (have N := Bx.new v 0 0 28); (have hj : w.heap.size + 1 < v.heap.size := r0); (try (have hjM : jM < v.heap.size := m0)); clear a0 a1 a2 a3 a4 a5 a6 a7 a8 b0 b1 b2 b3 b4 r0 r1 r2 r3 r4; (try clear n0 n1 n2 n3 n4); (try clear m0 m1 m2 m3 m4); (replace H := H.alloc (.cells #[.int .i64 0, .int .i64 0] 28)); (replace Q := Q.alloc (.cells #[.int .i64 0, .int .i64 0] 28)); (replace R := R.alloc (.cells #[.int .i64 0, .int .i64 0] 28)); (try (replace M := M.alloc (.cells #[.int .i64 0, .int .i64 0] 28))); (replace B := B.alloc B.size (.cells #[.int .i64 0, .int .i64 0] 28)); (generalize v.alloc (.cells #[.int .i64 0, .int .i64 0] 28) = v2 at *); obtain ⟨a0, a1, a2, a3, a4, a5, a6, a7, a8⟩ := id H; obtain ⟨b0, b1, b2, b3, b4⟩ := id Q; obtain ⟨r0, r1, r2, r3, r4⟩ := id R; (try (obtain ⟨n0, n1, n2, n3, n4⟩ := id N)); (try (obtain ⟨m0, m1, m2, m3, m4⟩ := id M))
        refine hK.out _ _ ?_ (fun hHeld => ?_)
        · simp (maxDischargeDepth := 6) [go_sem, *]
        clear hK K
        (try simp only [Act.put, List.setIfInBounds_toArray, List.set_cons_zero, List.set_cons_succ])
        refine wpAnyH_ready (rs := [5]) (by kernel_rfl) (by simp) ?_
        refine (AllReadyH.cons (by rw [List.getElem?_toArray]; rfl) (fun K hK => ?_) AllReadyH.nil)
        go_simp
        refine (CP _).mono ?_; rintro e v ⟨rfl, hb⟩; clear a0 a1 a2 a3 a4 a5 a6 a7 a8 b0 b1 b2 b3 b4 r0 r1 r2 r3 r4; (try clear n0 n1 n2 n3 n4); (try clear m0 m1 m2 m3 m4); (replace H := H.below hb); (replace Q := Q.below hb); (replace R := R.below hb); (try (replace N := N.below hb)); (try (replace M := M.below hb)); (replace B := B.trans (hb.mono B.size)); clear hb; obtain ⟨a0, a1, a2, a3, a4, a5, a6, a7, a8⟩ := id H; obtain ⟨b0, b1, b2, b3, b4⟩ := id Q; obtain ⟨r0, r1, r2, r3, r4⟩ := id R; (try (obtain ⟨n0, n1, n2, n3, n4⟩ := id N)); (try (obtain ⟨m0, m1, m2, m3, m4⟩ := id M))
        (try go_wp2_with fail)
        refine hK.out _ _ ?_ (fun hHeld => ?_)
        · simp (maxDischargeDepth := 6) [go_sem, *]
        clear hK K
        (try simp only [Act.put, List.setIfInBounds_toArray, List.set_cons_zero, List.set_cons_succ])
        refine wpAnyH_take (i := 6) (v := ?_) (by rw [List.getElem?_toArray]; rfl) (by kernel_rfl) (by kernel_rfl) (by kernel_rfl) (by intro _ _ _ h; exact h) (Or.inl ⟨by rfl, ?_⟩) (by assumption) ?_
        rotate_left
        · (intro w hSw; (try dsimp only at hSw); go_simp; all_goals with_reducible rfl)
        (try simp only [Act.put, List.setIfInBounds_toArray, List.set_cons_zero, List.set_cons_succ])
        refine wpAnyH_take (i := 7) (v := ?_) (by rw [List.getElem?_toArray]; rfl) (by kernel_rfl) (by kernel_rfl) (by kernel_rfl) (by intro _ _ _ h; exact h) (Or.inl ⟨by rfl, ?_⟩) (by assumption) ?_
        rotate_left
        · (intro w hSw; (try dsimp only at hSw); go_simp; all_goals with_reducible rfl)
        (try simp only [Act.put, List.setIfInBounds_toArray, List.set_cons_zero, List.set_cons_succ])
        refine wpAnyH_take (i := 8) (v := ?_) (by rw [List.getElem?_toArray]; rfl) (by kernel_rfl) (by kernel_rfl) (by kernel_rfl) (by intro _ _ _ h; exact h) (Or.inl ⟨by rfl, ?_⟩) (by assumption) ?_
        rotate_left
        · (intro w hSw; (try dsimp only at hSw); go_simp; all_goals with_reducible rfl)
        (try simp only [Act.put, List.setIfInBounds_toArray, List.set_cons_zero, List.set_cons_succ])
        refine wpAnyH_ready (rs := [10]) (by kernel_rfl) (by simp) ?_
        refine (AllReadyH.cons (by rw [List.getElem?_toArray]; rfl) (fun K hK => ?_) AllReadyH.nil)
        go_simp
        refine hK.out _ _ ?_ (fun hHeld => ?_)
        · simp (maxDischargeDepth := 6) [go_sem, *]
        clear hK K
        (try simp only [Act.put, List.setIfInBounds_toArray, List.set_cons_zero, List.set_cons_succ])
        refine wpAnyH_take (i := 11) (v := ?_) (by rw [List.getElem?_toArray]; rfl) (by kernel_rfl) (by kernel_rfl) (by kernel_rfl) (by intro _ _ _ h; exact h) (Or.inl ⟨by rfl, ?_⟩) (by assumption) ?_
        rotate_left
        · (intro w hSw; (try dsimp only at hSw); go_simp; all_goals with_reducible rfl)
        (try simp only [Act.put, List.setIfInBounds_toArray, List.set_cons_zero, List.set_cons_succ])
        refine wpAnyH_done (by kernel_rfl) ?_ _
        go_wp2_with fail
        go_meet
        case rel => exact ⟨_, rfl, rfl, N.setI X Y, hj, R.setIO (by omega) X Y, Below.setI B (by omega) X Y⟩
    case rest =>
      obtain ⟨jN, rfl, rfl, N, hjn, R', B'⟩ := hcut
      clear H Q R B M a0 a1 a2 a3 a4 a5 a6 a7 a8 b0 b1 b2 b3 b4 r0 r1 r2 r3 r4 m0 m1 m2 m3 m4 hjm CP CB
      obtain ⟨r0, r1, r2, r3, r4⟩ := id R'
      obtain ⟨n0, n1, n2, n3, n4⟩ := id N
      cases pl
      · go_wp2
        exact bodyPost_ret (v := .tuple #[.agg #[.int .i64 0, .int .i64 0], .int .i64 4]) (by simp (maxDischargeDepth := 6) [results, Tryz.results64, go_sem, *]) rfl ⟨by obtain ⟨e1, e2, e3⟩ := F2.out (by simp) (by simp); rw [e1, e2, e3], by repeat (first | exact B' | refine Below.drew ?_ | refine Below.setCell ?_ (by first | (simp; done) | (simp; omega) | omega) _)⟩
      go_wp2
      exact bodyPost_ret (v := .tuple #[.agg #[.int .i64 X, .int .i64 Y], .int .i64 0]) (by simp (maxDischargeDepth := 6) [results, Tryz.results64, go_sem, *]) rfl ⟨by obtain ⟨e1, e2, e3⟩ := F3.out (by simp) (by simp); rw [e1, e2, e3], by repeat (first | exact B' | refine Below.drew ?_ | refine Below.setCell ?_ (by first | (simp; done) | (simp; omega) | omega) _)⟩
set_option maxHeartbeats 2000000 in
theorem implCarryOn_any (kn : Bool) (lo hi a n d c : Int) (w : World) :
    Calls Tryz.prog 53 #[.agg #[.bool kn, .int .i64 lo, .int .i64 hi, .int .i64 a], .agg #[.int .i64 n, .int .i64 d], .int .i64 c] w fun e w' => e = .returned (.tuple #[.agg #[.int .i64 (crL kn lo hi a n d c), .int .i64 (crH kn lo hi a n d c)], .int .i64 (crC kn lo hi a n d c)]) ∧ Below w.heap.size w w' := by
  have B : Below w.heap.size w (((w.alloc (.cells #[.bool kn, .int .i64 lo, .int .i64 hi, .int .i64 a] 65)).alloc (.cells #[.int .i64 n, .int .i64 d] 26)).alloc (.cells #[.int .i64 0, .int .i64 0] 28)) := ((Below.alc _ _).alloc (by first | (simp; done) | (simp; omega) | omega) _).alloc (by first | (simp; done) | (simp; omega) | omega) _
  have H := ((BoxL.new w kn lo hi a 65).alloc (.cells #[.int .i64 n, .int .i64 d] 26)).alloc (.cells #[.int .i64 0, .int .i64 0] 28)
  have R := Bx.new ((w.alloc (.cells #[.bool kn, .int .i64 lo, .int .i64 hi, .int .i64 a] 65)).alloc (.cells #[.int .i64 n, .int .i64 d] 26)) 0 0 28
  simp only [World.size_alloc] at R
  have CC := fun v H' => carry_any w.heap.size kn lo hi a n d c v H'
  generalize crL kn lo hi a n d c = X at *
  generalize crH kn lo hi a n d c = Y at *
  generalize crC kn lo hi a n d c = Z at *
  go_enter Tryz.func53, Tryz.ntmps53
  go_wp2_with fail
  refine (CC _ H).mono ?_
  rintro e v ⟨rfl, hb⟩
  replace B := B.trans (hb.mono B.size)
  obtain ⟨r0, r1, r2, r3, r4⟩ := R.below hb
  clear hb H R CC
  go_wp2
  exact bodyPost_ret (v := .tuple #[.agg #[.int .i64 X, .int .i64 Y], .int .i64 Z]) (by simp (maxDischargeDepth := 6) [results, Tryz.results53, go_sem, *]) rfl ⟨rfl, by repeat (first | exact B | refine Below.drew ?_ | refine Below.setCell ?_ (by first | (simp; done) | (simp; omega) | omega) _)⟩
end Go.Proofs.YtkeijldfblgeaaaGreat
namespace Go.Proofs.YtkeijldfblgeaaaGreat
open Go.RowKit
set_option linter.unusedVariables false
theorem cr_zero {kn : Bool} {lo hi a n d c : Int} (h : crC kn lo hi a n d c ≠ 0) : crL kn lo hi a n d c = 0 ∧ crH kn lo hi a n d c = 0 := by
  simp [crL, crH, h]
theorem cr_cases (kn : Bool) (lo hi a n d c : Int) : (crP kn lo hi a n d c = false ∧ crC kn lo hi a n d c = 1) ∨ (crP kn lo hi a n d c = true ∧ kn = false ∧ crC kn lo hi a n d c = 2) ∨ (crP kn lo hi a n d c = true ∧ kn = true ∧ (crC kn lo hi a n d c = 3 ∨ crC kn lo hi a n d c = 4 ∨ crC kn lo hi a n d c = 0)) := by
  cases hp : crP kn lo hi a n d c
  · exact .inl ⟨rfl, (crC_1 hp).1⟩
  cases kn
  · exact .inr (.inl ⟨rfl, rfl, (crC_2 hp).1⟩)
  refine .inr (.inr ⟨rfl, rfl, ?_⟩)
  by_cases h4 : c < a
  · exact .inl (crC_3 hp h4).1
  cases h5 : btB n d (c - a)
  · exact .inr (.inl (crC_4 hp h4 h5).1)
  cases h6 : plusB lo hi (upI ((c - a) * d) (d + n)) (dnI ((c - a) * d) (d - n))
  · exact .inr (.inl (crC_5 hp h4 h5 h6).1)
  · exact .inr (.inr (crC_0 hp h4 h5 h6).1)
theorem cr_ok {lo hi a n d c : Int} {kn : Bool} (h : crC kn lo hi a n d c = 0) : kn = true ∧ okT c = true ∧ okI (crL kn lo hi a n d c) (crH kn lo hi a n d c) = true := by
  rcases cr_cases kn lo hi a n d c with ⟨_, e⟩ | ⟨_, _, e⟩ | ⟨hp, hk, _⟩
  · rw [e] at h; exact absurd h (by decide)
  · rw [e] at h; exact absurd h (by decide)
  subst hk
  have p4 := (crP_p hp).2.2.2
  refine ⟨rfl, p4, ?_⟩
  by_cases h4 : c < a
  · rw [(crC_3 hp h4).1] at h; exact absurd h (by decide)
  cases h5 : btB n d (c - a)
  · rw [(crC_4 hp h4 h5).1] at h; exact absurd h (by decide)
  cases h6 : plusB lo hi (upI ((c - a) * d) (d + n)) (dnI ((c - a) * d) (d - n))
  · rw [(crC_5 hp h4 h5 h6).1] at h; exact absurd h (by decide)
  · obtain ⟨_, e2, e3⟩ := crC_0 hp h4 h5 h6
    rw [e2, e3]; unfold plusB at h6; simp at h6; exact h6.2
def rbB (kn : Bool) (lo hi a n d c : Int) : Bool := decide (crC kn lo hi a n d c = 0)
set_option maxHeartbeats 1000000 in
theorem knownAt_any (lo hi c : Int) (w : World) :
    Calls Tryz.prog 54 #[.agg #[.int .i64 lo, .int .i64 hi], .int .i64 c] w fun e w' => e = .returned (.agg #[.bool true, .int .i64 lo, .int .i64 hi, .int .i64 c]) ∧ Below w.heap.size w w' := by
  go_enter Tryz.func54, Tryz.ntmps54
  go_wp2
  exact bodyPost_ret (v := .agg #[.bool true, .int .i64 lo, .int .i64 hi, .int .i64 c]) (by simp (maxDischargeDepth := 6) [results, Tryz.results54, go_sem, *]) rfl ⟨rfl, by repeat (first | exact Below.refl _ _ | refine Below.drew ?_ | refine Below.alloc ?_ (by first | (simp; done) | (simp; omega) | omega) _ | refine Below.setCell ?_ (by first | (simp; done) | (simp; omega) | omega) _ | refine Below.trans ?_ (Below.mono (by assumption) (by first | (simp; done) | (simp; omega) | omega)))⟩
def lnB (lo hi c : Int) : Bool := okL true lo hi c
end Go.Proofs.YtkeijldfblgeaaaGreat
namespace Go.Proofs.YtkeijldfblgeaaaGreat
open Go.RowKit
set_option linter.unusedVariables false
abbrev CT : Type := Int × Int × Int
def cV (e : CT) : VT := (e.2.1, e.2.2)
def cI (e : CT) : Int := e.1
def crA (p : PT) (n d x : Int) : Int := crC true p.2.1 p.2.2.1 p.2.2.2.1 n d x
def crE (p : PT) (n d x : Int) : CT := (p.1, crL true p.2.1 p.2.2.1 p.2.2.2.1 n d x, crH true p.2.1 p.2.2.1 p.2.2.2.1 n d x)
def caK (M : Nat → PT) (n d x : Int) (Fr : List Int) : Nat → List CT
  | 0 => []
  | k + 1 => if crA (M (gI Fr k).toNat) n d x = 0 then caK M n d x Fr k ++ [crE (M (gI Fr k).toNat) n d x] else caK M n d x Fr k
theorem caK_yes {M : Nat → PT} {n d x : Int} {Fr : List Int} {k : Nat} (h : crA (M (gI Fr k).toNat) n d x = 0) : caK M n d x Fr (k + 1) = caK M n d x Fr k ++ [crE (M (gI Fr k).toNat) n d x] := by simp [caK, h]
theorem caK_no {M : Nat → PT} {n d x : Int} {Fr : List Int} {k : Nat} (h : crA (M (gI Fr k).toNat) n d x ≠ 0) : caK M n d x Fr (k + 1) = caK M n d x Fr k := by simp [caK, h]
theorem caK_len (M : Nat → PT) (n d x : Int) (Fr : List Int) : ∀ k, (caK M n d x Fr k).length ≤ k
  | 0 => Nat.le_refl _
  | k + 1 => by have := caK_len M n d x Fr k; simp only [caK]; split <;> simp <;> omega
def caL (M : Nat → PT) (m : Nat) (n d x y : Int) : List CT := caK M n d x (frL M m x y) (frL M m x y).length
theorem caL_len (M : Nat → PT) (m : Nat) (n d x y : Int) : (caL M m n d x y).length ≤ 9 := by
  have h1 := PeersFresh_len M m x y
  have h2 := caK_len M n d x (frL M m x y) (frL M m x y).length
  unfold caL
  omega
theorem PeersCarried_len0 (M : Nat → PT) (m : Nat) (n d x y : Int) : ((caL M m n d x y).map cV).length ≤ 9 := by rw [List.length_map]; exact caL_len M m n d x y
theorem PeersCarried_len1 (M : Nat → PT) (m : Nat) (n d x y : Int) : ((caL M m n d x y).map cI).length ≤ 9 := by rw [List.length_map]; exact caL_len M m n d x y
theorem frs_mem {M : Nat → PT} {x y : Int} : ∀ {m : Nat} {z : Int}, z ∈ frs M x y m → ∃ P : Nat, z = (P : Int) ∧ P < m
  | 0, z, h => by simp [frs] at h
  | m + 1, z, h => by
    simp only [frs] at h
    split at h
    · rw [List.mem_append] at h
      rcases h with h | h
      · obtain ⟨P, h1, h2⟩ := frs_mem h
        exact ⟨P, h1, by omega⟩
      · simp at h
        exact ⟨m, h, by omega⟩
    · obtain ⟨P, h1, h2⟩ := frs_mem h
      exact ⟨P, h1, by omega⟩
theorem frL_place {M : Nat → PT} {m : Nat} {x y : Int} {k : Nat} (hk : k < (frL M m x y).length) : ∃ P : Nat, gI (frL M m x y) k = (P : Int) ∧ P < m := by
  have hm : gI (frL M m x y) k ∈ frL M m x y := by
    rw [gI, List.getD_eq_getElem?_getD, List.getElem?_eq_getElem hk]
    exact List.getElem_mem hk
  generalize gI (frL M m x y) k = z at *
  unfold frL at hm
  split at hm
  · exact frs_mem hm
  · simp at hm
/- The state of the loop: the drift in its box, and three rows apart: the places, the bounds, the Ids. -/
def ApR (u v : Value) : Prop := ∀ g, u.ownBlock = some g → v.ownBlock ≠ some g
def CaSt (w : World) (n d : Int) (vf : Value) (Fr : List Int) (KV : List VT) (KI : List Int) (vo vi : Value) (wr : World) : Prop :=
  Bx2 wr w.heap.size (.int .i64 n) (.int .i64 d) ∧ wr.ownsRow (w.heap.size + 1) 3 1 vf Fr.length (irow Fr) ∧ wr.ownsRow (w.heap.size + 1) 28 2 vo KV.length (vrow KV) ∧ wr.ownsRow (w.heap.size + 1) 3 1 vi KI.length (irow KI) ∧ ApR vf vo ∧ ApR vf vi ∧ ApR vo vi ∧ Below w.heap.size w wr
theorem CaSt.below {w : World} {n d : Int} {vf : Value} {Fr : List Int} {KV : List VT} {KI : List Int} {vo vi : Value} {wr wr' : World} (h : CaSt w n d vf Fr KV KI vo vi wr) (hb : Below wr.heap.size wr wr') : CaSt w n d vf Fr KV KI vo vi wr' := by
  obtain ⟨h1, h2, h3, h4, h5, h6, h7, h8⟩ := h
  exact ⟨h1.below hb, own_belK' h2 hb, own_belK' h3 hb, own_belK' h4 hb, h5, h6, h7, h8.trans (hb.mono h8.size)⟩
theorem CaSt.drew {w : World} {n d : Int} {vf : Value} {Fr : List Int} {KV : List VT} {KI : List Int} {vo vi : Value} {wr : World} (h : CaSt w n d vf Fr KV KI vo vi wr) : CaSt w n d vf Fr KV KI vo vi wr.drew := by
  obtain ⟨h1, h2, h3, h4, h5, h6, h7, h8⟩ := h
  exact ⟨h1, h2, h3, h4, h5, h6, h7, Below.drew h8⟩
theorem kept_ne {w w' : World} {base s m j : Nat} {T : TypeId} {v : Value} {xs : List Value} (h : w.ownsRow base T s v m xs) (hb : But j w w') (hj : ∀ g, v.ownBlock = some g → g < j) : w'.ownsRow base T s v m xs :=
  World.ownsRow.kept h hb.grK (ne_blk fun g hg e => by have := hj g hg; omega)
theorem CaSt.lts {w : World} {n d : Int} {vf : Value} {Fr : List Int} {KV : List VT} {KI : List Int} {vo vi : Value} {wr : World} (h : CaSt w n d vf Fr KV KI vo vi wr) : w.heap.size < wr.heap.size ∧ (∀ g, vf.ownBlock = some g → g < wr.heap.size) ∧ (∀ g, vo.ownBlock = some g → g < wr.heap.size) ∧ (∀ g, vi.ownBlock = some g → g < wr.heap.size) :=
  ⟨h.1.1, fun g hg => (World.ownsRow.lt h.2.1 g hg).2, fun g hg => (World.ownsRow.lt h.2.2.1 g hg).2, fun g hg => (World.ownsRow.lt h.2.2.2.1 g hg).2⟩
theorem CaSt.but {w : World} {n d : Int} {vf : Value} {Fr : List Int} {KV : List VT} {KI : List Int} {vo vi : Value} {wr wr' : World} {j : Nat} (h : CaSt w n d vf Fr KV KI vo vi wr) (hb : But j wr wr') (hj : w.heap.size < j ∧ (∀ g, vf.ownBlock = some g → g < j) ∧ (∀ g, vo.ownBlock = some g → g < j) ∧ (∀ g, vi.ownBlock = some g → g < j)) : CaSt w n d vf Fr KV KI vo vi wr' := by
  obtain ⟨h1, h2, h3, h4, h5, h6, h7, h8⟩ := h
  exact ⟨h1.but hb (by omega), kept_ne h2 hb hj.2.1, kept_ne h3 hb hj.2.2.1, kept_ne h4 hb hj.2.2.2, h5, h6, h7, h8.trans (hb.below (by omega) h8.size)⟩
theorem ApR.ne {u v : Value} (h : ApR u v) : v.ownBlock = none ∨ v.ownBlock ≠ u.ownBlock := ne_own h
theorem ApR.ne' {u v : Value} (h : ApR u v) : u.ownBlock = none ∨ u.ownBlock ≠ v.ownBlock := ne_own (fun g a b => h g b a)
theorem ApR.grow {u v v' : Value} {b : Nat} (h : ApR u v) (hn : ∀ g, v'.ownBlock = some g → v.ownBlock = some g ∨ b ≤ g) (hu : ∀ g, u.ownBlock = some g → g < b) : ApR u v' := fun g hg hg' => by
  rcases hn g hg' with q | q
  · exact h g hg q
  · have := hu g hg; omega
theorem ApR.grow' {u u' v : Value} {b : Nat} (h : ApR u v) (hn : ∀ g, u'.ownBlock = some g → u.ownBlock = some g ∨ b ≤ g) (hv : ∀ g, v.ownBlock = some g → g < b) : ApR u' v := fun g hg hg' => by
  rcases hn g hg with q | q
  · exact h g q hg'
  · have := hv g hg'; omega
theorem CaSt.addV {w : World} {n d : Int} {vf : Value} {Fr : List Int} {KV KV' : List VT} {KI : List Int} {vo vi v' : Value} {wr w9 : World} (h : CaSt w n d vf Fr KV KI vo vi wr) (O9 : w9.ownsRow (w.heap.size + 1) 28 2 v' KV'.length (vrow KV')) (hg : wr.grownBy w9 vo.ownBlock) (hn : ∀ g, v'.ownBlock = some g → vo.ownBlock = some g ∨ wr.heap.size ≤ g) : CaSt w n d vf Fr KV' KI v' vi w9 := by
  have hl := h.lts
  obtain ⟨h1, h2, h3, h4, h5, h6, h7, h8⟩ := h
  have hb1 : some w.heap.size ≠ vo.ownBlock := fun e => by have := (World.ownsRow.lt h3 _ e.symm).1; omega
  exact ⟨h1.kept hg hb1, World.ownsRow.kept h2 hg h5.ne', O9, World.ownsRow.kept h4 hg h7.ne, h5.grow hn hl.2.1, h6, h7.grow' hn hl.2.2.2, h8.trans ((grown_belowK h3 hg (by omega)).mono (by omega))⟩
theorem CaSt.addI {w : World} {n d : Int} {vf : Value} {Fr : List Int} {KV : List VT} {KI KI' : List Int} {vo vi v' : Value} {wr w9 : World} (h : CaSt w n d vf Fr KV KI vo vi wr) (O9 : w9.ownsRow (w.heap.size + 1) 3 1 v' KI'.length (irow KI')) (hg : wr.grownBy w9 vi.ownBlock) (hn : ∀ g, v'.ownBlock = some g → vi.ownBlock = some g ∨ wr.heap.size ≤ g) : CaSt w n d vf Fr KV KI' vo v' w9 := by
  have hl := h.lts
  obtain ⟨h1, h2, h3, h4, h5, h6, h7, h8⟩ := h
  have hb1 : some w.heap.size ≠ vi.ownBlock := fun e => by have := (World.ownsRow.lt h4 _ e.symm).1; omega
  exact ⟨h1.kept hg hb1, World.ownsRow.kept h2 hg h6.ne', World.ownsRow.kept h3 hg h7.ne', O9, h5, h6.grow hn hl.2.1, h7.grow hn hl.2.2.1, h8.trans ((grown_belowK h4 hg (by omega)).mono (by omega))⟩
theorem CaSt.place {w : World} {n d : Int} {Fr : List Int} {KV : List VT} {KI : List Int} {vf vo vi : Value} {wr : World} (h : CaSt w n d vf Fr KV KI vo vi wr) {k : Nat} (hk : k < Fr.length) : ∃ b c, vf = .slice (some ⟨b, 0, none⟩) Fr.length c ∧ b < wr.heap.size ∧ wr.cell? ⟨b, k, none⟩ = some (.int .i64 (gI Fr k)) := by
  rcases h.2.1.2 with ⟨_, h0⟩ | ⟨g, cap, cur, rfl, h1, h2, h3, h4, h5, h6⟩
  · omega
  · have hc := World.ownsRow.cellAt h.2.1 k (by omega)
    refine ⟨g, cap, rfl, (World.ownsRow.lt h.2.1 g rfl).2, ?_⟩
    rw [hc]
    simp [irow, MFInt, hk]
end Go.Proofs.YtkeijldfblgeaaaGreat
namespace Go.Proofs.YtkeijldfblgeaaaGreat
open Go.RowKit
set_option linter.unusedVariables false
theorem Bx2.two {w : World} {j : Nat} {u v : Value} (h : Bx2 w j u v) (a b : Value) : Bx2 ((w.setCell ⟨j, 0, none⟩ a).setCell ⟨j, 1, none⟩ b) j a b := (h.set0 a).set1 b
set_option maxRecDepth 100000 in
set_option maxHeartbeats 8000000 in
theorem carried_any (x0 x1 x2 x3 : Int) (x4 : Bool) (n d x : Int) (w : World) :
    Calls Tryz.prog 40 #[.agg #[.int .i64 x0, .int .i64 x1, .int .i64 x2, .int .i64 x3, .bool x4], .agg #[.int .i64 n, .int .i64 d], .int .i64 x] w fun e w' => e = .returned (.tuple #[.agg #[.int .i64 (crL true x1 x2 x3 n d x), .int .i64 (crH true x1 x2 x3 n d x)], .bool (crC true x1 x2 x3 n d x == 0)]) ∧ Below w.heap.size w w' := by
  have CB := fun v => implCarryOn_any true x1 x2 x3 n d x v
  generalize crL true x1 x2 x3 n d x = U at *
  generalize crH true x1 x2 x3 n d x = D at *
  generalize crC true x1 x2 x3 n d x = C at *
  have P := ((Bx5.new w (.int .i64 x0) (.int .i64 x1) (.int .i64 x2) (.int .i64 x3) (.bool x4) 35).alloc (.cells #[.int .i64 n, .int .i64 d] 26)).alloc (.cells #[.int .i64 0, .int .i64 0] 28)
  have Q := (Bx2.new (w.alloc (.cells #[.int .i64 x0, .int .i64 x1, .int .i64 x2, .int .i64 x3, .bool x4] 35)) (.int .i64 n) (.int .i64 d) 26).alloc (.cells #[.int .i64 0, .int .i64 0] 28)
  have R := Bx2.new ((w.alloc (.cells #[.int .i64 x0, .int .i64 x1, .int .i64 x2, .int .i64 x3, .bool x4] 35)).alloc (.cells #[.int .i64 n, .int .i64 d] 26)) (.int .i64 0) (.int .i64 0) 28
  simp only [World.size_alloc] at Q R
  have B := ((Below.nw w (.cells #[.int .i64 x0, .int .i64 x1, .int .i64 x2, .int .i64 x3, .bool x4] 35)).alloc (by simp) (.cells #[.int .i64 n, .int .i64 d] 26)).alloc (by simp; omega) (.cells #[.int .i64 0, .int .i64 0] 28)
  go_enter Tryz.func40, Tryz.ntmps40
  go_upto_region 1 with fail
  generalize ((w.alloc (.cells #[.int .i64 x0, .int .i64 x1, .int .i64 x2, .int .i64 x3, .bool x4] 35)).alloc (.cells #[.int .i64 n, .int .i64 d] 26)).alloc (.cells #[.int .i64 0, .int .i64 0] 28) = v at *
  obtain ⟨a0, a1, a2, a3, a4, a5, a6, a7, a8, a9, b1⟩ := id P; obtain ⟨q0, q1, q2, q3, q4⟩ := id Q; obtain ⟨r0, r1, r2, r3, r4⟩ := id R; (try (obtain ⟨n0, n1, n2, n3, n4⟩ := id N))
  go_cut [8, 9] (fun s8 s9 wx => ∃ j : Nat, s8 = .pointer (some ⟨j, 0, none⟩) ∧ s9 = .int .i64 C ∧ Bx2 wx j (.int .i64 U) (.int .i64 D) ∧ w.heap.size + 2 < j ∧ Bx2 wx (w.heap.size + 2) (.int .i64 0) (.int .i64 0) ∧ Below w.heap.size w wx)
  case first =>
    refine wp_region_held_drew (S := (fun w' => w'.cell? ⟨w.heap.size, 1, none⟩ = some (.int .i64 x1) ∧ w'.cell? ⟨w.heap.size, 2, none⟩ = some (.int .i64 x2) ∧ w'.cell? ⟨w.heap.size, 3, none⟩ = some (.int .i64 x3) ∧ w'.cell? ⟨w.heap.size + 1, 0, none⟩ = some (.int .i64 n) ∧ w'.cell? ⟨w.heap.size + 1, 1, none⟩ = some (.int .i64 d))) (by kernel_rfl) ?_ (fun hHeld => ?_)
    · first | exact ⟨a2, a3, a4, q1, q2⟩ | (simp (maxDischargeDepth := 6) [go_sem, *]; done)
    clear a0 a1 a2 a3 a4 a5 a6 a7 a8 a9 b1 q0 q1 q2 q3 q4 r0 r1 r2 r3 r4; (try clear n0 n1 n2 n3 n4)
    replace P := P.drew
    replace Q := Q.drew
    replace R := R.drew
    replace B := Below.drew B
    generalize v.drew = v at *
    obtain ⟨a0, a1, a2, a3, a4, a5, a6, a7, a8, a9, b1⟩ := id P; obtain ⟨q0, q1, q2, q3, q4⟩ := id Q; obtain ⟨r0, r1, r2, r3, r4⟩ := id R; (try (obtain ⟨n0, n1, n2, n3, n4⟩ := id N))
    refine wpAnyH_take (i := 0) (v := ?_) (by rw [List.getElem?_toArray]; rfl) (by kernel_rfl) (by kernel_rfl) (by kernel_rfl) (by intro _ _ _ h; exact h) (Or.inl ⟨by rfl, ?_⟩) (by assumption) ?_
    rotate_left
    · (intro w hSw; (try dsimp only at hSw); go_simp; all_goals with_reducible rfl)
    (try simp only [Act.put, List.setIfInBounds_toArray, List.set_cons_zero, List.set_cons_succ])
    refine wpAnyH_take (i := 1) (v := ?_) (by rw [List.getElem?_toArray]; rfl) (by kernel_rfl) (by kernel_rfl) (by kernel_rfl) (by intro _ _ _ h; exact h) (Or.inl ⟨by rfl, ?_⟩) (by assumption) ?_
    rotate_left
    · (intro w hSw; (try dsimp only at hSw); go_simp; all_goals with_reducible rfl)
    (try simp only [Act.put, List.setIfInBounds_toArray, List.set_cons_zero, List.set_cons_succ])
    refine wpAnyH_take (i := 2) (v := ?_) (by rw [List.getElem?_toArray]; rfl) (by kernel_rfl) (by kernel_rfl) (by kernel_rfl) (by intro _ _ _ h; exact h) (Or.inl ⟨by rfl, ?_⟩) (by assumption) ?_
    rotate_left
    · (intro w hSw; (try dsimp only at hSw); go_simp; all_goals with_reducible rfl)
    (try simp only [Act.put, List.setIfInBounds_toArray, List.set_cons_zero, List.set_cons_succ])
    refine wpAnyH_take (i := 3) (v := ?_) (by rw [List.getElem?_toArray]; rfl) (by kernel_rfl) (by kernel_rfl) (by kernel_rfl) (by intro _ _ _ h; exact h) (Or.inl ⟨by rfl, ?_⟩) (by assumption) ?_
    rotate_left
    · (intro w hSw; (try dsimp only at hSw); go_simp; all_goals with_reducible rfl)
    (try simp only [Act.put, List.setIfInBounds_toArray, List.set_cons_zero, List.set_cons_succ])
    refine wpAnyH_take (i := 5) (v := ?_) (by rw [List.getElem?_toArray]; rfl) (by kernel_rfl) (by kernel_rfl) (by kernel_rfl) (by intro _ _ _ h; exact h) (Or.inl ⟨by rfl, ?_⟩) (by assumption) ?_
    rotate_left
    · (intro w hSw; (try dsimp only at hSw); go_simp; all_goals with_reducible rfl)
    (try simp only [Act.put, List.setIfInBounds_toArray, List.set_cons_zero, List.set_cons_succ])
    refine wpAnyH_take (i := 6) (v := ?_) (by rw [List.getElem?_toArray]; rfl) (by kernel_rfl) (by kernel_rfl) (by kernel_rfl) (by intro _ _ _ h; exact h) (Or.inl ⟨by rfl, ?_⟩) (by assumption) ?_
    rotate_left
    · (intro w hSw; (try dsimp only at hSw); go_simp; all_goals with_reducible rfl)
    (try simp only [Act.put, List.setIfInBounds_toArray, List.set_cons_zero, List.set_cons_succ])
    refine wpAnyH_ready (rs := [4, 11]) (by kernel_rfl) (by simp) ?_
    refine (AllReadyH.cons (by rw [List.getElem?_toArray]; rfl) (fun K hK => ?_) (AllReadyH.cons (by rw [List.getElem?_toArray]; rfl) (fun K hK => ?_) AllReadyH.nil))
    · go_simp
      refine (knownAt_any _ _ _ _).mono ?_; rintro e v ⟨rfl, hb⟩; clear a0 a1 a2 a3 a4 a5 a6 a7 a8 a9 b1 q0 q1 q2 q3 q4 r0 r1 r2 r3 r4; (try clear n0 n1 n2 n3 n4); (replace P := P.below hb); (replace Q := Q.below hb); (replace R := R.below hb); (try (replace N := N.below hb)); (replace B := B.trans (hb.mono B.size)); clear hb; obtain ⟨a0, a1, a2, a3, a4, a5, a6, a7, a8, a9, b1⟩ := id P; obtain ⟨q0, q1, q2, q3, q4⟩ := id Q; obtain ⟨r0, r1, r2, r3, r4⟩ := id R; (try (obtain ⟨n0, n1, n2, n3, n4⟩ := id N))
      (try go_wp2_with fail)
      refine hK.out _ _ ?_ (fun hHeld => ?_)
      · first | exact ⟨a2, a3, a4, q1, q2⟩ | (simp (maxDischargeDepth := 6) [go_sem, *]; done)
      clear hK K
      (try simp only [Act.put, List.setIfInBounds_toArray, List.set_cons_zero, List.set_cons_succ])
      refine wpAnyH_ready (rs := [7, 11]) (by kernel_rfl) (by simp) ?_
      refine (AllReadyH.cons (by rw [List.getElem?_toArray]; rfl) (fun K hK => ?_) (AllReadyH.cons (by rw [List.getElem?_toArray]; rfl) (fun K hK => ?_) AllReadyH.nil))
      · go_simp
        refine (CB _).mono ?_; rintro e v ⟨rfl, hb⟩; clear a0 a1 a2 a3 a4 a5 a6 a7 a8 a9 b1 q0 q1 q2 q3 q4 r0 r1 r2 r3 r4; (try clear n0 n1 n2 n3 n4); (replace P := P.below hb); (replace Q := Q.below hb); (replace R := R.below hb); (try (replace N := N.below hb)); (replace B := B.trans (hb.mono B.size)); clear hb; obtain ⟨a0, a1, a2, a3, a4, a5, a6, a7, a8, a9, b1⟩ := id P; obtain ⟨q0, q1, q2, q3, q4⟩ := id Q; obtain ⟨r0, r1, r2, r3, r4⟩ := id R; (try (obtain ⟨n0, n1, n2, n3, n4⟩ := id N))
        (try go_wp2_with fail)
        refine hK.out _ _ ?_ (fun hHeld => ?_)
        · first | exact ⟨a2, a3, a4, q1, q2⟩ | (simp (maxDischargeDepth := 6) [go_sem, *]; done)
        clear hK K
        (try simp only [Act.put, List.setIfInBounds_toArray, List.set_cons_zero, List.set_cons_succ])
        refine wpAnyH_take (i := 8) (v := ?_) (by rw [List.getElem?_toArray]; rfl) (by kernel_rfl) (by kernel_rfl) (by kernel_rfl) (by intro _ _ _ h; exact h) (Or.inl ⟨by rfl, ?_⟩) (by assumption) ?_
        rotate_left
        · (intro w hSw; (try dsimp only at hSw); go_simp; all_goals with_reducible rfl)
        (try simp only [Act.put, List.setIfInBounds_toArray, List.set_cons_zero, List.set_cons_succ])
        refine wpAnyH_take (i := 9) (v := ?_) (by rw [List.getElem?_toArray]; rfl) (by kernel_rfl) (by kernel_rfl) (by kernel_rfl) (by intro _ _ _ h; exact h) (Or.inl ⟨by rfl, ?_⟩) (by assumption) ?_
        rotate_left
        · (intro w hSw; (try dsimp only at hSw); go_simp; all_goals with_reducible rfl)
        (try simp only [Act.put, List.setIfInBounds_toArray, List.set_cons_zero, List.set_cons_succ])
        refine wpAnyH_take (i := 10) (v := ?_) (by rw [List.getElem?_toArray]; rfl) (by kernel_rfl) (by kernel_rfl) (by kernel_rfl) (by intro _ _ _ h; exact h) (Or.inl ⟨by rfl, ?_⟩) (by assumption) ?_
        rotate_left
        · (intro w hSw; (try dsimp only at hSw); go_simp; all_goals with_reducible rfl)
        (try simp only [Act.put, List.setIfInBounds_toArray, List.set_cons_zero, List.set_cons_succ])
        refine wpAnyH_ready (rs := [11]) (by kernel_rfl) (by simp) ?_
        refine (AllReadyH.cons (by rw [List.getElem?_toArray]; rfl) (fun K hK => ?_) AllReadyH.nil)
        go_simp
        (have N := Bx2.new v (.int .i64 0) (.int .i64 0) 28); (have hj : w.heap.size + 2 < v.heap.size := r0); clear a0 a1 a2 a3 a4 a5 a6 a7 a8 a9 b1 q0 q1 q2 q3 q4 r0 r1 r2 r3 r4; (try clear n0 n1 n2 n3 n4); (replace P := P.alloc (.cells #[.int .i64 0, .int .i64 0] 28)); (replace Q := Q.alloc (.cells #[.int .i64 0, .int .i64 0] 28)); (replace R := R.alloc (.cells #[.int .i64 0, .int .i64 0] 28)); (replace B := B.alloc B.size (.cells #[.int .i64 0, .int .i64 0] 28)); (generalize v.alloc (.cells #[.int .i64 0, .int .i64 0] 28) = v2 at *); obtain ⟨a0, a1, a2, a3, a4, a5, a6, a7, a8, a9, b1⟩ := id P; obtain ⟨q0, q1, q2, q3, q4⟩ := id Q; obtain ⟨r0, r1, r2, r3, r4⟩ := id R; (try (obtain ⟨n0, n1, n2, n3, n4⟩ := id N))
        refine hK.out _ _ ?_ (fun hHeld => ?_)
        · first | exact ⟨a2, a3, a4, q1, q2⟩ | (simp (maxDischargeDepth := 6) [go_sem, *]; done)
        clear hK K
        (try simp only [Act.put, List.setIfInBounds_toArray, List.set_cons_zero, List.set_cons_succ])
        refine wpAnyH_ready (rs := [12]) (by kernel_rfl) (by simp) ?_
        refine (AllReadyH.cons (by rw [List.getElem?_toArray]; rfl) (fun K hK => ?_) AllReadyH.nil)
        go_simp
        refine hK.out _ _ ?_ (fun hHeld => ?_)
        · first | exact ⟨a2, a3, a4, q1, q2⟩ | (simp (maxDischargeDepth := 6) [go_sem, *]; done)
        clear hK K
        (try simp only [Act.put, List.setIfInBounds_toArray, List.set_cons_zero, List.set_cons_succ])
        refine wpAnyH_take (i := 13) (v := ?_) (by rw [List.getElem?_toArray]; rfl) (by kernel_rfl) (by kernel_rfl) (by kernel_rfl) (by intro _ _ _ h; exact h) (Or.inl ⟨by rfl, ?_⟩) (by assumption) ?_
        rotate_left
        · (intro w hSw; (try dsimp only at hSw); go_simp; all_goals with_reducible rfl)
        (try simp only [Act.put, List.setIfInBounds_toArray, List.set_cons_zero, List.set_cons_succ])
        refine wpAnyH_done (by kernel_rfl) ?_ _
        go_wp2_with fail
        go_meet
        case rel => exact ⟨_, rfl, rfl, N.two _ _, hj, R.but (two_but _ _ _ _) (by omega), B.trans ((two_but _ _ _ _).below (by omega) B.size)⟩
      · go_simp
        (have N := Bx2.new v (.int .i64 0) (.int .i64 0) 28); (have hj : w.heap.size + 2 < v.heap.size := r0); clear a0 a1 a2 a3 a4 a5 a6 a7 a8 a9 b1 q0 q1 q2 q3 q4 r0 r1 r2 r3 r4; (try clear n0 n1 n2 n3 n4); (replace P := P.alloc (.cells #[.int .i64 0, .int .i64 0] 28)); (replace Q := Q.alloc (.cells #[.int .i64 0, .int .i64 0] 28)); (replace R := R.alloc (.cells #[.int .i64 0, .int .i64 0] 28)); (replace B := B.alloc B.size (.cells #[.int .i64 0, .int .i64 0] 28)); (generalize v.alloc (.cells #[.int .i64 0, .int .i64 0] 28) = v2 at *); obtain ⟨a0, a1, a2, a3, a4, a5, a6, a7, a8, a9, b1⟩ := id P; obtain ⟨q0, q1, q2, q3, q4⟩ := id Q; obtain ⟨r0, r1, r2, r3, r4⟩ := id R; (try (obtain ⟨n0, n1, n2, n3, n4⟩ := id N))
        refine hK.out _ _ ?_ (fun hHeld => ?_)
        · first | exact ⟨a2, a3, a4, q1, q2⟩ | (simp (maxDischargeDepth := 6) [go_sem, *]; done)
        clear hK K
        (try simp only [Act.put, List.setIfInBounds_toArray, List.set_cons_zero, List.set_cons_succ])
        refine wpAnyH_ready (rs := [7]) (by kernel_rfl) (by simp) ?_
        refine (AllReadyH.cons (by rw [List.getElem?_toArray]; rfl) (fun K hK => ?_) AllReadyH.nil)
        go_simp
        refine (CB _).mono ?_; rintro e v ⟨rfl, hb⟩; clear a0 a1 a2 a3 a4 a5 a6 a7 a8 a9 b1 q0 q1 q2 q3 q4 r0 r1 r2 r3 r4; (try clear n0 n1 n2 n3 n4); (replace P := P.below hb); (replace Q := Q.below hb); (replace R := R.below hb); (try (replace N := N.below hb)); (replace B := B.trans (hb.mono B.size)); clear hb; obtain ⟨a0, a1, a2, a3, a4, a5, a6, a7, a8, a9, b1⟩ := id P; obtain ⟨q0, q1, q2, q3, q4⟩ := id Q; obtain ⟨r0, r1, r2, r3, r4⟩ := id R; (try (obtain ⟨n0, n1, n2, n3, n4⟩ := id N))
        (try go_wp2_with fail)
        refine hK.out _ _ ?_ (fun hHeld => ?_)
        · first | exact ⟨a2, a3, a4, q1, q2⟩ | (simp (maxDischargeDepth := 6) [go_sem, *]; done)
        clear hK K
        (try simp only [Act.put, List.setIfInBounds_toArray, List.set_cons_zero, List.set_cons_succ])
        refine wpAnyH_take (i := 8) (v := ?_) (by rw [List.getElem?_toArray]; rfl) (by kernel_rfl) (by kernel_rfl) (by kernel_rfl) (by intro _ _ _ h; exact h) (Or.inl ⟨by rfl, ?_⟩) (by assumption) ?_
        rotate_left
        · (intro w hSw; (try dsimp only at hSw); go_simp; all_goals with_reducible rfl)
        (try simp only [Act.put, List.setIfInBounds_toArray, List.set_cons_zero, List.set_cons_succ])
        refine wpAnyH_take (i := 9) (v := ?_) (by rw [List.getElem?_toArray]; rfl) (by kernel_rfl) (by kernel_rfl) (by kernel_rfl) (by intro _ _ _ h; exact h) (Or.inl ⟨by rfl, ?_⟩) (by assumption) ?_
        rotate_left
        · (intro w hSw; (try dsimp only at hSw); go_simp; all_goals with_reducible rfl)
        (try simp only [Act.put, List.setIfInBounds_toArray, List.set_cons_zero, List.set_cons_succ])
        refine wpAnyH_take (i := 10) (v := ?_) (by rw [List.getElem?_toArray]; rfl) (by kernel_rfl) (by kernel_rfl) (by kernel_rfl) (by intro _ _ _ h; exact h) (Or.inl ⟨by rfl, ?_⟩) (by assumption) ?_
        rotate_left
        · (intro w hSw; (try dsimp only at hSw); go_simp; all_goals with_reducible rfl)
        (try simp only [Act.put, List.setIfInBounds_toArray, List.set_cons_zero, List.set_cons_succ])
        refine wpAnyH_ready (rs := [12]) (by kernel_rfl) (by simp) ?_
        refine (AllReadyH.cons (by rw [List.getElem?_toArray]; rfl) (fun K hK => ?_) AllReadyH.nil)
        go_simp
        refine hK.out _ _ ?_ (fun hHeld => ?_)
        · first | exact ⟨a2, a3, a4, q1, q2⟩ | (simp (maxDischargeDepth := 6) [go_sem, *]; done)
        clear hK K
        (try simp only [Act.put, List.setIfInBounds_toArray, List.set_cons_zero, List.set_cons_succ])
        refine wpAnyH_take (i := 13) (v := ?_) (by rw [List.getElem?_toArray]; rfl) (by kernel_rfl) (by kernel_rfl) (by kernel_rfl) (by intro _ _ _ h; exact h) (Or.inl ⟨by rfl, ?_⟩) (by assumption) ?_
        rotate_left
        · (intro w hSw; (try dsimp only at hSw); go_simp; all_goals with_reducible rfl)
        (try simp only [Act.put, List.setIfInBounds_toArray, List.set_cons_zero, List.set_cons_succ])
        refine wpAnyH_done (by kernel_rfl) ?_ _
        go_wp2_with fail
        go_meet
        case rel => exact ⟨_, rfl, rfl, N.two _ _, hj, R.but (two_but _ _ _ _) (by omega), B.trans ((two_but _ _ _ _).below (by omega) B.size)⟩
    · go_simp
      (have N := Bx2.new v (.int .i64 0) (.int .i64 0) 28); (have hj : w.heap.size + 2 < v.heap.size := r0); clear a0 a1 a2 a3 a4 a5 a6 a7 a8 a9 b1 q0 q1 q2 q3 q4 r0 r1 r2 r3 r4; (try clear n0 n1 n2 n3 n4); (replace P := P.alloc (.cells #[.int .i64 0, .int .i64 0] 28)); (replace Q := Q.alloc (.cells #[.int .i64 0, .int .i64 0] 28)); (replace R := R.alloc (.cells #[.int .i64 0, .int .i64 0] 28)); (replace B := B.alloc B.size (.cells #[.int .i64 0, .int .i64 0] 28)); (generalize v.alloc (.cells #[.int .i64 0, .int .i64 0] 28) = v2 at *); obtain ⟨a0, a1, a2, a3, a4, a5, a6, a7, a8, a9, b1⟩ := id P; obtain ⟨q0, q1, q2, q3, q4⟩ := id Q; obtain ⟨r0, r1, r2, r3, r4⟩ := id R; (try (obtain ⟨n0, n1, n2, n3, n4⟩ := id N))
      refine hK.out _ _ ?_ (fun hHeld => ?_)
      · first | exact ⟨a2, a3, a4, q1, q2⟩ | (simp (maxDischargeDepth := 6) [go_sem, *]; done)
      clear hK K
      (try simp only [Act.put, List.setIfInBounds_toArray, List.set_cons_zero, List.set_cons_succ])
      refine wpAnyH_ready (rs := [4]) (by kernel_rfl) (by simp) ?_
      refine (AllReadyH.cons (by rw [List.getElem?_toArray]; rfl) (fun K hK => ?_) AllReadyH.nil)
      go_simp
      refine (knownAt_any _ _ _ _).mono ?_; rintro e v ⟨rfl, hb⟩; clear a0 a1 a2 a3 a4 a5 a6 a7 a8 a9 b1 q0 q1 q2 q3 q4 r0 r1 r2 r3 r4; (try clear n0 n1 n2 n3 n4); (replace P := P.below hb); (replace Q := Q.below hb); (replace R := R.below hb); (try (replace N := N.below hb)); (replace B := B.trans (hb.mono B.size)); clear hb; obtain ⟨a0, a1, a2, a3, a4, a5, a6, a7, a8, a9, b1⟩ := id P; obtain ⟨q0, q1, q2, q3, q4⟩ := id Q; obtain ⟨r0, r1, r2, r3, r4⟩ := id R; (try (obtain ⟨n0, n1, n2, n3, n4⟩ := id N))
      (try go_wp2_with fail)
      refine hK.out _ _ ?_ (fun hHeld => ?_)
      · first | exact ⟨a2, a3, a4, q1, q2⟩ | (simp (maxDischargeDepth := 6) [go_sem, *]; done)
      clear hK K
      (try simp only [Act.put, List.setIfInBounds_toArray, List.set_cons_zero, List.set_cons_succ])
      refine wpAnyH_ready (rs := [7]) (by kernel_rfl) (by simp) ?_
      refine (AllReadyH.cons (by rw [List.getElem?_toArray]; rfl) (fun K hK => ?_) AllReadyH.nil)
      go_simp
      refine (CB _).mono ?_; rintro e v ⟨rfl, hb⟩; clear a0 a1 a2 a3 a4 a5 a6 a7 a8 a9 b1 q0 q1 q2 q3 q4 r0 r1 r2 r3 r4; (try clear n0 n1 n2 n3 n4); (replace P := P.below hb); (replace Q := Q.below hb); (replace R := R.below hb); (try (replace N := N.below hb)); (replace B := B.trans (hb.mono B.size)); clear hb; obtain ⟨a0, a1, a2, a3, a4, a5, a6, a7, a8, a9, b1⟩ := id P; obtain ⟨q0, q1, q2, q3, q4⟩ := id Q; obtain ⟨r0, r1, r2, r3, r4⟩ := id R; (try (obtain ⟨n0, n1, n2, n3, n4⟩ := id N))
      (try go_wp2_with fail)
      refine hK.out _ _ ?_ (fun hHeld => ?_)
      · first | exact ⟨a2, a3, a4, q1, q2⟩ | (simp (maxDischargeDepth := 6) [go_sem, *]; done)
      clear hK K
      (try simp only [Act.put, List.setIfInBounds_toArray, List.set_cons_zero, List.set_cons_succ])
      refine wpAnyH_take (i := 8) (v := ?_) (by rw [List.getElem?_toArray]; rfl) (by kernel_rfl) (by kernel_rfl) (by kernel_rfl) (by intro _ _ _ h; exact h) (Or.inl ⟨by rfl, ?_⟩) (by assumption) ?_
      rotate_left
      · (intro w hSw; (try dsimp only at hSw); go_simp; all_goals with_reducible rfl)
      (try simp only [Act.put, List.setIfInBounds_toArray, List.set_cons_zero, List.set_cons_succ])
      refine wpAnyH_take (i := 9) (v := ?_) (by rw [List.getElem?_toArray]; rfl) (by kernel_rfl) (by kernel_rfl) (by kernel_rfl) (by intro _ _ _ h; exact h) (Or.inl ⟨by rfl, ?_⟩) (by assumption) ?_
      rotate_left
      · (intro w hSw; (try dsimp only at hSw); go_simp; all_goals with_reducible rfl)
      (try simp only [Act.put, List.setIfInBounds_toArray, List.set_cons_zero, List.set_cons_succ])
      refine wpAnyH_take (i := 10) (v := ?_) (by rw [List.getElem?_toArray]; rfl) (by kernel_rfl) (by kernel_rfl) (by kernel_rfl) (by intro _ _ _ h; exact h) (Or.inl ⟨by rfl, ?_⟩) (by assumption) ?_
      rotate_left
      · (intro w hSw; (try dsimp only at hSw); go_simp; all_goals with_reducible rfl)
      (try simp only [Act.put, List.setIfInBounds_toArray, List.set_cons_zero, List.set_cons_succ])
      refine wpAnyH_ready (rs := [12]) (by kernel_rfl) (by simp) ?_
      refine (AllReadyH.cons (by rw [List.getElem?_toArray]; rfl) (fun K hK => ?_) AllReadyH.nil)
      go_simp
      refine hK.out _ _ ?_ (fun hHeld => ?_)
      · first | exact ⟨a2, a3, a4, q1, q2⟩ | (simp (maxDischargeDepth := 6) [go_sem, *]; done)
      clear hK K
      (try simp only [Act.put, List.setIfInBounds_toArray, List.set_cons_zero, List.set_cons_succ])
      refine wpAnyH_take (i := 13) (v := ?_) (by rw [List.getElem?_toArray]; rfl) (by kernel_rfl) (by kernel_rfl) (by kernel_rfl) (by intro _ _ _ h; exact h) (Or.inl ⟨by rfl, ?_⟩) (by assumption) ?_
      rotate_left
      · (intro w hSw; (try dsimp only at hSw); go_simp; all_goals with_reducible rfl)
      (try simp only [Act.put, List.setIfInBounds_toArray, List.set_cons_zero, List.set_cons_succ])
      refine wpAnyH_done (by kernel_rfl) ?_ _
      go_wp2_with fail
      go_meet
      case rel => exact ⟨_, rfl, rfl, N.two _ _, hj, R.but (two_but _ _ _ _) (by omega), B.trans ((two_but _ _ _ _).below (by omega) B.size)⟩
  case rest =>
    obtain ⟨j, rfl, rfl, N, hj, R', B'⟩ := hcut
    clear P Q R B a0 a1 a2 a3 a4 a5 a6 a7 a8 a9 b1 q0 q1 q2 q3 q4 r0 r1 r2 r3 r4
    obtain ⟨r0, r1, r2, r3, r4⟩ := id R'
    obtain ⟨n0, n1, n2, n3, n4⟩ := id N
    go_wp2_with fail
    exact bodyPost_ret (v := (.tuple #[.agg #[.int .i64 U, .int .i64 D], .bool (C == 0)])) (by simp (maxDischargeDepth := 6) [results, Tryz.results40, go_sem, *]) rfl ⟨rfl, B'.trans ((two_but _ _ _ _).below (by omega) B'.size)⟩
set_option maxRecDepth 100000 in
set_option maxHeartbeats 16000000 in
theorem specPeersCarried_any (a : Option Addr) (m c : Nat) (M : Nat → PT) (n d x y : Int) (w : World) (hm : m ≤ maxLen) (hs : SrcC w a (m * 5) (MFPeer M)) :
    Calls Tryz.prog 9 #[.slice a m c, .agg #[.int .i64 n, .int .i64 d], .int .i64 x, .int .i64 y] w fun e w' => ∃ v0 v1, e = .returned (.tuple #[v0, v1]) ∧ w'.ownsRow w.heap.size 28 2 v0 ((caL M m n d x y).map cV).length (vrow ((caL M m n d x y).map cV)) ∧ w'.ownsRow w.heap.size 3 1 v1 ((caL M m n d x y).map cI).length (irow ((caL M m n d x y).map cI)) ∧ Below w.heap.size w w' := by
  have HS : Hid (SrcC w a (m * 5) (MFPeer M)) := hs
  have HPL : Hid (∀ k, k < (frL M m x y).length → ∃ P : Nat, gI (frL M m x y) k = (P : Int) ∧ P < m) := fun k hk => frL_place hk
  have hFl := PeersFresh_len M m x y
  have HCL : Hid (caL M m n d x y = caK M n d x (frL M m x y) (frL M m x y).length) := rfl
  have C1 := fun (v : World) (hb : Below w.heap.size w v) => specPeersFresh_any a m c M x y v hm (HS.out.below hb)
  have Q := Bx2.new w (.int .i64 n) (.int .i64 d) 26
  have B := Below.nw w (.cells #[.int .i64 n, .int .i64 d] 26)
  have hmm : m ≤ 9223372036854775807 := hm
  clear hs
  rw [HCL.out]
  generalize frL M m x y = Fr at *
  clear HCL
  go_enter Tryz.func9, Tryz.ntmps9
  go_upto_region 1 with fail
  have hw0 : (w.alloc (.cells #[.int .i64 n, .int .i64 d] 26)).heap.size = w.heap.size + 1 := by simp
  generalize w.alloc (.cells #[.int .i64 n, .int .i64 d] 26) = w0 at *
  have A1 := Below.nw w0 (.cells #[] 28)
  have O1 := made_ival w0
  have A2 := Below.nw (w0.alloc (.cells #[] 28)) (.cells #[] 3)
  have O2 := made_int (w0.alloc (.cells #[] 28))
  replace O1 := own_belK' O1 A2
  replace Q := (Q.below A1).below A2
  replace B := (B.trans (A1.mono B.size)).trans (A2.mono (B.trans (A1.mono B.size)).size)
  simp only [World.size_alloc] at O2
  rw [hw0] at O1 O2
  go_upto_region 2 with fail
  clear A1 A2
  have hw1 : w.heap.size + 3 ≤ ((w0.alloc (.cells #[] 28)).alloc (.cells #[] 3)).heap.size := by simp [hw0]
  generalize (w0.alloc (.cells #[] 28)).alloc (.cells #[] 3) = w1 at *
  go_wp2_with fail
  refine (C1 _ B).mono ?_
  rintro e w2 ⟨vf, rfl, OF, hb⟩
  have ST : CaSt w n d vf Fr [] [] (.slice (some ⟨w.heap.size + 1, 0, none⟩) 0 0) (.slice (some ⟨w.heap.size + 1 + 1, 0, none⟩) 0 0) w2 := ⟨Q.below hb, own_base OF (by omega), own_belK' O1 hb, own_belK' (own_base O2 (by omega)) hb, fun g hg hg' => by have := (World.ownsRow.lt OF g hg).1; simp [Value.ownBlock] at hg'; omega, fun g hg hg' => by have := (World.ownsRow.lt OF g hg).1; simp [Value.ownBlock] at hg'; omega, fun g hg hg' => by simp [Value.ownBlock] at hg hg'; omega, B.trans (hb.mono B.size)⟩
  clear C1 Q O1 O2 OF hb B hw0 hw1
  obtain ⟨af, cf, rfl, _, _, _⟩ := ownF_src ST.2.1
  go_wp2_with fail
  go_loopw [10, 11, 13] (fun vo vi i wr => ∃ k : Nat, k ≤ Fr.length ∧ i = .int .i64 k ∧ CaSt w n d (.slice af Fr.length cf) Fr ((caK M n d x Fr k).map cV) ((caK M n d x Fr k).map cI) vo vi wr) (fun _ _ i _ => Fr.length - (intOf i).toNat)
  case atStart => exact ⟨0, Nat.zero_le _, rfl, ST⟩
  case round =>
    clear ST
    obtain ⟨k, hk, rfl, ST⟩ := hrel
    by_cases hlt : k < Fr.length
    · obtain ⟨gb, gc, egf, hgl, hgc⟩ := ST.place hlt
      simp at egf
      obtain ⟨rfl, rfl⟩ := egf
      obtain ⟨P, hP, hPm⟩ := HPL.out k hlt
      rw [hP] at hgc
      obtain ⟨b, off, rfl, hf⟩ := HS.out.some (by omega)
      obtain ⟨x0, x1, x2, x3, x4, hM⟩ := tupPeer M P
      have HCB : Hid (∀ wq, Below w.heap.size w wq → Cs wq b off (m * 5) (MFPeer M)) := fun wq hb => hf.below hb hf.1
      have hbw : b < w.heap.size := hf.1
      have hli : (k : Int) < (Fr.length : Int) := by omega
      have hPi : (P : Int) < (m : Int) := by omega
      have hKl := caK_len M n d x Fr k
      have HY : Hid (crC true x1 x2 x3 n d x = 0 → caK M n d x Fr (k + 1) = caK M n d x Fr k ++ [(x0, crL true x1 x2 x3 n d x, crH true x1 x2 x3 n d x)]) := fun h => by
        have q := caK_yes (M := M) (n := n) (d := d) (x := x) (Fr := Fr) (k := k) (by rw [hP, Int.toNat_natCast, hM]; exact h)
        rw [hP, Int.toNat_natCast, hM] at q
        exact q
      have HNn : Hid (crC true x1 x2 x3 n d x ≠ 0 → caK M n d x Fr (k + 1) = caK M n d x Fr k) := fun h => caK_no (by rw [hP, Int.toNat_natCast, hM]; exact h)
      have HM : Hid (M P = (x0, x1, x2, x3, x4)) := hM
      clear hM hP hf
      have CC := fun v => specCarryOn_any true x1 x2 x3 n d x v
      generalize caK M n d x Fr k = K at *
      generalize crL true x1 x2 x3 n d x = U at *
      generalize crH true x1 x2 x3 n d x = D at *
      generalize crC true x1 x2 x3 n d x = C at *
      obtain ⟨c0, c1, c2, c3, c4⟩ := (HCB.out wr ST.2.2.2.2.2.2.2).elPeer hPm HM.out
      have hbr : b < wr.heap.size := Nat.lt_of_lt_of_le hbw ST.2.2.2.2.2.2.2.size
      have hlk : (K.map cV).length ≤ 9 := by rw [List.length_map]; omega
      have hlk2 : (K.map cI).length ≤ 9 := by rw [List.length_map]; omega
      have A1 := Below.nw wr (.cells #[.int .i64 x0, .int .i64 x1, .int .i64 x2, .int .i64 x3, .bool x4] 35)
      have KB := Bx5.new wr (.int .i64 x0) (.int .i64 x1) (.int .i64 x2) (.int .i64 x3) (.bool x4) 35
      have HLT : Hid (∀ g, u10.ownBlock = some g → g < wr.heap.size) := ST.lts.2.2.1
      go_upto_region 7 with fail
      clear c0 c1 c2 c3 c4 hgc
      replace ST := ST.below A1
      clear hbr hgl A1
      generalize hbk : wr.heap.size = bk at *
      generalize wr.alloc (.cells #[.int .i64 x0, .int .i64 x1, .int .i64 x2, .int .i64 x3, .bool x4] 35) = w3 at *
      obtain ⟨k9, k0, k1, k2, k3, k4, f0, f1, f2, f3, f4⟩ := id KB
      obtain ⟨q0, q1, q2, q3, q4⟩ := ST.1
      go_wp2_with fail
      refine (CC _).mono ?_
      rintro e w4 ⟨rfl, hb⟩
      clear k9 k0 k1 k2 k3 k4 f0 f1 f2 f3 f4 q0 q1 q2 q3 q4 CC
      replace ST := ST.below hb
      replace KB := KB.below hb
      clear hb
      have A2 := Below.nw w4 (.cells #[.int .i64 U, .int .i64 D] 28)
      have N := Bx2.new w4 (.int .i64 U) (.int .i64 D) 28
      go_upto_region 8 with fail
      replace ST := ST.below A2
      replace KB := KB.below A2
      clear A2
      generalize hbn : w4.heap.size = bn at *
      generalize w4.alloc (.cells #[.int .i64 U, .int .i64 D] 28) = w5 at *
      have hKBO : Hid (∀ g, u10.ownBlock = some g → g < bk) := HLT
      obtain ⟨n0, n1, n2, n3, n4⟩ := id N
      obtain ⟨k9, k0, k1, k2, k3, k4, f0, f1, f2, f3, f4⟩ := id KB
      by_cases hC : C = 0
      · have HT : Hid (caK M n d x Fr (k + 1) = K ++ [(x0, U, D)]) := HY.out hC
        subst hC
        have hs5 := ST.lts
        have OW := ST.2.2.1
        clear HY HNn
        go_upto_region 10 with (at_builtin; refine add_ival rfl _ _ rfl (w.heap.size + 1) (K.map cV) _ rfl OW rfl (by omega) (by omega) ?_; intro v' w9 O9 hg9 hn9)
        have ST9 := ST.addV O9 hg9 hn9
        have KB9 := KB.kept hg9 (fun e => by have := hKBO.out _ e.symm; omega)
        clear OW O9 hg9 hn9 n0 n1 n2 n3 n4 N
        clear k9 k0 k1 k2 k3 k4 f0 f1 f2 f3 f4 KB
        obtain ⟨k9, k0, k1, k2, k3, k4, f0, f1, f2, f3, f4⟩ := id KB9
        have hs9 := ST9.lts
        have OI := ST9.2.2.2.1
        go_wp2_with (at_builtin; refine add_int rfl _ _ rfl (w.heap.size + 1) (K.map cI) _ rfl OI rfl (by omega) (by omega) ?_; intro v2 w10 O10 hg10 hn10)
        have ST10 : Hid (CaSt w n d _ Fr (K.map cV ++ [(U, D)]) (K.map cI ++ [x0]) v' v2 w10) := ST9.addI O10 hg10 hn10
        clear OI O10 hg10 hn10 ST9 ST k9 k0 k1 k2 k3 k4 f0 f1 f2 f3 f4 KB9
        go_wp2_with fail
        go_roundw
        case rel => exact ⟨k + 1, by omega, by go_num, by rw [HT.out, List.map_append, List.map_append]; exact ST10.out⟩
        case measure => simp [intOf]; omega
      · have HT : Hid (caK M n d x Fr (k + 1) = K) := HNn.out hC
        have hC' : (C == 0) = false := by simp [hC]
        clear HY HNn
        go_wp2_with fail
        go_roundw
        case rel => exact ⟨k + 1, by omega, by go_num, by rw [HT.out]; exact ST⟩
        case measure => simp [intOf]; omega
    · have hkn : k = Fr.length := by omega
      have hli : ¬ (k : Int) < (Fr.length : Int) := by omega
      subst hkn
      obtain ⟨av, cv, rfl, _, _, _⟩ := ownF_src ST.2.2.1
      obtain ⟨ai, ci, rfl, _, _, _⟩ := ownF_src ST.2.2.2.1
      go_wp2_with fail
      exact bodyPost_ret (v := (.tuple #[.slice av ((caK M n d x Fr Fr.length).map cV).length cv, .slice ai ((caK M n d x Fr Fr.length).map cI).length ci])) (by simp (maxDischargeDepth := 6) [results, Tryz.results9, go_sem, *]) rfl ⟨_, _, rfl, by simpa only [List.length_map] using own_base ST.2.2.1 (Nat.le_succ _), by simpa only [List.length_map] using own_base ST.2.2.2.1 (Nat.le_succ _), ST.2.2.2.2.2.2.2⟩
set_option maxRecDepth 100000 in
set_option maxHeartbeats 16000000 in
theorem implPeersCarried_w (a : Option Addr) (m c : Nat) (M : Nat → PT) (n d x y : Int) (w : World) (hm : m ≤ maxLen) (hs : SrcC w a (m * 5) (MFPeer M)) :
    Calls Tryz.prog 20 #[.slice a m c, .agg #[.int .i64 n, .int .i64 d], .int .i64 x, .int .i64 y] w fun e w' => ∃ v0 v1, e = .returned (.tuple #[v0, v1]) ∧ w'.ownsRow w.heap.size 28 2 v0 ((caL M m n d x y).map cV).length (vrow ((caL M m n d x y).map cV)) ∧ w'.ownsRow w.heap.size 3 1 v1 ((caL M m n d x y).map cI).length (irow ((caL M m n d x y).map cI)) ∧ ApR v0 v1 ∧ Below w.heap.size w w' := by
  have HS : Hid (SrcC w a (m * 5) (MFPeer M)) := hs
  have HPL : Hid (∀ k, k < (frL M m x y).length → ∃ P : Nat, gI (frL M m x y) k = (P : Int) ∧ P < m) := fun k hk => frL_place hk
  have hFl := PeersFresh_len M m x y
  have HCL : Hid (caL M m n d x y = caK M n d x (frL M m x y) (frL M m x y).length) := rfl
  have C1 := fun (v : World) (hb : Below w.heap.size w v) => implPeersFresh_w a m c M x y v hm (HS.out.below hb)
  have Q := Bx2.new w (.int .i64 n) (.int .i64 d) 26
  have B := Below.nw w (.cells #[.int .i64 n, .int .i64 d] 26)
  have hmm : m ≤ 9223372036854775807 := hm
  clear hs
  rw [HCL.out]
  generalize frL M m x y = Fr at *
  clear HCL
  go_enter Tryz.func20, Tryz.ntmps20
  go_upto_region 1 with fail
  have hw0 : (w.alloc (.cells #[.int .i64 n, .int .i64 d] 26)).heap.size = w.heap.size + 1 := by simp
  generalize w.alloc (.cells #[.int .i64 n, .int .i64 d] 26) = w0 at *
  go_wp2_with fail
  refine (C1 _ B).mono ?_
  rintro e w2 ⟨vf, rfl, OF, hb⟩
  have ST : CaSt w n d vf Fr [] [] (.slice none 0 0) (.slice none 0 0) w2 := ⟨Q.below hb, own_base OF (by omega), nil_ival _ _, nil_int _ _, fun g hg hg' => by simp [Value.ownBlock] at hg', fun g hg hg' => by simp [Value.ownBlock] at hg', fun g hg hg' => by simp [Value.ownBlock] at hg, B.trans (hb.mono B.size)⟩
  clear C1 Q OF hb B hw0
  obtain ⟨af, cf, rfl, _, _, _⟩ := ownF_src ST.2.1
  go_wp2_with fail
  go_loopw [10, 11, 21] (fun vo vi i wr => ∃ k : Nat, k ≤ Fr.length ∧ i = .int .i64 k ∧ CaSt w n d (.slice af Fr.length cf) Fr ((caK M n d x Fr k).map cV) ((caK M n d x Fr k).map cI) vo vi wr) (fun _ _ i _ => Fr.length - (intOf i).toNat)
  case atStart => exact ⟨0, Nat.zero_le _, rfl, ST⟩
  case round =>
    clear ST
    obtain ⟨k, hk, rfl, ST⟩ := hrel
    by_cases hlt : k < Fr.length
    · obtain ⟨gb, gc, egf, hgl, hgc⟩ := ST.place hlt
      simp at egf
      obtain ⟨rfl, rfl⟩ := egf
      obtain ⟨P, hP, hPm⟩ := HPL.out k hlt
      rw [hP] at hgc
      obtain ⟨b, off, rfl, hf⟩ := HS.out.some (by omega)
      obtain ⟨x0, x1, x2, x3, x4, hM⟩ := tupPeer M P
      have HCB : Hid (∀ wq, Below w.heap.size w wq → Cs wq b off (m * 5) (MFPeer M)) := fun wq hb => hf.below hb hf.1
      have hbw : b < w.heap.size := hf.1
      have hli : (k : Int) < (Fr.length : Int) := by omega
      have hPi : (P : Int) < (m : Int) := by omega
      have hKl := caK_len M n d x Fr k
      have HY : Hid (crC true x1 x2 x3 n d x = 0 → caK M n d x Fr (k + 1) = caK M n d x Fr k ++ [(x0, crL true x1 x2 x3 n d x, crH true x1 x2 x3 n d x)]) := fun h => by
        have q := caK_yes (M := M) (n := n) (d := d) (x := x) (Fr := Fr) (k := k) (by rw [hP, Int.toNat_natCast, hM]; exact h)
        rw [hP, Int.toNat_natCast, hM] at q
        exact q
      have HNn : Hid (crC true x1 x2 x3 n d x ≠ 0 → caK M n d x Fr (k + 1) = caK M n d x Fr k) := fun h => caK_no (by rw [hP, Int.toNat_natCast, hM]; exact h)
      have HM : Hid (M P = (x0, x1, x2, x3, x4)) := hM
      clear hM hP hf
      have CC := fun v => carried_any x0 x1 x2 x3 x4 n d x v
      generalize caK M n d x Fr k = K at *
      generalize crL true x1 x2 x3 n d x = U at *
      generalize crH true x1 x2 x3 n d x = D at *
      generalize crC true x1 x2 x3 n d x = C at *
      obtain ⟨c0, c1, c2, c3, c4⟩ := (HCB.out wr ST.2.2.2.2.2.2.2).elPeer hPm HM.out
      have hbr : b < wr.heap.size := Nat.lt_of_lt_of_le hbw ST.2.2.2.2.2.2.2.size
      have hlk : (K.map cV).length ≤ 9 := by rw [List.length_map]; omega
      have hlk2 : (K.map cI).length ≤ 9 := by rw [List.length_map]; omega
      go_upto_region 6 with fail
      clear hgc hgl
      obtain ⟨q0, q1, q2, q3, q4⟩ := ST.1
      go_cut [14, 15] (fun s8 s9 wx => ∃ j : Nat, s8 = .pointer (some ⟨j, 0, none⟩) ∧ s9 = .bool (C == 0) ∧ Bx2 wx j (.int .i64 U) (.int .i64 D) ∧ CaSt w n d (.slice (some ⟨gb, 0, none⟩) Fr.length cf) Fr (K.map cV) (K.map cI) u10 u11 wx ∧ b < wx.heap.size)
      case first =>
        refine wp_region_held_drew (S := (fun w' => w'.cell? ⟨b, off + P * 5, none⟩ = some (.int .i64 x0) ∧ w'.cell? ⟨b, off + P * 5 + 1, none⟩ = some (.int .i64 x1) ∧ w'.cell? ⟨b, off + P * 5 + 2, none⟩ = some (.int .i64 x2) ∧ w'.cell? ⟨b, off + P * 5 + 3, none⟩ = some (.int .i64 x3) ∧ w'.cell? ⟨b, off + P * 5 + 4, none⟩ = some (.bool x4) ∧ w'.cell? ⟨w.heap.size, 0, none⟩ = some (.int .i64 n) ∧ w'.cell? ⟨w.heap.size, 1, none⟩ = some (.int .i64 d))) (by kernel_rfl) ?_ (fun hHeld => ?_)
        · first | exact ⟨c0, c1, c2, c3, c4, q1, q2⟩ | (simp (maxDischargeDepth := 6) [go_sem, *]; done)
        clear q0 q1 q2 q3 q4 c0 c1 c2 c3 c4
        replace ST := ST.drew
        replace hbr : b < wr.drew.heap.size := hbr
        generalize wr.drew = v at *
        obtain ⟨q0, q1, q2, q3, q4⟩ := ST.1; obtain ⟨c0, c1, c2, c3, c4⟩ := (HCB.out _ ST.2.2.2.2.2.2.2).elPeer hPm HM.out; (try (obtain ⟨n0, n1, n2, n3, n4⟩ := id N))
        refine wpAnyH_take (i := 0) (v := ?_) (by rw [List.getElem?_toArray]; rfl) (by kernel_rfl) (by kernel_rfl) (by kernel_rfl) (by intro _ _ _ h; exact h) (Or.inl ⟨by rfl, ?_⟩) (by assumption) ?_
        rotate_left
        · (intro w hSw; (try dsimp only at hSw); go_simp; all_goals with_reducible rfl)
        (try simp only [Act.put, List.setIfInBounds_toArray, List.set_cons_zero, List.set_cons_succ])
        refine wpAnyH_take (i := 1) (v := ?_) (by rw [List.getElem?_toArray]; rfl) (by kernel_rfl) (by kernel_rfl) (by kernel_rfl) (by intro _ _ _ h; exact h) (Or.inl ⟨by rfl, ?_⟩) (by assumption) ?_
        rotate_left
        · (intro w hSw; (try dsimp only at hSw); go_simp; all_goals with_reducible rfl)
        (try simp only [Act.put, List.setIfInBounds_toArray, List.set_cons_zero, List.set_cons_succ])
        refine wpAnyH_take (i := 2) (v := ?_) (by rw [List.getElem?_toArray]; rfl) (by kernel_rfl) (by kernel_rfl) (by kernel_rfl) (by intro _ _ _ h; exact h) (Or.inl ⟨by rfl, ?_⟩) (by assumption) ?_
        rotate_left
        · (intro w hSw; (try dsimp only at hSw); go_simp; all_goals with_reducible rfl)
        (try simp only [Act.put, List.setIfInBounds_toArray, List.set_cons_zero, List.set_cons_succ])
        refine wpAnyH_take (i := 3) (v := ?_) (by rw [List.getElem?_toArray]; rfl) (by kernel_rfl) (by kernel_rfl) (by kernel_rfl) (by intro _ _ _ h; exact h) (Or.inl ⟨by rfl, ?_⟩) (by assumption) ?_
        rotate_left
        · (intro w hSw; (try dsimp only at hSw); go_simp; all_goals with_reducible rfl)
        (try simp only [Act.put, List.setIfInBounds_toArray, List.set_cons_zero, List.set_cons_succ])
        refine wpAnyH_take (i := 4) (v := ?_) (by rw [List.getElem?_toArray]; rfl) (by kernel_rfl) (by kernel_rfl) (by kernel_rfl) (by intro _ _ _ h; exact h) (Or.inl ⟨by rfl, ?_⟩) (by assumption) ?_
        rotate_left
        · (intro w hSw; (try dsimp only at hSw); go_simp; all_goals with_reducible rfl)
        (try simp only [Act.put, List.setIfInBounds_toArray, List.set_cons_zero, List.set_cons_succ])
        refine wpAnyH_take (i := 5) (v := ?_) (by rw [List.getElem?_toArray]; rfl) (by kernel_rfl) (by kernel_rfl) (by kernel_rfl) (by intro _ _ _ h; exact h) (Or.inl ⟨by rfl, ?_⟩) (by assumption) ?_
        rotate_left
        · (intro w hSw; (try dsimp only at hSw); go_simp; all_goals with_reducible rfl)
        (try simp only [Act.put, List.setIfInBounds_toArray, List.set_cons_zero, List.set_cons_succ])
        refine wpAnyH_ready (rs := [6, 10]) (by kernel_rfl) (by simp) ?_
        refine (AllReadyH.cons (by rw [List.getElem?_toArray]; rfl) (fun K hK => ?_) (AllReadyH.cons (by rw [List.getElem?_toArray]; rfl) (fun K hK => ?_) AllReadyH.nil))
        · go_simp
          refine (CC _).mono ?_; rintro e v ⟨rfl, hb⟩; clear q0 q1 q2 q3 q4 c0 c1 c2 c3 c4; (try clear n0 n1 n2 n3 n4); (replace ST := ST.below hb); (try (replace N := N.below hb)); (replace hbr := Nat.lt_of_lt_of_le hbr hb.size); clear hb; obtain ⟨q0, q1, q2, q3, q4⟩ := ST.1; obtain ⟨c0, c1, c2, c3, c4⟩ := (HCB.out _ ST.2.2.2.2.2.2.2).elPeer hPm HM.out; (try (obtain ⟨n0, n1, n2, n3, n4⟩ := id N))
          (try go_wp2_with fail)
          refine hK.out _ _ ?_ (fun hHeld => ?_)
          · first | exact ⟨c0, c1, c2, c3, c4, q1, q2⟩ | (simp (maxDischargeDepth := 6) [go_sem, *]; done)
          clear hK K
          (try simp only [Act.put, List.setIfInBounds_toArray, List.set_cons_zero, List.set_cons_succ])
          refine wpAnyH_take (i := 7) (v := ?_) (by rw [List.getElem?_toArray]; rfl) (by kernel_rfl) (by kernel_rfl) (by kernel_rfl) (by intro _ _ _ h; exact h) (Or.inl ⟨by rfl, ?_⟩) (by assumption) ?_
          rotate_left
          · (intro w hSw; (try dsimp only at hSw); go_simp; all_goals with_reducible rfl)
          (try simp only [Act.put, List.setIfInBounds_toArray, List.set_cons_zero, List.set_cons_succ])
          refine wpAnyH_take (i := 8) (v := ?_) (by rw [List.getElem?_toArray]; rfl) (by kernel_rfl) (by kernel_rfl) (by kernel_rfl) (by intro _ _ _ h; exact h) (Or.inl ⟨by rfl, ?_⟩) (by assumption) ?_
          rotate_left
          · (intro w hSw; (try dsimp only at hSw); go_simp; all_goals with_reducible rfl)
          (try simp only [Act.put, List.setIfInBounds_toArray, List.set_cons_zero, List.set_cons_succ])
          refine wpAnyH_take (i := 9) (v := ?_) (by rw [List.getElem?_toArray]; rfl) (by kernel_rfl) (by kernel_rfl) (by kernel_rfl) (by intro _ _ _ h; exact h) (Or.inl ⟨by rfl, ?_⟩) (by assumption) ?_
          rotate_left
          · (intro w hSw; (try dsimp only at hSw); go_simp; all_goals with_reducible rfl)
          (try simp only [Act.put, List.setIfInBounds_toArray, List.set_cons_zero, List.set_cons_succ])
          refine wpAnyH_ready (rs := [10]) (by kernel_rfl) (by simp) ?_
          refine (AllReadyH.cons (by rw [List.getElem?_toArray]; rfl) (fun K hK => ?_) AllReadyH.nil)
          go_simp
          (have N := Bx2.new v (.int .i64 0) (.int .i64 0) 28); (have hj := ST.lts); clear q0 q1 q2 q3 q4 c0 c1 c2 c3 c4; (try clear n0 n1 n2 n3 n4); (replace ST := ST.below (Below.nw v (.cells #[.int .i64 0, .int .i64 0] 28))); (replace hbr : b < (v.alloc (.cells #[.int .i64 0, .int .i64 0] 28)).heap.size := Nat.lt_of_lt_of_le hbr (by simp)); (generalize v.heap.size = jn at *); (generalize v.alloc (.cells #[.int .i64 0, .int .i64 0] 28) = v2 at *); obtain ⟨q0, q1, q2, q3, q4⟩ := ST.1; obtain ⟨c0, c1, c2, c3, c4⟩ := (HCB.out _ ST.2.2.2.2.2.2.2).elPeer hPm HM.out; (try (obtain ⟨n0, n1, n2, n3, n4⟩ := id N))
          refine hK.out _ _ ?_ (fun hHeld => ?_)
          · first | exact ⟨c0, c1, c2, c3, c4, q1, q2⟩ | (simp (maxDischargeDepth := 6) [go_sem, *]; done)
          clear hK K
          (try simp only [Act.put, List.setIfInBounds_toArray, List.set_cons_zero, List.set_cons_succ])
          refine wpAnyH_ready (rs := [11]) (by kernel_rfl) (by simp) ?_
          refine (AllReadyH.cons (by rw [List.getElem?_toArray]; rfl) (fun K hK => ?_) AllReadyH.nil)
          go_simp
          refine hK.out _ _ ?_ (fun hHeld => ?_)
          · first | exact ⟨c0, c1, c2, c3, c4, q1, q2⟩ | (simp (maxDischargeDepth := 6) [go_sem, *]; done)
          clear hK K
          (try simp only [Act.put, List.setIfInBounds_toArray, List.set_cons_zero, List.set_cons_succ])
          refine wpAnyH_take (i := 12) (v := ?_) (by rw [List.getElem?_toArray]; rfl) (by kernel_rfl) (by kernel_rfl) (by kernel_rfl) (by intro _ _ _ h; exact h) (Or.inl ⟨by rfl, ?_⟩) (by assumption) ?_
          rotate_left
          · (intro w hSw; (try dsimp only at hSw); go_simp; all_goals with_reducible rfl)
          (try simp only [Act.put, List.setIfInBounds_toArray, List.set_cons_zero, List.set_cons_succ])
          refine wpAnyH_done (by kernel_rfl) ?_ _
          go_wp2_with fail
          go_meet
          case rel => exact ⟨_, rfl, rfl, N.two _ _, ST.but (two_but _ _ _ _) hj, by simpa using hbr⟩
        · go_simp
          (have N := Bx2.new v (.int .i64 0) (.int .i64 0) 28); (have hj := ST.lts); clear q0 q1 q2 q3 q4 c0 c1 c2 c3 c4; (try clear n0 n1 n2 n3 n4); (replace ST := ST.below (Below.nw v (.cells #[.int .i64 0, .int .i64 0] 28))); (replace hbr : b < (v.alloc (.cells #[.int .i64 0, .int .i64 0] 28)).heap.size := Nat.lt_of_lt_of_le hbr (by simp)); (generalize v.heap.size = jn at *); (generalize v.alloc (.cells #[.int .i64 0, .int .i64 0] 28) = v2 at *); obtain ⟨q0, q1, q2, q3, q4⟩ := ST.1; obtain ⟨c0, c1, c2, c3, c4⟩ := (HCB.out _ ST.2.2.2.2.2.2.2).elPeer hPm HM.out; (try (obtain ⟨n0, n1, n2, n3, n4⟩ := id N))
          refine hK.out _ _ ?_ (fun hHeld => ?_)
          · first | exact ⟨c0, c1, c2, c3, c4, q1, q2⟩ | (simp (maxDischargeDepth := 6) [go_sem, *]; done)
          clear hK K
          (try simp only [Act.put, List.setIfInBounds_toArray, List.set_cons_zero, List.set_cons_succ])
          refine wpAnyH_ready (rs := [6]) (by kernel_rfl) (by simp) ?_
          refine (AllReadyH.cons (by rw [List.getElem?_toArray]; rfl) (fun K hK => ?_) AllReadyH.nil)
          go_simp
          refine (CC _).mono ?_; rintro e v ⟨rfl, hb⟩; clear q0 q1 q2 q3 q4 c0 c1 c2 c3 c4; (try clear n0 n1 n2 n3 n4); (replace ST := ST.below hb); (try (replace N := N.below hb)); (replace hbr := Nat.lt_of_lt_of_le hbr hb.size); clear hb; obtain ⟨q0, q1, q2, q3, q4⟩ := ST.1; obtain ⟨c0, c1, c2, c3, c4⟩ := (HCB.out _ ST.2.2.2.2.2.2.2).elPeer hPm HM.out; (try (obtain ⟨n0, n1, n2, n3, n4⟩ := id N))
          (try go_wp2_with fail)
          refine hK.out _ _ ?_ (fun hHeld => ?_)
          · first | exact ⟨c0, c1, c2, c3, c4, q1, q2⟩ | (simp (maxDischargeDepth := 6) [go_sem, *]; done)
          clear hK K
          (try simp only [Act.put, List.setIfInBounds_toArray, List.set_cons_zero, List.set_cons_succ])
          refine wpAnyH_take (i := 7) (v := ?_) (by rw [List.getElem?_toArray]; rfl) (by kernel_rfl) (by kernel_rfl) (by kernel_rfl) (by intro _ _ _ h; exact h) (Or.inl ⟨by rfl, ?_⟩) (by assumption) ?_
          rotate_left
          · (intro w hSw; (try dsimp only at hSw); go_simp; all_goals with_reducible rfl)
          (try simp only [Act.put, List.setIfInBounds_toArray, List.set_cons_zero, List.set_cons_succ])
          refine wpAnyH_take (i := 8) (v := ?_) (by rw [List.getElem?_toArray]; rfl) (by kernel_rfl) (by kernel_rfl) (by kernel_rfl) (by intro _ _ _ h; exact h) (Or.inl ⟨by rfl, ?_⟩) (by assumption) ?_
          rotate_left
          · (intro w hSw; (try dsimp only at hSw); go_simp; all_goals with_reducible rfl)
          (try simp only [Act.put, List.setIfInBounds_toArray, List.set_cons_zero, List.set_cons_succ])
          refine wpAnyH_take (i := 9) (v := ?_) (by rw [List.getElem?_toArray]; rfl) (by kernel_rfl) (by kernel_rfl) (by kernel_rfl) (by intro _ _ _ h; exact h) (Or.inl ⟨by rfl, ?_⟩) (by assumption) ?_
          rotate_left
          · (intro w hSw; (try dsimp only at hSw); go_simp; all_goals with_reducible rfl)
          (try simp only [Act.put, List.setIfInBounds_toArray, List.set_cons_zero, List.set_cons_succ])
          refine wpAnyH_ready (rs := [11]) (by kernel_rfl) (by simp) ?_
          refine (AllReadyH.cons (by rw [List.getElem?_toArray]; rfl) (fun K hK => ?_) AllReadyH.nil)
          go_simp
          refine hK.out _ _ ?_ (fun hHeld => ?_)
          · first | exact ⟨c0, c1, c2, c3, c4, q1, q2⟩ | (simp (maxDischargeDepth := 6) [go_sem, *]; done)
          clear hK K
          (try simp only [Act.put, List.setIfInBounds_toArray, List.set_cons_zero, List.set_cons_succ])
          refine wpAnyH_take (i := 12) (v := ?_) (by rw [List.getElem?_toArray]; rfl) (by kernel_rfl) (by kernel_rfl) (by kernel_rfl) (by intro _ _ _ h; exact h) (Or.inl ⟨by rfl, ?_⟩) (by assumption) ?_
          rotate_left
          · (intro w hSw; (try dsimp only at hSw); go_simp; all_goals with_reducible rfl)
          (try simp only [Act.put, List.setIfInBounds_toArray, List.set_cons_zero, List.set_cons_succ])
          refine wpAnyH_done (by kernel_rfl) ?_ _
          go_wp2_with fail
          go_meet
          case rel => exact ⟨_, rfl, rfl, N.two _ _, ST.but (two_but _ _ _ _) hj, by simpa using hbr⟩
      case rest =>
        obtain ⟨bn, rfl, rfl, N, ST', hbr'⟩ := hcut
        clear ST hbr q0 q1 q2 q3 q4 c0 c1 c2 c3 c4
        have ST := ST'
        have hbr5 := hbr'
        clear ST' hbr' CC
        generalize wc = w5 at *
        obtain ⟨n0, n1, n2, n3, n4⟩ := id N
        by_cases hC : C = 0
        · have HT : Hid (caK M n d x Fr (k + 1) = K ++ [(x0, U, D)]) := HY.out hC
          subst hC
          have hs5 := ST.lts
          have OW := ST.2.2.1
          clear HY HNn
          go_upto_region 9 with (at_builtin; refine add_ival rfl _ _ rfl (w.heap.size + 1) (K.map cV) _ rfl OW rfl (by omega) (by omega) ?_; intro v' w9 O9 hg9 hn9)
          have ST9 := ST.addV O9 hg9 hn9
          clear OW O9 hg9 hn9 n0 n1 n2 n3 n4 N
          obtain ⟨c0, c1, c2, c3, c4⟩ := (HCB.out w9 ST9.2.2.2.2.2.2.2).elPeer hPm HM.out
          have hbr9 : b < w9.heap.size := Nat.lt_of_lt_of_le hbw ST9.2.2.2.2.2.2.2.size
          have hs9 := ST9.lts
          have OI := ST9.2.2.2.1
          go_wp2_with (at_builtin; refine add_int rfl _ _ rfl (w.heap.size + 1) (K.map cI) _ rfl OI rfl (by omega) (by omega) ?_; intro v2 w10 O10 hg10 hn10)
          have ST10 : Hid (CaSt w n d _ Fr (K.map cV ++ [(U, D)]) (K.map cI ++ [x0]) v' v2 w10) := ST9.addI O10 hg10 hn10
          clear OI O10 hg10 hn10 ST9 ST c0 c1 c2 c3 c4
          go_wp2_with fail
          go_roundw
          case rel => exact ⟨k + 1, by omega, by go_num, by rw [HT.out, List.map_append, List.map_append]; exact ST10.out⟩
          case measure => simp [intOf]; omega
        · have HT : Hid (caK M n d x Fr (k + 1) = K) := HNn.out hC
          have hC' : (C == 0) = false := by simp [hC]
          clear HY HNn
          rw [hC']
          go_wp2_with fail
          go_roundw
          case rel => exact ⟨k + 1, by omega, by go_num, by rw [HT.out]; exact ST⟩
          case measure => simp [intOf]; omega
    · have hkn : k = Fr.length := by omega
      have hli : ¬ (k : Int) < (Fr.length : Int) := by omega
      subst hkn
      obtain ⟨av, cv, rfl, _, _, _⟩ := ownF_src ST.2.2.1
      obtain ⟨ai, ci, rfl, _, _, _⟩ := ownF_src ST.2.2.2.1
      go_wp2_with fail
      exact bodyPost_ret (v := (.tuple #[.slice av ((caK M n d x Fr Fr.length).map cV).length cv, .slice ai ((caK M n d x Fr Fr.length).map cI).length ci])) (by simp (maxDischargeDepth := 6) [results, Tryz.results20, go_sem, *]) rfl ⟨_, _, rfl, by simpa only [List.length_map] using own_base ST.2.2.1 (Nat.le_succ _), by simpa only [List.length_map] using own_base ST.2.2.2.1 (Nat.le_succ _), ST.2.2.2.2.2.2.1, ST.2.2.2.2.2.2.2⟩
theorem implPeersCarried_any (a : Option Addr) (m c : Nat) (M : Nat → PT) (n d x y : Int) (w : World) (hm : m ≤ maxLen) (hs : SrcC w a (m * 5) (MFPeer M)) (w_dn : (Lit.int .i64 n).wf = true) (w_dd : (Lit.int .i64 d).wf = true) (wx : (Lit.int .i64 x).wf = true) (wy : (Lit.int .i64 y).wf = true) :
    Calls Tryz.prog 20 #[.slice a m c, .agg #[.int .i64 n, .int .i64 d], .int .i64 x, .int .i64 y] w fun e w' => ∃ v0 v1, e = .returned (.tuple #[v0, v1]) ∧ w'.ownsRow w.heap.size 28 2 v0 ((caL M m n d x y).map cV).length (vrow ((caL M m n d x y).map cV)) ∧ w'.ownsRow w.heap.size 3 1 v1 ((caL M m n d x y).map cI).length (irow ((caL M m n d x y).map cI)) ∧ ApR v0 v1 ∧ Below w.heap.size w w' := implPeersCarried_w a m c M n d x y w hm hs
end Go.Proofs.YtkeijldfblgeaaaGreat
namespace Go.Proofs.YtkeijldfblgeaaaGreat
open Go.RowKit
set_option linter.unusedVariables false
def zC : CT := (0, 0, 0)
def gC (C : List CT) (k : Nat) : CT := C.getD k zC
def apB (c : CT) (lo hi : Int) : Bool := decide (0 < apartI c.2.1 c.2.2 lo hi)
def stp (lo hi : Int) (p : PT) (c : CT) : PT := if c.1 = p.1 then (p.1, p.2.1, p.2.2.1, p.2.2.2.1, apB c lo hi) else p
def mkN (C : List CT) (lo hi : Int) (k : Nat) (p : PT) : PT := (C.take k).foldl (stp lo hi) p
def mkO (C : List CT) (lo hi : Int) (p : PT) : PT := mkN C lo hi C.length p
theorem stp_id (lo hi : Int) (p : PT) (c : CT) : (stp lo hi p c).1 = p.1 := by unfold stp; split <;> rfl
theorem fold_id (lo hi : Int) : ∀ (C : List CT) (p : PT), (C.foldl (stp lo hi) p).1 = p.1
  | [], _ => rfl
  | c :: C, p => by rw [List.foldl_cons, fold_id lo hi C, stp_id]
theorem mkN_id (C : List CT) (lo hi : Int) (k : Nat) (p : PT) : (mkN C lo hi k p).1 = p.1 := fold_id lo hi _ p
theorem take_gC {C : List CT} {k : Nat} (hk : k < C.length) : C.take (k + 1) = C.take k ++ [gC C k] := by
  rw [List.take_add_one, gC, List.getD_eq_getElem?_getD, List.getElem?_eq_getElem hk]
  rfl
theorem mkN_succ {C : List CT} {lo hi : Int} {k : Nat} (hk : k < C.length) (p : PT) : mkN C lo hi (k + 1) p = stp lo hi (mkN C lo hi k p) (gC C k) := by
  rw [mkN, take_gC hk, List.foldl_append]
  rfl
theorem mkN_yes {C : List CT} {lo hi : Int} {k : Nat} (hk : k < C.length) {p : PT} (h : (gC C k).1 = p.1) : mkN C lo hi (k + 1) p = (p.1, (mkN C lo hi k p).2.1, (mkN C lo hi k p).2.2.1, (mkN C lo hi k p).2.2.2.1, apB (gC C k) lo hi) := by
  rw [mkN_succ hk, stp, if_pos (by rw [mkN_id]; exact h), mkN_id]
theorem mkN_no {C : List CT} {lo hi : Int} {k : Nat} (hk : k < C.length) {p : PT} (h : (gC C k).1 ≠ p.1) : mkN C lo hi (k + 1) p = mkN C lo hi k p := by
  rw [mkN_succ hk, stp, if_neg (by rw [mkN_id]; exact h)]
def mrP (M : Nat → PT) (m : Nat) (lo hi : Int) : Bool := oks M m && okI lo hi
def mrL (M : Nat → PT) (m : Nat) (n d x y lo hi : Int) : List PT := if mrP M m lo hi = true then (lst M m).map (mkO (caL M m n d x y) lo hi) else []
theorem mrL_t {M : Nat → PT} {m : Nat} {n d x y lo hi : Int} (h1 : oks M m = true) (h2 : okI lo hi = true) : mrL M m n d x y lo hi = (lst M m).map (mkO (caL M m n d x y) lo hi) := if_pos (by rw [mrP, h1, h2]; rfl)
theorem mrL_1 {M : Nat → PT} {m : Nat} {n d x y lo hi : Int} (h1 : oks M m = false) : mrL M m n d x y lo hi = [] := if_neg (by rw [mrP, h1]; simp)
theorem mrL_2 {M : Nat → PT} {m : Nat} {n d x y lo hi : Int} (h1 : okI lo hi = false) : mrL M m n d x y lo hi = [] := if_neg (by rw [mrP, h1]; simp)
theorem PeersMark_len (M : Nat → PT) (m : Nat) (n d x y lo hi : Int) : (mrL M m n d x y lo hi).length ≤ 9 := by
  unfold mrL
  split
  · next h =>
    unfold mrP at h
    simp only [Bool.and_eq_true] at h
    have := oks_le h.1
    rw [List.length_map, lst_len]
    omega
  · simp
theorem caK_mem {M : Nat → PT} {n d x : Int} {Fr : List Int} : ∀ {k : Nat} {c : CT}, c ∈ caK M n d x Fr k → ∃ j, j < k ∧ crA (M (gI Fr j).toNat) n d x = 0 ∧ c = crE (M (gI Fr j).toNat) n d x
  | 0, c, h => by simp [caK] at h
  | k + 1, c, h => by
    simp only [caK] at h
    split at h
    · next hc =>
      rw [List.mem_append] at h
      rcases h with h | h
      · obtain ⟨j, h1, h2⟩ := caK_mem h
        exact ⟨j, by omega, h2⟩
      · simp at h
        exact ⟨k, by omega, hc, h⟩
    · obtain ⟨j, h1, h2⟩ := caK_mem h
      exact ⟨j, by omega, h2⟩
theorem caL_at {M : Nat → PT} {m : Nat} {n d x y : Int} {k : Nat} (hk : k < (caL M m n d x y).length) : okI (gC (caL M m n d x y) k).2.1 (gC (caL M m n d x y) k).2.2 = true ∧ ∃ P, P < m ∧ (M P).1 = (gC (caL M m n d x y) k).1 := by
  have hm : gC (caL M m n d x y) k ∈ caL M m n d x y := by
    rw [gC, List.getD_eq_getElem?_getD, List.getElem?_eq_getElem hk]
    exact List.getElem_mem hk
  generalize gC (caL M m n d x y) k = c at *
  obtain ⟨j, hj, h0, rfl⟩ := caK_mem hm
  obtain ⟨P, hP, hPm⟩ := frL_place hj
  rw [hP, Int.toNat_natCast] at h0 ⊢
  exact ⟨(cr_ok h0).2.2, P, hPm, rfl⟩
theorem meet_apB {c : CT} {lo hi : Int} (h1 : okI c.2.1 c.2.2 = true) (h2 : okI lo hi = true) : (!(meetB c.2.1 c.2.2 lo hi)) = apB c lo hi := by
  obtain ⟨c0, cl, ch⟩ := c
  have hb : okII cl ch lo hi = true := by simp [okII, h2]; exact h1
  have ⟨a1, a2, a3⟩ := okI_t (show okI cl ch = true from h1)
  have ⟨b1, b2, b3⟩ := okI_t h2
  show (!(meetB cl ch lo hi)) = decide (0 < apartI cl ch lo hi)
  simp only [meetB, hb, Bool.true_and]
  rw [apartI_t hb]
  have q1 : -1000000000000 ≤ imx cl lo ∧ imn ch hi ≤ 1000000000000 := by unfold imx imn; split <;> split <;> omega
  unfold okI
  by_cases h : imx cl lo ≤ imn ch hi
  · have e : ¬ 0 < imx 0 (imx cl lo - imn ch hi) := by
      generalize imx cl lo = u at *
      generalize imn ch hi = v at *
      unfold imx; split <;> omega
    simp [h, q1, e]
  · have e : 0 < imx 0 (imx cl lo - imn ch hi) := by
      generalize imx cl lo = u at *
      generalize imn ch hi = v at *
      unfold imx; split <;> omega
    simp [h, e]
theorem FLP.map {F : Int → Option PT} {L : List PT} (h : FLP F L) (g : PT → PT) (hg : ∀ p, (g p).1 = p.1) : FLP (fun y => (F y).map g) (L.map g) := by
  refine ⟨?_, fun x q => ?_⟩
  · rw [List.pairwise_map]
    exact List.Pairwise.imp (fun {a b} hab => by rw [hg, hg]; exact hab) h.1
  · show (F x).map g = some q ↔ _
    rw [List.mem_map]
    constructor
    · intro hx
      rw [Option.map_eq_some_iff] at hx
      obtain ⟨p, hp, rfl⟩ := hx
      have := (h.2 x p).1 hp
      exact ⟨⟨p, this.1, rfl⟩, by rw [hg]; exact this.2⟩
    · rintro ⟨⟨p, hp, rfl⟩, he⟩
      rw [hg] at he
      rw [(h.2 x p).2 ⟨hp, he⟩]
      rfl
theorem mkF_step {F : Int → Option PT} {L : List PT} (hF : FLP F L) {C : List CT} {lo hi : Int} {k : Nat} (hk : k < C.length) {p : PT} (hp : F (gC C k).1 = some p) (y : Int) :
    (F y).map (mkN C lo hi (k + 1)) = if y = (gC C k).1 then some ((gC C k).1, (mkN C lo hi k p).2.1, (mkN C lo hi k p).2.2.1, (mkN C lo hi k p).2.2.2.1, apB (gC C k) lo hi) else (F y).map (mkN C lo hi k) := by
  have hp1 : p.1 = (gC C k).1 := ((hF.2 _ p).1 hp).2
  by_cases e : y = (gC C k).1
  · rw [if_pos e, e, hp]
    show some (mkN C lo hi (k + 1) p) = _
    rw [mkN_yes hk hp1.symm, hp1]
  · rw [if_neg e]
    cases hy : F y with
    | none => rfl
    | some q =>
      show some (mkN C lo hi (k + 1) q) = some (mkN C lo hi k q)
      rw [mkN_no hk]
      intro e2
      have := ((hF.2 y q).1 hy).2
      exact e (this.symm.trans e2.symm)
theorem gV_map (C : List CT) (k : Nat) : gV (C.map cV) k = cV (gC C k) := by
  rw [gV, gC, List.getD_eq_getElem?_getD, List.getD_eq_getElem?_getD, List.getElem?_map]
  cases C[k]? <;> rfl
theorem gI_map (C : List CT) (k : Nat) : gI (C.map cI) k = cI (gC C k) := by
  rw [gI, gC, List.getD_eq_getElem?_getD, List.getD_eq_getElem?_getD, List.getElem?_map]
  cases C[k]? <;> rfl
/- The rows of bounds and of Ids that are read. -/
def Two (w : World) (base : Nat) (C : List CT) (v0 v1 : Value) : Prop := w.ownsRow base 28 2 v0 (C.map cV).length (vrow (C.map cV)) ∧ w.ownsRow base 3 1 v1 (C.map cI).length (irow (C.map cI))
theorem Two.below {w w' : World} {base : Nat} {C : List CT} {v0 v1 : Value} (h : Two w base C v0 v1) (hb : Below w.heap.size w w') : Two w' base C v0 v1 := ⟨own_belK' h.1 hb, own_belK' h.2 hb⟩
theorem Two.drew {w : World} {base : Nat} {C : List CT} {v0 v1 : Value} (h : Two w base C v0 v1) : Two w.drew base C v0 v1 := h
theorem Two.lts {w : World} {base : Nat} {C : List CT} {v0 v1 : Value} (h : Two w base C v0 v1) : (∀ g, v0.ownBlock = some g → base ≤ g ∧ g < w.heap.size) ∧ (∀ g, v1.ownBlock = some g → base ≤ g ∧ g < w.heap.size) := ⟨fun g hg => World.ownsRow.lt h.1 g hg, fun g hg => World.ownsRow.lt h.2 g hg⟩
theorem Two.kept {w w' : World} {base : Nat} {o : Option Nat} {C : List CT} {v0 v1 : Value} (h : Two w base C v0 v1) (hg : w.grownBy w' o) (h0 : v0.ownBlock = none ∨ v0.ownBlock ≠ o) (h1 : v1.ownBlock = none ∨ v1.ownBlock ≠ o) : Two w' base C v0 v1 := ⟨World.ownsRow.kept h.1 hg h0, World.ownsRow.kept h.2 hg h1⟩
theorem Two.but {w w' : World} {base j : Nat} {C : List CT} {v0 v1 : Value} (h : Two w base C v0 v1) (hb : But j w w') (h0 : ∀ g, v0.ownBlock = some g → g ≠ j) (h1 : ∀ g, v1.ownBlock = some g → g ≠ j) : Two w' base C v0 v1 := h.kept hb.grK (ne_blk h0) (ne_blk h1)
theorem Two.at {w : World} {base : Nat} {C : List CT} {v0 v1 : Value} (h : Two w base C v0 v1) {k : Nat} (hk : k < C.length) : ∃ a c a' c', v0 = .slice (some ⟨a, 0, none⟩) C.length c ∧ v1 = .slice (some ⟨a', 0, none⟩) C.length c' ∧ a < w.heap.size ∧ a' < w.heap.size ∧ w.cell? ⟨a, k * 2, none⟩ = some (.int .i64 (gC C k).2.1) ∧ w.cell? ⟨a, k * 2 + 1, none⟩ = some (.int .i64 (gC C k).2.2) ∧ w.cell? ⟨a', k, none⟩ = some (.int .i64 (gC C k).1) := by
  obtain ⟨h1, h2⟩ := h
  rcases h1.2 with ⟨_, h0⟩ | ⟨g, cap, cur, rfl, _⟩
  · rw [List.length_map] at h0; omega
  rcases h2.2 with ⟨_, h0⟩ | ⟨g', cap', cur', rfl, _⟩
  · rw [List.length_map] at h0; omega
  have e1 := World.ownsRow.cellAt h1 (k * 2) (by rw [List.length_map]; omega)
  have e2 := World.ownsRow.cellAt h1 (k * 2 + 1) (by rw [List.length_map]; omega)
  have e3 := World.ownsRow.cellAt h2 k (by rw [List.length_map]; omega)
  refine ⟨g, cap, g', cap', by rw [List.length_map], by rw [List.length_map], (World.ownsRow.lt h1 g rfl).2, (World.ownsRow.lt h2 g' rfl).2, ?_, ?_, ?_⟩
  · rw [e1]
    have : (vrow (C.map cV))[k * 2]? = some (MFIval (gV (C.map cV)) (k * 2 + 0)) := by rw [vrow, List.getElem?_map, List.getElem?_range (by rw [List.length_map]; omega)]; rfl
    rw [this, MFIval_at _ _ 0 (by decide), gV_map]
    rfl
  · rw [e2]
    have : (vrow (C.map cV))[k * 2 + 1]? = some (MFIval (gV (C.map cV)) (k * 2 + 1)) := by rw [vrow, List.getElem?_map, List.getElem?_range (by rw [List.length_map]; omega)]; rfl
    rw [this, MFIval_at _ _ 1 (by decide), gV_map]
    rfl
  · rw [e3]
    have : (irow (C.map cI))[k]? = some (MFInt (gI (C.map cI)) k) := by rw [irow, List.getElem?_map, List.getElem?_range (by rw [List.length_map]; omega)]; rfl
    rw [this, MFInt, gI_map]
    rfl
end Go.Proofs.YtkeijldfblgeaaaGreat
