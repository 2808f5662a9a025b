/- Contracts of the program's CarryOn. -/
import Derived.Test.YtddijpjgkifngaaGreatM0
import Derived.Test.YtddijpjgkifngaaGreatM36
namespace Go.Proofs.YtddijpjgkifngaaGreat
open Go.RowKit
set_option linter.unusedVariables false
set_option maxHeartbeats 4000000 in
theorem mayCarry_any (k : Nat) (kn : Bool) (lo hi a n d c : Int) (w : World) (H : BoxL w k kn lo hi a) :
 Calls Tryz.prog 214 #[.pointer (some ⟨k, 0, none⟩), .agg #[.int .i64 n, .int .i64 d], .int .i64 c] w fun e w' => e = .returned (.bool (crP kn lo hi a n d c)) ∧ Below w.heap.size w w' := by
 have B0 : Below w.heap.size w (w.alloc (.cells #[.int .i64 n, .int .i64 d] 40)) := Below.alc _ _
 have Q0 := Bx.new w n d 40
 have H0 := H.below B0
 cases h1 : okL kn lo hi a <;> cases h2 : okD n d <;> cases h3 : okT c
 all_goals
  go_enter Tryz.func214, Tryz.ntmps214
  go_wp2_with fail
  refine (ptrOk_any _ _ _ _ _ _ H0).mono ?_
  rintro e v ⟨rfl, hb⟩
  have B := B0.trans (hb.mono B0.size)
  obtain ⟨q0, q1, q2, q3, q4⟩ := Q0.below hb
  clear hb
  go_wp2_with (first | (go_at_call 146; refine (okd_any _ _ _).mono ?_; rintro e w' ⟨rfl, hb⟩; obtain ⟨hc, hf⟩ := bcell hb; (first | have hB := Below.trans (Below.trans hB (by repeat (first | exact Below.refl _ _ | refine Below.drew ?_ | refine Below.alloc ?_ (by first | (simp; done) | (simp; omega) | omega) _ | refine Below.setCell ?_ (by first | (simp; done) | (simp; omega) | omega) _ | refine Below.trans ?_ (Below.mono (by assumption) (by first | (simp; done) | (simp; omega) | omega))))) (Below.mono hb (by first | (simp; done) | (simp; omega) | omega)) | have hB := hb); obtain ⟨hC, hF⟩ := bcell hB; have hz := hb.size; (try simp at hz); (try (have hz0 : w.heap.size < w'.heap.size := by omega)); (try (have hz1 : w.heap.size + 1 < w'.heap.size := by omega)); (try (have hz2 : w.heap.size + 1 + 1 < w'.heap.size := by omega)); (try (have hz3 : w.heap.size + 1 + 1 + 1 < w'.heap.size := by omega))) | (go_at_call 99; refine (isTime_any _ _).mono ?_; rintro e w' ⟨rfl, rfl⟩))
  go_ret
  exact ⟨ret_bool (by simp [crP, *]), by repeat (first | exact Below.refl _ _ | refine Below.drew ?_ | refine Below.alloc ?_ (by first | (simp; done) | (simp; omega) | omega) _ | refine Below.setCell ?_ (by first | (simp; done) | (simp; omega) | omega) _ | refine Below.trans ?_ (Below.mono (by assumption) (by first | (simp; done) | (simp; omega) | omega)))⟩
set_option maxRecDepth 100000 in
set_option maxHeartbeats 4000000 in
theorem carry_any (k : Nat) (kn : Bool) (lo hi a n d c : Int) (w : World) (H : BoxL w k kn lo hi a) :
 Calls Tryz.prog 205 #[.pointer (some ⟨k, 0, none⟩), .agg #[.int .i64 n, .int .i64 d], .int .i64 c] w fun e w' => e = .returned (.tuple #[.agg #[.int .i64 (crL kn lo hi a n d c), .int .i64 (crH kn lo hi a n d c)], .int .i64 (crC kn lo hi a n d c)]) ∧ Below w.heap.size w w' := by
 have B : Below w.heap.size w ((w.alloc (.cells #[.int .i64 n, .int .i64 d] 40)).alloc (.cells #[.int .i64 0, .int .i64 0] 87)) := (Below.alc _ _).alloc (by simp) _
 have Q := (Bx.new w n d 40).alloc (.cells #[.int .i64 0, .int .i64 0] 87)
 have R := Bx.new (w.alloc (.cells #[.int .i64 n, .int .i64 d] 40)) 0 0 87
 simp only [World.size_alloc] at R
 have hk : k < w.heap.size := H.1
 replace H := H.below B
 cases hp : crP kn lo hi a n d c
 ·obtain ⟨e1, e2, e3⟩ := crC_1 hp
  rw [e1, e2, e3]
  clear e1 e2 e3
  have CM := fun v H' => mayCarry_any k kn lo hi a n d c v H'
  rw [hp] at CM
  go_enter Tryz.func205, Tryz.ntmps205
  go_wp2_with fail
  refine (CM _ H).mono ?_
  rintro e v ⟨rfl, hb⟩
  replace B := B.trans (hb.mono B.size)
  obtain ⟨r0, r1, r2, r3, r4⟩ := R.below hb
  clear hb H Q R CM
  go_wp2
  exact bodyPost_ret (v := .tuple #[.agg #[.int .i64 0, .int .i64 0], .int .i64 1]) (by simp (maxDischargeDepth := 6) [results, Tryz.results205, go_sem, *]) rfl ⟨rfl, by repeat (first | exact Below.refl _ _ | refine Below.drew ?_ | refine Below.alloc ?_ (by first | (simp; done) | (simp; omega) | omega) _ | refine Below.setCell ?_ (by first | (simp; done) | (simp; omega) | omega) _ | refine Below.trans ?_ (Below.mono (by assumption) (by first | (simp; done) | (simp; omega) | omega)))⟩
 cases kn
 ·obtain ⟨e1, e2, e3⟩ := crC_2 hp
  rw [e1, e2, e3]
  clear e1 e2 e3
  have CM := fun v H' => mayCarry_any k false lo hi a n d c v H'
  rw [hp] at CM
  go_enter Tryz.func205, Tryz.ntmps205
  go_wp2_with fail
  refine (CM _ H).mono ?_
  rintro e v ⟨rfl, hb⟩
  replace B := B.trans (hb.mono B.size)
  obtain ⟨r0, r1, r2, r3, r4⟩ := R.below hb
  obtain ⟨a0, a1, a2, a3, a4, a5, a6, a7, a8⟩ := H.below hb
  clear hb H Q R CM
  go_wp2
  exact bodyPost_ret (v := .tuple #[.agg #[.int .i64 0, .int .i64 0], .int .i64 2]) (by simp (maxDischargeDepth := 6) [results, Tryz.results205, go_sem, *]) rfl ⟨rfl, by repeat (first | exact Below.refl _ _ | refine Below.drew ?_ | refine Below.alloc ?_ (by first | (simp; done) | (simp; omega) | omega) _ | refine Below.setCell ?_ (by first | (simp; done) | (simp; omega) | omega) _ | refine Below.trans ?_ (Below.mono (by assumption) (by first | (simp; done) | (simp; omega) | omega)))⟩
 have CM := fun v H' => mayCarry_any k true lo hi a n d c v H'
 rw [hp] at CM
 by_cases h4 : c < a
 ·obtain ⟨e1, e2, e3⟩ := crC_3 hp h4
  rw [e1, e2, e3]
  clear e1 e2 e3
  go_enter Tryz.func205, Tryz.ntmps205
  go_wp2_with fail
  refine (CM _ H).mono ?_
  rintro e v ⟨rfl, hb⟩
  replace B := B.trans (hb.mono B.size)
  obtain ⟨r0, r1, r2, r3, r4⟩ := R.below hb
  obtain ⟨a0, a1, a2, a3, a4, a5, a6, a7, a8⟩ := H.below hb
  clear hb H Q R CM
  go_wp2
  exact bodyPost_ret (v := .tuple #[.agg #[.int .i64 0, .int .i64 0], .int .i64 3]) (by simp (maxDischargeDepth := 6) [results, Tryz.results205, go_sem, *]) rfl ⟨rfl, by repeat (first | exact Below.refl _ _ | refine Below.drew ?_ | refine Below.alloc ?_ (by first | (simp; done) | (simp; omega) | omega) _ | refine Below.setCell ?_ (by first | (simp; done) | (simp; omega) | omega) _ | refine Below.trans ?_ (Below.mono (by assumption) (by first | (simp; done) | (simp; omega) | omega)))⟩
 obtain ⟨_, p2, _, p4⟩ := crP_p hp
 obtain ⟨g1, g2⟩ := okT_t p2
 obtain ⟨g3, g4⟩ := okT_t p4
 have hwr : IntKind.i64.wrap (c - a) = c - a := Go.IntWalk.i64_in _ ⟨by omega, by omega⟩
 have E : ∃ U D X Y : Int, ∃ bt pl : Bool, (∀ w', Calls Tryz.prog 215 #[.agg #[.int .i64 n, .int .i64 d], .int .i64 (IntKind.i64.wrap (c - a))] w' fun e w'' => e = .returned (.tuple #[.agg #[.int .i64 U, .int .i64 D], .bool bt]) ∧ Below w'.heap.size w' w'') ∧ (bt = true → ∀ w', Calls Tryz.prog 216 #[.agg #[.int .i64 lo, .int .i64 hi], .agg #[.int .i64 U, .int .i64 D]] w' fun e w'' => e = .returned (.tuple #[.agg #[.int .i64 X, .int .i64 Y], .bool pl]) ∧ Below w'.heap.size w' w'') ∧ (bt = false → crC true lo hi a n d c = 4 ∧ crL true lo hi a n d c = 0 ∧ crH true lo hi a n d c = 0) ∧ (bt = true → pl = false → crC true lo hi a n d c = 4 ∧ crL true lo hi a n d c = 0 ∧ crH true lo hi a n d c = 0) ∧ (bt = true → pl = true → crC true lo hi a n d c = 0 ∧ crL true lo hi a n d c = X ∧ crH true lo hi a n d c = Y) := by
  refine ⟨_, _, _, _, _, _, fun w' => by rw [hwr]; exact implBetween_any n d (c - a) w', fun hb w' => implPlusIval_any _ _ _ _ w', fun hb => crC_4 hp h4 hb, fun hb hq => ?_, fun hb hq => ?_⟩
  ·rw [hb, sel_t rfl, sel_t rfl] at hq; exact crC_5 hp h4 hb hq
  ·rw [hb, sel_t rfl, sel_t rfl] at hq; rw [hb, sel_t rfl, sel_t rfl, hq, sel_t rfl, sel_t rfl]; exact crC_0 hp h4 hb hq
 obtain ⟨U, D, X, Y, bt, pl, CB, CP, F1, F2, F3⟩ := E
 replace F1 : Hid (bt = false → crC true lo hi a n d c = 4 ∧ crL true lo hi a n d c = 0 ∧ crH true lo hi a n d c = 0) := F1
 replace F2 : Hid (bt = true → pl = false → crC true lo hi a n d c = 4 ∧ crL true lo hi a n d c = 0 ∧ crH true lo hi a n d c = 0) := F2
 replace F3 : Hid (bt = true → pl = true → crC true lo hi a n d c = 0 ∧ crL true lo hi a n d c = X ∧ crH true lo hi a n d c = Y) := F3
 replace CP : Hid (bt = true → ∀ w', Calls Tryz.prog 216 #[.agg #[.int .i64 lo, .int .i64 hi], .agg #[.int .i64 U, .int .i64 D]] w' fun e w'' => e = .returned (.tuple #[.agg #[.int .i64 X, .int .i64 Y], .bool pl]) ∧ Below w'.heap.size w' w'') := CP
 clear hp p2 p4 hwr
 go_enter Tryz.func205, Tryz.ntmps205
 go_wp2_with fail
 refine (CM _ H).mono ?_
 rintro e v ⟨rfl, hb⟩
 replace B := B.trans (hb.mono B.size)
 replace H := H.below hb
 replace Q := Q.below hb
 replace R := R.below hb
 clear hb CM
 obtain ⟨a0, a1, a2, a3, a4, a5, a6, a7, a8⟩ := id H
 obtain ⟨b0, b1, b2, b3, b4⟩ := id Q
 obtain ⟨r0, r1, r2, r3, r4⟩ := id R
 go_wp2_with fail
 go_cut [8, 9] (fun s8 s9 wx => ∃ j : Nat, s8 = .pointer (some ⟨j, 0, none⟩) ∧ s9 = .bool bt ∧ Bx wx j U D ∧ w.heap.size + 1 < j ∧ BoxL wx k true lo hi a ∧ Bx wx w.heap.size n d ∧ Bx wx (w.heap.size + 1) 0 0 ∧ Below w.heap.size w wx)
 case first =>
  refine wp_region_held_drew (S := (fun w' => w'.cell? ⟨k, 3, none⟩ = some (.int .i64 a) ∧ w'.cell? ⟨w.heap.size, 0, none⟩ = some (.int .i64 n) ∧ w'.cell? ⟨w.heap.size, 1, none⟩ = some (.int .i64 d))) (by kernel_rfl) ?_ (fun hHeld => ?_)
  ·simp (maxDischargeDepth := 6) [go_sem, *]
  clear a0 a1 a2 a3 a4 a5 a6 a7 a8 b0 b1 b2 b3 b4 r0 r1 r2 r3 r4; (try clear n0 n1 n2 n3 n4); (try clear m0 m1 m2 m3 m4)
  replace H := H.drew
  replace Q := Q.drew
  replace R := R.drew
  replace B := B.drew
  (try replace M := M.drew)
  generalize v.drew = v at *
  obtain ⟨a0, a1, a2, a3, a4, a5, a6, a7, a8⟩ := id H; obtain ⟨b0, b1, b2, b3, b4⟩ := id Q; obtain ⟨r0, r1, r2, r3, r4⟩ := id R; (try (obtain ⟨n0, n1, n2, n3, n4⟩ := id N)); (try (obtain ⟨m0, m1, m2, m3, m4⟩ := id M))
  refine zTk 0 ?_
  refine zTk 1 ?_
  refine zTk 2 ?_
  refine zTk 3 ?_
  refine zTk 4 ?_
  refine zTk 5 ?_
  refine zTk 6 ?_
  refine wpAnyH_ready (rs := [7, 11]) (by kernel_rfl) (by simp) ?_
  refine (AllReadyH.cons (by rw [List.getElem?_toArray]; rfl) (fun K hK => ?_) (AllReadyH.cons (by rw [List.getElem?_toArray]; rfl) (fun K hK => ?_) AllReadyH.nil))
  ·go_simp
   refine (CB _).mono ?_; rintro e v ⟨rfl, hb⟩; clear a0 a1 a2 a3 a4 a5 a6 a7 a8 b0 b1 b2 b3 b4 r0 r1 r2 r3 r4; (try clear n0 n1 n2 n3 n4); (try clear m0 m1 m2 m3 m4); (replace H := H.below hb); (replace Q := Q.below hb); (replace R := R.below hb); (try (replace N := N.below hb)); (try (replace M := M.below hb)); (replace B := B.trans (hb.mono B.size)); clear hb; obtain ⟨a0, a1, a2, a3, a4, a5, a6, a7, a8⟩ := id H; obtain ⟨b0, b1, b2, b3, b4⟩ := id Q; obtain ⟨r0, r1, r2, r3, r4⟩ := id R; (try (obtain ⟨n0, n1, n2, n3, n4⟩ := id N)); (try (obtain ⟨m0, m1, m2, m3, m4⟩ := id M))
   (try go_wp2_with fail)
   refine hK.out _ _ ?_ (fun hHeld => ?_)
   ·simp (maxDischargeDepth := 6) [go_sem, *]
   clear hK K
   (try simp only [Act.put, zSb, zS0, zS1])
   refine zTk 8 ?_
   refine zTk 9 ?_
   refine zTk 10 ?_
   refine wpAnyH_ready (rs := [11]) (by kernel_rfl) (by simp) ?_
   refine (AllReadyH.cons (by rw [List.getElem?_toArray]; rfl) (fun K hK => ?_) AllReadyH.nil)
   go_simp
   (have N := Bx.new v 0 0 87); (have hj : w.heap.size + 1 < v.heap.size := r0); (try (have hjM : jM < v.heap.size := m0)); clear a0 a1 a2 a3 a4 a5 a6 a7 a8 b0 b1 b2 b3 b4 r0 r1 r2 r3 r4; (try clear n0 n1 n2 n3 n4); (try clear m0 m1 m2 m3 m4); (replace H := H.alloc (.cells #[.int .i64 0, .int .i64 0] 87)); (replace Q := Q.alloc (.cells #[.int .i64 0, .int .i64 0] 87)); (replace R := R.alloc (.cells #[.int .i64 0, .int .i64 0] 87)); (try (replace M := M.alloc (.cells #[.int .i64 0, .int .i64 0] 87))); (replace B := B.alloc B.size (.cells #[.int .i64 0, .int .i64 0] 87)); (generalize v.alloc (.cells #[.int .i64 0, .int .i64 0] 87) = v2 at *); obtain ⟨a0, a1, a2, a3, a4, a5, a6, a7, a8⟩ := id H; obtain ⟨b0, b1, b2, b3, b4⟩ := id Q; obtain ⟨r0, r1, r2, r3, r4⟩ := id R; (try (obtain ⟨n0, n1, n2, n3, n4⟩ := id N)); (try (obtain ⟨m0, m1, m2, m3, m4⟩ := id M))
   refine hK.out _ _ ?_ (fun hHeld => ?_)
   ·simp (maxDischargeDepth := 6) [go_sem, *]
   clear hK K
   (try simp only [Act.put, zSb, zS0, zS1])
   refine wpAnyH_ready (rs := [12]) (by kernel_rfl) (by simp) ?_
   refine (AllReadyH.cons (by rw [List.getElem?_toArray]; rfl) (fun K hK => ?_) AllReadyH.nil)
   go_simp
   refine hK.out _ _ ?_ (fun hHeld => ?_)
   ·simp (maxDischargeDepth := 6) [go_sem, *]
   clear hK K
   (try simp only [Act.put, zSb, zS0, zS1])
   refine zTk 13 ?_
   refine wpAnyH_done (by kernel_rfl) ?_ _
   go_wp2_with fail
   go_meet
   case rel => exact ⟨_, rfl, rfl, N.setI U D, hj, H.setIO (by omega) U D, Q.setIO (by omega) U D, R.setIO (by omega) U D, Below.setI B (by omega) U D⟩
  ·go_simp
   (have N := Bx.new v 0 0 87); (have hj : w.heap.size + 1 < v.heap.size := r0); (try (have hjM : jM < v.heap.size := m0)); clear a0 a1 a2 a3 a4 a5 a6 a7 a8 b0 b1 b2 b3 b4 r0 r1 r2 r3 r4; (try clear n0 n1 n2 n3 n4); (try clear m0 m1 m2 m3 m4); (replace H := H.alloc (.cells #[.int .i64 0, .int .i64 0] 87)); (replace Q := Q.alloc (.cells #[.int .i64 0, .int .i64 0] 87)); (replace R := R.alloc (.cells #[.int .i64 0, .int .i64 0] 87)); (try (replace M := M.alloc (.cells #[.int .i64 0, .int .i64 0] 87))); (replace B := B.alloc B.size (.cells #[.int .i64 0, .int .i64 0] 87)); (generalize v.alloc (.cells #[.int .i64 0, .int .i64 0] 87) = v2 at *); obtain ⟨a0, a1, a2, a3, a4, a5, a6, a7, a8⟩ := id H; obtain ⟨b0, b1, b2, b3, b4⟩ := id Q; obtain ⟨r0, r1, r2, r3, r4⟩ := id R; (try (obtain ⟨n0, n1, n2, n3, n4⟩ := id N)); (try (obtain ⟨m0, m1, m2, m3, m4⟩ := id M))
   refine hK.out _ _ ?_ (fun hHeld => ?_)
   ·simp (maxDischargeDepth := 6) [go_sem, *]
   clear hK K
   (try simp only [Act.put, zSb, zS0, zS1])
   refine wpAnyH_ready (rs := [7]) (by kernel_rfl) (by simp) ?_
   refine (AllReadyH.cons (by rw [List.getElem?_toArray]; rfl) (fun K hK => ?_) AllReadyH.nil)
   go_simp
   refine (CB _).mono ?_; rintro e v ⟨rfl, hb⟩; clear a0 a1 a2 a3 a4 a5 a6 a7 a8 b0 b1 b2 b3 b4 r0 r1 r2 r3 r4; (try clear n0 n1 n2 n3 n4); (try clear m0 m1 m2 m3 m4); (replace H := H.below hb); (replace Q := Q.below hb); (replace R := R.below hb); (try (replace N := N.below hb)); (try (replace M := M.below hb)); (replace B := B.trans (hb.mono B.size)); clear hb; obtain ⟨a0, a1, a2, a3, a4, a5, a6, a7, a8⟩ := id H; obtain ⟨b0, b1, b2, b3, b4⟩ := id Q; obtain ⟨r0, r1, r2, r3, r4⟩ := id R; (try (obtain ⟨n0, n1, n2, n3, n4⟩ := id N)); (try (obtain ⟨m0, m1, m2, m3, m4⟩ := id M))
   (try go_wp2_with fail)
   refine hK.out _ _ ?_ (fun hHeld => ?_)
   ·simp (maxDischargeDepth := 6) [go_sem, *]
   clear hK K
   (try simp only [Act.put, zSb, zS0, zS1])
   refine zTk 8 ?_
   refine zTk 9 ?_
   refine zTk 10 ?_
   refine wpAnyH_ready (rs := [12]) (by kernel_rfl) (by simp) ?_
   refine (AllReadyH.cons (by rw [List.getElem?_toArray]; rfl) (fun K hK => ?_) AllReadyH.nil)
   go_simp
   refine hK.out _ _ ?_ (fun hHeld => ?_)
   ·simp (maxDischargeDepth := 6) [go_sem, *]
   clear hK K
   (try simp only [Act.put, zSb, zS0, zS1])
   refine zTk 13 ?_
   refine wpAnyH_done (by kernel_rfl) ?_ _
   go_wp2_with fail
   go_meet
   case rel => exact ⟨_, rfl, rfl, N.setI U D, hj, H.setIO (by omega) U D, Q.setIO (by omega) U D, R.setIO (by omega) U D, Below.setI B (by omega) U D⟩
 case rest =>
  obtain ⟨jM, rfl, rfl, M, hjm, H', Q', R', B'⟩ := hcut
  clear H Q R B a0 a1 a2 a3 a4 a5 a6 a7 a8 b0 b1 b2 b3 b4 r0 r1 r2 r3 r4
  have H := H'
  have Q := Q'
  have R := R'
  have B := B'
  clear H' Q' R' B'
  generalize wc = v at *
  obtain ⟨a0, a1, a2, a3, a4, a5, a6, a7, a8⟩ := id H
  obtain ⟨b0, b1, b2, b3, b4⟩ := id Q
  obtain ⟨r0, r1, r2, r3, r4⟩ := id R
  obtain ⟨m0, m1, m2, m3, m4⟩ := id M
  cases bt
  ·go_wp2
   exact bodyPost_ret (v := .tuple #[.agg #[.int .i64 0, .int .i64 0], .int .i64 4]) (by simp (maxDischargeDepth := 6) [results, Tryz.results205, go_sem, *]) rfl ⟨by obtain ⟨e1, e2, e3⟩ := F1.out (by simp); rw [e1, e2, e3], by repeat (first | exact B | refine Below.drew ?_ | refine Below.setCell ?_ (by first | (simp; done) | (simp; omega) | omega) _)⟩
  replace CP := CP.out rfl
  go_wp2_with fail
  go_cut [10, 9] (fun s8 s9 wx => ∃ j : Nat, s8 = .pointer (some ⟨j, 0, none⟩) ∧ s9 = .bool pl ∧ Bx wx j X Y ∧ w.heap.size + 1 < j ∧ Bx wx (w.heap.size + 1) 0 0 ∧ Below w.heap.size w wx)
  case first =>
   refine wp_region_held_drew (S := (fun w' => w'.cell? ⟨k, 1, none⟩ = some (.int .i64 lo) ∧ w'.cell? ⟨k, 2, none⟩ = some (.int .i64 hi) ∧ w'.cell? ⟨jM, 0, none⟩ = some (.int .i64 U) ∧ w'.cell? ⟨jM, 1, none⟩ = some (.int .i64 D))) (by kernel_rfl) ?_ (fun hHeld => ?_)
   ·simp (maxDischargeDepth := 6) [go_sem, *]
   clear a0 a1 a2 a3 a4 a5 a6 a7 a8 b0 b1 b2 b3 b4 r0 r1 r2 r3 r4; (try clear n0 n1 n2 n3 n4); (try clear m0 m1 m2 m3 m4)
   replace H := H.drew
   replace Q := Q.drew
   replace R := R.drew
   replace B := B.drew
   (try replace M := M.drew)
   generalize v.drew = v at *
   obtain ⟨a0, a1, a2, a3, a4, a5, a6, a7, a8⟩ := id H; obtain ⟨b0, b1, b2, b3, b4⟩ := id Q; obtain ⟨r0, r1, r2, r3, r4⟩ := id R; (try (obtain ⟨n0, n1, n2, n3, n4⟩ := id N)); (try (obtain ⟨m0, m1, m2, m3, m4⟩ := id M))
   refine zTk 0 ?_
   refine zTk 1 ?_
   refine zTk 2 ?_
   refine zTk 3 ?_
   refine zTk 4 ?_
   refine wpAnyH_ready (rs := [5, 9]) (by kernel_rfl) (by simp) ?_
   refine (AllReadyH.cons (by rw [List.getElem?_toArray]; rfl) (fun K hK => ?_) (AllReadyH.cons (by rw [List.getElem?_toArray]; rfl) (fun K hK => ?_) AllReadyH.nil))
   ·go_simp
    refine (CP _).mono ?_; rintro e v ⟨rfl, hb⟩; clear a0 a1 a2 a3 a4 a5 a6 a7 a8 b0 b1 b2 b3 b4 r0 r1 r2 r3 r4; (try clear n0 n1 n2 n3 n4); (try clear m0 m1 m2 m3 m4); (replace H := H.below hb); (replace Q := Q.below hb); (replace R := R.below hb); (try (replace N := N.below hb)); (try (replace M := M.below hb)); (replace B := B.trans (hb.mono B.size)); clear hb; obtain ⟨a0, a1, a2, a3, a4, a5, a6, a7, a8⟩ := id H; obtain ⟨b0, b1, b2, b3, b4⟩ := id Q; obtain ⟨r0, r1, r2, r3, r4⟩ := id R; (try (obtain ⟨n0, n1, n2, n3, n4⟩ := id N)); (try (obtain ⟨m0, m1, m2, m3, m4⟩ := id M))
    (try go_wp2_with fail)
    refine hK.out _ _ ?_ (fun hHeld => ?_)
    ·simp (maxDischargeDepth := 6) [go_sem, *]
    clear hK K
    (try simp only [Act.put, zSb, zS0, zS1])
    refine zTk 6 ?_
    refine zTk 7 ?_
    refine zTk 8 ?_
    refine wpAnyH_ready (rs := [9]) (by kernel_rfl) (by simp) ?_
    refine (AllReadyH.cons (by rw [List.getElem?_toArray]; rfl) (fun K hK => ?_) AllReadyH.nil)
    go_simp
    (have N := Bx.new v 0 0 87); (have hj : w.heap.size + 1 < v.heap.size := r0); (try (have hjM : jM < v.heap.size := m0)); clear a0 a1 a2 a3 a4 a5 a6 a7 a8 b0 b1 b2 b3 b4 r0 r1 r2 r3 r4; (try clear n0 n1 n2 n3 n4); (try clear m0 m1 m2 m3 m4); (replace H := H.alloc (.cells #[.int .i64 0, .int .i64 0] 87)); (replace Q := Q.alloc (.cells #[.int .i64 0, .int .i64 0] 87)); (replace R := R.alloc (.cells #[.int .i64 0, .int .i64 0] 87)); (try (replace M := M.alloc (.cells #[.int .i64 0, .int .i64 0] 87))); (replace B := B.alloc B.size (.cells #[.int .i64 0, .int .i64 0] 87)); (generalize v.alloc (.cells #[.int .i64 0, .int .i64 0] 87) = v2 at *); obtain ⟨a0, a1, a2, a3, a4, a5, a6, a7, a8⟩ := id H; obtain ⟨b0, b1, b2, b3, b4⟩ := id Q; obtain ⟨r0, r1, r2, r3, r4⟩ := id R; (try (obtain ⟨n0, n1, n2, n3, n4⟩ := id N)); (try (obtain ⟨m0, m1, m2, m3, m4⟩ := id M))
    refine hK.out _ _ ?_ (fun hHeld => ?_)
    ·simp (maxDischargeDepth := 6) [go_sem, *]
    clear hK K
    (try simp only [Act.put, zSb, zS0, zS1])
    refine wpAnyH_ready (rs := [10]) (by kernel_rfl) (by simp) ?_
    refine (AllReadyH.cons (by rw [List.getElem?_toArray]; rfl) (fun K hK => ?_) AllReadyH.nil)
    go_simp
    refine hK.out _ _ ?_ (fun hHeld => ?_)
    ·simp (maxDischargeDepth := 6) [go_sem, *]
    clear hK K
    (try simp only [Act.put, zSb, zS0, zS1])
    refine zTk 11 ?_
    refine wpAnyH_done (by kernel_rfl) ?_ _
    go_wp2_with fail
    go_meet
    case rel => exact ⟨_, rfl, rfl, N.setI X Y, hj, R.setIO (by omega) X Y, Below.setI B (by omega) X Y⟩
   ·go_simp
    (have N := Bx.new v 0 0 87); (have hj : w.heap.size + 1 < v.heap.size := r0); (try (have hjM : jM < v.heap.size := m0)); clear a0 a1 a2 a3 a4 a5 a6 a7 a8 b0 b1 b2 b3 b4 r0 r1 r2 r3 r4; (try clear n0 n1 n2 n3 n4); (try clear m0 m1 m2 m3 m4); (replace H := H.alloc (.cells #[.int .i64 0, .int .i64 0] 87)); (replace Q := Q.alloc (.cells #[.int .i64 0, .int .i64 0] 87)); (replace R := R.alloc (.cells #[.int .i64 0, .int .i64 0] 87)); (try (replace M := M.alloc (.cells #[.int .i64 0, .int .i64 0] 87))); (replace B := B.alloc B.size (.cells #[.int .i64 0, .int .i64 0] 87)); (generalize v.alloc (.cells #[.int .i64 0, .int .i64 0] 87) = v2 at *); obtain ⟨a0, a1, a2, a3, a4, a5, a6, a7, a8⟩ := id H; obtain ⟨b0, b1, b2, b3, b4⟩ := id Q; obtain ⟨r0, r1, r2, r3, r4⟩ := id R; (try (obtain ⟨n0, n1, n2, n3, n4⟩ := id N)); (try (obtain ⟨m0, m1, m2, m3, m4⟩ := id M))
    refine hK.out _ _ ?_ (fun hHeld => ?_)
    ·simp (maxDischargeDepth := 6) [go_sem, *]
    clear hK K
    (try simp only [Act.put, zSb, zS0, zS1])
    refine wpAnyH_ready (rs := [5]) (by kernel_rfl) (by simp) ?_
    refine (AllReadyH.cons (by rw [List.getElem?_toArray]; rfl) (fun K hK => ?_) AllReadyH.nil)
    go_simp
    refine (CP _).mono ?_; rintro e v ⟨rfl, hb⟩; clear a0 a1 a2 a3 a4 a5 a6 a7 a8 b0 b1 b2 b3 b4 r0 r1 r2 r3 r4; (try clear n0 n1 n2 n3 n4); (try clear m0 m1 m2 m3 m4); (replace H := H.below hb); (replace Q := Q.below hb); (replace R := R.below hb); (try (replace N := N.below hb)); (try (replace M := M.below hb)); (replace B := B.trans (hb.mono B.size)); clear hb; obtain ⟨a0, a1, a2, a3, a4, a5, a6, a7, a8⟩ := id H; obtain ⟨b0, b1, b2, b3, b4⟩ := id Q; obtain ⟨r0, r1, r2, r3, r4⟩ := id R; (try (obtain ⟨n0, n1, n2, n3, n4⟩ := id N)); (try (obtain ⟨m0, m1, m2, m3, m4⟩ := id M))
    (try go_wp2_with fail)
    refine hK.out _ _ ?_ (fun hHeld => ?_)
    ·simp (maxDischargeDepth := 6) [go_sem, *]
    clear hK K
    (try simp only [Act.put, zSb, zS0, zS1])
    refine zTk 6 ?_
    refine zTk 7 ?_
    refine zTk 8 ?_
    refine wpAnyH_ready (rs := [10]) (by kernel_rfl) (by simp) ?_
    refine (AllReadyH.cons (by rw [List.getElem?_toArray]; rfl) (fun K hK => ?_) AllReadyH.nil)
    go_simp
    refine hK.out _ _ ?_ (fun hHeld => ?_)
    ·simp (maxDischargeDepth := 6) [go_sem, *]
    clear hK K
    (try simp only [Act.put, zSb, zS0, zS1])
    refine zTk 11 ?_
    refine wpAnyH_done (by kernel_rfl) ?_ _
    go_wp2_with fail
    go_meet
    case rel => exact ⟨_, rfl, rfl, N.setI X Y, hj, R.setIO (by omega) X Y, Below.setI B (by omega) X Y⟩
  case rest =>
   obtain ⟨jN, rfl, rfl, N, hjn, R', B'⟩ := hcut
   clear H Q R B M a0 a1 a2 a3 a4 a5 a6 a7 a8 b0 b1 b2 b3 b4 r0 r1 r2 r3 r4 m0 m1 m2 m3 m4 hjm CP CB
   obtain ⟨r0, r1, r2, r3, r4⟩ := id R'
   obtain ⟨n0, n1, n2, n3, n4⟩ := id N
   cases pl
   ·go_wp2
    exact bodyPost_ret (v := .tuple #[.agg #[.int .i64 0, .int .i64 0], .int .i64 4]) (by simp (maxDischargeDepth := 6) [results, Tryz.results205, go_sem, *]) rfl ⟨by obtain ⟨e1, e2, e3⟩ := F2.out (by simp) (by simp); rw [e1, e2, e3], by repeat (first | exact B' | refine Below.drew ?_ | refine Below.setCell ?_ (by first | (simp; done) | (simp; omega) | omega) _)⟩
   go_wp2
   exact bodyPost_ret (v := .tuple #[.agg #[.int .i64 X, .int .i64 Y], .int .i64 0]) (by simp (maxDischargeDepth := 6) [results, Tryz.results205, go_sem, *]) rfl ⟨by obtain ⟨e1, e2, e3⟩ := F3.out (by simp) (by simp); rw [e1, e2, e3], by repeat (first | exact B' | refine Below.drew ?_ | refine Below.setCell ?_ (by first | (simp; done) | (simp; omega) | omega) _)⟩
set_option maxHeartbeats 2000000 in
theorem implCarryOn_any (kn : Bool) (lo hi a n d c : Int) (w : World) :
 Calls Tryz.prog 192 #[.agg #[.bool kn, .int .i64 lo, .int .i64 hi, .int .i64 a], .agg #[.int .i64 n, .int .i64 d], .int .i64 c] w fun e w' => e = .returned (.tuple #[.agg #[.int .i64 (crL kn lo hi a n d c), .int .i64 (crH kn lo hi a n d c)], .int .i64 (crC kn lo hi a n d c)]) ∧ Below w.heap.size w w' := by
 have B : Below w.heap.size w (((w.alloc (.cells #[.bool kn, .int .i64 lo, .int .i64 hi, .int .i64 a] 89)).alloc (.cells #[.int .i64 n, .int .i64 d] 40)).alloc (.cells #[.int .i64 0, .int .i64 0] 87)) := ((Below.alc _ _).alloc (by first | (simp; done) | (simp; omega) | omega) _).alloc (by first | (simp; done) | (simp; omega) | omega) _
 have H := ((BoxL.new w kn lo hi a 89).alloc (.cells #[.int .i64 n, .int .i64 d] 40)).alloc (.cells #[.int .i64 0, .int .i64 0] 87)
 have R := Bx.new ((w.alloc (.cells #[.bool kn, .int .i64 lo, .int .i64 hi, .int .i64 a] 89)).alloc (.cells #[.int .i64 n, .int .i64 d] 40)) 0 0 87
 simp only [World.size_alloc] at R
 have CC := fun v H' => carry_any w.heap.size kn lo hi a n d c v H'
 generalize crL kn lo hi a n d c = X at *
 generalize crH kn lo hi a n d c = Y at *
 generalize crC kn lo hi a n d c = Z at *
 go_enter Tryz.func192, Tryz.ntmps192
 go_wp2_with fail
 refine (CC _ H).mono ?_
 rintro e v ⟨rfl, hb⟩
 replace B := B.trans (hb.mono B.size)
 obtain ⟨r0, r1, r2, r3, r4⟩ := R.below hb
 clear hb H R CC
 go_wp2
 exact bodyPost_ret (v := .tuple #[.agg #[.int .i64 X, .int .i64 Y], .int .i64 Z]) (by simp (maxDischargeDepth := 6) [results, Tryz.results192, go_sem, *]) rfl ⟨rfl, by repeat (first | exact B | refine Below.drew ?_ | refine Below.setCell ?_ (by first | (simp; done) | (simp; omega) | omega) _)⟩
end Go.Proofs.YtddijpjgkifngaaGreat
