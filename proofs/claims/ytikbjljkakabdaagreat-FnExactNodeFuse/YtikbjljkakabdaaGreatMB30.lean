/- Contracts of the program's CarryOn. -/
import Derived.Test.YtikbjljkakabdaaGreatMB0
import Derived.Test.YtikbjljkakabdaaGreatMB20
namespace Go.Proofs.YtikbjljkakabdaaGreat
open Go.RowKit
set_option linter.unusedVariables false
set_option maxRecDepth 100000
set_option maxHeartbeats 16000000
theorem dc (k : Nat) (kn : Bool) (lo hi a n d c : Int) (w : World) (H : bM w k kn lo hi a) :
 Calls Tryz.prog 195 #[.pointer (some ⟨k, 0, none⟩), .agg #[.int .i64 n, .int .i64 d], .int .i64 c] w fun e w' => e = .returned (.bool (crP kn lo hi a n d c)) ∧ Below w.heap.size w w' := by
 have B0 : Below w.heap.size w (w.alloc (.cells #[.int .i64 n, .int .i64 d] 61)) := Below.alc _ _
 have Q0 := Bx.new w n d 61
 have H0 := H.below B0
 cases h1 : okL kn lo hi a <;> cases h2 : okD n d <;> cases h3 : okT c
 all_goals
  go_enter Tryz.func195, Tryz.ntmps195
  go_wp2_with fail
  refine (oX _ _ _ _ _ _ H0).mono ?_
  rintro e v ⟨rfl, hb⟩
  have B := B0.trans (hb.mono B0.size)
  obtain ⟨q0, q1, q2, q3, q4⟩ := Q0.below hb
  clear hb
  go_wp2_with (first | (go_at_call 128; refine (cM _ _ _).mono ?_; rintro e w' ⟨rfl, hb⟩; obtain ⟨hc, hf⟩ := aj hb; (first | have hB := Below.trans (Below.trans hB zB) (Below.mono hb zL) | have hB := hb); obtain ⟨hC, hF⟩ := aj hB; have hz := hb.size; (try simp at hz); (first | have hz0 := zH4 w w' | have hz0 := zH3 w w' | have hz0 := zH2 w w' | have hz0 := zH1 w w' | skip)) | (go_at_call 127; refine (aD _ _).mono ?_; rintro e w' ⟨rfl, rfl⟩))
  go_ret
  exact ⟨ab (by simp [crP, *]), zB⟩
theorem oE (k : Nat) (kn : Bool) (lo hi a n d c : Int) (w : World) (H : bM w k kn lo hi a) :
 Calls Tryz.prog 172 #[.pointer (some ⟨k, 0, none⟩), .agg #[.int .i64 n, .int .i64 d], .int .i64 c] w fun e w' => e = .returned (.tuple #[.agg #[.int .i64 (crL kn lo hi a n d c), .int .i64 (crH kn lo hi a n d c)], .int .i64 (crC kn lo hi a n d c)]) ∧ Below w.heap.size w w' := by
 have B : Below w.heap.size w ((w.alloc (.cells #[.int .i64 n, .int .i64 d] 61)).alloc (.cells #[.int .i64 0, .int .i64 0] 47)) := (Below.alc _ _).alloc (by simp) _
 have Q := (Bx.new w n d 61).alloc (.cells #[.int .i64 0, .int .i64 0] 47)
 have R := Bx.new (w.alloc (.cells #[.int .i64 n, .int .i64 d] 61)) 0 0 47
 simp only [World.size_alloc] at R
 have hk : k < w.heap.size := H.1
 replace H := H.below B
 cases hp : crP kn lo hi a n d c
 ·obtain ⟨e1, e2, e3⟩ := pP hp
  rw [e1, e2, e3]
  clear e1 e2 e3
  have CM := fun v H' => dc k kn lo hi a n d c v H'
  rw [hp] at CM
  go_enter Tryz.func172, Tryz.ntmps172
  go_wp2_with fail
  refine (CM _ H).mono ?_
  rintro e v ⟨rfl, hb⟩
  replace B := B.trans (hb.mono B.size)
  obtain ⟨r0, r1, r2, r3, r4⟩ := R.below hb
  clear hb H Q R CM
  go_wp2
  exact bodyPost_ret (v := .tuple #[.agg #[.int .i64 0, .int .i64 0], .int .i64 1]) (by simp (maxDischargeDepth := 6) [results, Tryz.results172, go_sem, *]) rfl ⟨rfl, zB⟩
 cases kn
 ·obtain ⟨e1, e2, e3⟩ := pQ hp
  rw [e1, e2, e3]
  clear e1 e2 e3
  have CM := fun v H' => dc k false lo hi a n d c v H'
  rw [hp] at CM
  go_enter Tryz.func172, Tryz.ntmps172
  go_wp2_with fail
  refine (CM _ H).mono ?_
  rintro e v ⟨rfl, hb⟩
  replace B := B.trans (hb.mono B.size)
  obtain ⟨r0, r1, r2, r3, r4⟩ := R.below hb
  obtain ⟨a0, a1, a2, a3, a4, a5, a6, a7, a8⟩ := H.below hb
  clear hb H Q R CM
  go_wp2
  exact bodyPost_ret (v := .tuple #[.agg #[.int .i64 0, .int .i64 0], .int .i64 2]) (by simp (maxDischargeDepth := 6) [results, Tryz.results172, go_sem, *]) rfl ⟨rfl, zB⟩
 have CM := fun v H' => dc k true lo hi a n d c v H'
 rw [hp] at CM
 by_cases h4 : c < a
 ·obtain ⟨e1, e2, e3⟩ := nK hp h4
  rw [e1, e2, e3]
  clear e1 e2 e3
  go_enter Tryz.func172, Tryz.ntmps172
  go_wp2_with fail
  refine (CM _ H).mono ?_
  rintro e v ⟨rfl, hb⟩
  replace B := B.trans (hb.mono B.size)
  obtain ⟨r0, r1, r2, r3, r4⟩ := R.below hb
  obtain ⟨a0, a1, a2, a3, a4, a5, a6, a7, a8⟩ := H.below hb
  clear hb H Q R CM
  go_wp2
  exact bodyPost_ret (v := .tuple #[.agg #[.int .i64 0, .int .i64 0], .int .i64 3]) (by simp (maxDischargeDepth := 6) [results, Tryz.results172, go_sem, *]) rfl ⟨rfl, zB⟩
 obtain ⟨_, p2, _, p4⟩ := pR hp
 obtain ⟨g1, g2⟩ := cD p2
 obtain ⟨g3, g4⟩ := cD p4
 have hwr : IntKind.i64.wrap (c - a) = c - a := Go.IntWalk.i64_in _ ⟨by omega, by omega⟩
 have E : ∃ U D X Y : Int, ∃ bt pl : Bool, (∀ w', Calls Tryz.prog 196 #[.agg #[.int .i64 n, .int .i64 d], .int .i64 (IntKind.i64.wrap (c - a))] w' fun e w'' => e = .returned (.tuple #[.agg #[.int .i64 U, .int .i64 D], .bool bt]) ∧ Below w'.heap.size w' w'') ∧ (bt = true → ∀ w', Calls Tryz.prog 197 #[.agg #[.int .i64 lo, .int .i64 hi], .agg #[.int .i64 U, .int .i64 D]] w' fun e w'' => e = .returned (.tuple #[.agg #[.int .i64 X, .int .i64 Y], .bool pl]) ∧ Below w'.heap.size w' w'') ∧ (bt = false → crC true lo hi a n d c = 4 ∧ crL true lo hi a n d c = 0 ∧ crH true lo hi a n d c = 0) ∧ (bt = true → pl = false → crC true lo hi a n d c = 4 ∧ crL true lo hi a n d c = 0 ∧ crH true lo hi a n d c = 0) ∧ (bt = true → pl = true → crC true lo hi a n d c = 0 ∧ crL true lo hi a n d c = X ∧ crH true lo hi a n d c = Y) := by
  refine ⟨_, _, _, _, _, _, fun w' => by rw [hwr]; exact e7 n d (c - a) w', fun hb w' => eA _ _ _ _ w', fun hb => nL hp h4 hb, fun hb hq => ?_, fun hb hq => ?_⟩
  ·rw [hb, bo rfl, bo rfl] at hq; exact nM hp h4 hb hq
  ·rw [hb, bo rfl, bo rfl] at hq; rw [hb, bo rfl, bo rfl, hq, bo rfl, bo rfl]; exact nJ hp h4 hb hq
 obtain ⟨U, D, X, Y, bt, pl, CB, CP, F1, F2, F3⟩ := E
 replace F1 : Hid (bt = false → crC true lo hi a n d c = 4 ∧ crL true lo hi a n d c = 0 ∧ crH true lo hi a n d c = 0) := F1
 replace F2 : Hid (bt = true → pl = false → crC true lo hi a n d c = 4 ∧ crL true lo hi a n d c = 0 ∧ crH true lo hi a n d c = 0) := F2
 replace F3 : Hid (bt = true → pl = true → crC true lo hi a n d c = 0 ∧ crL true lo hi a n d c = X ∧ crH true lo hi a n d c = Y) := F3
 replace CP : Hid (bt = true → ∀ w', Calls Tryz.prog 197 #[.agg #[.int .i64 lo, .int .i64 hi], .agg #[.int .i64 U, .int .i64 D]] w' fun e w'' => e = .returned (.tuple #[.agg #[.int .i64 X, .int .i64 Y], .bool pl]) ∧ Below w'.heap.size w' w'') := CP
 clear hp p2 p4 hwr
 go_enter Tryz.func172, Tryz.ntmps172
 go_wp2_with fail
 refine (CM _ H).mono ?_
 rintro e v ⟨rfl, hb⟩
 replace B := B.trans (hb.mono B.size)
 replace H := H.below hb
 replace Q := Q.below hb
 replace R := R.below hb
 clear hb CM
 obtain ⟨a0, a1, a2, a3, a4, a5, a6, a7, a8⟩ := id H
 have b0 : _ ∧ _ := Q
 obtain ⟨r0, r1, r2, r3, r4⟩ := id R
 go_wp2_with fail
 go_cut [8, 9] (fun s8 s9 wx => ∃ j : Nat, s8 = .pointer (some ⟨j, 0, none⟩) ∧ s9 = .bool bt ∧ Bx wx j U D ∧ w.heap.size + 1 < j ∧ bM wx k true lo hi a ∧ Bx wx w.heap.size n d ∧ Bx wx (w.heap.size + 1) 0 0 ∧ Below w.heap.size w wx)
 case first =>
  refine wp_region_held_drew (S := (fun w' => w'.cell? ⟨k, 3, none⟩ = some (.int .i64 a) ∧ w'.cell? ⟨w.heap.size, 0, none⟩ = some (.int .i64 n) ∧ w'.cell? ⟨w.heap.size, 1, none⟩ = some (.int .i64 d))) (by kernel_rfl) ?_ (fun hHeld => ?_)
  ·simp (maxDischargeDepth := 6) [go_sem, *]
  clear a0 a1 a2 a3 a4 a5 a6 a7 a8 b0 r0 r1 r2 r3 r4; (try clear n0); (try clear m0)
  replace H := H.drew
  replace Q := Q.drew
  replace R := R.drew
  replace B := B.drew
  (try replace M := M.drew)
  generalize v.drew = v at *
  obtain ⟨a0, a1, a2, a3, a4, a5, a6, a7, a8⟩ := id H; have b0 : _ ∧ _ := Q; obtain ⟨r0, r1, r2, r3, r4⟩ := id R; (try (have n0 : _ ∧ _ := N)); (try (have m0 : _ ∧ _ := M))
  refine zT4 0 ?_
  refine zT2 4 ?_
  refine zTk 6 ?_
  refine wpAnyH_ready (rs := [7, 11]) (by kernel_rfl) (by simp) ?_
  refine (zCc (fun K hK => ?_) (zR fun K hK => ?_))
  ·go_simp
   refine (CB _).mono ?_; rintro e v ⟨rfl, hb⟩; clear a0 a1 a2 a3 a4 a5 a6 a7 a8 b0 r0 r1 r2 r3 r4; (try clear n0); (try clear m0); (replace H := H.below hb); (replace Q := Q.below hb); (replace R := R.below hb); (try (replace N := N.below hb)); (try (replace M := M.below hb)); (replace B := B.trans (hb.mono B.size)); clear hb; obtain ⟨a0, a1, a2, a3, a4, a5, a6, a7, a8⟩ := id H; have b0 : _ ∧ _ := Q; obtain ⟨r0, r1, r2, r3, r4⟩ := id R; (try (have n0 : _ ∧ _ := N)); (try (have m0 : _ ∧ _ := M))
   (try go_wp2_with fail)
   refine hK.out _ _ ?_ (fun hHeld => ?_)
   ·simp (maxDischargeDepth := 6) [go_sem, *]
   clear hK K
   (try simp only [zA])
   refine zT2 8 ?_
   refine zTk 10 ?_
   refine zQ 11 fun K hK => ?_
   go_simp
   (have N := Bx.new v 0 0 47); (have hj : w.heap.size + 1 < v.heap.size := r0); (try (have hjM : jM < v.heap.size := m0.1)); clear a0 a1 a2 a3 a4 a5 a6 a7 a8 b0 r0 r1 r2 r3 r4; (try clear n0); (try clear m0); (replace H := H.alloc (.cells #[.int .i64 0, .int .i64 0] 47)); (replace Q := Q.alloc (.cells #[.int .i64 0, .int .i64 0] 47)); (replace R := R.alloc (.cells #[.int .i64 0, .int .i64 0] 47)); (try (replace M := M.alloc (.cells #[.int .i64 0, .int .i64 0] 47))); (replace B := B.alloc B.size (.cells #[.int .i64 0, .int .i64 0] 47)); (generalize v.alloc (.cells #[.int .i64 0, .int .i64 0] 47) = v2 at *); obtain ⟨a0, a1, a2, a3, a4, a5, a6, a7, a8⟩ := id H; have b0 : _ ∧ _ := Q; obtain ⟨r0, r1, r2, r3, r4⟩ := id R; (try (have n0 : _ ∧ _ := N)); (try (have m0 : _ ∧ _ := M))
   refine hK.out _ _ ?_ (fun hHeld => ?_)
   ·simp (maxDischargeDepth := 6) [go_sem, *]
   clear hK K
   (try simp only [zA])
   refine zQ 12 fun K hK => ?_
   go_simp
   refine hK.out _ _ ?_ (fun hHeld => ?_)
   ·simp (maxDischargeDepth := 6) [go_sem, *]
   clear hK K
   (try simp only [zA])
   refine zTk 13 ?_
   refine wpAnyH_done (by kernel_rfl) ?_ _
   go_wp2_with fail
   go_meet
   case rel => exact ⟨_, rfl, rfl, N.setI U D, hj, H.setIO (by omega) U D, Q.setIO (by omega) U D, R.setIO (by omega) U D, Below.setI B (by omega) U D⟩
  ·go_simp
   (have N := Bx.new v 0 0 47); (have hj : w.heap.size + 1 < v.heap.size := r0); (try (have hjM : jM < v.heap.size := m0.1)); clear a0 a1 a2 a3 a4 a5 a6 a7 a8 b0 r0 r1 r2 r3 r4; (try clear n0); (try clear m0); (replace H := H.alloc (.cells #[.int .i64 0, .int .i64 0] 47)); (replace Q := Q.alloc (.cells #[.int .i64 0, .int .i64 0] 47)); (replace R := R.alloc (.cells #[.int .i64 0, .int .i64 0] 47)); (try (replace M := M.alloc (.cells #[.int .i64 0, .int .i64 0] 47))); (replace B := B.alloc B.size (.cells #[.int .i64 0, .int .i64 0] 47)); (generalize v.alloc (.cells #[.int .i64 0, .int .i64 0] 47) = v2 at *); obtain ⟨a0, a1, a2, a3, a4, a5, a6, a7, a8⟩ := id H; have b0 : _ ∧ _ := Q; obtain ⟨r0, r1, r2, r3, r4⟩ := id R; (try (have n0 : _ ∧ _ := N)); (try (have m0 : _ ∧ _ := M))
   refine hK.out _ _ ?_ (fun hHeld => ?_)
   ·simp (maxDischargeDepth := 6) [go_sem, *]
   clear hK K
   (try simp only [zA])
   refine zQ 7 fun K hK => ?_
   go_simp
   refine (CB _).mono ?_; rintro e v ⟨rfl, hb⟩; clear a0 a1 a2 a3 a4 a5 a6 a7 a8 b0 r0 r1 r2 r3 r4; (try clear n0); (try clear m0); (replace H := H.below hb); (replace Q := Q.below hb); (replace R := R.below hb); (try (replace N := N.below hb)); (try (replace M := M.below hb)); (replace B := B.trans (hb.mono B.size)); clear hb; obtain ⟨a0, a1, a2, a3, a4, a5, a6, a7, a8⟩ := id H; have b0 : _ ∧ _ := Q; obtain ⟨r0, r1, r2, r3, r4⟩ := id R; (try (have n0 : _ ∧ _ := N)); (try (have m0 : _ ∧ _ := M))
   (try go_wp2_with fail)
   refine hK.out _ _ ?_ (fun hHeld => ?_)
   ·simp (maxDischargeDepth := 6) [go_sem, *]
   clear hK K
   (try simp only [zA])
   refine zT2 8 ?_
   refine zTk 10 ?_
   refine zQ 12 fun K hK => ?_
   go_simp
   refine hK.out _ _ ?_ (fun hHeld => ?_)
   ·simp (maxDischargeDepth := 6) [go_sem, *]
   clear hK K
   (try simp only [zA])
   refine zTk 13 ?_
   refine wpAnyH_done (by kernel_rfl) ?_ _
   go_wp2_with fail
   go_meet
   case rel => exact ⟨_, rfl, rfl, N.setI U D, hj, H.setIO (by omega) U D, Q.setIO (by omega) U D, R.setIO (by omega) U D, Below.setI B (by omega) U D⟩
 case rest =>
  obtain ⟨jM, rfl, rfl, M, hjm, H', Q', R', B'⟩ := hcut
  clear H Q R B a0 a1 a2 a3 a4 a5 a6 a7 a8 b0 r0 r1 r2 r3 r4
  have H := H'
  have Q := Q'
  have R := R'
  have B := B'
  clear H' Q' R' B'
  generalize wc = v at *
  obtain ⟨a0, a1, a2, a3, a4, a5, a6, a7, a8⟩ := id H
  have b0 : _ ∧ _ := Q
  obtain ⟨r0, r1, r2, r3, r4⟩ := id R
  have m0 : _ ∧ _ := M
  cases bt
  ·go_wp2
   exact bodyPost_ret (v := .tuple #[.agg #[.int .i64 0, .int .i64 0], .int .i64 4]) (by simp (maxDischargeDepth := 6) [results, Tryz.results172, go_sem, *]) rfl ⟨by obtain ⟨e1, e2, e3⟩ := F1.out (by simp); rw [e1, e2, e3], by repeat (first | exact B | refine Below.drew ?_ | refine Below.setCell ?_ (by first | (simp; done) | (simp; omega) | omega) _)⟩
  replace CP := CP.out rfl
  go_wp2_with fail
  go_cut [10, 9] (fun s8 s9 wx => ∃ j : Nat, s8 = .pointer (some ⟨j, 0, none⟩) ∧ s9 = .bool pl ∧ Bx wx j X Y ∧ w.heap.size + 1 < j ∧ Bx wx (w.heap.size + 1) 0 0 ∧ Below w.heap.size w wx)
  case first =>
   refine wp_region_held_drew (S := (fun w' => w'.cell? ⟨k, 1, none⟩ = some (.int .i64 lo) ∧ w'.cell? ⟨k, 2, none⟩ = some (.int .i64 hi) ∧ w'.cell? ⟨jM, 0, none⟩ = some (.int .i64 U) ∧ w'.cell? ⟨jM, 1, none⟩ = some (.int .i64 D))) (by kernel_rfl) ?_ (fun hHeld => ?_)
   ·simp (maxDischargeDepth := 6) [go_sem, *]
   clear a0 a1 a2 a3 a4 a5 a6 a7 a8 b0 r0 r1 r2 r3 r4; (try clear n0); (try clear m0)
   replace H := H.drew
   replace Q := Q.drew
   replace R := R.drew
   replace B := B.drew
   (try replace M := M.drew)
   generalize v.drew = v at *
   obtain ⟨a0, a1, a2, a3, a4, a5, a6, a7, a8⟩ := id H; have b0 : _ ∧ _ := Q; obtain ⟨r0, r1, r2, r3, r4⟩ := id R; (try (have n0 : _ ∧ _ := N)); (try (have m0 : _ ∧ _ := M))
   refine zT4 0 ?_
   refine zTk 4 ?_
   refine wpAnyH_ready (rs := [5, 9]) (by kernel_rfl) (by simp) ?_
   refine (zCc (fun K hK => ?_) (zR fun K hK => ?_))
   ·go_simp
    refine (CP _).mono ?_; rintro e v ⟨rfl, hb⟩; clear a0 a1 a2 a3 a4 a5 a6 a7 a8 b0 r0 r1 r2 r3 r4; (try clear n0); (try clear m0); (replace H := H.below hb); (replace Q := Q.below hb); (replace R := R.below hb); (try (replace N := N.below hb)); (try (replace M := M.below hb)); (replace B := B.trans (hb.mono B.size)); clear hb; obtain ⟨a0, a1, a2, a3, a4, a5, a6, a7, a8⟩ := id H; have b0 : _ ∧ _ := Q; obtain ⟨r0, r1, r2, r3, r4⟩ := id R; (try (have n0 : _ ∧ _ := N)); (try (have m0 : _ ∧ _ := M))
    (try go_wp2_with fail)
    refine hK.out _ _ ?_ (fun hHeld => ?_)
    ·simp (maxDischargeDepth := 6) [go_sem, *]
    clear hK K
    (try simp only [zA])
    refine zT2 6 ?_
    refine zTk 8 ?_
    refine zQ 9 fun K hK => ?_
    go_simp
    (have N := Bx.new v 0 0 47); (have hj : w.heap.size + 1 < v.heap.size := r0); (try (have hjM : jM < v.heap.size := m0.1)); clear a0 a1 a2 a3 a4 a5 a6 a7 a8 b0 r0 r1 r2 r3 r4; (try clear n0); (try clear m0); (replace H := H.alloc (.cells #[.int .i64 0, .int .i64 0] 47)); (replace Q := Q.alloc (.cells #[.int .i64 0, .int .i64 0] 47)); (replace R := R.alloc (.cells #[.int .i64 0, .int .i64 0] 47)); (try (replace M := M.alloc (.cells #[.int .i64 0, .int .i64 0] 47))); (replace B := B.alloc B.size (.cells #[.int .i64 0, .int .i64 0] 47)); (generalize v.alloc (.cells #[.int .i64 0, .int .i64 0] 47) = v2 at *); obtain ⟨a0, a1, a2, a3, a4, a5, a6, a7, a8⟩ := id H; have b0 : _ ∧ _ := Q; obtain ⟨r0, r1, r2, r3, r4⟩ := id R; (try (have n0 : _ ∧ _ := N)); (try (have m0 : _ ∧ _ := M))
    refine hK.out _ _ ?_ (fun hHeld => ?_)
    ·simp (maxDischargeDepth := 6) [go_sem, *]
    clear hK K
    (try simp only [zA])
    refine zQ 10 fun K hK => ?_
    go_simp
    refine hK.out _ _ ?_ (fun hHeld => ?_)
    ·simp (maxDischargeDepth := 6) [go_sem, *]
    clear hK K
    (try simp only [zA])
    refine zTk 11 ?_
    refine wpAnyH_done (by kernel_rfl) ?_ _
    go_wp2_with fail
    go_meet
    case rel => exact ⟨_, rfl, rfl, N.setI X Y, hj, R.setIO (by omega) X Y, Below.setI B (by omega) X Y⟩
   ·go_simp
    (have N := Bx.new v 0 0 47); (have hj : w.heap.size + 1 < v.heap.size := r0); (try (have hjM : jM < v.heap.size := m0.1)); clear a0 a1 a2 a3 a4 a5 a6 a7 a8 b0 r0 r1 r2 r3 r4; (try clear n0); (try clear m0); (replace H := H.alloc (.cells #[.int .i64 0, .int .i64 0] 47)); (replace Q := Q.alloc (.cells #[.int .i64 0, .int .i64 0] 47)); (replace R := R.alloc (.cells #[.int .i64 0, .int .i64 0] 47)); (try (replace M := M.alloc (.cells #[.int .i64 0, .int .i64 0] 47))); (replace B := B.alloc B.size (.cells #[.int .i64 0, .int .i64 0] 47)); (generalize v.alloc (.cells #[.int .i64 0, .int .i64 0] 47) = v2 at *); obtain ⟨a0, a1, a2, a3, a4, a5, a6, a7, a8⟩ := id H; have b0 : _ ∧ _ := Q; obtain ⟨r0, r1, r2, r3, r4⟩ := id R; (try (have n0 : _ ∧ _ := N)); (try (have m0 : _ ∧ _ := M))
    refine hK.out _ _ ?_ (fun hHeld => ?_)
    ·simp (maxDischargeDepth := 6) [go_sem, *]
    clear hK K
    (try simp only [zA])
    refine zQ 5 fun K hK => ?_
    go_simp
    refine (CP _).mono ?_; rintro e v ⟨rfl, hb⟩; clear a0 a1 a2 a3 a4 a5 a6 a7 a8 b0 r0 r1 r2 r3 r4; (try clear n0); (try clear m0); (replace H := H.below hb); (replace Q := Q.below hb); (replace R := R.below hb); (try (replace N := N.below hb)); (try (replace M := M.below hb)); (replace B := B.trans (hb.mono B.size)); clear hb; obtain ⟨a0, a1, a2, a3, a4, a5, a6, a7, a8⟩ := id H; have b0 : _ ∧ _ := Q; obtain ⟨r0, r1, r2, r3, r4⟩ := id R; (try (have n0 : _ ∧ _ := N)); (try (have m0 : _ ∧ _ := M))
    (try go_wp2_with fail)
    refine hK.out _ _ ?_ (fun hHeld => ?_)
    ·simp (maxDischargeDepth := 6) [go_sem, *]
    clear hK K
    (try simp only [zA])
    refine zT2 6 ?_
    refine zTk 8 ?_
    refine zQ 10 fun K hK => ?_
    go_simp
    refine hK.out _ _ ?_ (fun hHeld => ?_)
    ·simp (maxDischargeDepth := 6) [go_sem, *]
    clear hK K
    (try simp only [zA])
    refine zTk 11 ?_
    refine wpAnyH_done (by kernel_rfl) ?_ _
    go_wp2_with fail
    go_meet
    case rel => exact ⟨_, rfl, rfl, N.setI X Y, hj, R.setIO (by omega) X Y, Below.setI B (by omega) X Y⟩
  case rest =>
   obtain ⟨jN, rfl, rfl, N, hjn, R', B'⟩ := hcut
   clear H Q R B M a0 a1 a2 a3 a4 a5 a6 a7 a8 b0 r0 r1 r2 r3 r4 m0 hjm CP CB
   obtain ⟨r0, r1, r2, r3, r4⟩ := id R'
   have n0 : _ ∧ _ := N
   cases pl
   ·go_wp2
    exact bodyPost_ret (v := .tuple #[.agg #[.int .i64 0, .int .i64 0], .int .i64 4]) (by simp (maxDischargeDepth := 6) [results, Tryz.results172, go_sem, *]) rfl ⟨by obtain ⟨e1, e2, e3⟩ := F2.out (by simp) (by simp); rw [e1, e2, e3], by repeat (first | exact B' | refine Below.drew ?_ | refine Below.setCell ?_ (by first | (simp; done) | (simp; omega) | omega) _)⟩
   go_wp2
   exact bodyPost_ret (v := .tuple #[.agg #[.int .i64 X, .int .i64 Y], .int .i64 0]) (by simp (maxDischargeDepth := 6) [results, Tryz.results172, go_sem, *]) rfl ⟨by obtain ⟨e1, e2, e3⟩ := F3.out (by simp) (by simp); rw [e1, e2, e3], by repeat (first | exact B' | refine Below.drew ?_ | refine Below.setCell ?_ (by first | (simp; done) | (simp; omega) | omega) _)⟩
theorem dp (kn : Bool) (lo hi a n d c : Int) (w : World) :
 Calls Tryz.prog 134 #[.agg #[.bool kn, .int .i64 lo, .int .i64 hi, .int .i64 a], .agg #[.int .i64 n, .int .i64 d], .int .i64 c] w fun e w' => e = .returned (.tuple #[.agg #[.int .i64 (crL kn lo hi a n d c), .int .i64 (crH kn lo hi a n d c)], .int .i64 (crC kn lo hi a n d c)]) ∧ Below w.heap.size w w' := by
 have B : Below w.heap.size w (((w.alloc (.cells #[.bool kn, .int .i64 lo, .int .i64 hi, .int .i64 a] 49)).alloc (.cells #[.int .i64 n, .int .i64 d] 61)).alloc (.cells #[.int .i64 0, .int .i64 0] 47)) := ((Below.alc _ _).alloc (by first | (simp; done) | (simp; omega) | omega) _).alloc (by first | (simp; done) | (simp; omega) | omega) _
 have H := ((bM.new w kn lo hi a 49).alloc (.cells #[.int .i64 n, .int .i64 d] 61)).alloc (.cells #[.int .i64 0, .int .i64 0] 47)
 have R := Bx.new ((w.alloc (.cells #[.bool kn, .int .i64 lo, .int .i64 hi, .int .i64 a] 49)).alloc (.cells #[.int .i64 n, .int .i64 d] 61)) 0 0 47
 simp only [World.size_alloc] at R
 have CC := fun v H' => oE w.heap.size kn lo hi a n d c v H'
 generalize crL kn lo hi a n d c = X at *
 generalize crH kn lo hi a n d c = Y at *
 generalize crC kn lo hi a n d c = Z at *
 go_enter Tryz.func134, Tryz.ntmps134
 go_wp2_with fail
 refine (CC _ H).mono ?_
 rintro e v ⟨rfl, hb⟩
 replace B := B.trans (hb.mono B.size)
 obtain ⟨r0, r1, r2, r3, r4⟩ := R.below hb
 clear hb H R CC
 go_wp2
 exact bodyPost_ret (v := .tuple #[.agg #[.int .i64 X, .int .i64 Y], .int .i64 Z]) (by simp (maxDischargeDepth := 6) [results, Tryz.results134, go_sem, *]) rfl ⟨rfl, by repeat (first | exact B | refine Below.drew ?_ | refine Below.setCell ?_ (by first | (simp; done) | (simp; omega) | omega) _)⟩
end Go.Proofs.YtikbjljkakabdaaGreat
