/- The walks of the exact laws of WidthAt and KnownFor. -/
import Derived.Test.YtenknfgdolhilaaQ6
import Derived.Deep.RegionHeld3
import Derived.Deep.DeepCutAuto
import Derived.WalkKit
import Derived.WalkSpells
import Derived.WalkLawsBesides
import Derived.Deep.RegionHeld
namespace Go.Proofs.Ytenknfgdolhilaa
open Go.RowKit
set_option linter.unusedVariables false
set_option maxRecDepth 100000 in
set_option maxHeartbeats 4000000 in
theorem lawWidthAt (kn : Bool) (lo hi a n d c : Int) (w : World) (g0 : (Lit.int .i64 lo).wf = true) (g1 : (Lit.int .i64 hi).wf = true) (g2 : (Lit.int .i64 a).wf = true) (g3 : (Lit.int .i64 n).wf = true) (g4 : (Lit.int .i64 d).wf = true) (g5 : (Lit.int .i64 c).wf = true) :
    Calls Try.prog 8 #[.agg #[.bool kn, .int .i64 lo, .int .i64 hi, .int .i64 a], .agg #[.int .i64 n, .int .i64 d], .int .i64 c] w fun e w' => e = .returned (.bool true) ∧ Below w.heap.size w w' := by
  clear g0 g1 g2 g3 g4 g5
  have P := ((BoxL.new w kn lo hi a 25).alloc (.cells #[.int .i64 n, .int .i64 d] 33))
  have Q := (Bx.new (w.alloc (.cells #[.bool kn, .int .i64 lo, .int .i64 hi, .int .i64 a] 25)) n d 33)
  have B : Below w.heap.size w ((w.alloc (.cells #[.bool kn, .int .i64 lo, .int .i64 hi, .int .i64 a] 25)).alloc (.cells #[.int .i64 n, .int .i64 d] 33)) := (Below.alc _ _).alloc (by first | (simp; done) | (simp; omega) | omega) _
  simp only [World.size_alloc] at Q
  have CS := fun w' => specWidthAt_any kn lo hi a n d c w'
  have CI := fun w' => implWidthAt_any kn lo hi a n d c w'
  go_enter Try.func8, Try.ntmps8
  go_wp2_with fail
  generalize wdI kn lo hi a n d c = kz at *
  generalize (w.alloc (.cells #[.bool kn, .int .i64 lo, .int .i64 hi, .int .i64 a] 25)).alloc (.cells #[.int .i64 n, .int .i64 d] 33) = v at *
  obtain ⟨a0, a1, a2, a3, a4, a5, a6, a7, a8⟩ := id P; obtain ⟨b0, b1, b2, b3, b4⟩ := id Q; (try (obtain ⟨n0, n1, n2, n3, n4⟩ := id N)); (try (obtain ⟨m0, m1, m2, m3, m4⟩ := id M))
  refine wp_region_held_drew (S := (fun w' => w'.cell? ⟨w.heap.size, 0, none⟩ = some (.bool kn) ∧ w'.cell? ⟨w.heap.size, 1, none⟩ = some (.int .i64 lo) ∧ w'.cell? ⟨w.heap.size, 2, none⟩ = some (.int .i64 hi) ∧ w'.cell? ⟨w.heap.size, 3, none⟩ = some (.int .i64 a) ∧ w'.cell? ⟨w.heap.size + 1, 0, none⟩ = some (.int .i64 n) ∧ w'.cell? ⟨w.heap.size + 1, 1, none⟩ = some (.int .i64 d))) (by kernel_rfl) ?_ (fun hHeld => ?_)
  · simp (maxDischargeDepth := 6) [go_sem, *]
  clear a0 a1 a2 a3 a4 a5 a6 a7 a8 b0 b1 b2 b3 b4 ; (try clear n0 n1 n2 n3 n4); (try clear m0 m1 m2 m3 m4)
  replace P := P.drew
  replace Q := Q.drew
  replace B := B.drew
  (try replace M := M.drew)
  generalize v.drew = v at *
  obtain ⟨a0, a1, a2, a3, a4, a5, a6, a7, a8⟩ := id P; obtain ⟨b0, b1, b2, b3, b4⟩ := id Q; (try (obtain ⟨n0, n1, n2, n3, n4⟩ := id N)); (try (obtain ⟨m0, m1, m2, m3, m4⟩ := id M))
  refine wpAnyH_take (i := 0) (v := ?_) (by rw [List.getElem?_toArray]; rfl) (by kernel_rfl) (by kernel_rfl) (by kernel_rfl) (by intro _ _ _ h; exact h) (Or.inl ⟨by rfl, ?_⟩) (by assumption) ?_
  rotate_left
  · (intro w hSw; (try dsimp only at hSw); go_simp; all_goals with_reducible rfl)
  (try simp only [Act.put, List.setIfInBounds_toArray, List.set_cons_zero, List.set_cons_succ])
  refine wpAnyH_take (i := 2) (v := ?_) (by rw [List.getElem?_toArray]; rfl) (by kernel_rfl) (by kernel_rfl) (by kernel_rfl) (by intro _ _ _ h; exact h) (Or.inl ⟨by rfl, ?_⟩) (by assumption) ?_
  rotate_left
  · (intro w hSw; (try dsimp only at hSw); go_simp; all_goals with_reducible rfl)
  (try simp only [Act.put, List.setIfInBounds_toArray, List.set_cons_zero, List.set_cons_succ])
  refine wpAnyH_take (i := 4) (v := ?_) (by rw [List.getElem?_toArray]; rfl) (by kernel_rfl) (by kernel_rfl) (by kernel_rfl) (by intro _ _ _ h; exact h) (Or.inl ⟨by rfl, ?_⟩) (by assumption) ?_
  rotate_left
  · (intro w hSw; (try dsimp only at hSw); go_simp; all_goals with_reducible rfl)
  (try simp only [Act.put, List.setIfInBounds_toArray, List.set_cons_zero, List.set_cons_succ])
  refine wpAnyH_ready (rs := [1]) (by kernel_rfl) (by simp) ?_
  refine AllReadyH.cons (by rw [List.getElem?_toArray]; rfl) (fun K hK => ?_) AllReadyH.nil
  go_simp
  refine (toLocal_any _ _ _ _ _).mono ?_; rintro e v ⟨rfl, hb⟩; clear a0 a1 a2 a3 a4 a5 a6 a7 a8 b0 b1 b2 b3 b4 ; (try clear n0 n1 n2 n3 n4); (try clear m0 m1 m2 m3 m4); (replace P := P.below hb); (replace Q := Q.below hb); (try (replace N := N.below hb)); (try (replace M := M.below hb)); (replace B := B.trans (hb.mono B.size)); clear hb; obtain ⟨a0, a1, a2, a3, a4, a5, a6, a7, a8⟩ := id P; obtain ⟨b0, b1, b2, b3, b4⟩ := id Q; (try (obtain ⟨n0, n1, n2, n3, n4⟩ := id N)); (try (obtain ⟨m0, m1, m2, m3, m4⟩ := id M))
  (try go_wp2_with fail)
  refine hK.out _ _ ?_ (fun hHeld => ?_)
  · simp (maxDischargeDepth := 6) [go_sem, *]
  clear hK K
  (try simp only [Act.put, List.setIfInBounds_toArray, List.set_cons_zero, List.set_cons_succ])
  refine wpAnyH_ready (rs := [3]) (by kernel_rfl) (by simp) ?_
  refine AllReadyH.cons (by rw [List.getElem?_toArray]; rfl) (fun K hK => ?_) AllReadyH.nil
  go_simp
  refine (toDrift_any _ _ _).mono ?_; rintro e v ⟨rfl, hb⟩; clear a0 a1 a2 a3 a4 a5 a6 a7 a8 b0 b1 b2 b3 b4 ; (try clear n0 n1 n2 n3 n4); (try clear m0 m1 m2 m3 m4); (replace P := P.below hb); (replace Q := Q.below hb); (try (replace N := N.below hb)); (try (replace M := M.below hb)); (replace B := B.trans (hb.mono B.size)); clear hb; obtain ⟨a0, a1, a2, a3, a4, a5, a6, a7, a8⟩ := id P; obtain ⟨b0, b1, b2, b3, b4⟩ := id Q; (try (obtain ⟨n0, n1, n2, n3, n4⟩ := id N)); (try (obtain ⟨m0, m1, m2, m3, m4⟩ := id M))
  (try go_wp2_with fail)
  refine hK.out _ _ ?_ (fun hHeld => ?_)
  · simp (maxDischargeDepth := 6) [go_sem, *]
  clear hK K
  (try simp only [Act.put, List.setIfInBounds_toArray, List.set_cons_zero, List.set_cons_succ])
  refine wpAnyH_ready (rs := [5]) (by kernel_rfl) (by simp) ?_
  refine AllReadyH.cons (by rw [List.getElem?_toArray]; rfl) (fun K hK => ?_) AllReadyH.nil
  go_simp
  refine (CS _).mono ?_; rintro e v ⟨rfl, hb⟩; clear a0 a1 a2 a3 a4 a5 a6 a7 a8 b0 b1 b2 b3 b4 ; (try clear n0 n1 n2 n3 n4); (try clear m0 m1 m2 m3 m4); (replace P := P.below hb); (replace Q := Q.below hb); (try (replace N := N.below hb)); (try (replace M := M.below hb)); (replace B := B.trans (hb.mono B.size)); clear hb; obtain ⟨a0, a1, a2, a3, a4, a5, a6, a7, a8⟩ := id P; obtain ⟨b0, b1, b2, b3, b4⟩ := id Q; (try (obtain ⟨n0, n1, n2, n3, n4⟩ := id N)); (try (obtain ⟨m0, m1, m2, m3, m4⟩ := id M))
  (try go_wp2_with fail)
  refine hK.out _ _ ?_ (fun hHeld => ?_)
  · simp (maxDischargeDepth := 6) [go_sem, *]
  clear hK K
  (try simp only [Act.put, List.setIfInBounds_toArray, List.set_cons_zero, List.set_cons_succ])
  refine wpAnyH_take (i := 6) (v := ?_) (by rw [List.getElem?_toArray]; rfl) (by kernel_rfl) (by kernel_rfl) (by kernel_rfl) (by intro _ _ _ h; exact h) (Or.inl ⟨by rfl, ?_⟩) (by assumption) ?_
  rotate_left
  · (intro w hSw; (try dsimp only at hSw); go_simp; all_goals with_reducible rfl)
  (try simp only [Act.put, List.setIfInBounds_toArray, List.set_cons_zero, List.set_cons_succ])
  refine wpAnyH_done (by kernel_rfl) ?_ _
  go_wp2_with fail
  refine wp_region_held_drew (S := (fun w' => w'.cell? ⟨w.heap.size, 0, none⟩ = some (.bool kn) ∧ w'.cell? ⟨w.heap.size, 1, none⟩ = some (.int .i64 lo) ∧ w'.cell? ⟨w.heap.size, 2, none⟩ = some (.int .i64 hi) ∧ w'.cell? ⟨w.heap.size, 3, none⟩ = some (.int .i64 a) ∧ w'.cell? ⟨w.heap.size + 1, 0, none⟩ = some (.int .i64 n) ∧ w'.cell? ⟨w.heap.size + 1, 1, none⟩ = some (.int .i64 d))) (by kernel_rfl) ?_ (fun hHeld => ?_)
  · simp (maxDischargeDepth := 6) [go_sem, *]
  clear a0 a1 a2 a3 a4 a5 a6 a7 a8 b0 b1 b2 b3 b4 ; (try clear n0 n1 n2 n3 n4); (try clear m0 m1 m2 m3 m4)
  replace P := P.drew
  replace Q := Q.drew
  replace B := B.drew
  (try replace M := M.drew)
  generalize v.drew = v at *
  obtain ⟨a0, a1, a2, a3, a4, a5, a6, a7, a8⟩ := id P; obtain ⟨b0, b1, b2, b3, b4⟩ := id Q; (try (obtain ⟨n0, n1, n2, n3, n4⟩ := id N)); (try (obtain ⟨m0, m1, m2, m3, m4⟩ := id M))
  refine wpAnyH_take (i := 0) (v := ?_) (by rw [List.getElem?_toArray]; rfl) (by kernel_rfl) (by kernel_rfl) (by kernel_rfl) (by intro _ _ _ h; exact h) (Or.inl ⟨by rfl, ?_⟩) (by assumption) ?_
  rotate_left
  · (intro w hSw; (try dsimp only at hSw); go_simp; all_goals with_reducible rfl)
  (try simp only [Act.put, List.setIfInBounds_toArray, List.set_cons_zero, List.set_cons_succ])
  refine wpAnyH_take (i := 2) (v := ?_) (by rw [List.getElem?_toArray]; rfl) (by kernel_rfl) (by kernel_rfl) (by kernel_rfl) (by intro _ _ _ h; exact h) (Or.inl ⟨by rfl, ?_⟩) (by assumption) ?_
  rotate_left
  · (intro w hSw; (try dsimp only at hSw); go_simp; all_goals with_reducible rfl)
  (try simp only [Act.put, List.setIfInBounds_toArray, List.set_cons_zero, List.set_cons_succ])
  refine wpAnyH_take (i := 4) (v := ?_) (by rw [List.getElem?_toArray]; rfl) (by kernel_rfl) (by kernel_rfl) (by kernel_rfl) (by intro _ _ _ h; exact h) (Or.inl ⟨by rfl, ?_⟩) (by assumption) ?_
  rotate_left
  · (intro w hSw; (try dsimp only at hSw); go_simp; all_goals with_reducible rfl)
  (try simp only [Act.put, List.setIfInBounds_toArray, List.set_cons_zero, List.set_cons_succ])
  refine wpAnyH_ready (rs := [1]) (by kernel_rfl) (by simp) ?_
  refine AllReadyH.cons (by rw [List.getElem?_toArray]; rfl) (fun K hK => ?_) AllReadyH.nil
  go_simp
  refine (toLocal_any _ _ _ _ _).mono ?_; rintro e v ⟨rfl, hb⟩; clear a0 a1 a2 a3 a4 a5 a6 a7 a8 b0 b1 b2 b3 b4 ; (try clear n0 n1 n2 n3 n4); (try clear m0 m1 m2 m3 m4); (replace P := P.below hb); (replace Q := Q.below hb); (try (replace N := N.below hb)); (try (replace M := M.below hb)); (replace B := B.trans (hb.mono B.size)); clear hb; obtain ⟨a0, a1, a2, a3, a4, a5, a6, a7, a8⟩ := id P; obtain ⟨b0, b1, b2, b3, b4⟩ := id Q; (try (obtain ⟨n0, n1, n2, n3, n4⟩ := id N)); (try (obtain ⟨m0, m1, m2, m3, m4⟩ := id M))
  (try go_wp2_with fail)
  refine hK.out _ _ ?_ (fun hHeld => ?_)
  · simp (maxDischargeDepth := 6) [go_sem, *]
  clear hK K
  (try simp only [Act.put, List.setIfInBounds_toArray, List.set_cons_zero, List.set_cons_succ])
  refine wpAnyH_ready (rs := [3]) (by kernel_rfl) (by simp) ?_
  refine AllReadyH.cons (by rw [List.getElem?_toArray]; rfl) (fun K hK => ?_) AllReadyH.nil
  go_simp
  refine (toDrift_any _ _ _).mono ?_; rintro e v ⟨rfl, hb⟩; clear a0 a1 a2 a3 a4 a5 a6 a7 a8 b0 b1 b2 b3 b4 ; (try clear n0 n1 n2 n3 n4); (try clear m0 m1 m2 m3 m4); (replace P := P.below hb); (replace Q := Q.below hb); (try (replace N := N.below hb)); (try (replace M := M.below hb)); (replace B := B.trans (hb.mono B.size)); clear hb; obtain ⟨a0, a1, a2, a3, a4, a5, a6, a7, a8⟩ := id P; obtain ⟨b0, b1, b2, b3, b4⟩ := id Q; (try (obtain ⟨n0, n1, n2, n3, n4⟩ := id N)); (try (obtain ⟨m0, m1, m2, m3, m4⟩ := id M))
  (try go_wp2_with fail)
  refine hK.out _ _ ?_ (fun hHeld => ?_)
  · simp (maxDischargeDepth := 6) [go_sem, *]
  clear hK K
  (try simp only [Act.put, List.setIfInBounds_toArray, List.set_cons_zero, List.set_cons_succ])
  refine wpAnyH_ready (rs := [5]) (by kernel_rfl) (by simp) ?_
  refine AllReadyH.cons (by rw [List.getElem?_toArray]; rfl) (fun K hK => ?_) AllReadyH.nil
  go_simp
  refine (CI _).mono ?_; rintro e v ⟨rfl, hb⟩; clear a0 a1 a2 a3 a4 a5 a6 a7 a8 b0 b1 b2 b3 b4 ; (try clear n0 n1 n2 n3 n4); (try clear m0 m1 m2 m3 m4); (replace P := P.below hb); (replace Q := Q.below hb); (try (replace N := N.below hb)); (try (replace M := M.below hb)); (replace B := B.trans (hb.mono B.size)); clear hb; obtain ⟨a0, a1, a2, a3, a4, a5, a6, a7, a8⟩ := id P; obtain ⟨b0, b1, b2, b3, b4⟩ := id Q; (try (obtain ⟨n0, n1, n2, n3, n4⟩ := id N)); (try (obtain ⟨m0, m1, m2, m3, m4⟩ := id M))
  (try go_wp2_with fail)
  refine hK.out _ _ ?_ (fun hHeld => ?_)
  · simp (maxDischargeDepth := 6) [go_sem, *]
  clear hK K
  (try simp only [Act.put, List.setIfInBounds_toArray, List.set_cons_zero, List.set_cons_succ])
  refine wpAnyH_take (i := 6) (v := ?_) (by rw [List.getElem?_toArray]; rfl) (by kernel_rfl) (by kernel_rfl) (by kernel_rfl) (by intro _ _ _ h; exact h) (Or.inl ⟨by rfl, ?_⟩) (by assumption) ?_
  rotate_left
  · (intro w hSw; (try dsimp only at hSw); go_simp; all_goals with_reducible rfl)
  (try simp only [Act.put, List.setIfInBounds_toArray, List.set_cons_zero, List.set_cons_succ])
  refine wpAnyH_done (by kernel_rfl) ?_ _
  clear CS CI
  go_wp2
  go_ret
  exact ⟨rfl, B⟩
set_option maxRecDepth 100000 in
set_option maxHeartbeats 4000000 in
theorem lawKnownFor (kn : Bool) (lo hi a n d c : Int) (w : World) (g0 : (Lit.int .i64 lo).wf = true) (g1 : (Lit.int .i64 hi).wf = true) (g2 : (Lit.int .i64 a).wf = true) (g3 : (Lit.int .i64 n).wf = true) (g4 : (Lit.int .i64 d).wf = true) (g5 : (Lit.int .i64 c).wf = true) :
    Calls Try.prog 9 #[.agg #[.bool kn, .int .i64 lo, .int .i64 hi, .int .i64 a], .agg #[.int .i64 n, .int .i64 d], .int .i64 c] w fun e w' => e = .returned (.bool true) ∧ Below w.heap.size w w' := by
  clear g0 g1 g2 g3 g4 g5
  have P := ((BoxL.new w kn lo hi a 25).alloc (.cells #[.int .i64 n, .int .i64 d] 33))
  have Q := (Bx.new (w.alloc (.cells #[.bool kn, .int .i64 lo, .int .i64 hi, .int .i64 a] 25)) n d 33)
  have B : Below w.heap.size w ((w.alloc (.cells #[.bool kn, .int .i64 lo, .int .i64 hi, .int .i64 a] 25)).alloc (.cells #[.int .i64 n, .int .i64 d] 33)) := (Below.alc _ _).alloc (by first | (simp; done) | (simp; omega) | omega) _
  simp only [World.size_alloc] at Q
  have CS := fun w' => specKnownFor_any kn lo hi a n d c w'
  have CI := fun w' => implKnownFor_any kn lo hi a n d c w'
  go_enter Try.func9, Try.ntmps9
  go_wp2_with fail
  generalize kfN kn lo hi a n d c = kz at *
  generalize kfB kn lo hi a n d c = kb at *
  generalize (w.alloc (.cells #[.bool kn, .int .i64 lo, .int .i64 hi, .int .i64 a] 25)).alloc (.cells #[.int .i64 n, .int .i64 d] 33) = v at *
  obtain ⟨a0, a1, a2, a3, a4, a5, a6, a7, a8⟩ := id P; obtain ⟨b0, b1, b2, b3, b4⟩ := id Q; (try (obtain ⟨n0, n1, n2, n3, n4⟩ := id N)); (try (obtain ⟨m0, m1, m2, m3, m4⟩ := id M))
  refine wp_region_held_drew (S := (fun w' => w'.cell? ⟨w.heap.size, 0, none⟩ = some (.bool kn) ∧ w'.cell? ⟨w.heap.size, 1, none⟩ = some (.int .i64 lo) ∧ w'.cell? ⟨w.heap.size, 2, none⟩ = some (.int .i64 hi) ∧ w'.cell? ⟨w.heap.size, 3, none⟩ = some (.int .i64 a) ∧ w'.cell? ⟨w.heap.size + 1, 0, none⟩ = some (.int .i64 n) ∧ w'.cell? ⟨w.heap.size + 1, 1, none⟩ = some (.int .i64 d))) (by kernel_rfl) ?_ (fun hHeld => ?_)
  · simp (maxDischargeDepth := 6) [go_sem, *]
  clear a0 a1 a2 a3 a4 a5 a6 a7 a8 b0 b1 b2 b3 b4 ; (try clear n0 n1 n2 n3 n4); (try clear m0 m1 m2 m3 m4)
  replace P := P.drew
  replace Q := Q.drew
  replace B := B.drew
  (try replace M := M.drew)
  generalize v.drew = v at *
  obtain ⟨a0, a1, a2, a3, a4, a5, a6, a7, a8⟩ := id P; obtain ⟨b0, b1, b2, b3, b4⟩ := id Q; (try (obtain ⟨n0, n1, n2, n3, n4⟩ := id N)); (try (obtain ⟨m0, m1, m2, m3, m4⟩ := id M))
  refine wpAnyH_take (i := 0) (v := ?_) (by rw [List.getElem?_toArray]; rfl) (by kernel_rfl) (by kernel_rfl) (by kernel_rfl) (by intro _ _ _ h; exact h) (Or.inl ⟨by rfl, ?_⟩) (by assumption) ?_
  rotate_left
  · (intro w hSw; (try dsimp only at hSw); go_simp; all_goals with_reducible rfl)
  (try simp only [Act.put, List.setIfInBounds_toArray, List.set_cons_zero, List.set_cons_succ])
  refine wpAnyH_take (i := 2) (v := ?_) (by rw [List.getElem?_toArray]; rfl) (by kernel_rfl) (by kernel_rfl) (by kernel_rfl) (by intro _ _ _ h; exact h) (Or.inl ⟨by rfl, ?_⟩) (by assumption) ?_
  rotate_left
  · (intro w hSw; (try dsimp only at hSw); go_simp; all_goals with_reducible rfl)
  (try simp only [Act.put, List.setIfInBounds_toArray, List.set_cons_zero, List.set_cons_succ])
  refine wpAnyH_take (i := 4) (v := ?_) (by rw [List.getElem?_toArray]; rfl) (by kernel_rfl) (by kernel_rfl) (by kernel_rfl) (by intro _ _ _ h; exact h) (Or.inl ⟨by rfl, ?_⟩) (by assumption) ?_
  rotate_left
  · (intro w hSw; (try dsimp only at hSw); go_simp; all_goals with_reducible rfl)
  (try simp only [Act.put, List.setIfInBounds_toArray, List.set_cons_zero, List.set_cons_succ])
  refine wpAnyH_ready (rs := [1]) (by kernel_rfl) (by simp) ?_
  refine AllReadyH.cons (by rw [List.getElem?_toArray]; rfl) (fun K hK => ?_) AllReadyH.nil
  go_simp
  refine (toLocal_any _ _ _ _ _).mono ?_; rintro e v ⟨rfl, hb⟩; clear a0 a1 a2 a3 a4 a5 a6 a7 a8 b0 b1 b2 b3 b4 ; (try clear n0 n1 n2 n3 n4); (try clear m0 m1 m2 m3 m4); (replace P := P.below hb); (replace Q := Q.below hb); (try (replace N := N.below hb)); (try (replace M := M.below hb)); (replace B := B.trans (hb.mono B.size)); clear hb; obtain ⟨a0, a1, a2, a3, a4, a5, a6, a7, a8⟩ := id P; obtain ⟨b0, b1, b2, b3, b4⟩ := id Q; (try (obtain ⟨n0, n1, n2, n3, n4⟩ := id N)); (try (obtain ⟨m0, m1, m2, m3, m4⟩ := id M))
  (try go_wp2_with fail)
  refine hK.out _ _ ?_ (fun hHeld => ?_)
  · simp (maxDischargeDepth := 6) [go_sem, *]
  clear hK K
  (try simp only [Act.put, List.setIfInBounds_toArray, List.set_cons_zero, List.set_cons_succ])
  refine wpAnyH_ready (rs := [3]) (by kernel_rfl) (by simp) ?_
  refine AllReadyH.cons (by rw [List.getElem?_toArray]; rfl) (fun K hK => ?_) AllReadyH.nil
  go_simp
  refine (toDrift_any _ _ _).mono ?_; rintro e v ⟨rfl, hb⟩; clear a0 a1 a2 a3 a4 a5 a6 a7 a8 b0 b1 b2 b3 b4 ; (try clear n0 n1 n2 n3 n4); (try clear m0 m1 m2 m3 m4); (replace P := P.below hb); (replace Q := Q.below hb); (try (replace N := N.below hb)); (try (replace M := M.below hb)); (replace B := B.trans (hb.mono B.size)); clear hb; obtain ⟨a0, a1, a2, a3, a4, a5, a6, a7, a8⟩ := id P; obtain ⟨b0, b1, b2, b3, b4⟩ := id Q; (try (obtain ⟨n0, n1, n2, n3, n4⟩ := id N)); (try (obtain ⟨m0, m1, m2, m3, m4⟩ := id M))
  (try go_wp2_with fail)
  refine hK.out _ _ ?_ (fun hHeld => ?_)
  · simp (maxDischargeDepth := 6) [go_sem, *]
  clear hK K
  (try simp only [Act.put, List.setIfInBounds_toArray, List.set_cons_zero, List.set_cons_succ])
  refine wpAnyH_ready (rs := [5]) (by kernel_rfl) (by simp) ?_
  refine AllReadyH.cons (by rw [List.getElem?_toArray]; rfl) (fun K hK => ?_) AllReadyH.nil
  go_simp
  refine (CS _).mono ?_; rintro e v ⟨rfl, hb⟩; clear a0 a1 a2 a3 a4 a5 a6 a7 a8 b0 b1 b2 b3 b4 ; (try clear n0 n1 n2 n3 n4); (try clear m0 m1 m2 m3 m4); (replace P := P.below hb); (replace Q := Q.below hb); (try (replace N := N.below hb)); (try (replace M := M.below hb)); (replace B := B.trans (hb.mono B.size)); clear hb; obtain ⟨a0, a1, a2, a3, a4, a5, a6, a7, a8⟩ := id P; obtain ⟨b0, b1, b2, b3, b4⟩ := id Q; (try (obtain ⟨n0, n1, n2, n3, n4⟩ := id N)); (try (obtain ⟨m0, m1, m2, m3, m4⟩ := id M))
  (try go_wp2_with fail)
  refine hK.out _ _ ?_ (fun hHeld => ?_)
  · simp (maxDischargeDepth := 6) [go_sem, *]
  clear hK K
  (try simp only [Act.put, List.setIfInBounds_toArray, List.set_cons_zero, List.set_cons_succ])
  refine wpAnyH_take (i := 6) (v := ?_) (by rw [List.getElem?_toArray]; rfl) (by kernel_rfl) (by kernel_rfl) (by kernel_rfl) (by intro _ _ _ h; exact h) (Or.inl ⟨by rfl, ?_⟩) (by assumption) ?_
  rotate_left
  · (intro w hSw; (try dsimp only at hSw); go_simp; all_goals with_reducible rfl)
  (try simp only [Act.put, List.setIfInBounds_toArray, List.set_cons_zero, List.set_cons_succ])
  refine wpAnyH_take (i := 7) (v := ?_) (by rw [List.getElem?_toArray]; rfl) (by kernel_rfl) (by kernel_rfl) (by kernel_rfl) (by intro _ _ _ h; exact h) (Or.inl ⟨by rfl, ?_⟩) (by assumption) ?_
  rotate_left
  · (intro w hSw; (try dsimp only at hSw); go_simp; all_goals with_reducible rfl)
  (try simp only [Act.put, List.setIfInBounds_toArray, List.set_cons_zero, List.set_cons_succ])
  refine wpAnyH_take (i := 8) (v := ?_) (by rw [List.getElem?_toArray]; rfl) (by kernel_rfl) (by kernel_rfl) (by kernel_rfl) (by intro _ _ _ h; exact h) (Or.inl ⟨by rfl, ?_⟩) (by assumption) ?_
  rotate_left
  · (intro w hSw; (try dsimp only at hSw); go_simp; all_goals with_reducible rfl)
  (try simp only [Act.put, List.setIfInBounds_toArray, List.set_cons_zero, List.set_cons_succ])
  refine wpAnyH_take (i := 9) (v := ?_) (by rw [List.getElem?_toArray]; rfl) (by kernel_rfl) (by kernel_rfl) (by kernel_rfl) (by intro _ _ _ h; exact h) (Or.inl ⟨by rfl, ?_⟩) (by assumption) ?_
  rotate_left
  · (intro w hSw; (try dsimp only at hSw); go_simp; all_goals with_reducible rfl)
  (try simp only [Act.put, List.setIfInBounds_toArray, List.set_cons_zero, List.set_cons_succ])
  refine wpAnyH_take (i := 10) (v := ?_) (by rw [List.getElem?_toArray]; rfl) (by kernel_rfl) (by kernel_rfl) (by kernel_rfl) (by intro _ _ _ h; exact h) (Or.inl ⟨by rfl, ?_⟩) (by assumption) ?_
  rotate_left
  · (intro w hSw; (try dsimp only at hSw); go_simp; all_goals with_reducible rfl)
  (try simp only [Act.put, List.setIfInBounds_toArray, List.set_cons_zero, List.set_cons_succ])
  refine wpAnyH_done (by kernel_rfl) ?_ _
  go_wp2_with fail
  refine wp_region_held_drew (S := (fun w' => w'.cell? ⟨w.heap.size, 0, none⟩ = some (.bool kn) ∧ w'.cell? ⟨w.heap.size, 1, none⟩ = some (.int .i64 lo) ∧ w'.cell? ⟨w.heap.size, 2, none⟩ = some (.int .i64 hi) ∧ w'.cell? ⟨w.heap.size, 3, none⟩ = some (.int .i64 a) ∧ w'.cell? ⟨w.heap.size + 1, 0, none⟩ = some (.int .i64 n) ∧ w'.cell? ⟨w.heap.size + 1, 1, none⟩ = some (.int .i64 d))) (by kernel_rfl) ?_ (fun hHeld => ?_)
  · simp (maxDischargeDepth := 6) [go_sem, *]
  clear a0 a1 a2 a3 a4 a5 a6 a7 a8 b0 b1 b2 b3 b4 ; (try clear n0 n1 n2 n3 n4); (try clear m0 m1 m2 m3 m4)
  replace P := P.drew
  replace Q := Q.drew
  replace B := B.drew
  (try replace M := M.drew)
  generalize v.drew = v at *
  obtain ⟨a0, a1, a2, a3, a4, a5, a6, a7, a8⟩ := id P; obtain ⟨b0, b1, b2, b3, b4⟩ := id Q; (try (obtain ⟨n0, n1, n2, n3, n4⟩ := id N)); (try (obtain ⟨m0, m1, m2, m3, m4⟩ := id M))
  refine wpAnyH_take (i := 0) (v := ?_) (by rw [List.getElem?_toArray]; rfl) (by kernel_rfl) (by kernel_rfl) (by kernel_rfl) (by intro _ _ _ h; exact h) (Or.inl ⟨by rfl, ?_⟩) (by assumption) ?_
  rotate_left
  · (intro w hSw; (try dsimp only at hSw); go_simp; all_goals with_reducible rfl)
  (try simp only [Act.put, List.setIfInBounds_toArray, List.set_cons_zero, List.set_cons_succ])
  refine wpAnyH_take (i := 2) (v := ?_) (by rw [List.getElem?_toArray]; rfl) (by kernel_rfl) (by kernel_rfl) (by kernel_rfl) (by intro _ _ _ h; exact h) (Or.inl ⟨by rfl, ?_⟩) (by assumption) ?_
  rotate_left
  · (intro w hSw; (try dsimp only at hSw); go_simp; all_goals with_reducible rfl)
  (try simp only [Act.put, List.setIfInBounds_toArray, List.set_cons_zero, List.set_cons_succ])
  refine wpAnyH_take (i := 4) (v := ?_) (by rw [List.getElem?_toArray]; rfl) (by kernel_rfl) (by kernel_rfl) (by kernel_rfl) (by intro _ _ _ h; exact h) (Or.inl ⟨by rfl, ?_⟩) (by assumption) ?_
  rotate_left
  · (intro w hSw; (try dsimp only at hSw); go_simp; all_goals with_reducible rfl)
  (try simp only [Act.put, List.setIfInBounds_toArray, List.set_cons_zero, List.set_cons_succ])
  refine wpAnyH_ready (rs := [1]) (by kernel_rfl) (by simp) ?_
  refine AllReadyH.cons (by rw [List.getElem?_toArray]; rfl) (fun K hK => ?_) AllReadyH.nil
  go_simp
  refine (toLocal_any _ _ _ _ _).mono ?_; rintro e v ⟨rfl, hb⟩; clear a0 a1 a2 a3 a4 a5 a6 a7 a8 b0 b1 b2 b3 b4 ; (try clear n0 n1 n2 n3 n4); (try clear m0 m1 m2 m3 m4); (replace P := P.below hb); (replace Q := Q.below hb); (try (replace N := N.below hb)); (try (replace M := M.below hb)); (replace B := B.trans (hb.mono B.size)); clear hb; obtain ⟨a0, a1, a2, a3, a4, a5, a6, a7, a8⟩ := id P; obtain ⟨b0, b1, b2, b3, b4⟩ := id Q; (try (obtain ⟨n0, n1, n2, n3, n4⟩ := id N)); (try (obtain ⟨m0, m1, m2, m3, m4⟩ := id M))
  (try go_wp2_with fail)
  refine hK.out _ _ ?_ (fun hHeld => ?_)
  · simp (maxDischargeDepth := 6) [go_sem, *]
  clear hK K
  (try simp only [Act.put, List.setIfInBounds_toArray, List.set_cons_zero, List.set_cons_succ])
  refine wpAnyH_ready (rs := [3]) (by kernel_rfl) (by simp) ?_
  refine AllReadyH.cons (by rw [List.getElem?_toArray]; rfl) (fun K hK => ?_) AllReadyH.nil
  go_simp
  refine (toDrift_any _ _ _).mono ?_; rintro e v ⟨rfl, hb⟩; clear a0 a1 a2 a3 a4 a5 a6 a7 a8 b0 b1 b2 b3 b4 ; (try clear n0 n1 n2 n3 n4); (try clear m0 m1 m2 m3 m4); (replace P := P.below hb); (replace Q := Q.below hb); (try (replace N := N.below hb)); (try (replace M := M.below hb)); (replace B := B.trans (hb.mono B.size)); clear hb; obtain ⟨a0, a1, a2, a3, a4, a5, a6, a7, a8⟩ := id P; obtain ⟨b0, b1, b2, b3, b4⟩ := id Q; (try (obtain ⟨n0, n1, n2, n3, n4⟩ := id N)); (try (obtain ⟨m0, m1, m2, m3, m4⟩ := id M))
  (try go_wp2_with fail)
  refine hK.out _ _ ?_ (fun hHeld => ?_)
  · simp (maxDischargeDepth := 6) [go_sem, *]
  clear hK K
  (try simp only [Act.put, List.setIfInBounds_toArray, List.set_cons_zero, List.set_cons_succ])
  refine wpAnyH_ready (rs := [5]) (by kernel_rfl) (by simp) ?_
  refine AllReadyH.cons (by rw [List.getElem?_toArray]; rfl) (fun K hK => ?_) AllReadyH.nil
  go_simp
  refine (CI _).mono ?_; rintro e v ⟨rfl, hb⟩; clear a0 a1 a2 a3 a4 a5 a6 a7 a8 b0 b1 b2 b3 b4 ; (try clear n0 n1 n2 n3 n4); (try clear m0 m1 m2 m3 m4); (replace P := P.below hb); (replace Q := Q.below hb); (try (replace N := N.below hb)); (try (replace M := M.below hb)); (replace B := B.trans (hb.mono B.size)); clear hb; obtain ⟨a0, a1, a2, a3, a4, a5, a6, a7, a8⟩ := id P; obtain ⟨b0, b1, b2, b3, b4⟩ := id Q; (try (obtain ⟨n0, n1, n2, n3, n4⟩ := id N)); (try (obtain ⟨m0, m1, m2, m3, m4⟩ := id M))
  (try go_wp2_with fail)
  refine hK.out _ _ ?_ (fun hHeld => ?_)
  · simp (maxDischargeDepth := 6) [go_sem, *]
  clear hK K
  (try simp only [Act.put, List.setIfInBounds_toArray, List.set_cons_zero, List.set_cons_succ])
  refine wpAnyH_take (i := 6) (v := ?_) (by rw [List.getElem?_toArray]; rfl) (by kernel_rfl) (by kernel_rfl) (by kernel_rfl) (by intro _ _ _ h; exact h) (Or.inl ⟨by rfl, ?_⟩) (by assumption) ?_
  rotate_left
  · (intro w hSw; (try dsimp only at hSw); go_simp; all_goals with_reducible rfl)
  (try simp only [Act.put, List.setIfInBounds_toArray, List.set_cons_zero, List.set_cons_succ])
  refine wpAnyH_take (i := 7) (v := ?_) (by rw [List.getElem?_toArray]; rfl) (by kernel_rfl) (by kernel_rfl) (by kernel_rfl) (by intro _ _ _ h; exact h) (Or.inl ⟨by rfl, ?_⟩) (by assumption) ?_
  rotate_left
  · (intro w hSw; (try dsimp only at hSw); go_simp; all_goals with_reducible rfl)
  (try simp only [Act.put, List.setIfInBounds_toArray, List.set_cons_zero, List.set_cons_succ])
  refine wpAnyH_take (i := 8) (v := ?_) (by rw [List.getElem?_toArray]; rfl) (by kernel_rfl) (by kernel_rfl) (by kernel_rfl) (by intro _ _ _ h; exact h) (Or.inl ⟨by rfl, ?_⟩) (by assumption) ?_
  rotate_left
  · (intro w hSw; (try dsimp only at hSw); go_simp; all_goals with_reducible rfl)
  (try simp only [Act.put, List.setIfInBounds_toArray, List.set_cons_zero, List.set_cons_succ])
  refine wpAnyH_take (i := 9) (v := ?_) (by rw [List.getElem?_toArray]; rfl) (by kernel_rfl) (by kernel_rfl) (by kernel_rfl) (by intro _ _ _ h; exact h) (Or.inl ⟨by rfl, ?_⟩) (by assumption) ?_
  rotate_left
  · (intro w hSw; (try dsimp only at hSw); go_simp; all_goals with_reducible rfl)
  (try simp only [Act.put, List.setIfInBounds_toArray, List.set_cons_zero, List.set_cons_succ])
  refine wpAnyH_take (i := 10) (v := ?_) (by rw [List.getElem?_toArray]; rfl) (by kernel_rfl) (by kernel_rfl) (by kernel_rfl) (by intro _ _ _ h; exact h) (Or.inl ⟨by rfl, ?_⟩) (by assumption) ?_
  rotate_left
  · (intro w hSw; (try dsimp only at hSw); go_simp; all_goals with_reducible rfl)
  (try simp only [Act.put, List.setIfInBounds_toArray, List.set_cons_zero, List.set_cons_succ])
  refine wpAnyH_done (by kernel_rfl) ?_ _
  clear CS CI
  go_wp2
  go_ret
  exact ⟨rfl, B⟩
end Go.Proofs.Ytenknfgdolhilaa
