/- The walk of the exact law of Narrow. -/
import Derived.Test.YtenknfgdolhilaaQ4
import Derived.Deep.RegionHeld3
import Derived.Deep.DeepCutAuto
import Derived.WalkKit
import Derived.WalkSpells
import Derived.WalkLawsBesides
import Derived.Deep.RegionHeld
namespace Go.Proofs.Ytenknfgdolhilaa
open Go.RowKit
set_option linter.unusedVariables false
set_option maxRecDepth 100000 in
set_option maxHeartbeats 4000000 in
theorem lawNarrow (kn : Bool) (lo hi a n d c x y : Int) (w : World) (g0 : (Lit.int .i64 lo).wf = true) (g1 : (Lit.int .i64 hi).wf = true) (g2 : (Lit.int .i64 a).wf = true) (g3 : (Lit.int .i64 n).wf = true) (g4 : (Lit.int .i64 d).wf = true) (g5 : (Lit.int .i64 c).wf = true) (g6 : (Lit.int .i64 x).wf = true) (g7 : (Lit.int .i64 y).wf = true) :
    Calls Try.prog 7 #[.agg #[.bool kn, .int .i64 lo, .int .i64 hi, .int .i64 a], .agg #[.int .i64 n, .int .i64 d], .int .i64 c, .agg #[.int .i64 x, .int .i64 y]] w fun e w' => e = .returned (.bool true) ∧ Below w.heap.size w w' := by
  clear g0 g1 g2 g3 g4 g5 g6 g7
  have P := ((BoxL.new w kn lo hi a 25).alloc (.cells #[.int .i64 n, .int .i64 d] 33)).alloc (.cells #[.int .i64 x, .int .i64 y] 23)
  have Q := (Bx.new (w.alloc (.cells #[.bool kn, .int .i64 lo, .int .i64 hi, .int .i64 a] 25)) n d 33).alloc (.cells #[.int .i64 x, .int .i64 y] 23)
  have V := Bx.new ((w.alloc (.cells #[.bool kn, .int .i64 lo, .int .i64 hi, .int .i64 a] 25)).alloc (.cells #[.int .i64 n, .int .i64 d] 33)) x y 23
  have B : Below w.heap.size w (((w.alloc (.cells #[.bool kn, .int .i64 lo, .int .i64 hi, .int .i64 a] 25)).alloc (.cells #[.int .i64 n, .int .i64 d] 33)).alloc (.cells #[.int .i64 x, .int .i64 y] 23)) := ((Below.alc _ _).alloc (by first | (simp; done) | (simp; omega) | omega) _).alloc (by first | (simp; done) | (simp; omega) | omega) _
  simp only [World.size_alloc] at Q V
  have CS := fun w' => specNarrow_any kn lo hi a n d c x y w'
  have CI := fun w' => implNarrow_any kn lo hi a n d c x y w'
  go_enter Try.func7, Try.ntmps7
  go_wp2_with fail
  generalize nwK kn lo hi a n d c x y = k1 at *
  generalize nwL kn lo hi a n d c x y = k2 at *
  generalize nwH kn lo hi a n d c x y = k3 at *
  generalize nwA kn lo hi a n d c x y = k4 at *
  generalize nwC kn lo hi a n d c x y = kz at *
  generalize ((w.alloc (.cells #[.bool kn, .int .i64 lo, .int .i64 hi, .int .i64 a] 25)).alloc (.cells #[.int .i64 n, .int .i64 d] 33)).alloc (.cells #[.int .i64 x, .int .i64 y] 23) = v at *
  obtain ⟨a0, a1, a2, a3, a4, a5, a6, a7, a8⟩ := id P; obtain ⟨b0, b1, b2, b3, b4⟩ := id Q; obtain ⟨s0, s1, s2, s3, s4⟩ := id V; (try (obtain ⟨n0, n1, n2, n3, n4, n5, n6, n7, n8⟩ := id N)); (try (obtain ⟨m0, m1, m2, m3, m4, m5, m6, m7, m8⟩ := id M))
  go_cut [9, 10] (fun s5 s6 wx => ∃ j : Nat, s5 = .pointer (some ⟨j, 0, none⟩) ∧ s6 = .int .i64 kz ∧ BoxL wx j k1 k2 k3 k4 ∧ w.heap.size + 1 + 1 < j ∧ BoxL wx w.heap.size kn lo hi a ∧ Bx wx (w.heap.size + 1) n d ∧ Bx wx (w.heap.size + 1 + 1) x y ∧ Below w.heap.size w wx)
  case first =>
    refine wp_region_held_drew (S := (fun w' => w'.cell? ⟨w.heap.size, 0, none⟩ = some (.bool kn) ∧ w'.cell? ⟨w.heap.size, 1, none⟩ = some (.int .i64 lo) ∧ w'.cell? ⟨w.heap.size, 2, none⟩ = some (.int .i64 hi) ∧ w'.cell? ⟨w.heap.size, 3, none⟩ = some (.int .i64 a) ∧ w'.cell? ⟨w.heap.size + 1, 0, none⟩ = some (.int .i64 n) ∧ w'.cell? ⟨w.heap.size + 1, 1, none⟩ = some (.int .i64 d) ∧ w'.cell? ⟨w.heap.size + 1 + 1, 0, none⟩ = some (.int .i64 x) ∧ w'.cell? ⟨w.heap.size + 1 + 1, 1, none⟩ = some (.int .i64 y))) (by kernel_rfl) ?_ (fun hHeld => ?_)
    · simp (maxDischargeDepth := 6) [go_sem, *]
    clear a0 a1 a2 a3 a4 a5 a6 a7 a8 b0 b1 b2 b3 b4 s0 s1 s2 s3 s4; (try clear n0 n1 n2 n3 n4 n5 n6 n7 n8); (try clear m0 m1 m2 m3 m4 m5 m6 m7 m8)
    replace P := P.drew
    replace Q := Q.drew
    replace V := V.drew
    replace B := B.drew
    (try replace M := M.drew)
    generalize v.drew = v at *
    obtain ⟨a0, a1, a2, a3, a4, a5, a6, a7, a8⟩ := id P; obtain ⟨b0, b1, b2, b3, b4⟩ := id Q; obtain ⟨s0, s1, s2, s3, s4⟩ := id V; (try (obtain ⟨n0, n1, n2, n3, n4, n5, n6, n7, n8⟩ := id N)); (try (obtain ⟨m0, m1, m2, m3, m4, m5, m6, m7, m8⟩ := id M))
    refine wpAnyH_take (i := 0) (v := ?_) (by rw [List.getElem?_toArray]; rfl) (by kernel_rfl) (by kernel_rfl) (by kernel_rfl) (by intro _ _ _ h; exact h) (Or.inl ⟨by rfl, ?_⟩) (by assumption) ?_
    rotate_left
    · (intro w hSw; (try dsimp only at hSw); go_simp; all_goals with_reducible rfl)
    (try simp only [Act.put, List.setIfInBounds_toArray, List.set_cons_zero, List.set_cons_succ])
    refine wpAnyH_take (i := 2) (v := ?_) (by rw [List.getElem?_toArray]; rfl) (by kernel_rfl) (by kernel_rfl) (by kernel_rfl) (by intro _ _ _ h; exact h) (Or.inl ⟨by rfl, ?_⟩) (by assumption) ?_
    rotate_left
    · (intro w hSw; (try dsimp only at hSw); go_simp; all_goals with_reducible rfl)
    (try simp only [Act.put, List.setIfInBounds_toArray, List.set_cons_zero, List.set_cons_succ])
    refine wpAnyH_take (i := 4) (v := ?_) (by rw [List.getElem?_toArray]; rfl) (by kernel_rfl) (by kernel_rfl) (by kernel_rfl) (by intro _ _ _ h; exact h) (Or.inl ⟨by rfl, ?_⟩) (by assumption) ?_
    rotate_left
    · (intro w hSw; (try dsimp only at hSw); go_simp; all_goals with_reducible rfl)
    (try simp only [Act.put, List.setIfInBounds_toArray, List.set_cons_zero, List.set_cons_succ])
    refine wpAnyH_take (i := 5) (v := ?_) (by rw [List.getElem?_toArray]; rfl) (by kernel_rfl) (by kernel_rfl) (by kernel_rfl) (by intro _ _ _ h; exact h) (Or.inl ⟨by rfl, ?_⟩) (by assumption) ?_
    rotate_left
    · (intro w hSw; (try dsimp only at hSw); go_simp; all_goals with_reducible rfl)
    (try simp only [Act.put, List.setIfInBounds_toArray, List.set_cons_zero, List.set_cons_succ])
    refine wpAnyH_ready (rs := [1, 11]) (by kernel_rfl) (by simp) ?_
    refine (AllReadyH.cons (by rw [List.getElem?_toArray]; rfl) (fun K hK => ?_) (AllReadyH.cons (by rw [List.getElem?_toArray]; rfl) (fun K hK => ?_) AllReadyH.nil))
    · go_simp
      refine (toLocal_any _ _ _ _ _).mono ?_; rintro e v ⟨rfl, hb⟩; clear a0 a1 a2 a3 a4 a5 a6 a7 a8 b0 b1 b2 b3 b4 s0 s1 s2 s3 s4; (try clear n0 n1 n2 n3 n4 n5 n6 n7 n8); (try clear m0 m1 m2 m3 m4 m5 m6 m7 m8); (replace P := P.below hb); (replace Q := Q.below hb); (replace V := V.below hb); (try (replace N := N.below hb)); (try (replace M := M.below hb)); (replace B := B.trans (hb.mono B.size)); clear hb; obtain ⟨a0, a1, a2, a3, a4, a5, a6, a7, a8⟩ := id P; obtain ⟨b0, b1, b2, b3, b4⟩ := id Q; obtain ⟨s0, s1, s2, s3, s4⟩ := id V; (try (obtain ⟨n0, n1, n2, n3, n4, n5, n6, n7, n8⟩ := id N)); (try (obtain ⟨m0, m1, m2, m3, m4, m5, m6, m7, m8⟩ := id M))
      (try go_wp2_with fail)
      refine hK.out _ _ ?_ (fun hHeld => ?_)
      · simp (maxDischargeDepth := 6) [go_sem, *]
      clear hK K
      (try simp only [Act.put, List.setIfInBounds_toArray, List.set_cons_zero, List.set_cons_succ])
      refine wpAnyH_ready (rs := [3, 11]) (by kernel_rfl) (by simp) ?_
      refine (AllReadyH.cons (by rw [List.getElem?_toArray]; rfl) (fun K hK => ?_) (AllReadyH.cons (by rw [List.getElem?_toArray]; rfl) (fun K hK => ?_) AllReadyH.nil))
      · go_simp
        refine (toDrift_any _ _ _).mono ?_; rintro e v ⟨rfl, hb⟩; clear a0 a1 a2 a3 a4 a5 a6 a7 a8 b0 b1 b2 b3 b4 s0 s1 s2 s3 s4; (try clear n0 n1 n2 n3 n4 n5 n6 n7 n8); (try clear m0 m1 m2 m3 m4 m5 m6 m7 m8); (replace P := P.below hb); (replace Q := Q.below hb); (replace V := V.below hb); (try (replace N := N.below hb)); (try (replace M := M.below hb)); (replace B := B.trans (hb.mono B.size)); clear hb; obtain ⟨a0, a1, a2, a3, a4, a5, a6, a7, a8⟩ := id P; obtain ⟨b0, b1, b2, b3, b4⟩ := id Q; obtain ⟨s0, s1, s2, s3, s4⟩ := id V; (try (obtain ⟨n0, n1, n2, n3, n4, n5, n6, n7, n8⟩ := id N)); (try (obtain ⟨m0, m1, m2, m3, m4, m5, m6, m7, m8⟩ := id M))
        (try go_wp2_with fail)
        refine hK.out _ _ ?_ (fun hHeld => ?_)
        · simp (maxDischargeDepth := 6) [go_sem, *]
        clear hK K
        (try simp only [Act.put, List.setIfInBounds_toArray, List.set_cons_zero, List.set_cons_succ])
        refine wpAnyH_ready (rs := [6, 11]) (by kernel_rfl) (by simp) ?_
        refine (AllReadyH.cons (by rw [List.getElem?_toArray]; rfl) (fun K hK => ?_) (AllReadyH.cons (by rw [List.getElem?_toArray]; rfl) (fun K hK => ?_) AllReadyH.nil))
        · go_simp
          refine (toIval_any _ _ _).mono ?_; rintro e v ⟨rfl, hb⟩; clear a0 a1 a2 a3 a4 a5 a6 a7 a8 b0 b1 b2 b3 b4 s0 s1 s2 s3 s4; (try clear n0 n1 n2 n3 n4 n5 n6 n7 n8); (try clear m0 m1 m2 m3 m4 m5 m6 m7 m8); (replace P := P.below hb); (replace Q := Q.below hb); (replace V := V.below hb); (try (replace N := N.below hb)); (try (replace M := M.below hb)); (replace B := B.trans (hb.mono B.size)); clear hb; obtain ⟨a0, a1, a2, a3, a4, a5, a6, a7, a8⟩ := id P; obtain ⟨b0, b1, b2, b3, b4⟩ := id Q; obtain ⟨s0, s1, s2, s3, s4⟩ := id V; (try (obtain ⟨n0, n1, n2, n3, n4, n5, n6, n7, n8⟩ := id N)); (try (obtain ⟨m0, m1, m2, m3, m4, m5, m6, m7, m8⟩ := id M))
          (try go_wp2_with fail)
          refine hK.out _ _ ?_ (fun hHeld => ?_)
          · simp (maxDischargeDepth := 6) [go_sem, *]
          clear hK K
          (try simp only [Act.put, List.setIfInBounds_toArray, List.set_cons_zero, List.set_cons_succ])
          refine wpAnyH_ready (rs := [7, 11]) (by kernel_rfl) (by simp) ?_
          refine (AllReadyH.cons (by rw [List.getElem?_toArray]; rfl) (fun K hK => ?_) (AllReadyH.cons (by rw [List.getElem?_toArray]; rfl) (fun K hK => ?_) AllReadyH.nil))
          · go_simp
            refine (CS _).mono ?_; rintro e v ⟨rfl, hb⟩; clear a0 a1 a2 a3 a4 a5 a6 a7 a8 b0 b1 b2 b3 b4 s0 s1 s2 s3 s4; (try clear n0 n1 n2 n3 n4 n5 n6 n7 n8); (try clear m0 m1 m2 m3 m4 m5 m6 m7 m8); (replace P := P.below hb); (replace Q := Q.below hb); (replace V := V.below hb); (try (replace N := N.below hb)); (try (replace M := M.below hb)); (replace B := B.trans (hb.mono B.size)); clear hb; obtain ⟨a0, a1, a2, a3, a4, a5, a6, a7, a8⟩ := id P; obtain ⟨b0, b1, b2, b3, b4⟩ := id Q; obtain ⟨s0, s1, s2, s3, s4⟩ := id V; (try (obtain ⟨n0, n1, n2, n3, n4, n5, n6, n7, n8⟩ := id N)); (try (obtain ⟨m0, m1, m2, m3, m4, m5, m6, m7, m8⟩ := id M))
            (try go_wp2_with fail)
            refine hK.out _ _ ?_ (fun hHeld => ?_)
            · simp (maxDischargeDepth := 6) [go_sem, *]
            clear hK K
            (try simp only [Act.put, List.setIfInBounds_toArray, List.set_cons_zero, List.set_cons_succ])
            refine wpAnyH_take (i := 8) (v := ?_) (by rw [List.getElem?_toArray]; rfl) (by kernel_rfl) (by kernel_rfl) (by kernel_rfl) (by intro _ _ _ h; exact h) (Or.inl ⟨by rfl, ?_⟩) (by assumption) ?_
            rotate_left
            · (intro w hSw; (try dsimp only at hSw); go_simp; all_goals with_reducible rfl)
            (try simp only [Act.put, List.setIfInBounds_toArray, List.set_cons_zero, List.set_cons_succ])
            refine wpAnyH_take (i := 9) (v := ?_) (by rw [List.getElem?_toArray]; rfl) (by kernel_rfl) (by kernel_rfl) (by kernel_rfl) (by intro _ _ _ h; exact h) (Or.inl ⟨by rfl, ?_⟩) (by assumption) ?_
            rotate_left
            · (intro w hSw; (try dsimp only at hSw); go_simp; all_goals with_reducible rfl)
            (try simp only [Act.put, List.setIfInBounds_toArray, List.set_cons_zero, List.set_cons_succ])
            refine wpAnyH_take (i := 10) (v := ?_) (by rw [List.getElem?_toArray]; rfl) (by kernel_rfl) (by kernel_rfl) (by kernel_rfl) (by intro _ _ _ h; exact h) (Or.inl ⟨by rfl, ?_⟩) (by assumption) ?_
            rotate_left
            · (intro w hSw; (try dsimp only at hSw); go_simp; all_goals with_reducible rfl)
            (try simp only [Act.put, List.setIfInBounds_toArray, List.set_cons_zero, List.set_cons_succ])
            refine wpAnyH_ready (rs := [11]) (by kernel_rfl) (by simp) ?_
            refine (AllReadyH.cons (by rw [List.getElem?_toArray]; rfl) (fun K hK => ?_) AllReadyH.nil)
            go_simp
            (have N := BoxL.new v false 0 0 0 29); (have hj : w.heap.size + 1 + 1 < v.heap.size := s0); (try (have hjM : jM < v.heap.size := m0)); clear a0 a1 a2 a3 a4 a5 a6 a7 a8 b0 b1 b2 b3 b4 s0 s1 s2 s3 s4; (try clear n0 n1 n2 n3 n4 n5 n6 n7 n8); (try clear m0 m1 m2 m3 m4 m5 m6 m7 m8); (replace P := P.alloc (.cells #[.bool false, .int .i64 0, .int .i64 0, .int .i64 0] 29)); (replace Q := Q.alloc (.cells #[.bool false, .int .i64 0, .int .i64 0, .int .i64 0] 29)); (replace V := V.alloc (.cells #[.bool false, .int .i64 0, .int .i64 0, .int .i64 0] 29)); (try (replace M := M.alloc (.cells #[.bool false, .int .i64 0, .int .i64 0, .int .i64 0] 29))); (replace B := B.alloc B.size (.cells #[.bool false, .int .i64 0, .int .i64 0, .int .i64 0] 29)); (generalize v.alloc (.cells #[.bool false, .int .i64 0, .int .i64 0, .int .i64 0] 29) = v2 at *); obtain ⟨a0, a1, a2, a3, a4, a5, a6, a7, a8⟩ := id P; obtain ⟨b0, b1, b2, b3, b4⟩ := id Q; obtain ⟨s0, s1, s2, s3, s4⟩ := id V; (try (obtain ⟨n0, n1, n2, n3, n4, n5, n6, n7, n8⟩ := id N)); (try (obtain ⟨m0, m1, m2, m3, m4, m5, m6, m7, m8⟩ := id M))
            refine hK.out _ _ ?_ (fun hHeld => ?_)
            · simp (maxDischargeDepth := 6) [go_sem, *]
            clear hK K
            (try simp only [Act.put, List.setIfInBounds_toArray, List.set_cons_zero, List.set_cons_succ])
            refine wpAnyH_ready (rs := [12]) (by kernel_rfl) (by simp) ?_
            refine (AllReadyH.cons (by rw [List.getElem?_toArray]; rfl) (fun K hK => ?_) AllReadyH.nil)
            go_simp
            refine hK.out _ _ ?_ (fun hHeld => ?_)
            · simp (maxDischargeDepth := 6) [go_sem, *]
            clear hK K
            (try simp only [Act.put, List.setIfInBounds_toArray, List.set_cons_zero, List.set_cons_succ])
            refine wpAnyH_take (i := 13) (v := ?_) (by rw [List.getElem?_toArray]; rfl) (by kernel_rfl) (by kernel_rfl) (by kernel_rfl) (by intro _ _ _ h; exact h) (Or.inl ⟨by rfl, ?_⟩) (by assumption) ?_
            rotate_left
            · (intro w hSw; (try dsimp only at hSw); go_simp; all_goals with_reducible rfl)
            (try simp only [Act.put, List.setIfInBounds_toArray, List.set_cons_zero, List.set_cons_succ])
            refine wpAnyH_done (by kernel_rfl) ?_ _
            go_wp2_with fail
            go_meet
            case rel => exact ⟨_, rfl, rfl, N.set k1 k2 k3 k4, hj, P.setLO (by omega) k1 k2 k3 k4, Q.setLO (by omega) k1 k2 k3 k4, V.setLO (by omega) k1 k2 k3 k4, Below.setL B (by omega) k1 k2 k3 k4⟩
          · go_simp
            (have N := BoxL.new v false 0 0 0 29); (have hj : w.heap.size + 1 + 1 < v.heap.size := s0); (try (have hjM : jM < v.heap.size := m0)); clear a0 a1 a2 a3 a4 a5 a6 a7 a8 b0 b1 b2 b3 b4 s0 s1 s2 s3 s4; (try clear n0 n1 n2 n3 n4 n5 n6 n7 n8); (try clear m0 m1 m2 m3 m4 m5 m6 m7 m8); (replace P := P.alloc (.cells #[.bool false, .int .i64 0, .int .i64 0, .int .i64 0] 29)); (replace Q := Q.alloc (.cells #[.bool false, .int .i64 0, .int .i64 0, .int .i64 0] 29)); (replace V := V.alloc (.cells #[.bool false, .int .i64 0, .int .i64 0, .int .i64 0] 29)); (try (replace M := M.alloc (.cells #[.bool false, .int .i64 0, .int .i64 0, .int .i64 0] 29))); (replace B := B.alloc B.size (.cells #[.bool false, .int .i64 0, .int .i64 0, .int .i64 0] 29)); (generalize v.alloc (.cells #[.bool false, .int .i64 0, .int .i64 0, .int .i64 0] 29) = v2 at *); obtain ⟨a0, a1, a2, a3, a4, a5, a6, a7, a8⟩ := id P; obtain ⟨b0, b1, b2, b3, b4⟩ := id Q; obtain ⟨s0, s1, s2, s3, s4⟩ := id V; (try (obtain ⟨n0, n1, n2, n3, n4, n5, n6, n7, n8⟩ := id N)); (try (obtain ⟨m0, m1, m2, m3, m4, m5, m6, m7, m8⟩ := id M))
            refine hK.out _ _ ?_ (fun hHeld => ?_)
            · simp (maxDischargeDepth := 6) [go_sem, *]
            clear hK K
            (try simp only [Act.put, List.setIfInBounds_toArray, List.set_cons_zero, List.set_cons_succ])
            refine wpAnyH_ready (rs := [7]) (by kernel_rfl) (by simp) ?_
            refine (AllReadyH.cons (by rw [List.getElem?_toArray]; rfl) (fun K hK => ?_) AllReadyH.nil)
            go_simp
            refine (CS _).mono ?_; rintro e v ⟨rfl, hb⟩; clear a0 a1 a2 a3 a4 a5 a6 a7 a8 b0 b1 b2 b3 b4 s0 s1 s2 s3 s4; (try clear n0 n1 n2 n3 n4 n5 n6 n7 n8); (try clear m0 m1 m2 m3 m4 m5 m6 m7 m8); (replace P := P.below hb); (replace Q := Q.below hb); (replace V := V.below hb); (try (replace N := N.below hb)); (try (replace M := M.below hb)); (replace B := B.trans (hb.mono B.size)); clear hb; obtain ⟨a0, a1, a2, a3, a4, a5, a6, a7, a8⟩ := id P; obtain ⟨b0, b1, b2, b3, b4⟩ := id Q; obtain ⟨s0, s1, s2, s3, s4⟩ := id V; (try (obtain ⟨n0, n1, n2, n3, n4, n5, n6, n7, n8⟩ := id N)); (try (obtain ⟨m0, m1, m2, m3, m4, m5, m6, m7, m8⟩ := id M))
            (try go_wp2_with fail)
            refine hK.out _ _ ?_ (fun hHeld => ?_)
            · simp (maxDischargeDepth := 6) [go_sem, *]
            clear hK K
            (try simp only [Act.put, List.setIfInBounds_toArray, List.set_cons_zero, List.set_cons_succ])
            refine wpAnyH_take (i := 8) (v := ?_) (by rw [List.getElem?_toArray]; rfl) (by kernel_rfl) (by kernel_rfl) (by kernel_rfl) (by intro _ _ _ h; exact h) (Or.inl ⟨by rfl, ?_⟩) (by assumption) ?_
            rotate_left
            · (intro w hSw; (try dsimp only at hSw); go_simp; all_goals with_reducible rfl)
            (try simp only [Act.put, List.setIfInBounds_toArray, List.set_cons_zero, List.set_cons_succ])
            refine wpAnyH_take (i := 9) (v := ?_) (by rw [List.getElem?_toArray]; rfl) (by kernel_rfl) (by kernel_rfl) (by kernel_rfl) (by intro _ _ _ h; exact h) (Or.inl ⟨by rfl, ?_⟩) (by assumption) ?_
            rotate_left
            · (intro w hSw; (try dsimp only at hSw); go_simp; all_goals with_reducible rfl)
            (try simp only [Act.put, List.setIfInBounds_toArray, List.set_cons_zero, List.set_cons_succ])
            refine wpAnyH_take (i := 10) (v := ?_) (by rw [List.getElem?_toArray]; rfl) (by kernel_rfl) (by kernel_rfl) (by kernel_rfl) (by intro _ _ _ h; exact h) (Or.inl ⟨by rfl, ?_⟩) (by assumption) ?_
            rotate_left
            · (intro w hSw; (try dsimp only at hSw); go_simp; all_goals with_reducible rfl)
            (try simp only [Act.put, List.setIfInBounds_toArray, List.set_cons_zero, List.set_cons_succ])
            refine wpAnyH_ready (rs := [12]) (by kernel_rfl) (by simp) ?_
            refine (AllReadyH.cons (by rw [List.getElem?_toArray]; rfl) (fun K hK => ?_) AllReadyH.nil)
            go_simp
            refine hK.out _ _ ?_ (fun hHeld => ?_)
            · simp (maxDischargeDepth := 6) [go_sem, *]
            clear hK K
            (try simp only [Act.put, List.setIfInBounds_toArray, List.set_cons_zero, List.set_cons_succ])
            refine wpAnyH_take (i := 13) (v := ?_) (by rw [List.getElem?_toArray]; rfl) (by kernel_rfl) (by kernel_rfl) (by kernel_rfl) (by intro _ _ _ h; exact h) (Or.inl ⟨by rfl, ?_⟩) (by assumption) ?_
            rotate_left
            · (intro w hSw; (try dsimp only at hSw); go_simp; all_goals with_reducible rfl)
            (try simp only [Act.put, List.setIfInBounds_toArray, List.set_cons_zero, List.set_cons_succ])
            refine wpAnyH_done (by kernel_rfl) ?_ _
            go_wp2_with fail
            go_meet
            case rel => exact ⟨_, rfl, rfl, N.set k1 k2 k3 k4, hj, P.setLO (by omega) k1 k2 k3 k4, Q.setLO (by omega) k1 k2 k3 k4, V.setLO (by omega) k1 k2 k3 k4, Below.setL B (by omega) k1 k2 k3 k4⟩
        · go_simp
          (have N := BoxL.new v false 0 0 0 29); (have hj : w.heap.size + 1 + 1 < v.heap.size := s0); (try (have hjM : jM < v.heap.size := m0)); clear a0 a1 a2 a3 a4 a5 a6 a7 a8 b0 b1 b2 b3 b4 s0 s1 s2 s3 s4; (try clear n0 n1 n2 n3 n4 n5 n6 n7 n8); (try clear m0 m1 m2 m3 m4 m5 m6 m7 m8); (replace P := P.alloc (.cells #[.bool false, .int .i64 0, .int .i64 0, .int .i64 0] 29)); (replace Q := Q.alloc (.cells #[.bool false, .int .i64 0, .int .i64 0, .int .i64 0] 29)); (replace V := V.alloc (.cells #[.bool false, .int .i64 0, .int .i64 0, .int .i64 0] 29)); (try (replace M := M.alloc (.cells #[.bool false, .int .i64 0, .int .i64 0, .int .i64 0] 29))); (replace B := B.alloc B.size (.cells #[.bool false, .int .i64 0, .int .i64 0, .int .i64 0] 29)); (generalize v.alloc (.cells #[.bool false, .int .i64 0, .int .i64 0, .int .i64 0] 29) = v2 at *); obtain ⟨a0, a1, a2, a3, a4, a5, a6, a7, a8⟩ := id P; obtain ⟨b0, b1, b2, b3, b4⟩ := id Q; obtain ⟨s0, s1, s2, s3, s4⟩ := id V; (try (obtain ⟨n0, n1, n2, n3, n4, n5, n6, n7, n8⟩ := id N)); (try (obtain ⟨m0, m1, m2, m3, m4, m5, m6, m7, m8⟩ := id M))
          refine hK.out _ _ ?_ (fun hHeld => ?_)
          · simp (maxDischargeDepth := 6) [go_sem, *]
          clear hK K
          (try simp only [Act.put, List.setIfInBounds_toArray, List.set_cons_zero, List.set_cons_succ])
          refine wpAnyH_ready (rs := [6]) (by kernel_rfl) (by simp) ?_
          refine (AllReadyH.cons (by rw [List.getElem?_toArray]; rfl) (fun K hK => ?_) AllReadyH.nil)
          go_simp
          refine (toIval_any _ _ _).mono ?_; rintro e v ⟨rfl, hb⟩; clear a0 a1 a2 a3 a4 a5 a6 a7 a8 b0 b1 b2 b3 b4 s0 s1 s2 s3 s4; (try clear n0 n1 n2 n3 n4 n5 n6 n7 n8); (try clear m0 m1 m2 m3 m4 m5 m6 m7 m8); (replace P := P.below hb); (replace Q := Q.below hb); (replace V := V.below hb); (try (replace N := N.below hb)); (try (replace M := M.below hb)); (replace B := B.trans (hb.mono B.size)); clear hb; obtain ⟨a0, a1, a2, a3, a4, a5, a6, a7, a8⟩ := id P; obtain ⟨b0, b1, b2, b3, b4⟩ := id Q; obtain ⟨s0, s1, s2, s3, s4⟩ := id V; (try (obtain ⟨n0, n1, n2, n3, n4, n5, n6, n7, n8⟩ := id N)); (try (obtain ⟨m0, m1, m2, m3, m4, m5, m6, m7, m8⟩ := id M))
          (try go_wp2_with fail)
          refine hK.out _ _ ?_ (fun hHeld => ?_)
          · simp (maxDischargeDepth := 6) [go_sem, *]
          clear hK K
          (try simp only [Act.put, List.setIfInBounds_toArray, List.set_cons_zero, List.set_cons_succ])
          refine wpAnyH_ready (rs := [7]) (by kernel_rfl) (by simp) ?_
          refine (AllReadyH.cons (by rw [List.getElem?_toArray]; rfl) (fun K hK => ?_) AllReadyH.nil)
          go_simp
          refine (CS _).mono ?_; rintro e v ⟨rfl, hb⟩; clear a0 a1 a2 a3 a4 a5 a6 a7 a8 b0 b1 b2 b3 b4 s0 s1 s2 s3 s4; (try clear n0 n1 n2 n3 n4 n5 n6 n7 n8); (try clear m0 m1 m2 m3 m4 m5 m6 m7 m8); (replace P := P.below hb); (replace Q := Q.below hb); (replace V := V.below hb); (try (replace N := N.below hb)); (try (replace M := M.below hb)); (replace B := B.trans (hb.mono B.size)); clear hb; obtain ⟨a0, a1, a2, a3, a4, a5, a6, a7, a8⟩ := id P; obtain ⟨b0, b1, b2, b3, b4⟩ := id Q; obtain ⟨s0, s1, s2, s3, s4⟩ := id V; (try (obtain ⟨n0, n1, n2, n3, n4, n5, n6, n7, n8⟩ := id N)); (try (obtain ⟨m0, m1, m2, m3, m4, m5, m6, m7, m8⟩ := id M))
          (try go_wp2_with fail)
          refine hK.out _ _ ?_ (fun hHeld => ?_)
          · simp (maxDischargeDepth := 6) [go_sem, *]
          clear hK K
          (try simp only [Act.put, List.setIfInBounds_toArray, List.set_cons_zero, List.set_cons_succ])
          refine wpAnyH_take (i := 8) (v := ?_) (by rw [List.getElem?_toArray]; rfl) (by kernel_rfl) (by kernel_rfl) (by kernel_rfl) (by intro _ _ _ h; exact h) (Or.inl ⟨by rfl, ?_⟩) (by assumption) ?_
          rotate_left
          · (intro w hSw; (try dsimp only at hSw); go_simp; all_goals with_reducible rfl)
          (try simp only [Act.put, List.setIfInBounds_toArray, List.set_cons_zero, List.set_cons_succ])
          refine wpAnyH_take (i := 9) (v := ?_) (by rw [List.getElem?_toArray]; rfl) (by kernel_rfl) (by kernel_rfl) (by kernel_rfl) (by intro _ _ _ h; exact h) (Or.inl ⟨by rfl, ?_⟩) (by assumption) ?_
          rotate_left
          · (intro w hSw; (try dsimp only at hSw); go_simp; all_goals with_reducible rfl)
          (try simp only [Act.put, List.setIfInBounds_toArray, List.set_cons_zero, List.set_cons_succ])
          refine wpAnyH_take (i := 10) (v := ?_) (by rw [List.getElem?_toArray]; rfl) (by kernel_rfl) (by kernel_rfl) (by kernel_rfl) (by intro _ _ _ h; exact h) (Or.inl ⟨by rfl, ?_⟩) (by assumption) ?_
          rotate_left
          · (intro w hSw; (try dsimp only at hSw); go_simp; all_goals with_reducible rfl)
          (try simp only [Act.put, List.setIfInBounds_toArray, List.set_cons_zero, List.set_cons_succ])
          refine wpAnyH_ready (rs := [12]) (by kernel_rfl) (by simp) ?_
          refine (AllReadyH.cons (by rw [List.getElem?_toArray]; rfl) (fun K hK => ?_) AllReadyH.nil)
          go_simp
          refine hK.out _ _ ?_ (fun hHeld => ?_)
          · simp (maxDischargeDepth := 6) [go_sem, *]
          clear hK K
          (try simp only [Act.put, List.setIfInBounds_toArray, List.set_cons_zero, List.set_cons_succ])
          refine wpAnyH_take (i := 13) (v := ?_) (by rw [List.getElem?_toArray]; rfl) (by kernel_rfl) (by kernel_rfl) (by kernel_rfl) (by intro _ _ _ h; exact h) (Or.inl ⟨by rfl, ?_⟩) (by assumption) ?_
          rotate_left
          · (intro w hSw; (try dsimp only at hSw); go_simp; all_goals with_reducible rfl)
          (try simp only [Act.put, List.setIfInBounds_toArray, List.set_cons_zero, List.set_cons_succ])
          refine wpAnyH_done (by kernel_rfl) ?_ _
          go_wp2_with fail
          go_meet
          case rel => exact ⟨_, rfl, rfl, N.set k1 k2 k3 k4, hj, P.setLO (by omega) k1 k2 k3 k4, Q.setLO (by omega) k1 k2 k3 k4, V.setLO (by omega) k1 k2 k3 k4, Below.setL B (by omega) k1 k2 k3 k4⟩
      · go_simp
        (have N := BoxL.new v false 0 0 0 29); (have hj : w.heap.size + 1 + 1 < v.heap.size := s0); (try (have hjM : jM < v.heap.size := m0)); clear a0 a1 a2 a3 a4 a5 a6 a7 a8 b0 b1 b2 b3 b4 s0 s1 s2 s3 s4; (try clear n0 n1 n2 n3 n4 n5 n6 n7 n8); (try clear m0 m1 m2 m3 m4 m5 m6 m7 m8); (replace P := P.alloc (.cells #[.bool false, .int .i64 0, .int .i64 0, .int .i64 0] 29)); (replace Q := Q.alloc (.cells #[.bool false, .int .i64 0, .int .i64 0, .int .i64 0] 29)); (replace V := V.alloc (.cells #[.bool false, .int .i64 0, .int .i64 0, .int .i64 0] 29)); (try (replace M := M.alloc (.cells #[.bool false, .int .i64 0, .int .i64 0, .int .i64 0] 29))); (replace B := B.alloc B.size (.cells #[.bool false, .int .i64 0, .int .i64 0, .int .i64 0] 29)); (generalize v.alloc (.cells #[.bool false, .int .i64 0, .int .i64 0, .int .i64 0] 29) = v2 at *); obtain ⟨a0, a1, a2, a3, a4, a5, a6, a7, a8⟩ := id P; obtain ⟨b0, b1, b2, b3, b4⟩ := id Q; obtain ⟨s0, s1, s2, s3, s4⟩ := id V; (try (obtain ⟨n0, n1, n2, n3, n4, n5, n6, n7, n8⟩ := id N)); (try (obtain ⟨m0, m1, m2, m3, m4, m5, m6, m7, m8⟩ := id M))
        refine hK.out _ _ ?_ (fun hHeld => ?_)
        · simp (maxDischargeDepth := 6) [go_sem, *]
        clear hK K
        (try simp only [Act.put, List.setIfInBounds_toArray, List.set_cons_zero, List.set_cons_succ])
        refine wpAnyH_ready (rs := [3]) (by kernel_rfl) (by simp) ?_
        refine (AllReadyH.cons (by rw [List.getElem?_toArray]; rfl) (fun K hK => ?_) AllReadyH.nil)
        go_simp
        refine (toDrift_any _ _ _).mono ?_; rintro e v ⟨rfl, hb⟩; clear a0 a1 a2 a3 a4 a5 a6 a7 a8 b0 b1 b2 b3 b4 s0 s1 s2 s3 s4; (try clear n0 n1 n2 n3 n4 n5 n6 n7 n8); (try clear m0 m1 m2 m3 m4 m5 m6 m7 m8); (replace P := P.below hb); (replace Q := Q.below hb); (replace V := V.below hb); (try (replace N := N.below hb)); (try (replace M := M.below hb)); (replace B := B.trans (hb.mono B.size)); clear hb; obtain ⟨a0, a1, a2, a3, a4, a5, a6, a7, a8⟩ := id P; obtain ⟨b0, b1, b2, b3, b4⟩ := id Q; obtain ⟨s0, s1, s2, s3, s4⟩ := id V; (try (obtain ⟨n0, n1, n2, n3, n4, n5, n6, n7, n8⟩ := id N)); (try (obtain ⟨m0, m1, m2, m3, m4, m5, m6, m7, m8⟩ := id M))
        (try go_wp2_with fail)
        refine hK.out _ _ ?_ (fun hHeld => ?_)
        · simp (maxDischargeDepth := 6) [go_sem, *]
        clear hK K
        (try simp only [Act.put, List.setIfInBounds_toArray, List.set_cons_zero, List.set_cons_succ])
        refine wpAnyH_ready (rs := [6]) (by kernel_rfl) (by simp) ?_
        refine (AllReadyH.cons (by rw [List.getElem?_toArray]; rfl) (fun K hK => ?_) AllReadyH.nil)
        go_simp
        refine (toIval_any _ _ _).mono ?_; rintro e v ⟨rfl, hb⟩; clear a0 a1 a2 a3 a4 a5 a6 a7 a8 b0 b1 b2 b3 b4 s0 s1 s2 s3 s4; (try clear n0 n1 n2 n3 n4 n5 n6 n7 n8); (try clear m0 m1 m2 m3 m4 m5 m6 m7 m8); (replace P := P.below hb); (replace Q := Q.below hb); (replace V := V.below hb); (try (replace N := N.below hb)); (try (replace M := M.below hb)); (replace B := B.trans (hb.mono B.size)); clear hb; obtain ⟨a0, a1, a2, a3, a4, a5, a6, a7, a8⟩ := id P; obtain ⟨b0, b1, b2, b3, b4⟩ := id Q; obtain ⟨s0, s1, s2, s3, s4⟩ := id V; (try (obtain ⟨n0, n1, n2, n3, n4, n5, n6, n7, n8⟩ := id N)); (try (obtain ⟨m0, m1, m2, m3, m4, m5, m6, m7, m8⟩ := id M))
        (try go_wp2_with fail)
        refine hK.out _ _ ?_ (fun hHeld => ?_)
        · simp (maxDischargeDepth := 6) [go_sem, *]
        clear hK K
        (try simp only [Act.put, List.setIfInBounds_toArray, List.set_cons_zero, List.set_cons_succ])
        refine wpAnyH_ready (rs := [7]) (by kernel_rfl) (by simp) ?_
        refine (AllReadyH.cons (by rw [List.getElem?_toArray]; rfl) (fun K hK => ?_) AllReadyH.nil)
        go_simp
        refine (CS _).mono ?_; rintro e v ⟨rfl, hb⟩; clear a0 a1 a2 a3 a4 a5 a6 a7 a8 b0 b1 b2 b3 b4 s0 s1 s2 s3 s4; (try clear n0 n1 n2 n3 n4 n5 n6 n7 n8); (try clear m0 m1 m2 m3 m4 m5 m6 m7 m8); (replace P := P.below hb); (replace Q := Q.below hb); (replace V := V.below hb); (try (replace N := N.below hb)); (try (replace M := M.below hb)); (replace B := B.trans (hb.mono B.size)); clear hb; obtain ⟨a0, a1, a2, a3, a4, a5, a6, a7, a8⟩ := id P; obtain ⟨b0, b1, b2, b3, b4⟩ := id Q; obtain ⟨s0, s1, s2, s3, s4⟩ := id V; (try (obtain ⟨n0, n1, n2, n3, n4, n5, n6, n7, n8⟩ := id N)); (try (obtain ⟨m0, m1, m2, m3, m4, m5, m6, m7, m8⟩ := id M))
        (try go_wp2_with fail)
        refine hK.out _ _ ?_ (fun hHeld => ?_)
        · simp (maxDischargeDepth := 6) [go_sem, *]
        clear hK K
        (try simp only [Act.put, List.setIfInBounds_toArray, List.set_cons_zero, List.set_cons_succ])
        refine wpAnyH_take (i := 8) (v := ?_) (by rw [List.getElem?_toArray]; rfl) (by kernel_rfl) (by kernel_rfl) (by kernel_rfl) (by intro _ _ _ h; exact h) (Or.inl ⟨by rfl, ?_⟩) (by assumption) ?_
        rotate_left
        · (intro w hSw; (try dsimp only at hSw); go_simp; all_goals with_reducible rfl)
        (try simp only [Act.put, List.setIfInBounds_toArray, List.set_cons_zero, List.set_cons_succ])
        refine wpAnyH_take (i := 9) (v := ?_) (by rw [List.getElem?_toArray]; rfl) (by kernel_rfl) (by kernel_rfl) (by kernel_rfl) (by intro _ _ _ h; exact h) (Or.inl ⟨by rfl, ?_⟩) (by assumption) ?_
        rotate_left
        · (intro w hSw; (try dsimp only at hSw); go_simp; all_goals with_reducible rfl)
        (try simp only [Act.put, List.setIfInBounds_toArray, List.set_cons_zero, List.set_cons_succ])
        refine wpAnyH_take (i := 10) (v := ?_) (by rw [List.getElem?_toArray]; rfl) (by kernel_rfl) (by kernel_rfl) (by kernel_rfl) (by intro _ _ _ h; exact h) (Or.inl ⟨by rfl, ?_⟩) (by assumption) ?_
        rotate_left
        · (intro w hSw; (try dsimp only at hSw); go_simp; all_goals with_reducible rfl)
        (try simp only [Act.put, List.setIfInBounds_toArray, List.set_cons_zero, List.set_cons_succ])
        refine wpAnyH_ready (rs := [12]) (by kernel_rfl) (by simp) ?_
        refine (AllReadyH.cons (by rw [List.getElem?_toArray]; rfl) (fun K hK => ?_) AllReadyH.nil)
        go_simp
        refine hK.out _ _ ?_ (fun hHeld => ?_)
        · simp (maxDischargeDepth := 6) [go_sem, *]
        clear hK K
        (try simp only [Act.put, List.setIfInBounds_toArray, List.set_cons_zero, List.set_cons_succ])
        refine wpAnyH_take (i := 13) (v := ?_) (by rw [List.getElem?_toArray]; rfl) (by kernel_rfl) (by kernel_rfl) (by kernel_rfl) (by intro _ _ _ h; exact h) (Or.inl ⟨by rfl, ?_⟩) (by assumption) ?_
        rotate_left
        · (intro w hSw; (try dsimp only at hSw); go_simp; all_goals with_reducible rfl)
        (try simp only [Act.put, List.setIfInBounds_toArray, List.set_cons_zero, List.set_cons_succ])
        refine wpAnyH_done (by kernel_rfl) ?_ _
        go_wp2_with fail
        go_meet
        case rel => exact ⟨_, rfl, rfl, N.set k1 k2 k3 k4, hj, P.setLO (by omega) k1 k2 k3 k4, Q.setLO (by omega) k1 k2 k3 k4, V.setLO (by omega) k1 k2 k3 k4, Below.setL B (by omega) k1 k2 k3 k4⟩
    · go_simp
      (have N := BoxL.new v false 0 0 0 29); (have hj : w.heap.size + 1 + 1 < v.heap.size := s0); (try (have hjM : jM < v.heap.size := m0)); clear a0 a1 a2 a3 a4 a5 a6 a7 a8 b0 b1 b2 b3 b4 s0 s1 s2 s3 s4; (try clear n0 n1 n2 n3 n4 n5 n6 n7 n8); (try clear m0 m1 m2 m3 m4 m5 m6 m7 m8); (replace P := P.alloc (.cells #[.bool false, .int .i64 0, .int .i64 0, .int .i64 0] 29)); (replace Q := Q.alloc (.cells #[.bool false, .int .i64 0, .int .i64 0, .int .i64 0] 29)); (replace V := V.alloc (.cells #[.bool false, .int .i64 0, .int .i64 0, .int .i64 0] 29)); (try (replace M := M.alloc (.cells #[.bool false, .int .i64 0, .int .i64 0, .int .i64 0] 29))); (replace B := B.alloc B.size (.cells #[.bool false, .int .i64 0, .int .i64 0, .int .i64 0] 29)); (generalize v.alloc (.cells #[.bool false, .int .i64 0, .int .i64 0, .int .i64 0] 29) = v2 at *); obtain ⟨a0, a1, a2, a3, a4, a5, a6, a7, a8⟩ := id P; obtain ⟨b0, b1, b2, b3, b4⟩ := id Q; obtain ⟨s0, s1, s2, s3, s4⟩ := id V; (try (obtain ⟨n0, n1, n2, n3, n4, n5, n6, n7, n8⟩ := id N)); (try (obtain ⟨m0, m1, m2, m3, m4, m5, m6, m7, m8⟩ := id M))
      refine hK.out _ _ ?_ (fun hHeld => ?_)
      · simp (maxDischargeDepth := 6) [go_sem, *]
      clear hK K
      (try simp only [Act.put, List.setIfInBounds_toArray, List.set_cons_zero, List.set_cons_succ])
      refine wpAnyH_ready (rs := [1]) (by kernel_rfl) (by simp) ?_
      refine (AllReadyH.cons (by rw [List.getElem?_toArray]; rfl) (fun K hK => ?_) AllReadyH.nil)
      go_simp
      refine (toLocal_any _ _ _ _ _).mono ?_; rintro e v ⟨rfl, hb⟩; clear a0 a1 a2 a3 a4 a5 a6 a7 a8 b0 b1 b2 b3 b4 s0 s1 s2 s3 s4; (try clear n0 n1 n2 n3 n4 n5 n6 n7 n8); (try clear m0 m1 m2 m3 m4 m5 m6 m7 m8); (replace P := P.below hb); (replace Q := Q.below hb); (replace V := V.below hb); (try (replace N := N.below hb)); (try (replace M := M.below hb)); (replace B := B.trans (hb.mono B.size)); clear hb; obtain ⟨a0, a1, a2, a3, a4, a5, a6, a7, a8⟩ := id P; obtain ⟨b0, b1, b2, b3, b4⟩ := id Q; obtain ⟨s0, s1, s2, s3, s4⟩ := id V; (try (obtain ⟨n0, n1, n2, n3, n4, n5, n6, n7, n8⟩ := id N)); (try (obtain ⟨m0, m1, m2, m3, m4, m5, m6, m7, m8⟩ := id M))
      (try go_wp2_with fail)
      refine hK.out _ _ ?_ (fun hHeld => ?_)
      · simp (maxDischargeDepth := 6) [go_sem, *]
      clear hK K
      (try simp only [Act.put, List.setIfInBounds_toArray, List.set_cons_zero, List.set_cons_succ])
      refine wpAnyH_ready (rs := [3]) (by kernel_rfl) (by simp) ?_
      refine (AllReadyH.cons (by rw [List.getElem?_toArray]; rfl) (fun K hK => ?_) AllReadyH.nil)
      go_simp
      refine (toDrift_any _ _ _).mono ?_; rintro e v ⟨rfl, hb⟩; clear a0 a1 a2 a3 a4 a5 a6 a7 a8 b0 b1 b2 b3 b4 s0 s1 s2 s3 s4; (try clear n0 n1 n2 n3 n4 n5 n6 n7 n8); (try clear m0 m1 m2 m3 m4 m5 m6 m7 m8); (replace P := P.below hb); (replace Q := Q.below hb); (replace V := V.below hb); (try (replace N := N.below hb)); (try (replace M := M.below hb)); (replace B := B.trans (hb.mono B.size)); clear hb; obtain ⟨a0, a1, a2, a3, a4, a5, a6, a7, a8⟩ := id P; obtain ⟨b0, b1, b2, b3, b4⟩ := id Q; obtain ⟨s0, s1, s2, s3, s4⟩ := id V; (try (obtain ⟨n0, n1, n2, n3, n4, n5, n6, n7, n8⟩ := id N)); (try (obtain ⟨m0, m1, m2, m3, m4, m5, m6, m7, m8⟩ := id M))
      (try go_wp2_with fail)
      refine hK.out _ _ ?_ (fun hHeld => ?_)
      · simp (maxDischargeDepth := 6) [go_sem, *]
      clear hK K
      (try simp only [Act.put, List.setIfInBounds_toArray, List.set_cons_zero, List.set_cons_succ])
      refine wpAnyH_ready (rs := [6]) (by kernel_rfl) (by simp) ?_
      refine (AllReadyH.cons (by rw [List.getElem?_toArray]; rfl) (fun K hK => ?_) AllReadyH.nil)
      go_simp
      refine (toIval_any _ _ _).mono ?_; rintro e v ⟨rfl, hb⟩; clear a0 a1 a2 a3 a4 a5 a6 a7 a8 b0 b1 b2 b3 b4 s0 s1 s2 s3 s4; (try clear n0 n1 n2 n3 n4 n5 n6 n7 n8); (try clear m0 m1 m2 m3 m4 m5 m6 m7 m8); (replace P := P.below hb); (replace Q := Q.below hb); (replace V := V.below hb); (try (replace N := N.below hb)); (try (replace M := M.below hb)); (replace B := B.trans (hb.mono B.size)); clear hb; obtain ⟨a0, a1, a2, a3, a4, a5, a6, a7, a8⟩ := id P; obtain ⟨b0, b1, b2, b3, b4⟩ := id Q; obtain ⟨s0, s1, s2, s3, s4⟩ := id V; (try (obtain ⟨n0, n1, n2, n3, n4, n5, n6, n7, n8⟩ := id N)); (try (obtain ⟨m0, m1, m2, m3, m4, m5, m6, m7, m8⟩ := id M))
      (try go_wp2_with fail)
      refine hK.out _ _ ?_ (fun hHeld => ?_)
      · simp (maxDischargeDepth := 6) [go_sem, *]
      clear hK K
      (try simp only [Act.put, List.setIfInBounds_toArray, List.set_cons_zero, List.set_cons_succ])
      refine wpAnyH_ready (rs := [7]) (by kernel_rfl) (by simp) ?_
      refine (AllReadyH.cons (by rw [List.getElem?_toArray]; rfl) (fun K hK => ?_) AllReadyH.nil)
      go_simp
      refine (CS _).mono ?_; rintro e v ⟨rfl, hb⟩; clear a0 a1 a2 a3 a4 a5 a6 a7 a8 b0 b1 b2 b3 b4 s0 s1 s2 s3 s4; (try clear n0 n1 n2 n3 n4 n5 n6 n7 n8); (try clear m0 m1 m2 m3 m4 m5 m6 m7 m8); (replace P := P.below hb); (replace Q := Q.below hb); (replace V := V.below hb); (try (replace N := N.below hb)); (try (replace M := M.below hb)); (replace B := B.trans (hb.mono B.size)); clear hb; obtain ⟨a0, a1, a2, a3, a4, a5, a6, a7, a8⟩ := id P; obtain ⟨b0, b1, b2, b3, b4⟩ := id Q; obtain ⟨s0, s1, s2, s3, s4⟩ := id V; (try (obtain ⟨n0, n1, n2, n3, n4, n5, n6, n7, n8⟩ := id N)); (try (obtain ⟨m0, m1, m2, m3, m4, m5, m6, m7, m8⟩ := id M))
      (try go_wp2_with fail)
      refine hK.out _ _ ?_ (fun hHeld => ?_)
      · simp (maxDischargeDepth := 6) [go_sem, *]
      clear hK K
      (try simp only [Act.put, List.setIfInBounds_toArray, List.set_cons_zero, List.set_cons_succ])
      refine wpAnyH_take (i := 8) (v := ?_) (by rw [List.getElem?_toArray]; rfl) (by kernel_rfl) (by kernel_rfl) (by kernel_rfl) (by intro _ _ _ h; exact h) (Or.inl ⟨by rfl, ?_⟩) (by assumption) ?_
      rotate_left
      · (intro w hSw; (try dsimp only at hSw); go_simp; all_goals with_reducible rfl)
      (try simp only [Act.put, List.setIfInBounds_toArray, List.set_cons_zero, List.set_cons_succ])
      refine wpAnyH_take (i := 9) (v := ?_) (by rw [List.getElem?_toArray]; rfl) (by kernel_rfl) (by kernel_rfl) (by kernel_rfl) (by intro _ _ _ h; exact h) (Or.inl ⟨by rfl, ?_⟩) (by assumption) ?_
      rotate_left
      · (intro w hSw; (try dsimp only at hSw); go_simp; all_goals with_reducible rfl)
      (try simp only [Act.put, List.setIfInBounds_toArray, List.set_cons_zero, List.set_cons_succ])
      refine wpAnyH_take (i := 10) (v := ?_) (by rw [List.getElem?_toArray]; rfl) (by kernel_rfl) (by kernel_rfl) (by kernel_rfl) (by intro _ _ _ h; exact h) (Or.inl ⟨by rfl, ?_⟩) (by assumption) ?_
      rotate_left
      · (intro w hSw; (try dsimp only at hSw); go_simp; all_goals with_reducible rfl)
      (try simp only [Act.put, List.setIfInBounds_toArray, List.set_cons_zero, List.set_cons_succ])
      refine wpAnyH_ready (rs := [12]) (by kernel_rfl) (by simp) ?_
      refine (AllReadyH.cons (by rw [List.getElem?_toArray]; rfl) (fun K hK => ?_) AllReadyH.nil)
      go_simp
      refine hK.out _ _ ?_ (fun hHeld => ?_)
      · simp (maxDischargeDepth := 6) [go_sem, *]
      clear hK K
      (try simp only [Act.put, List.setIfInBounds_toArray, List.set_cons_zero, List.set_cons_succ])
      refine wpAnyH_take (i := 13) (v := ?_) (by rw [List.getElem?_toArray]; rfl) (by kernel_rfl) (by kernel_rfl) (by kernel_rfl) (by intro _ _ _ h; exact h) (Or.inl ⟨by rfl, ?_⟩) (by assumption) ?_
      rotate_left
      · (intro w hSw; (try dsimp only at hSw); go_simp; all_goals with_reducible rfl)
      (try simp only [Act.put, List.setIfInBounds_toArray, List.set_cons_zero, List.set_cons_succ])
      refine wpAnyH_done (by kernel_rfl) ?_ _
      go_wp2_with fail
      go_meet
      case rel => exact ⟨_, rfl, rfl, N.set k1 k2 k3 k4, hj, P.setLO (by omega) k1 k2 k3 k4, Q.setLO (by omega) k1 k2 k3 k4, V.setLO (by omega) k1 k2 k3 k4, Below.setL B (by omega) k1 k2 k3 k4⟩
  case rest =>
    obtain ⟨jM, rfl, rfl, M, hjm, P', Q', V', B'⟩ := hcut
    clear P Q V B a0 a1 a2 a3 a4 a5 a6 a7 a8 b0 b1 b2 b3 b4 s0 s1 s2 s3 s4
    have P := P'
    have Q := Q'
    have V := V'
    have B := B'
    clear P' Q' V' B'
    generalize wc = v at *
    obtain ⟨a0, a1, a2, a3, a4, a5, a6, a7, a8⟩ := id P; obtain ⟨b0, b1, b2, b3, b4⟩ := id Q; obtain ⟨s0, s1, s2, s3, s4⟩ := id V; (try (obtain ⟨n0, n1, n2, n3, n4, n5, n6, n7, n8⟩ := id N)); (try (obtain ⟨m0, m1, m2, m3, m4, m5, m6, m7, m8⟩ := id M))
    go_wp2_with fail
    go_cut [11, 12] (fun s5 s6 wx => ∃ j : Nat, s5 = .pointer (some ⟨j, 0, none⟩) ∧ s6 = .int .i64 kz ∧ BoxL wx j k1 k2 k3 k4 ∧ BoxL wx jM k1 k2 k3 k4 ∧ Below w.heap.size w wx)
    case first =>
      refine wp_region_held_drew (S := (fun w' => w'.cell? ⟨w.heap.size, 0, none⟩ = some (.bool kn) ∧ w'.cell? ⟨w.heap.size, 1, none⟩ = some (.int .i64 lo) ∧ w'.cell? ⟨w.heap.size, 2, none⟩ = some (.int .i64 hi) ∧ w'.cell? ⟨w.heap.size, 3, none⟩ = some (.int .i64 a) ∧ w'.cell? ⟨w.heap.size + 1, 0, none⟩ = some (.int .i64 n) ∧ w'.cell? ⟨w.heap.size + 1, 1, none⟩ = some (.int .i64 d) ∧ w'.cell? ⟨w.heap.size + 1 + 1, 0, none⟩ = some (.int .i64 x) ∧ w'.cell? ⟨w.heap.size + 1 + 1, 1, none⟩ = some (.int .i64 y))) (by kernel_rfl) ?_ (fun hHeld => ?_)
      · simp (maxDischargeDepth := 6) [go_sem, *]
      clear a0 a1 a2 a3 a4 a5 a6 a7 a8 b0 b1 b2 b3 b4 s0 s1 s2 s3 s4; (try clear n0 n1 n2 n3 n4 n5 n6 n7 n8); (try clear m0 m1 m2 m3 m4 m5 m6 m7 m8)
      replace P := P.drew
      replace Q := Q.drew
      replace V := V.drew
      replace B := B.drew
      (try replace M := M.drew)
      generalize v.drew = v at *
      obtain ⟨a0, a1, a2, a3, a4, a5, a6, a7, a8⟩ := id P; obtain ⟨b0, b1, b2, b3, b4⟩ := id Q; obtain ⟨s0, s1, s2, s3, s4⟩ := id V; (try (obtain ⟨n0, n1, n2, n3, n4, n5, n6, n7, n8⟩ := id N)); (try (obtain ⟨m0, m1, m2, m3, m4, m5, m6, m7, m8⟩ := id M))
      refine wpAnyH_take (i := 0) (v := ?_) (by rw [List.getElem?_toArray]; rfl) (by kernel_rfl) (by kernel_rfl) (by kernel_rfl) (by intro _ _ _ h; exact h) (Or.inl ⟨by rfl, ?_⟩) (by assumption) ?_
      rotate_left
      · (intro w hSw; (try dsimp only at hSw); go_simp; all_goals with_reducible rfl)
      (try simp only [Act.put, List.setIfInBounds_toArray, List.set_cons_zero, List.set_cons_succ])
      refine wpAnyH_take (i := 2) (v := ?_) (by rw [List.getElem?_toArray]; rfl) (by kernel_rfl) (by kernel_rfl) (by kernel_rfl) (by intro _ _ _ h; exact h) (Or.inl ⟨by rfl, ?_⟩) (by assumption) ?_
      rotate_left
      · (intro w hSw; (try dsimp only at hSw); go_simp; all_goals with_reducible rfl)
      (try simp only [Act.put, List.setIfInBounds_toArray, List.set_cons_zero, List.set_cons_succ])
      refine wpAnyH_take (i := 4) (v := ?_) (by rw [List.getElem?_toArray]; rfl) (by kernel_rfl) (by kernel_rfl) (by kernel_rfl) (by intro _ _ _ h; exact h) (Or.inl ⟨by rfl, ?_⟩) (by assumption) ?_
      rotate_left
      · (intro w hSw; (try dsimp only at hSw); go_simp; all_goals with_reducible rfl)
      (try simp only [Act.put, List.setIfInBounds_toArray, List.set_cons_zero, List.set_cons_succ])
      refine wpAnyH_take (i := 5) (v := ?_) (by rw [List.getElem?_toArray]; rfl) (by kernel_rfl) (by kernel_rfl) (by kernel_rfl) (by intro _ _ _ h; exact h) (Or.inl ⟨by rfl, ?_⟩) (by assumption) ?_
      rotate_left
      · (intro w hSw; (try dsimp only at hSw); go_simp; all_goals with_reducible rfl)
      (try simp only [Act.put, List.setIfInBounds_toArray, List.set_cons_zero, List.set_cons_succ])
      refine wpAnyH_ready (rs := [1, 11]) (by kernel_rfl) (by simp) ?_
      refine (AllReadyH.cons (by rw [List.getElem?_toArray]; rfl) (fun K hK => ?_) (AllReadyH.cons (by rw [List.getElem?_toArray]; rfl) (fun K hK => ?_) AllReadyH.nil))
      · go_simp
        refine (toLocal_any _ _ _ _ _).mono ?_; rintro e v ⟨rfl, hb⟩; clear a0 a1 a2 a3 a4 a5 a6 a7 a8 b0 b1 b2 b3 b4 s0 s1 s2 s3 s4; (try clear n0 n1 n2 n3 n4 n5 n6 n7 n8); (try clear m0 m1 m2 m3 m4 m5 m6 m7 m8); (replace P := P.below hb); (replace Q := Q.below hb); (replace V := V.below hb); (try (replace N := N.below hb)); (try (replace M := M.below hb)); (replace B := B.trans (hb.mono B.size)); clear hb; obtain ⟨a0, a1, a2, a3, a4, a5, a6, a7, a8⟩ := id P; obtain ⟨b0, b1, b2, b3, b4⟩ := id Q; obtain ⟨s0, s1, s2, s3, s4⟩ := id V; (try (obtain ⟨n0, n1, n2, n3, n4, n5, n6, n7, n8⟩ := id N)); (try (obtain ⟨m0, m1, m2, m3, m4, m5, m6, m7, m8⟩ := id M))
        (try go_wp2_with fail)
        refine hK.out _ _ ?_ (fun hHeld => ?_)
        · simp (maxDischargeDepth := 6) [go_sem, *]
        clear hK K
        (try simp only [Act.put, List.setIfInBounds_toArray, List.set_cons_zero, List.set_cons_succ])
        refine wpAnyH_ready (rs := [3, 11]) (by kernel_rfl) (by simp) ?_
        refine (AllReadyH.cons (by rw [List.getElem?_toArray]; rfl) (fun K hK => ?_) (AllReadyH.cons (by rw [List.getElem?_toArray]; rfl) (fun K hK => ?_) AllReadyH.nil))
        · go_simp
          refine (toDrift_any _ _ _).mono ?_; rintro e v ⟨rfl, hb⟩; clear a0 a1 a2 a3 a4 a5 a6 a7 a8 b0 b1 b2 b3 b4 s0 s1 s2 s3 s4; (try clear n0 n1 n2 n3 n4 n5 n6 n7 n8); (try clear m0 m1 m2 m3 m4 m5 m6 m7 m8); (replace P := P.below hb); (replace Q := Q.below hb); (replace V := V.below hb); (try (replace N := N.below hb)); (try (replace M := M.below hb)); (replace B := B.trans (hb.mono B.size)); clear hb; obtain ⟨a0, a1, a2, a3, a4, a5, a6, a7, a8⟩ := id P; obtain ⟨b0, b1, b2, b3, b4⟩ := id Q; obtain ⟨s0, s1, s2, s3, s4⟩ := id V; (try (obtain ⟨n0, n1, n2, n3, n4, n5, n6, n7, n8⟩ := id N)); (try (obtain ⟨m0, m1, m2, m3, m4, m5, m6, m7, m8⟩ := id M))
          (try go_wp2_with fail)
          refine hK.out _ _ ?_ (fun hHeld => ?_)
          · simp (maxDischargeDepth := 6) [go_sem, *]
          clear hK K
          (try simp only [Act.put, List.setIfInBounds_toArray, List.set_cons_zero, List.set_cons_succ])
          refine wpAnyH_ready (rs := [6, 11]) (by kernel_rfl) (by simp) ?_
          refine (AllReadyH.cons (by rw [List.getElem?_toArray]; rfl) (fun K hK => ?_) (AllReadyH.cons (by rw [List.getElem?_toArray]; rfl) (fun K hK => ?_) AllReadyH.nil))
          · go_simp
            refine (toIval_any _ _ _).mono ?_; rintro e v ⟨rfl, hb⟩; clear a0 a1 a2 a3 a4 a5 a6 a7 a8 b0 b1 b2 b3 b4 s0 s1 s2 s3 s4; (try clear n0 n1 n2 n3 n4 n5 n6 n7 n8); (try clear m0 m1 m2 m3 m4 m5 m6 m7 m8); (replace P := P.below hb); (replace Q := Q.below hb); (replace V := V.below hb); (try (replace N := N.below hb)); (try (replace M := M.below hb)); (replace B := B.trans (hb.mono B.size)); clear hb; obtain ⟨a0, a1, a2, a3, a4, a5, a6, a7, a8⟩ := id P; obtain ⟨b0, b1, b2, b3, b4⟩ := id Q; obtain ⟨s0, s1, s2, s3, s4⟩ := id V; (try (obtain ⟨n0, n1, n2, n3, n4, n5, n6, n7, n8⟩ := id N)); (try (obtain ⟨m0, m1, m2, m3, m4, m5, m6, m7, m8⟩ := id M))
            (try go_wp2_with fail)
            refine hK.out _ _ ?_ (fun hHeld => ?_)
            · simp (maxDischargeDepth := 6) [go_sem, *]
            clear hK K
            (try simp only [Act.put, List.setIfInBounds_toArray, List.set_cons_zero, List.set_cons_succ])
            refine wpAnyH_ready (rs := [7, 11]) (by kernel_rfl) (by simp) ?_
            refine (AllReadyH.cons (by rw [List.getElem?_toArray]; rfl) (fun K hK => ?_) (AllReadyH.cons (by rw [List.getElem?_toArray]; rfl) (fun K hK => ?_) AllReadyH.nil))
            · go_simp
              refine (CI _).mono ?_; rintro e v ⟨rfl, hb⟩; clear a0 a1 a2 a3 a4 a5 a6 a7 a8 b0 b1 b2 b3 b4 s0 s1 s2 s3 s4; (try clear n0 n1 n2 n3 n4 n5 n6 n7 n8); (try clear m0 m1 m2 m3 m4 m5 m6 m7 m8); (replace P := P.below hb); (replace Q := Q.below hb); (replace V := V.below hb); (try (replace N := N.below hb)); (try (replace M := M.below hb)); (replace B := B.trans (hb.mono B.size)); clear hb; obtain ⟨a0, a1, a2, a3, a4, a5, a6, a7, a8⟩ := id P; obtain ⟨b0, b1, b2, b3, b4⟩ := id Q; obtain ⟨s0, s1, s2, s3, s4⟩ := id V; (try (obtain ⟨n0, n1, n2, n3, n4, n5, n6, n7, n8⟩ := id N)); (try (obtain ⟨m0, m1, m2, m3, m4, m5, m6, m7, m8⟩ := id M))
              (try go_wp2_with fail)
              refine hK.out _ _ ?_ (fun hHeld => ?_)
              · simp (maxDischargeDepth := 6) [go_sem, *]
              clear hK K
              (try simp only [Act.put, List.setIfInBounds_toArray, List.set_cons_zero, List.set_cons_succ])
              refine wpAnyH_take (i := 8) (v := ?_) (by rw [List.getElem?_toArray]; rfl) (by kernel_rfl) (by kernel_rfl) (by kernel_rfl) (by intro _ _ _ h; exact h) (Or.inl ⟨by rfl, ?_⟩) (by assumption) ?_
              rotate_left
              · (intro w hSw; (try dsimp only at hSw); go_simp; all_goals with_reducible rfl)
              (try simp only [Act.put, List.setIfInBounds_toArray, List.set_cons_zero, List.set_cons_succ])
              refine wpAnyH_take (i := 9) (v := ?_) (by rw [List.getElem?_toArray]; rfl) (by kernel_rfl) (by kernel_rfl) (by kernel_rfl) (by intro _ _ _ h; exact h) (Or.inl ⟨by rfl, ?_⟩) (by assumption) ?_
              rotate_left
              · (intro w hSw; (try dsimp only at hSw); go_simp; all_goals with_reducible rfl)
              (try simp only [Act.put, List.setIfInBounds_toArray, List.set_cons_zero, List.set_cons_succ])
              refine wpAnyH_take (i := 10) (v := ?_) (by rw [List.getElem?_toArray]; rfl) (by kernel_rfl) (by kernel_rfl) (by kernel_rfl) (by intro _ _ _ h; exact h) (Or.inl ⟨by rfl, ?_⟩) (by assumption) ?_
              rotate_left
              · (intro w hSw; (try dsimp only at hSw); go_simp; all_goals with_reducible rfl)
              (try simp only [Act.put, List.setIfInBounds_toArray, List.set_cons_zero, List.set_cons_succ])
              refine wpAnyH_ready (rs := [11]) (by kernel_rfl) (by simp) ?_
              refine (AllReadyH.cons (by rw [List.getElem?_toArray]; rfl) (fun K hK => ?_) AllReadyH.nil)
              go_simp
              (have N := BoxL.new v false 0 0 0 29); (have hj : w.heap.size + 1 + 1 < v.heap.size := s0); (try (have hjM : jM < v.heap.size := m0)); clear a0 a1 a2 a3 a4 a5 a6 a7 a8 b0 b1 b2 b3 b4 s0 s1 s2 s3 s4; (try clear n0 n1 n2 n3 n4 n5 n6 n7 n8); (try clear m0 m1 m2 m3 m4 m5 m6 m7 m8); (replace P := P.alloc (.cells #[.bool false, .int .i64 0, .int .i64 0, .int .i64 0] 29)); (replace Q := Q.alloc (.cells #[.bool false, .int .i64 0, .int .i64 0, .int .i64 0] 29)); (replace V := V.alloc (.cells #[.bool false, .int .i64 0, .int .i64 0, .int .i64 0] 29)); (try (replace M := M.alloc (.cells #[.bool false, .int .i64 0, .int .i64 0, .int .i64 0] 29))); (replace B := B.alloc B.size (.cells #[.bool false, .int .i64 0, .int .i64 0, .int .i64 0] 29)); (generalize v.alloc (.cells #[.bool false, .int .i64 0, .int .i64 0, .int .i64 0] 29) = v2 at *); obtain ⟨a0, a1, a2, a3, a4, a5, a6, a7, a8⟩ := id P; obtain ⟨b0, b1, b2, b3, b4⟩ := id Q; obtain ⟨s0, s1, s2, s3, s4⟩ := id V; (try (obtain ⟨n0, n1, n2, n3, n4, n5, n6, n7, n8⟩ := id N)); (try (obtain ⟨m0, m1, m2, m3, m4, m5, m6, m7, m8⟩ := id M))
              refine hK.out _ _ ?_ (fun hHeld => ?_)
              · simp (maxDischargeDepth := 6) [go_sem, *]
              clear hK K
              (try simp only [Act.put, List.setIfInBounds_toArray, List.set_cons_zero, List.set_cons_succ])
              refine wpAnyH_ready (rs := [12]) (by kernel_rfl) (by simp) ?_
              refine (AllReadyH.cons (by rw [List.getElem?_toArray]; rfl) (fun K hK => ?_) AllReadyH.nil)
              go_simp
              refine hK.out _ _ ?_ (fun hHeld => ?_)
              · simp (maxDischargeDepth := 6) [go_sem, *]
              clear hK K
              (try simp only [Act.put, List.setIfInBounds_toArray, List.set_cons_zero, List.set_cons_succ])
              refine wpAnyH_take (i := 13) (v := ?_) (by rw [List.getElem?_toArray]; rfl) (by kernel_rfl) (by kernel_rfl) (by kernel_rfl) (by intro _ _ _ h; exact h) (Or.inl ⟨by rfl, ?_⟩) (by assumption) ?_
              rotate_left
              · (intro w hSw; (try dsimp only at hSw); go_simp; all_goals with_reducible rfl)
              (try simp only [Act.put, List.setIfInBounds_toArray, List.set_cons_zero, List.set_cons_succ])
              refine wpAnyH_done (by kernel_rfl) ?_ _
              go_wp2_with fail
              go_meet
              case rel => exact ⟨_, rfl, rfl, N.set k1 k2 k3 k4, M.setLO (by omega) k1 k2 k3 k4, Below.setL B (by omega) k1 k2 k3 k4⟩
            · go_simp
              (have N := BoxL.new v false 0 0 0 29); (have hj : w.heap.size + 1 + 1 < v.heap.size := s0); (try (have hjM : jM < v.heap.size := m0)); clear a0 a1 a2 a3 a4 a5 a6 a7 a8 b0 b1 b2 b3 b4 s0 s1 s2 s3 s4; (try clear n0 n1 n2 n3 n4 n5 n6 n7 n8); (try clear m0 m1 m2 m3 m4 m5 m6 m7 m8); (replace P := P.alloc (.cells #[.bool false, .int .i64 0, .int .i64 0, .int .i64 0] 29)); (replace Q := Q.alloc (.cells #[.bool false, .int .i64 0, .int .i64 0, .int .i64 0] 29)); (replace V := V.alloc (.cells #[.bool false, .int .i64 0, .int .i64 0, .int .i64 0] 29)); (try (replace M := M.alloc (.cells #[.bool false, .int .i64 0, .int .i64 0, .int .i64 0] 29))); (replace B := B.alloc B.size (.cells #[.bool false, .int .i64 0, .int .i64 0, .int .i64 0] 29)); (generalize v.alloc (.cells #[.bool false, .int .i64 0, .int .i64 0, .int .i64 0] 29) = v2 at *); obtain ⟨a0, a1, a2, a3, a4, a5, a6, a7, a8⟩ := id P; obtain ⟨b0, b1, b2, b3, b4⟩ := id Q; obtain ⟨s0, s1, s2, s3, s4⟩ := id V; (try (obtain ⟨n0, n1, n2, n3, n4, n5, n6, n7, n8⟩ := id N)); (try (obtain ⟨m0, m1, m2, m3, m4, m5, m6, m7, m8⟩ := id M))
              refine hK.out _ _ ?_ (fun hHeld => ?_)
              · simp (maxDischargeDepth := 6) [go_sem, *]
              clear hK K
              (try simp only [Act.put, List.setIfInBounds_toArray, List.set_cons_zero, List.set_cons_succ])
              refine wpAnyH_ready (rs := [7]) (by kernel_rfl) (by simp) ?_
              refine (AllReadyH.cons (by rw [List.getElem?_toArray]; rfl) (fun K hK => ?_) AllReadyH.nil)
              go_simp
              refine (CI _).mono ?_; rintro e v ⟨rfl, hb⟩; clear a0 a1 a2 a3 a4 a5 a6 a7 a8 b0 b1 b2 b3 b4 s0 s1 s2 s3 s4; (try clear n0 n1 n2 n3 n4 n5 n6 n7 n8); (try clear m0 m1 m2 m3 m4 m5 m6 m7 m8); (replace P := P.below hb); (replace Q := Q.below hb); (replace V := V.below hb); (try (replace N := N.below hb)); (try (replace M := M.below hb)); (replace B := B.trans (hb.mono B.size)); clear hb; obtain ⟨a0, a1, a2, a3, a4, a5, a6, a7, a8⟩ := id P; obtain ⟨b0, b1, b2, b3, b4⟩ := id Q; obtain ⟨s0, s1, s2, s3, s4⟩ := id V; (try (obtain ⟨n0, n1, n2, n3, n4, n5, n6, n7, n8⟩ := id N)); (try (obtain ⟨m0, m1, m2, m3, m4, m5, m6, m7, m8⟩ := id M))
              (try go_wp2_with fail)
              refine hK.out _ _ ?_ (fun hHeld => ?_)
              · simp (maxDischargeDepth := 6) [go_sem, *]
              clear hK K
              (try simp only [Act.put, List.setIfInBounds_toArray, List.set_cons_zero, List.set_cons_succ])
              refine wpAnyH_take (i := 8) (v := ?_) (by rw [List.getElem?_toArray]; rfl) (by kernel_rfl) (by kernel_rfl) (by kernel_rfl) (by intro _ _ _ h; exact h) (Or.inl ⟨by rfl, ?_⟩) (by assumption) ?_
              rotate_left
              · (intro w hSw; (try dsimp only at hSw); go_simp; all_goals with_reducible rfl)
              (try simp only [Act.put, List.setIfInBounds_toArray, List.set_cons_zero, List.set_cons_succ])
              refine wpAnyH_take (i := 9) (v := ?_) (by rw [List.getElem?_toArray]; rfl) (by kernel_rfl) (by kernel_rfl) (by kernel_rfl) (by intro _ _ _ h; exact h) (Or.inl ⟨by rfl, ?_⟩) (by assumption) ?_
              rotate_left
              · (intro w hSw; (try dsimp only at hSw); go_simp; all_goals with_reducible rfl)
              (try simp only [Act.put, List.setIfInBounds_toArray, List.set_cons_zero, List.set_cons_succ])
              refine wpAnyH_take (i := 10) (v := ?_) (by rw [List.getElem?_toArray]; rfl) (by kernel_rfl) (by kernel_rfl) (by kernel_rfl) (by intro _ _ _ h; exact h) (Or.inl ⟨by rfl, ?_⟩) (by assumption) ?_
              rotate_left
              · (intro w hSw; (try dsimp only at hSw); go_simp; all_goals with_reducible rfl)
              (try simp only [Act.put, List.setIfInBounds_toArray, List.set_cons_zero, List.set_cons_succ])
              refine wpAnyH_ready (rs := [12]) (by kernel_rfl) (by simp) ?_
              refine (AllReadyH.cons (by rw [List.getElem?_toArray]; rfl) (fun K hK => ?_) AllReadyH.nil)
              go_simp
              refine hK.out _ _ ?_ (fun hHeld => ?_)
              · simp (maxDischargeDepth := 6) [go_sem, *]
              clear hK K
              (try simp only [Act.put, List.setIfInBounds_toArray, List.set_cons_zero, List.set_cons_succ])
              refine wpAnyH_take (i := 13) (v := ?_) (by rw [List.getElem?_toArray]; rfl) (by kernel_rfl) (by kernel_rfl) (by kernel_rfl) (by intro _ _ _ h; exact h) (Or.inl ⟨by rfl, ?_⟩) (by assumption) ?_
              rotate_left
              · (intro w hSw; (try dsimp only at hSw); go_simp; all_goals with_reducible rfl)
              (try simp only [Act.put, List.setIfInBounds_toArray, List.set_cons_zero, List.set_cons_succ])
              refine wpAnyH_done (by kernel_rfl) ?_ _
              go_wp2_with fail
              go_meet
              case rel => exact ⟨_, rfl, rfl, N.set k1 k2 k3 k4, M.setLO (by omega) k1 k2 k3 k4, Below.setL B (by omega) k1 k2 k3 k4⟩
          · go_simp
            (have N := BoxL.new v false 0 0 0 29); (have hj : w.heap.size + 1 + 1 < v.heap.size := s0); (try (have hjM : jM < v.heap.size := m0)); clear a0 a1 a2 a3 a4 a5 a6 a7 a8 b0 b1 b2 b3 b4 s0 s1 s2 s3 s4; (try clear n0 n1 n2 n3 n4 n5 n6 n7 n8); (try clear m0 m1 m2 m3 m4 m5 m6 m7 m8); (replace P := P.alloc (.cells #[.bool false, .int .i64 0, .int .i64 0, .int .i64 0] 29)); (replace Q := Q.alloc (.cells #[.bool false, .int .i64 0, .int .i64 0, .int .i64 0] 29)); (replace V := V.alloc (.cells #[.bool false, .int .i64 0, .int .i64 0, .int .i64 0] 29)); (try (replace M := M.alloc (.cells #[.bool false, .int .i64 0, .int .i64 0, .int .i64 0] 29))); (replace B := B.alloc B.size (.cells #[.bool false, .int .i64 0, .int .i64 0, .int .i64 0] 29)); (generalize v.alloc (.cells #[.bool false, .int .i64 0, .int .i64 0, .int .i64 0] 29) = v2 at *); obtain ⟨a0, a1, a2, a3, a4, a5, a6, a7, a8⟩ := id P; obtain ⟨b0, b1, b2, b3, b4⟩ := id Q; obtain ⟨s0, s1, s2, s3, s4⟩ := id V; (try (obtain ⟨n0, n1, n2, n3, n4, n5, n6, n7, n8⟩ := id N)); (try (obtain ⟨m0, m1, m2, m3, m4, m5, m6, m7, m8⟩ := id M))
            refine hK.out _ _ ?_ (fun hHeld => ?_)
            · simp (maxDischargeDepth := 6) [go_sem, *]
            clear hK K
            (try simp only [Act.put, List.setIfInBounds_toArray, List.set_cons_zero, List.set_cons_succ])
            refine wpAnyH_ready (rs := [6]) (by kernel_rfl) (by simp) ?_
            refine (AllReadyH.cons (by rw [List.getElem?_toArray]; rfl) (fun K hK => ?_) AllReadyH.nil)
            go_simp
            refine (toIval_any _ _ _).mono ?_; rintro e v ⟨rfl, hb⟩; clear a0 a1 a2 a3 a4 a5 a6 a7 a8 b0 b1 b2 b3 b4 s0 s1 s2 s3 s4; (try clear n0 n1 n2 n3 n4 n5 n6 n7 n8); (try clear m0 m1 m2 m3 m4 m5 m6 m7 m8); (replace P := P.below hb); (replace Q := Q.below hb); (replace V := V.below hb); (try (replace N := N.below hb)); (try (replace M := M.below hb)); (replace B := B.trans (hb.mono B.size)); clear hb; obtain ⟨a0, a1, a2, a3, a4, a5, a6, a7, a8⟩ := id P; obtain ⟨b0, b1, b2, b3, b4⟩ := id Q; obtain ⟨s0, s1, s2, s3, s4⟩ := id V; (try (obtain ⟨n0, n1, n2, n3, n4, n5, n6, n7, n8⟩ := id N)); (try (obtain ⟨m0, m1, m2, m3, m4, m5, m6, m7, m8⟩ := id M))
            (try go_wp2_with fail)
            refine hK.out _ _ ?_ (fun hHeld => ?_)
            · simp (maxDischargeDepth := 6) [go_sem, *]
            clear hK K
            (try simp only [Act.put, List.setIfInBounds_toArray, List.set_cons_zero, List.set_cons_succ])
            refine wpAnyH_ready (rs := [7]) (by kernel_rfl) (by simp) ?_
            refine (AllReadyH.cons (by rw [List.getElem?_toArray]; rfl) (fun K hK => ?_) AllReadyH.nil)
            go_simp
            refine (CI _).mono ?_; rintro e v ⟨rfl, hb⟩; clear a0 a1 a2 a3 a4 a5 a6 a7 a8 b0 b1 b2 b3 b4 s0 s1 s2 s3 s4; (try clear n0 n1 n2 n3 n4 n5 n6 n7 n8); (try clear m0 m1 m2 m3 m4 m5 m6 m7 m8); (replace P := P.below hb); (replace Q := Q.below hb); (replace V := V.below hb); (try (replace N := N.below hb)); (try (replace M := M.below hb)); (replace B := B.trans (hb.mono B.size)); clear hb; obtain ⟨a0, a1, a2, a3, a4, a5, a6, a7, a8⟩ := id P; obtain ⟨b0, b1, b2, b3, b4⟩ := id Q; obtain ⟨s0, s1, s2, s3, s4⟩ := id V; (try (obtain ⟨n0, n1, n2, n3, n4, n5, n6, n7, n8⟩ := id N)); (try (obtain ⟨m0, m1, m2, m3, m4, m5, m6, m7, m8⟩ := id M))
            (try go_wp2_with fail)
            refine hK.out _ _ ?_ (fun hHeld => ?_)
            · simp (maxDischargeDepth := 6) [go_sem, *]
            clear hK K
            (try simp only [Act.put, List.setIfInBounds_toArray, List.set_cons_zero, List.set_cons_succ])
            refine wpAnyH_take (i := 8) (v := ?_) (by rw [List.getElem?_toArray]; rfl) (by kernel_rfl) (by kernel_rfl) (by kernel_rfl) (by intro _ _ _ h; exact h) (Or.inl ⟨by rfl, ?_⟩) (by assumption) ?_
            rotate_left
            · (intro w hSw; (try dsimp only at hSw); go_simp; all_goals with_reducible rfl)
            (try simp only [Act.put, List.setIfInBounds_toArray, List.set_cons_zero, List.set_cons_succ])
            refine wpAnyH_take (i := 9) (v := ?_) (by rw [List.getElem?_toArray]; rfl) (by kernel_rfl) (by kernel_rfl) (by kernel_rfl) (by intro _ _ _ h; exact h) (Or.inl ⟨by rfl, ?_⟩) (by assumption) ?_
            rotate_left
            · (intro w hSw; (try dsimp only at hSw); go_simp; all_goals with_reducible rfl)
            (try simp only [Act.put, List.setIfInBounds_toArray, List.set_cons_zero, List.set_cons_succ])
            refine wpAnyH_take (i := 10) (v := ?_) (by rw [List.getElem?_toArray]; rfl) (by kernel_rfl) (by kernel_rfl) (by kernel_rfl) (by intro _ _ _ h; exact h) (Or.inl ⟨by rfl, ?_⟩) (by assumption) ?_
            rotate_left
            · (intro w hSw; (try dsimp only at hSw); go_simp; all_goals with_reducible rfl)
            (try simp only [Act.put, List.setIfInBounds_toArray, List.set_cons_zero, List.set_cons_succ])
            refine wpAnyH_ready (rs := [12]) (by kernel_rfl) (by simp) ?_
            refine (AllReadyH.cons (by rw [List.getElem?_toArray]; rfl) (fun K hK => ?_) AllReadyH.nil)
            go_simp
            refine hK.out _ _ ?_ (fun hHeld => ?_)
            · simp (maxDischargeDepth := 6) [go_sem, *]
            clear hK K
            (try simp only [Act.put, List.setIfInBounds_toArray, List.set_cons_zero, List.set_cons_succ])
            refine wpAnyH_take (i := 13) (v := ?_) (by rw [List.getElem?_toArray]; rfl) (by kernel_rfl) (by kernel_rfl) (by kernel_rfl) (by intro _ _ _ h; exact h) (Or.inl ⟨by rfl, ?_⟩) (by assumption) ?_
            rotate_left
            · (intro w hSw; (try dsimp only at hSw); go_simp; all_goals with_reducible rfl)
            (try simp only [Act.put, List.setIfInBounds_toArray, List.set_cons_zero, List.set_cons_succ])
            refine wpAnyH_done (by kernel_rfl) ?_ _
            go_wp2_with fail
            go_meet
            case rel => exact ⟨_, rfl, rfl, N.set k1 k2 k3 k4, M.setLO (by omega) k1 k2 k3 k4, Below.setL B (by omega) k1 k2 k3 k4⟩
        · go_simp
          (have N := BoxL.new v false 0 0 0 29); (have hj : w.heap.size + 1 + 1 < v.heap.size := s0); (try (have hjM : jM < v.heap.size := m0)); clear a0 a1 a2 a3 a4 a5 a6 a7 a8 b0 b1 b2 b3 b4 s0 s1 s2 s3 s4; (try clear n0 n1 n2 n3 n4 n5 n6 n7 n8); (try clear m0 m1 m2 m3 m4 m5 m6 m7 m8); (replace P := P.alloc (.cells #[.bool false, .int .i64 0, .int .i64 0, .int .i64 0] 29)); (replace Q := Q.alloc (.cells #[.bool false, .int .i64 0, .int .i64 0, .int .i64 0] 29)); (replace V := V.alloc (.cells #[.bool false, .int .i64 0, .int .i64 0, .int .i64 0] 29)); (try (replace M := M.alloc (.cells #[.bool false, .int .i64 0, .int .i64 0, .int .i64 0] 29))); (replace B := B.alloc B.size (.cells #[.bool false, .int .i64 0, .int .i64 0, .int .i64 0] 29)); (generalize v.alloc (.cells #[.bool false, .int .i64 0, .int .i64 0, .int .i64 0] 29) = v2 at *); obtain ⟨a0, a1, a2, a3, a4, a5, a6, a7, a8⟩ := id P; obtain ⟨b0, b1, b2, b3, b4⟩ := id Q; obtain ⟨s0, s1, s2, s3, s4⟩ := id V; (try (obtain ⟨n0, n1, n2, n3, n4, n5, n6, n7, n8⟩ := id N)); (try (obtain ⟨m0, m1, m2, m3, m4, m5, m6, m7, m8⟩ := id M))
          refine hK.out _ _ ?_ (fun hHeld => ?_)
          · simp (maxDischargeDepth := 6) [go_sem, *]
          clear hK K
          (try simp only [Act.put, List.setIfInBounds_toArray, List.set_cons_zero, List.set_cons_succ])
          refine wpAnyH_ready (rs := [3]) (by kernel_rfl) (by simp) ?_
          refine (AllReadyH.cons (by rw [List.getElem?_toArray]; rfl) (fun K hK => ?_) AllReadyH.nil)
          go_simp
          refine (toDrift_any _ _ _).mono ?_; rintro e v ⟨rfl, hb⟩; clear a0 a1 a2 a3 a4 a5 a6 a7 a8 b0 b1 b2 b3 b4 s0 s1 s2 s3 s4; (try clear n0 n1 n2 n3 n4 n5 n6 n7 n8); (try clear m0 m1 m2 m3 m4 m5 m6 m7 m8); (replace P := P.below hb); (replace Q := Q.below hb); (replace V := V.below hb); (try (replace N := N.below hb)); (try (replace M := M.below hb)); (replace B := B.trans (hb.mono B.size)); clear hb; obtain ⟨a0, a1, a2, a3, a4, a5, a6, a7, a8⟩ := id P; obtain ⟨b0, b1, b2, b3, b4⟩ := id Q; obtain ⟨s0, s1, s2, s3, s4⟩ := id V; (try (obtain ⟨n0, n1, n2, n3, n4, n5, n6, n7, n8⟩ := id N)); (try (obtain ⟨m0, m1, m2, m3, m4, m5, m6, m7, m8⟩ := id M))
          (try go_wp2_with fail)
          refine hK.out _ _ ?_ (fun hHeld => ?_)
          · simp (maxDischargeDepth := 6) [go_sem, *]
          clear hK K
          (try simp only [Act.put, List.setIfInBounds_toArray, List.set_cons_zero, List.set_cons_succ])
          refine wpAnyH_ready (rs := [6]) (by kernel_rfl) (by simp) ?_
          refine (AllReadyH.cons (by rw [List.getElem?_toArray]; rfl) (fun K hK => ?_) AllReadyH.nil)
          go_simp
          refine (toIval_any _ _ _).mono ?_; rintro e v ⟨rfl, hb⟩; clear a0 a1 a2 a3 a4 a5 a6 a7 a8 b0 b1 b2 b3 b4 s0 s1 s2 s3 s4; (try clear n0 n1 n2 n3 n4 n5 n6 n7 n8); (try clear m0 m1 m2 m3 m4 m5 m6 m7 m8); (replace P := P.below hb); (replace Q := Q.below hb); (replace V := V.below hb); (try (replace N := N.below hb)); (try (replace M := M.below hb)); (replace B := B.trans (hb.mono B.size)); clear hb; obtain ⟨a0, a1, a2, a3, a4, a5, a6, a7, a8⟩ := id P; obtain ⟨b0, b1, b2, b3, b4⟩ := id Q; obtain ⟨s0, s1, s2, s3, s4⟩ := id V; (try (obtain ⟨n0, n1, n2, n3, n4, n5, n6, n7, n8⟩ := id N)); (try (obtain ⟨m0, m1, m2, m3, m4, m5, m6, m7, m8⟩ := id M))
          (try go_wp2_with fail)
          refine hK.out _ _ ?_ (fun hHeld => ?_)
          · simp (maxDischargeDepth := 6) [go_sem, *]
          clear hK K
          (try simp only [Act.put, List.setIfInBounds_toArray, List.set_cons_zero, List.set_cons_succ])
          refine wpAnyH_ready (rs := [7]) (by kernel_rfl) (by simp) ?_
          refine (AllReadyH.cons (by rw [List.getElem?_toArray]; rfl) (fun K hK => ?_) AllReadyH.nil)
          go_simp
          refine (CI _).mono ?_; rintro e v ⟨rfl, hb⟩; clear a0 a1 a2 a3 a4 a5 a6 a7 a8 b0 b1 b2 b3 b4 s0 s1 s2 s3 s4; (try clear n0 n1 n2 n3 n4 n5 n6 n7 n8); (try clear m0 m1 m2 m3 m4 m5 m6 m7 m8); (replace P := P.below hb); (replace Q := Q.below hb); (replace V := V.below hb); (try (replace N := N.below hb)); (try (replace M := M.below hb)); (replace B := B.trans (hb.mono B.size)); clear hb; obtain ⟨a0, a1, a2, a3, a4, a5, a6, a7, a8⟩ := id P; obtain ⟨b0, b1, b2, b3, b4⟩ := id Q; obtain ⟨s0, s1, s2, s3, s4⟩ := id V; (try (obtain ⟨n0, n1, n2, n3, n4, n5, n6, n7, n8⟩ := id N)); (try (obtain ⟨m0, m1, m2, m3, m4, m5, m6, m7, m8⟩ := id M))
          (try go_wp2_with fail)
          refine hK.out _ _ ?_ (fun hHeld => ?_)
          · simp (maxDischargeDepth := 6) [go_sem, *]
          clear hK K
          (try simp only [Act.put, List.setIfInBounds_toArray, List.set_cons_zero, List.set_cons_succ])
          refine wpAnyH_take (i := 8) (v := ?_) (by rw [List.getElem?_toArray]; rfl) (by kernel_rfl) (by kernel_rfl) (by kernel_rfl) (by intro _ _ _ h; exact h) (Or.inl ⟨by rfl, ?_⟩) (by assumption) ?_
          rotate_left
          · (intro w hSw; (try dsimp only at hSw); go_simp; all_goals with_reducible rfl)
          (try simp only [Act.put, List.setIfInBounds_toArray, List.set_cons_zero, List.set_cons_succ])
          refine wpAnyH_take (i := 9) (v := ?_) (by rw [List.getElem?_toArray]; rfl) (by kernel_rfl) (by kernel_rfl) (by kernel_rfl) (by intro _ _ _ h; exact h) (Or.inl ⟨by rfl, ?_⟩) (by assumption) ?_
          rotate_left
          · (intro w hSw; (try dsimp only at hSw); go_simp; all_goals with_reducible rfl)
          (try simp only [Act.put, List.setIfInBounds_toArray, List.set_cons_zero, List.set_cons_succ])
          refine wpAnyH_take (i := 10) (v := ?_) (by rw [List.getElem?_toArray]; rfl) (by kernel_rfl) (by kernel_rfl) (by kernel_rfl) (by intro _ _ _ h; exact h) (Or.inl ⟨by rfl, ?_⟩) (by assumption) ?_
          rotate_left
          · (intro w hSw; (try dsimp only at hSw); go_simp; all_goals with_reducible rfl)
          (try simp only [Act.put, List.setIfInBounds_toArray, List.set_cons_zero, List.set_cons_succ])
          refine wpAnyH_ready (rs := [12]) (by kernel_rfl) (by simp) ?_
          refine (AllReadyH.cons (by rw [List.getElem?_toArray]; rfl) (fun K hK => ?_) AllReadyH.nil)
          go_simp
          refine hK.out _ _ ?_ (fun hHeld => ?_)
          · simp (maxDischargeDepth := 6) [go_sem, *]
          clear hK K
          (try simp only [Act.put, List.setIfInBounds_toArray, List.set_cons_zero, List.set_cons_succ])
          refine wpAnyH_take (i := 13) (v := ?_) (by rw [List.getElem?_toArray]; rfl) (by kernel_rfl) (by kernel_rfl) (by kernel_rfl) (by intro _ _ _ h; exact h) (Or.inl ⟨by rfl, ?_⟩) (by assumption) ?_
          rotate_left
          · (intro w hSw; (try dsimp only at hSw); go_simp; all_goals with_reducible rfl)
          (try simp only [Act.put, List.setIfInBounds_toArray, List.set_cons_zero, List.set_cons_succ])
          refine wpAnyH_done (by kernel_rfl) ?_ _
          go_wp2_with fail
          go_meet
          case rel => exact ⟨_, rfl, rfl, N.set k1 k2 k3 k4, M.setLO (by omega) k1 k2 k3 k4, Below.setL B (by omega) k1 k2 k3 k4⟩
      · go_simp
        (have N := BoxL.new v false 0 0 0 29); (have hj : w.heap.size + 1 + 1 < v.heap.size := s0); (try (have hjM : jM < v.heap.size := m0)); clear a0 a1 a2 a3 a4 a5 a6 a7 a8 b0 b1 b2 b3 b4 s0 s1 s2 s3 s4; (try clear n0 n1 n2 n3 n4 n5 n6 n7 n8); (try clear m0 m1 m2 m3 m4 m5 m6 m7 m8); (replace P := P.alloc (.cells #[.bool false, .int .i64 0, .int .i64 0, .int .i64 0] 29)); (replace Q := Q.alloc (.cells #[.bool false, .int .i64 0, .int .i64 0, .int .i64 0] 29)); (replace V := V.alloc (.cells #[.bool false, .int .i64 0, .int .i64 0, .int .i64 0] 29)); (try (replace M := M.alloc (.cells #[.bool false, .int .i64 0, .int .i64 0, .int .i64 0] 29))); (replace B := B.alloc B.size (.cells #[.bool false, .int .i64 0, .int .i64 0, .int .i64 0] 29)); (generalize v.alloc (.cells #[.bool false, .int .i64 0, .int .i64 0, .int .i64 0] 29) = v2 at *); obtain ⟨a0, a1, a2, a3, a4, a5, a6, a7, a8⟩ := id P; obtain ⟨b0, b1, b2, b3, b4⟩ := id Q; obtain ⟨s0, s1, s2, s3, s4⟩ := id V; (try (obtain ⟨n0, n1, n2, n3, n4, n5, n6, n7, n8⟩ := id N)); (try (obtain ⟨m0, m1, m2, m3, m4, m5, m6, m7, m8⟩ := id M))
        refine hK.out _ _ ?_ (fun hHeld => ?_)
        · simp (maxDischargeDepth := 6) [go_sem, *]
        clear hK K
        (try simp only [Act.put, List.setIfInBounds_toArray, List.set_cons_zero, List.set_cons_succ])
        refine wpAnyH_ready (rs := [1]) (by kernel_rfl) (by simp) ?_
        refine (AllReadyH.cons (by rw [List.getElem?_toArray]; rfl) (fun K hK => ?_) AllReadyH.nil)
        go_simp
        refine (toLocal_any _ _ _ _ _).mono ?_; rintro e v ⟨rfl, hb⟩; clear a0 a1 a2 a3 a4 a5 a6 a7 a8 b0 b1 b2 b3 b4 s0 s1 s2 s3 s4; (try clear n0 n1 n2 n3 n4 n5 n6 n7 n8); (try clear m0 m1 m2 m3 m4 m5 m6 m7 m8); (replace P := P.below hb); (replace Q := Q.below hb); (replace V := V.below hb); (try (replace N := N.below hb)); (try (replace M := M.below hb)); (replace B := B.trans (hb.mono B.size)); clear hb; obtain ⟨a0, a1, a2, a3, a4, a5, a6, a7, a8⟩ := id P; obtain ⟨b0, b1, b2, b3, b4⟩ := id Q; obtain ⟨s0, s1, s2, s3, s4⟩ := id V; (try (obtain ⟨n0, n1, n2, n3, n4, n5, n6, n7, n8⟩ := id N)); (try (obtain ⟨m0, m1, m2, m3, m4, m5, m6, m7, m8⟩ := id M))
        (try go_wp2_with fail)
        refine hK.out _ _ ?_ (fun hHeld => ?_)
        · simp (maxDischargeDepth := 6) [go_sem, *]
        clear hK K
        (try simp only [Act.put, List.setIfInBounds_toArray, List.set_cons_zero, List.set_cons_succ])
        refine wpAnyH_ready (rs := [3]) (by kernel_rfl) (by simp) ?_
        refine (AllReadyH.cons (by rw [List.getElem?_toArray]; rfl) (fun K hK => ?_) AllReadyH.nil)
        go_simp
        refine (toDrift_any _ _ _).mono ?_; rintro e v ⟨rfl, hb⟩; clear a0 a1 a2 a3 a4 a5 a6 a7 a8 b0 b1 b2 b3 b4 s0 s1 s2 s3 s4; (try clear n0 n1 n2 n3 n4 n5 n6 n7 n8); (try clear m0 m1 m2 m3 m4 m5 m6 m7 m8); (replace P := P.below hb); (replace Q := Q.below hb); (replace V := V.below hb); (try (replace N := N.below hb)); (try (replace M := M.below hb)); (replace B := B.trans (hb.mono B.size)); clear hb; obtain ⟨a0, a1, a2, a3, a4, a5, a6, a7, a8⟩ := id P; obtain ⟨b0, b1, b2, b3, b4⟩ := id Q; obtain ⟨s0, s1, s2, s3, s4⟩ := id V; (try (obtain ⟨n0, n1, n2, n3, n4, n5, n6, n7, n8⟩ := id N)); (try (obtain ⟨m0, m1, m2, m3, m4, m5, m6, m7, m8⟩ := id M))
        (try go_wp2_with fail)
        refine hK.out _ _ ?_ (fun hHeld => ?_)
        · simp (maxDischargeDepth := 6) [go_sem, *]
        clear hK K
        (try simp only [Act.put, List.setIfInBounds_toArray, List.set_cons_zero, List.set_cons_succ])
        refine wpAnyH_ready (rs := [6]) (by kernel_rfl) (by simp) ?_
        refine (AllReadyH.cons (by rw [List.getElem?_toArray]; rfl) (fun K hK => ?_) AllReadyH.nil)
        go_simp
        refine (toIval_any _ _ _).mono ?_; rintro e v ⟨rfl, hb⟩; clear a0 a1 a2 a3 a4 a5 a6 a7 a8 b0 b1 b2 b3 b4 s0 s1 s2 s3 s4; (try clear n0 n1 n2 n3 n4 n5 n6 n7 n8); (try clear m0 m1 m2 m3 m4 m5 m6 m7 m8); (replace P := P.below hb); (replace Q := Q.below hb); (replace V := V.below hb); (try (replace N := N.below hb)); (try (replace M := M.below hb)); (replace B := B.trans (hb.mono B.size)); clear hb; obtain ⟨a0, a1, a2, a3, a4, a5, a6, a7, a8⟩ := id P; obtain ⟨b0, b1, b2, b3, b4⟩ := id Q; obtain ⟨s0, s1, s2, s3, s4⟩ := id V; (try (obtain ⟨n0, n1, n2, n3, n4, n5, n6, n7, n8⟩ := id N)); (try (obtain ⟨m0, m1, m2, m3, m4, m5, m6, m7, m8⟩ := id M))
        (try go_wp2_with fail)
        refine hK.out _ _ ?_ (fun hHeld => ?_)
        · simp (maxDischargeDepth := 6) [go_sem, *]
        clear hK K
        (try simp only [Act.put, List.setIfInBounds_toArray, List.set_cons_zero, List.set_cons_succ])
        refine wpAnyH_ready (rs := [7]) (by kernel_rfl) (by simp) ?_
        refine (AllReadyH.cons (by rw [List.getElem?_toArray]; rfl) (fun K hK => ?_) AllReadyH.nil)
        go_simp
        refine (CI _).mono ?_; rintro e v ⟨rfl, hb⟩; clear a0 a1 a2 a3 a4 a5 a6 a7 a8 b0 b1 b2 b3 b4 s0 s1 s2 s3 s4; (try clear n0 n1 n2 n3 n4 n5 n6 n7 n8); (try clear m0 m1 m2 m3 m4 m5 m6 m7 m8); (replace P := P.below hb); (replace Q := Q.below hb); (replace V := V.below hb); (try (replace N := N.below hb)); (try (replace M := M.below hb)); (replace B := B.trans (hb.mono B.size)); clear hb; obtain ⟨a0, a1, a2, a3, a4, a5, a6, a7, a8⟩ := id P; obtain ⟨b0, b1, b2, b3, b4⟩ := id Q; obtain ⟨s0, s1, s2, s3, s4⟩ := id V; (try (obtain ⟨n0, n1, n2, n3, n4, n5, n6, n7, n8⟩ := id N)); (try (obtain ⟨m0, m1, m2, m3, m4, m5, m6, m7, m8⟩ := id M))
        (try go_wp2_with fail)
        refine hK.out _ _ ?_ (fun hHeld => ?_)
        · simp (maxDischargeDepth := 6) [go_sem, *]
        clear hK K
        (try simp only [Act.put, List.setIfInBounds_toArray, List.set_cons_zero, List.set_cons_succ])
        refine wpAnyH_take (i := 8) (v := ?_) (by rw [List.getElem?_toArray]; rfl) (by kernel_rfl) (by kernel_rfl) (by kernel_rfl) (by intro _ _ _ h; exact h) (Or.inl ⟨by rfl, ?_⟩) (by assumption) ?_
        rotate_left
        · (intro w hSw; (try dsimp only at hSw); go_simp; all_goals with_reducible rfl)
        (try simp only [Act.put, List.setIfInBounds_toArray, List.set_cons_zero, List.set_cons_succ])
        refine wpAnyH_take (i := 9) (v := ?_) (by rw [List.getElem?_toArray]; rfl) (by kernel_rfl) (by kernel_rfl) (by kernel_rfl) (by intro _ _ _ h; exact h) (Or.inl ⟨by rfl, ?_⟩) (by assumption) ?_
        rotate_left
        · (intro w hSw; (try dsimp only at hSw); go_simp; all_goals with_reducible rfl)
        (try simp only [Act.put, List.setIfInBounds_toArray, List.set_cons_zero, List.set_cons_succ])
        refine wpAnyH_take (i := 10) (v := ?_) (by rw [List.getElem?_toArray]; rfl) (by kernel_rfl) (by kernel_rfl) (by kernel_rfl) (by intro _ _ _ h; exact h) (Or.inl ⟨by rfl, ?_⟩) (by assumption) ?_
        rotate_left
        · (intro w hSw; (try dsimp only at hSw); go_simp; all_goals with_reducible rfl)
        (try simp only [Act.put, List.setIfInBounds_toArray, List.set_cons_zero, List.set_cons_succ])
        refine wpAnyH_ready (rs := [12]) (by kernel_rfl) (by simp) ?_
        refine (AllReadyH.cons (by rw [List.getElem?_toArray]; rfl) (fun K hK => ?_) AllReadyH.nil)
        go_simp
        refine hK.out _ _ ?_ (fun hHeld => ?_)
        · simp (maxDischargeDepth := 6) [go_sem, *]
        clear hK K
        (try simp only [Act.put, List.setIfInBounds_toArray, List.set_cons_zero, List.set_cons_succ])
        refine wpAnyH_take (i := 13) (v := ?_) (by rw [List.getElem?_toArray]; rfl) (by kernel_rfl) (by kernel_rfl) (by kernel_rfl) (by intro _ _ _ h; exact h) (Or.inl ⟨by rfl, ?_⟩) (by assumption) ?_
        rotate_left
        · (intro w hSw; (try dsimp only at hSw); go_simp; all_goals with_reducible rfl)
        (try simp only [Act.put, List.setIfInBounds_toArray, List.set_cons_zero, List.set_cons_succ])
        refine wpAnyH_done (by kernel_rfl) ?_ _
        go_wp2_with fail
        go_meet
        case rel => exact ⟨_, rfl, rfl, N.set k1 k2 k3 k4, M.setLO (by omega) k1 k2 k3 k4, Below.setL B (by omega) k1 k2 k3 k4⟩
    case rest =>
      obtain ⟨jN, rfl, rfl, N, M', B'⟩ := hcut
      clear P Q V B a0 a1 a2 a3 a4 a5 a6 a7 a8 b0 b1 b2 b3 b4 s0 s1 s2 s3 s4 m0 m1 m2 m3 m4 m5 m6 m7 m8 M
      obtain ⟨m0, m1, m2, m3, m4, m5, m6, m7, m8⟩ := id M'
      obtain ⟨n0, n1, n2, n3, n4, n5, n6, n7, n8⟩ := id N
      go_wp2_with fail
      refine (eqLocal_same _ _ _ _ _).mono ?_
      rintro e v5 ⟨rfl, hb⟩
      have B5 := B'.trans (hb.mono B'.size)
      clear hb
      go_wp2
      go_ret
      exact ⟨rfl, B5⟩
end Go.Proofs.Ytenknfgdolhilaa
