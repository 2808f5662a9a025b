/- The walks of the exact laws of CarryOn, Rebase, Learn. -/
import Derived.Test.YtenknfgdolhilaaQ3
import Derived.Deep.RegionHeld3
import Derived.Deep.DeepCutAuto
import Derived.WalkKit
import Derived.WalkSpells
import Derived.WalkLawsBesides
import Derived.Deep.RegionHeld
namespace Go.Proofs.Ytenknfgdolhilaa
open Go.RowKit
set_option linter.unusedVariables false
set_option maxRecDepth 100000 in
set_option maxHeartbeats 4000000 in
theorem lawCarryOn (kn : Bool) (lo hi a n d c : Int) (w : World) (g0 : (Lit.int .i64 lo).wf = true) (g1 : (Lit.int .i64 hi).wf = true) (g2 : (Lit.int .i64 a).wf = true) (g3 : (Lit.int .i64 n).wf = true) (g4 : (Lit.int .i64 d).wf = true) (g5 : (Lit.int .i64 c).wf = true) :
    Calls Try.prog 4 #[.agg #[.bool kn, .int .i64 lo, .int .i64 hi, .int .i64 a], .agg #[.int .i64 n, .int .i64 d], .int .i64 c] w fun e w' => e = .returned (.bool true) ∧ Below w.heap.size w w' := by
  clear g0 g1 g2 g3 g4 g5
  have P := ((BoxL.new w kn lo hi a 25).alloc (.cells #[.int .i64 n, .int .i64 d] 33))
  have Q := (Bx.new (w.alloc (.cells #[.bool kn, .int .i64 lo, .int .i64 hi, .int .i64 a] 25)) n d 33)
  have B : Below w.heap.size w ((w.alloc (.cells #[.bool kn, .int .i64 lo, .int .i64 hi, .int .i64 a] 25)).alloc (.cells #[.int .i64 n, .int .i64 d] 33)) := (Below.alc _ _).alloc (by first | (simp; done) | (simp; omega) | omega) _
  simp only [World.size_alloc] at Q
  have CS := fun w' => specCarryOn_any kn lo hi a n d c w'
  have CI := fun w' => implCarryOn_any kn lo hi a n d c w'
  go_enter Try.func4, Try.ntmps4
  go_wp2_with fail
  generalize crL kn lo hi a n d c = k1 at *
  generalize crH kn lo hi a n d c = k2 at *
  generalize crC kn lo hi a n d c = kz at *
  generalize (w.alloc (.cells #[.bool kn, .int .i64 lo, .int .i64 hi, .int .i64 a] 25)).alloc (.cells #[.int .i64 n, .int .i64 d] 33) = v at *
  obtain ⟨a0, a1, a2, a3, a4, a5, a6, a7, a8⟩ := id P; obtain ⟨b0, b1, b2, b3, b4⟩ := id Q; (try (obtain ⟨n0, n1, n2, n3, n4⟩ := id N)); (try (obtain ⟨m0, m1, m2, m3, m4⟩ := id M))
  go_cut [7, 8] (fun s5 s6 wx => ∃ j : Nat, s5 = .pointer (some ⟨j, 0, none⟩) ∧ s6 = .int .i64 kz ∧ Bx wx j k1 k2 ∧ w.heap.size + 1 < j ∧ BoxL wx w.heap.size kn lo hi a ∧ Bx wx (w.heap.size + 1) n d ∧ Below w.heap.size w wx)
  case first =>
    refine wp_region_held_drew (S := (fun w' => w'.cell? ⟨w.heap.size, 0, none⟩ = some (.bool kn) ∧ w'.cell? ⟨w.heap.size, 1, none⟩ = some (.int .i64 lo) ∧ w'.cell? ⟨w.heap.size, 2, none⟩ = some (.int .i64 hi) ∧ w'.cell? ⟨w.heap.size, 3, none⟩ = some (.int .i64 a) ∧ w'.cell? ⟨w.heap.size + 1, 0, none⟩ = some (.int .i64 n) ∧ w'.cell? ⟨w.heap.size + 1, 1, none⟩ = some (.int .i64 d))) (by kernel_rfl) ?_ (fun hHeld => ?_)
    · simp (maxDischargeDepth := 6) [go_sem, *]
    clear a0 a1 a2 a3 a4 a5 a6 a7 a8 b0 b1 b2 b3 b4 ; (try clear n0 n1 n2 n3 n4); (try clear m0 m1 m2 m3 m4)
    replace P := P.drew
    replace Q := Q.drew
    replace B := B.drew
    (try replace M := M.drew)
    generalize v.drew = v at *
    obtain ⟨a0, a1, a2, a3, a4, a5, a6, a7, a8⟩ := id P; obtain ⟨b0, b1, b2, b3, b4⟩ := id Q; (try (obtain ⟨n0, n1, n2, n3, n4⟩ := id N)); (try (obtain ⟨m0, m1, m2, m3, m4⟩ := id M))
    refine wpAnyH_take (i := 0) (v := ?_) (by rw [List.getElem?_toArray]; rfl) (by kernel_rfl) (by kernel_rfl) (by kernel_rfl) (by intro _ _ _ h; exact h) (Or.inl ⟨by rfl, ?_⟩) (by assumption) ?_
    rotate_left
    · (intro w hSw; (try dsimp only at hSw); go_simp; all_goals with_reducible rfl)
    (try simp only [Act.put, List.setIfInBounds_toArray, List.set_cons_zero, List.set_cons_succ])
    refine wpAnyH_take (i := 2) (v := ?_) (by rw [List.getElem?_toArray]; rfl) (by kernel_rfl) (by kernel_rfl) (by kernel_rfl) (by intro _ _ _ h; exact h) (Or.inl ⟨by rfl, ?_⟩) (by assumption) ?_
    rotate_left
    · (intro w hSw; (try dsimp only at hSw); go_simp; all_goals with_reducible rfl)
    (try simp only [Act.put, List.setIfInBounds_toArray, List.set_cons_zero, List.set_cons_succ])
    refine wpAnyH_take (i := 4) (v := ?_) (by rw [List.getElem?_toArray]; rfl) (by kernel_rfl) (by kernel_rfl) (by kernel_rfl) (by intro _ _ _ h; exact h) (Or.inl ⟨by rfl, ?_⟩) (by assumption) ?_
    rotate_left
    · (intro w hSw; (try dsimp only at hSw); go_simp; all_goals with_reducible rfl)
    (try simp only [Act.put, List.setIfInBounds_toArray, List.set_cons_zero, List.set_cons_succ])
    refine wpAnyH_ready (rs := [1, 9]) (by kernel_rfl) (by simp) ?_
    refine (AllReadyH.cons (by rw [List.getElem?_toArray]; rfl) (fun K hK => ?_) (AllReadyH.cons (by rw [List.getElem?_toArray]; rfl) (fun K hK => ?_) AllReadyH.nil))
    · go_simp
      refine (toLocal_any _ _ _ _ _).mono ?_; rintro e v ⟨rfl, hb⟩; clear a0 a1 a2 a3 a4 a5 a6 a7 a8 b0 b1 b2 b3 b4 ; (try clear n0 n1 n2 n3 n4); (try clear m0 m1 m2 m3 m4); (replace P := P.below hb); (replace Q := Q.below hb); (try (replace N := N.below hb)); (try (replace M := M.below hb)); (replace B := B.trans (hb.mono B.size)); clear hb; obtain ⟨a0, a1, a2, a3, a4, a5, a6, a7, a8⟩ := id P; obtain ⟨b0, b1, b2, b3, b4⟩ := id Q; (try (obtain ⟨n0, n1, n2, n3, n4⟩ := id N)); (try (obtain ⟨m0, m1, m2, m3, m4⟩ := id M))
      (try go_wp2_with fail)
      refine hK.out _ _ ?_ (fun hHeld => ?_)
      · simp (maxDischargeDepth := 6) [go_sem, *]
      clear hK K
      (try simp only [Act.put, List.setIfInBounds_toArray, List.set_cons_zero, List.set_cons_succ])
      refine wpAnyH_ready (rs := [3, 9]) (by kernel_rfl) (by simp) ?_
      refine (AllReadyH.cons (by rw [List.getElem?_toArray]; rfl) (fun K hK => ?_) (AllReadyH.cons (by rw [List.getElem?_toArray]; rfl) (fun K hK => ?_) AllReadyH.nil))
      · go_simp
        refine (toDrift_any _ _ _).mono ?_; rintro e v ⟨rfl, hb⟩; clear a0 a1 a2 a3 a4 a5 a6 a7 a8 b0 b1 b2 b3 b4 ; (try clear n0 n1 n2 n3 n4); (try clear m0 m1 m2 m3 m4); (replace P := P.below hb); (replace Q := Q.below hb); (try (replace N := N.below hb)); (try (replace M := M.below hb)); (replace B := B.trans (hb.mono B.size)); clear hb; obtain ⟨a0, a1, a2, a3, a4, a5, a6, a7, a8⟩ := id P; obtain ⟨b0, b1, b2, b3, b4⟩ := id Q; (try (obtain ⟨n0, n1, n2, n3, n4⟩ := id N)); (try (obtain ⟨m0, m1, m2, m3, m4⟩ := id M))
        (try go_wp2_with fail)
        refine hK.out _ _ ?_ (fun hHeld => ?_)
        · simp (maxDischargeDepth := 6) [go_sem, *]
        clear hK K
        (try simp only [Act.put, List.setIfInBounds_toArray, List.set_cons_zero, List.set_cons_succ])
        refine wpAnyH_ready (rs := [5, 9]) (by kernel_rfl) (by simp) ?_
        refine (AllReadyH.cons (by rw [List.getElem?_toArray]; rfl) (fun K hK => ?_) (AllReadyH.cons (by rw [List.getElem?_toArray]; rfl) (fun K hK => ?_) AllReadyH.nil))
        · go_simp
          refine (CS _).mono ?_; rintro e v ⟨rfl, hb⟩; clear a0 a1 a2 a3 a4 a5 a6 a7 a8 b0 b1 b2 b3 b4 ; (try clear n0 n1 n2 n3 n4); (try clear m0 m1 m2 m3 m4); (replace P := P.below hb); (replace Q := Q.below hb); (try (replace N := N.below hb)); (try (replace M := M.below hb)); (replace B := B.trans (hb.mono B.size)); clear hb; obtain ⟨a0, a1, a2, a3, a4, a5, a6, a7, a8⟩ := id P; obtain ⟨b0, b1, b2, b3, b4⟩ := id Q; (try (obtain ⟨n0, n1, n2, n3, n4⟩ := id N)); (try (obtain ⟨m0, m1, m2, m3, m4⟩ := id M))
          (try go_wp2_with fail)
          refine hK.out _ _ ?_ (fun hHeld => ?_)
          · simp (maxDischargeDepth := 6) [go_sem, *]
          clear hK K
          (try simp only [Act.put, List.setIfInBounds_toArray, List.set_cons_zero, List.set_cons_succ])
          refine wpAnyH_take (i := 6) (v := ?_) (by rw [List.getElem?_toArray]; rfl) (by kernel_rfl) (by kernel_rfl) (by kernel_rfl) (by intro _ _ _ h; exact h) (Or.inl ⟨by rfl, ?_⟩) (by assumption) ?_
          rotate_left
          · (intro w hSw; (try dsimp only at hSw); go_simp; all_goals with_reducible rfl)
          (try simp only [Act.put, List.setIfInBounds_toArray, List.set_cons_zero, List.set_cons_succ])
          refine wpAnyH_take (i := 7) (v := ?_) (by rw [List.getElem?_toArray]; rfl) (by kernel_rfl) (by kernel_rfl) (by kernel_rfl) (by intro _ _ _ h; exact h) (Or.inl ⟨by rfl, ?_⟩) (by assumption) ?_
          rotate_left
          · (intro w hSw; (try dsimp only at hSw); go_simp; all_goals with_reducible rfl)
          (try simp only [Act.put, List.setIfInBounds_toArray, List.set_cons_zero, List.set_cons_succ])
          refine wpAnyH_take (i := 8) (v := ?_) (by rw [List.getElem?_toArray]; rfl) (by kernel_rfl) (by kernel_rfl) (by kernel_rfl) (by intro _ _ _ h; exact h) (Or.inl ⟨by rfl, ?_⟩) (by assumption) ?_
          rotate_left
          · (intro w hSw; (try dsimp only at hSw); go_simp; all_goals with_reducible rfl)
          (try simp only [Act.put, List.setIfInBounds_toArray, List.set_cons_zero, List.set_cons_succ])
          refine wpAnyH_ready (rs := [9]) (by kernel_rfl) (by simp) ?_
          refine (AllReadyH.cons (by rw [List.getElem?_toArray]; rfl) (fun K hK => ?_) AllReadyH.nil)
          go_simp
          (have N := Bx.new v 0 0 27); (have hj : w.heap.size + 1 < v.heap.size := b0); (try (have hjM : jM < v.heap.size := m0)); clear a0 a1 a2 a3 a4 a5 a6 a7 a8 b0 b1 b2 b3 b4 ; (try clear n0 n1 n2 n3 n4); (try clear m0 m1 m2 m3 m4); (replace P := P.alloc (.cells #[.int .i64 0, .int .i64 0] 27)); (replace Q := Q.alloc (.cells #[.int .i64 0, .int .i64 0] 27)); (try (replace M := M.alloc (.cells #[.int .i64 0, .int .i64 0] 27))); (replace B := B.alloc B.size (.cells #[.int .i64 0, .int .i64 0] 27)); (generalize v.alloc (.cells #[.int .i64 0, .int .i64 0] 27) = v2 at *); obtain ⟨a0, a1, a2, a3, a4, a5, a6, a7, a8⟩ := id P; obtain ⟨b0, b1, b2, b3, b4⟩ := id Q; (try (obtain ⟨n0, n1, n2, n3, n4⟩ := id N)); (try (obtain ⟨m0, m1, m2, m3, m4⟩ := id M))
          refine hK.out _ _ ?_ (fun hHeld => ?_)
          · simp (maxDischargeDepth := 6) [go_sem, *]
          clear hK K
          (try simp only [Act.put, List.setIfInBounds_toArray, List.set_cons_zero, List.set_cons_succ])
          refine wpAnyH_ready (rs := [10]) (by kernel_rfl) (by simp) ?_
          refine (AllReadyH.cons (by rw [List.getElem?_toArray]; rfl) (fun K hK => ?_) AllReadyH.nil)
          go_simp
          refine hK.out _ _ ?_ (fun hHeld => ?_)
          · simp (maxDischargeDepth := 6) [go_sem, *]
          clear hK K
          (try simp only [Act.put, List.setIfInBounds_toArray, List.set_cons_zero, List.set_cons_succ])
          refine wpAnyH_take (i := 11) (v := ?_) (by rw [List.getElem?_toArray]; rfl) (by kernel_rfl) (by kernel_rfl) (by kernel_rfl) (by intro _ _ _ h; exact h) (Or.inl ⟨by rfl, ?_⟩) (by assumption) ?_
          rotate_left
          · (intro w hSw; (try dsimp only at hSw); go_simp; all_goals with_reducible rfl)
          (try simp only [Act.put, List.setIfInBounds_toArray, List.set_cons_zero, List.set_cons_succ])
          refine wpAnyH_done (by kernel_rfl) ?_ _
          go_wp2_with fail
          go_meet
          case rel => exact ⟨_, rfl, rfl, N.setI k1 k2, hj, P.setIO (by omega) k1 k2, Q.setIO (by omega) k1 k2, Below.setI B (by omega) k1 k2⟩
        · go_simp
          (have N := Bx.new v 0 0 27); (have hj : w.heap.size + 1 < v.heap.size := b0); (try (have hjM : jM < v.heap.size := m0)); clear a0 a1 a2 a3 a4 a5 a6 a7 a8 b0 b1 b2 b3 b4 ; (try clear n0 n1 n2 n3 n4); (try clear m0 m1 m2 m3 m4); (replace P := P.alloc (.cells #[.int .i64 0, .int .i64 0] 27)); (replace Q := Q.alloc (.cells #[.int .i64 0, .int .i64 0] 27)); (try (replace M := M.alloc (.cells #[.int .i64 0, .int .i64 0] 27))); (replace B := B.alloc B.size (.cells #[.int .i64 0, .int .i64 0] 27)); (generalize v.alloc (.cells #[.int .i64 0, .int .i64 0] 27) = v2 at *); obtain ⟨a0, a1, a2, a3, a4, a5, a6, a7, a8⟩ := id P; obtain ⟨b0, b1, b2, b3, b4⟩ := id Q; (try (obtain ⟨n0, n1, n2, n3, n4⟩ := id N)); (try (obtain ⟨m0, m1, m2, m3, m4⟩ := id M))
          refine hK.out _ _ ?_ (fun hHeld => ?_)
          · simp (maxDischargeDepth := 6) [go_sem, *]
          clear hK K
          (try simp only [Act.put, List.setIfInBounds_toArray, List.set_cons_zero, List.set_cons_succ])
          refine wpAnyH_ready (rs := [5]) (by kernel_rfl) (by simp) ?_
          refine (AllReadyH.cons (by rw [List.getElem?_toArray]; rfl) (fun K hK => ?_) AllReadyH.nil)
          go_simp
          refine (CS _).mono ?_; rintro e v ⟨rfl, hb⟩; clear a0 a1 a2 a3 a4 a5 a6 a7 a8 b0 b1 b2 b3 b4 ; (try clear n0 n1 n2 n3 n4); (try clear m0 m1 m2 m3 m4); (replace P := P.below hb); (replace Q := Q.below hb); (try (replace N := N.below hb)); (try (replace M := M.below hb)); (replace B := B.trans (hb.mono B.size)); clear hb; obtain ⟨a0, a1, a2, a3, a4, a5, a6, a7, a8⟩ := id P; obtain ⟨b0, b1, b2, b3, b4⟩ := id Q; (try (obtain ⟨n0, n1, n2, n3, n4⟩ := id N)); (try (obtain ⟨m0, m1, m2, m3, m4⟩ := id M))
          (try go_wp2_with fail)
          refine hK.out _ _ ?_ (fun hHeld => ?_)
          · simp (maxDischargeDepth := 6) [go_sem, *]
          clear hK K
          (try simp only [Act.put, List.setIfInBounds_toArray, List.set_cons_zero, List.set_cons_succ])
          refine wpAnyH_take (i := 6) (v := ?_) (by rw [List.getElem?_toArray]; rfl) (by kernel_rfl) (by kernel_rfl) (by kernel_rfl) (by intro _ _ _ h; exact h) (Or.inl ⟨by rfl, ?_⟩) (by assumption) ?_
          rotate_left
          · (intro w hSw; (try dsimp only at hSw); go_simp; all_goals with_reducible rfl)
          (try simp only [Act.put, List.setIfInBounds_toArray, List.set_cons_zero, List.set_cons_succ])
          refine wpAnyH_take (i := 7) (v := ?_) (by rw [List.getElem?_toArray]; rfl) (by kernel_rfl) (by kernel_rfl) (by kernel_rfl) (by intro _ _ _ h; exact h) (Or.inl ⟨by rfl, ?_⟩) (by assumption) ?_
          rotate_left
          · (intro w hSw; (try dsimp only at hSw); go_simp; all_goals with_reducible rfl)
          (try simp only [Act.put, List.setIfInBounds_toArray, List.set_cons_zero, List.set_cons_succ])
          refine wpAnyH_take (i := 8) (v := ?_) (by rw [List.getElem?_toArray]; rfl) (by kernel_rfl) (by kernel_rfl) (by kernel_rfl) (by intro _ _ _ h; exact h) (Or.inl ⟨by rfl, ?_⟩) (by assumption) ?_
          rotate_left
          · (intro w hSw; (try dsimp only at hSw); go_simp; all_goals with_reducible rfl)
          (try simp only [Act.put, List.setIfInBounds_toArray, List.set_cons_zero, List.set_cons_succ])
          refine wpAnyH_ready (rs := [10]) (by kernel_rfl) (by simp) ?_
          refine (AllReadyH.cons (by rw [List.getElem?_toArray]; rfl) (fun K hK => ?_) AllReadyH.nil)
          go_simp
          refine hK.out _ _ ?_ (fun hHeld => ?_)
          · simp (maxDischargeDepth := 6) [go_sem, *]
          clear hK K
          (try simp only [Act.put, List.setIfInBounds_toArray, List.set_cons_zero, List.set_cons_succ])
          refine wpAnyH_take (i := 11) (v := ?_) (by rw [List.getElem?_toArray]; rfl) (by kernel_rfl) (by kernel_rfl) (by kernel_rfl) (by intro _ _ _ h; exact h) (Or.inl ⟨by rfl, ?_⟩) (by assumption) ?_
          rotate_left
          · (intro w hSw; (try dsimp only at hSw); go_simp; all_goals with_reducible rfl)
          (try simp only [Act.put, List.setIfInBounds_toArray, List.set_cons_zero, List.set_cons_succ])
          refine wpAnyH_done (by kernel_rfl) ?_ _
          go_wp2_with fail
          go_meet
          case rel => exact ⟨_, rfl, rfl, N.setI k1 k2, hj, P.setIO (by omega) k1 k2, Q.setIO (by omega) k1 k2, Below.setI B (by omega) k1 k2⟩
      · go_simp
        (have N := Bx.new v 0 0 27); (have hj : w.heap.size + 1 < v.heap.size := b0); (try (have hjM : jM < v.heap.size := m0)); clear a0 a1 a2 a3 a4 a5 a6 a7 a8 b0 b1 b2 b3 b4 ; (try clear n0 n1 n2 n3 n4); (try clear m0 m1 m2 m3 m4); (replace P := P.alloc (.cells #[.int .i64 0, .int .i64 0] 27)); (replace Q := Q.alloc (.cells #[.int .i64 0, .int .i64 0] 27)); (try (replace M := M.alloc (.cells #[.int .i64 0, .int .i64 0] 27))); (replace B := B.alloc B.size (.cells #[.int .i64 0, .int .i64 0] 27)); (generalize v.alloc (.cells #[.int .i64 0, .int .i64 0] 27) = v2 at *); obtain ⟨a0, a1, a2, a3, a4, a5, a6, a7, a8⟩ := id P; obtain ⟨b0, b1, b2, b3, b4⟩ := id Q; (try (obtain ⟨n0, n1, n2, n3, n4⟩ := id N)); (try (obtain ⟨m0, m1, m2, m3, m4⟩ := id M))
        refine hK.out _ _ ?_ (fun hHeld => ?_)
        · simp (maxDischargeDepth := 6) [go_sem, *]
        clear hK K
        (try simp only [Act.put, List.setIfInBounds_toArray, List.set_cons_zero, List.set_cons_succ])
        refine wpAnyH_ready (rs := [3]) (by kernel_rfl) (by simp) ?_
        refine (AllReadyH.cons (by rw [List.getElem?_toArray]; rfl) (fun K hK => ?_) AllReadyH.nil)
        go_simp
        refine (toDrift_any _ _ _).mono ?_; rintro e v ⟨rfl, hb⟩; clear a0 a1 a2 a3 a4 a5 a6 a7 a8 b0 b1 b2 b3 b4 ; (try clear n0 n1 n2 n3 n4); (try clear m0 m1 m2 m3 m4); (replace P := P.below hb); (replace Q := Q.below hb); (try (replace N := N.below hb)); (try (replace M := M.below hb)); (replace B := B.trans (hb.mono B.size)); clear hb; obtain ⟨a0, a1, a2, a3, a4, a5, a6, a7, a8⟩ := id P; obtain ⟨b0, b1, b2, b3, b4⟩ := id Q; (try (obtain ⟨n0, n1, n2, n3, n4⟩ := id N)); (try (obtain ⟨m0, m1, m2, m3, m4⟩ := id M))
        (try go_wp2_with fail)
        refine hK.out _ _ ?_ (fun hHeld => ?_)
        · simp (maxDischargeDepth := 6) [go_sem, *]
        clear hK K
        (try simp only [Act.put, List.setIfInBounds_toArray, List.set_cons_zero, List.set_cons_succ])
        refine wpAnyH_ready (rs := [5]) (by kernel_rfl) (by simp) ?_
        refine (AllReadyH.cons (by rw [List.getElem?_toArray]; rfl) (fun K hK => ?_) AllReadyH.nil)
        go_simp
        refine (CS _).mono ?_; rintro e v ⟨rfl, hb⟩; clear a0 a1 a2 a3 a4 a5 a6 a7 a8 b0 b1 b2 b3 b4 ; (try clear n0 n1 n2 n3 n4); (try clear m0 m1 m2 m3 m4); (replace P := P.below hb); (replace Q := Q.below hb); (try (replace N := N.below hb)); (try (replace M := M.below hb)); (replace B := B.trans (hb.mono B.size)); clear hb; obtain ⟨a0, a1, a2, a3, a4, a5, a6, a7, a8⟩ := id P; obtain ⟨b0, b1, b2, b3, b4⟩ := id Q; (try (obtain ⟨n0, n1, n2, n3, n4⟩ := id N)); (try (obtain ⟨m0, m1, m2, m3, m4⟩ := id M))
        (try go_wp2_with fail)
        refine hK.out _ _ ?_ (fun hHeld => ?_)
        · simp (maxDischargeDepth := 6) [go_sem, *]
        clear hK K
        (try simp only [Act.put, List.setIfInBounds_toArray, List.set_cons_zero, List.set_cons_succ])
        refine wpAnyH_take (i := 6) (v := ?_) (by rw [List.getElem?_toArray]; rfl) (by kernel_rfl) (by kernel_rfl) (by kernel_rfl) (by intro _ _ _ h; exact h) (Or.inl ⟨by rfl, ?_⟩) (by assumption) ?_
        rotate_left
        · (intro w hSw; (try dsimp only at hSw); go_simp; all_goals with_reducible rfl)
        (try simp only [Act.put, List.setIfInBounds_toArray, List.set_cons_zero, List.set_cons_succ])
        refine wpAnyH_take (i := 7) (v := ?_) (by rw [List.getElem?_toArray]; rfl) (by kernel_rfl) (by kernel_rfl) (by kernel_rfl) (by intro _ _ _ h; exact h) (Or.inl ⟨by rfl, ?_⟩) (by assumption) ?_
        rotate_left
        · (intro w hSw; (try dsimp only at hSw); go_simp; all_goals with_reducible rfl)
        (try simp only [Act.put, List.setIfInBounds_toArray, List.set_cons_zero, List.set_cons_succ])
        refine wpAnyH_take (i := 8) (v := ?_) (by rw [List.getElem?_toArray]; rfl) (by kernel_rfl) (by kernel_rfl) (by kernel_rfl) (by intro _ _ _ h; exact h) (Or.inl ⟨by rfl, ?_⟩) (by assumption) ?_
        rotate_left
        · (intro w hSw; (try dsimp only at hSw); go_simp; all_goals with_reducible rfl)
        (try simp only [Act.put, List.setIfInBounds_toArray, List.set_cons_zero, List.set_cons_succ])
        refine wpAnyH_ready (rs := [10]) (by kernel_rfl) (by simp) ?_
        refine (AllReadyH.cons (by rw [List.getElem?_toArray]; rfl) (fun K hK => ?_) AllReadyH.nil)
        go_simp
        refine hK.out _ _ ?_ (fun hHeld => ?_)
        · simp (maxDischargeDepth := 6) [go_sem, *]
        clear hK K
        (try simp only [Act.put, List.setIfInBounds_toArray, List.set_cons_zero, List.set_cons_succ])
        refine wpAnyH_take (i := 11) (v := ?_) (by rw [List.getElem?_toArray]; rfl) (by kernel_rfl) (by kernel_rfl) (by kernel_rfl) (by intro _ _ _ h; exact h) (Or.inl ⟨by rfl, ?_⟩) (by assumption) ?_
        rotate_left
        · (intro w hSw; (try dsimp only at hSw); go_simp; all_goals with_reducible rfl)
        (try simp only [Act.put, List.setIfInBounds_toArray, List.set_cons_zero, List.set_cons_succ])
        refine wpAnyH_done (by kernel_rfl) ?_ _
        go_wp2_with fail
        go_meet
        case rel => exact ⟨_, rfl, rfl, N.setI k1 k2, hj, P.setIO (by omega) k1 k2, Q.setIO (by omega) k1 k2, Below.setI B (by omega) k1 k2⟩
    · go_simp
      (have N := Bx.new v 0 0 27); (have hj : w.heap.size + 1 < v.heap.size := b0); (try (have hjM : jM < v.heap.size := m0)); clear a0 a1 a2 a3 a4 a5 a6 a7 a8 b0 b1 b2 b3 b4 ; (try clear n0 n1 n2 n3 n4); (try clear m0 m1 m2 m3 m4); (replace P := P.alloc (.cells #[.int .i64 0, .int .i64 0] 27)); (replace Q := Q.alloc (.cells #[.int .i64 0, .int .i64 0] 27)); (try (replace M := M.alloc (.cells #[.int .i64 0, .int .i64 0] 27))); (replace B := B.alloc B.size (.cells #[.int .i64 0, .int .i64 0] 27)); (generalize v.alloc (.cells #[.int .i64 0, .int .i64 0] 27) = v2 at *); obtain ⟨a0, a1, a2, a3, a4, a5, a6, a7, a8⟩ := id P; obtain ⟨b0, b1, b2, b3, b4⟩ := id Q; (try (obtain ⟨n0, n1, n2, n3, n4⟩ := id N)); (try (obtain ⟨m0, m1, m2, m3, m4⟩ := id M))
      refine hK.out _ _ ?_ (fun hHeld => ?_)
      · simp (maxDischargeDepth := 6) [go_sem, *]
      clear hK K
      (try simp only [Act.put, List.setIfInBounds_toArray, List.set_cons_zero, List.set_cons_succ])
      refine wpAnyH_ready (rs := [1]) (by kernel_rfl) (by simp) ?_
      refine (AllReadyH.cons (by rw [List.getElem?_toArray]; rfl) (fun K hK => ?_) AllReadyH.nil)
      go_simp
      refine (toLocal_any _ _ _ _ _).mono ?_; rintro e v ⟨rfl, hb⟩; clear a0 a1 a2 a3 a4 a5 a6 a7 a8 b0 b1 b2 b3 b4 ; (try clear n0 n1 n2 n3 n4); (try clear m0 m1 m2 m3 m4); (replace P := P.below hb); (replace Q := Q.below hb); (try (replace N := N.below hb)); (try (replace M := M.below hb)); (replace B := B.trans (hb.mono B.size)); clear hb; obtain ⟨a0, a1, a2, a3, a4, a5, a6, a7, a8⟩ := id P; obtain ⟨b0, b1, b2, b3, b4⟩ := id Q; (try (obtain ⟨n0, n1, n2, n3, n4⟩ := id N)); (try (obtain ⟨m0, m1, m2, m3, m4⟩ := id M))
      (try go_wp2_with fail)
      refine hK.out _ _ ?_ (fun hHeld => ?_)
      · simp (maxDischargeDepth := 6) [go_sem, *]
      clear hK K
      (try simp only [Act.put, List.setIfInBounds_toArray, List.set_cons_zero, List.set_cons_succ])
      refine wpAnyH_ready (rs := [3]) (by kernel_rfl) (by simp) ?_
      refine (AllReadyH.cons (by rw [List.getElem?_toArray]; rfl) (fun K hK => ?_) AllReadyH.nil)
      go_simp
      refine (toDrift_any _ _ _).mono ?_; rintro e v ⟨rfl, hb⟩; clear a0 a1 a2 a3 a4 a5 a6 a7 a8 b0 b1 b2 b3 b4 ; (try clear n0 n1 n2 n3 n4); (try clear m0 m1 m2 m3 m4); (replace P := P.below hb); (replace Q := Q.below hb); (try (replace N := N.below hb)); (try (replace M := M.below hb)); (replace B := B.trans (hb.mono B.size)); clear hb; obtain ⟨a0, a1, a2, a3, a4, a5, a6, a7, a8⟩ := id P; obtain ⟨b0, b1, b2, b3, b4⟩ := id Q; (try (obtain ⟨n0, n1, n2, n3, n4⟩ := id N)); (try (obtain ⟨m0, m1, m2, m3, m4⟩ := id M))
      (try go_wp2_with fail)
      refine hK.out _ _ ?_ (fun hHeld => ?_)
      · simp (maxDischargeDepth := 6) [go_sem, *]
      clear hK K
      (try simp only [Act.put, List.setIfInBounds_toArray, List.set_cons_zero, List.set_cons_succ])
      refine wpAnyH_ready (rs := [5]) (by kernel_rfl) (by simp) ?_
      refine (AllReadyH.cons (by rw [List.getElem?_toArray]; rfl) (fun K hK => ?_) AllReadyH.nil)
      go_simp
      refine (CS _).mono ?_; rintro e v ⟨rfl, hb⟩; clear a0 a1 a2 a3 a4 a5 a6 a7 a8 b0 b1 b2 b3 b4 ; (try clear n0 n1 n2 n3 n4); (try clear m0 m1 m2 m3 m4); (replace P := P.below hb); (replace Q := Q.below hb); (try (replace N := N.below hb)); (try (replace M := M.below hb)); (replace B := B.trans (hb.mono B.size)); clear hb; obtain ⟨a0, a1, a2, a3, a4, a5, a6, a7, a8⟩ := id P; obtain ⟨b0, b1, b2, b3, b4⟩ := id Q; (try (obtain ⟨n0, n1, n2, n3, n4⟩ := id N)); (try (obtain ⟨m0, m1, m2, m3, m4⟩ := id M))
      (try go_wp2_with fail)
      refine hK.out _ _ ?_ (fun hHeld => ?_)
      · simp (maxDischargeDepth := 6) [go_sem, *]
      clear hK K
      (try simp only [Act.put, List.setIfInBounds_toArray, List.set_cons_zero, List.set_cons_succ])
      refine wpAnyH_take (i := 6) (v := ?_) (by rw [List.getElem?_toArray]; rfl) (by kernel_rfl) (by kernel_rfl) (by kernel_rfl) (by intro _ _ _ h; exact h) (Or.inl ⟨by rfl, ?_⟩) (by assumption) ?_
      rotate_left
      · (intro w hSw; (try dsimp only at hSw); go_simp; all_goals with_reducible rfl)
      (try simp only [Act.put, List.setIfInBounds_toArray, List.set_cons_zero, List.set_cons_succ])
      refine wpAnyH_take (i := 7) (v := ?_) (by rw [List.getElem?_toArray]; rfl) (by kernel_rfl) (by kernel_rfl) (by kernel_rfl) (by intro _ _ _ h; exact h) (Or.inl ⟨by rfl, ?_⟩) (by assumption) ?_
      rotate_left
      · (intro w hSw; (try dsimp only at hSw); go_simp; all_goals with_reducible rfl)
      (try simp only [Act.put, List.setIfInBounds_toArray, List.set_cons_zero, List.set_cons_succ])
      refine wpAnyH_take (i := 8) (v := ?_) (by rw [List.getElem?_toArray]; rfl) (by kernel_rfl) (by kernel_rfl) (by kernel_rfl) (by intro _ _ _ h; exact h) (Or.inl ⟨by rfl, ?_⟩) (by assumption) ?_
      rotate_left
      · (intro w hSw; (try dsimp only at hSw); go_simp; all_goals with_reducible rfl)
      (try simp only [Act.put, List.setIfInBounds_toArray, List.set_cons_zero, List.set_cons_succ])
      refine wpAnyH_ready (rs := [10]) (by kernel_rfl) (by simp) ?_
      refine (AllReadyH.cons (by rw [List.getElem?_toArray]; rfl) (fun K hK => ?_) AllReadyH.nil)
      go_simp
      refine hK.out _ _ ?_ (fun hHeld => ?_)
      · simp (maxDischargeDepth := 6) [go_sem, *]
      clear hK K
      (try simp only [Act.put, List.setIfInBounds_toArray, List.set_cons_zero, List.set_cons_succ])
      refine wpAnyH_take (i := 11) (v := ?_) (by rw [List.getElem?_toArray]; rfl) (by kernel_rfl) (by kernel_rfl) (by kernel_rfl) (by intro _ _ _ h; exact h) (Or.inl ⟨by rfl, ?_⟩) (by assumption) ?_
      rotate_left
      · (intro w hSw; (try dsimp only at hSw); go_simp; all_goals with_reducible rfl)
      (try simp only [Act.put, List.setIfInBounds_toArray, List.set_cons_zero, List.set_cons_succ])
      refine wpAnyH_done (by kernel_rfl) ?_ _
      go_wp2_with fail
      go_meet
      case rel => exact ⟨_, rfl, rfl, N.setI k1 k2, hj, P.setIO (by omega) k1 k2, Q.setIO (by omega) k1 k2, Below.setI B (by omega) k1 k2⟩
  case rest =>
    obtain ⟨jM, rfl, rfl, M, hjm, P', Q', B'⟩ := hcut
    clear P Q B a0 a1 a2 a3 a4 a5 a6 a7 a8 b0 b1 b2 b3 b4 
    have P := P'
    have Q := Q'
    skip
    have B := B'
    clear P' Q' B'
    generalize wc = v at *
    obtain ⟨a0, a1, a2, a3, a4, a5, a6, a7, a8⟩ := id P; obtain ⟨b0, b1, b2, b3, b4⟩ := id Q; (try (obtain ⟨n0, n1, n2, n3, n4⟩ := id N)); (try (obtain ⟨m0, m1, m2, m3, m4⟩ := id M))
    go_wp2_with fail
    go_cut [9, 10] (fun s5 s6 wx => ∃ j : Nat, s5 = .pointer (some ⟨j, 0, none⟩) ∧ s6 = .int .i64 kz ∧ Bx wx j k1 k2 ∧ Bx wx jM k1 k2 ∧ Below w.heap.size w wx)
    case first =>
      refine wp_region_held_drew (S := (fun w' => w'.cell? ⟨w.heap.size, 0, none⟩ = some (.bool kn) ∧ w'.cell? ⟨w.heap.size, 1, none⟩ = some (.int .i64 lo) ∧ w'.cell? ⟨w.heap.size, 2, none⟩ = some (.int .i64 hi) ∧ w'.cell? ⟨w.heap.size, 3, none⟩ = some (.int .i64 a) ∧ w'.cell? ⟨w.heap.size + 1, 0, none⟩ = some (.int .i64 n) ∧ w'.cell? ⟨w.heap.size + 1, 1, none⟩ = some (.int .i64 d))) (by kernel_rfl) ?_ (fun hHeld => ?_)
      · simp (maxDischargeDepth := 6) [go_sem, *]
      clear a0 a1 a2 a3 a4 a5 a6 a7 a8 b0 b1 b2 b3 b4 ; (try clear n0 n1 n2 n3 n4); (try clear m0 m1 m2 m3 m4)
      replace P := P.drew
      replace Q := Q.drew
      replace B := B.drew
      (try replace M := M.drew)
      generalize v.drew = v at *
      obtain ⟨a0, a1, a2, a3, a4, a5, a6, a7, a8⟩ := id P; obtain ⟨b0, b1, b2, b3, b4⟩ := id Q; (try (obtain ⟨n0, n1, n2, n3, n4⟩ := id N)); (try (obtain ⟨m0, m1, m2, m3, m4⟩ := id M))
      refine wpAnyH_take (i := 0) (v := ?_) (by rw [List.getElem?_toArray]; rfl) (by kernel_rfl) (by kernel_rfl) (by kernel_rfl) (by intro _ _ _ h; exact h) (Or.inl ⟨by rfl, ?_⟩) (by assumption) ?_
      rotate_left
      · (intro w hSw; (try dsimp only at hSw); go_simp; all_goals with_reducible rfl)
      (try simp only [Act.put, List.setIfInBounds_toArray, List.set_cons_zero, List.set_cons_succ])
      refine wpAnyH_take (i := 2) (v := ?_) (by rw [List.getElem?_toArray]; rfl) (by kernel_rfl) (by kernel_rfl) (by kernel_rfl) (by intro _ _ _ h; exact h) (Or.inl ⟨by rfl, ?_⟩) (by assumption) ?_
      rotate_left
      · (intro w hSw; (try dsimp only at hSw); go_simp; all_goals with_reducible rfl)
      (try simp only [Act.put, List.setIfInBounds_toArray, List.set_cons_zero, List.set_cons_succ])
      refine wpAnyH_take (i := 4) (v := ?_) (by rw [List.getElem?_toArray]; rfl) (by kernel_rfl) (by kernel_rfl) (by kernel_rfl) (by intro _ _ _ h; exact h) (Or.inl ⟨by rfl, ?_⟩) (by assumption) ?_
      rotate_left
      · (intro w hSw; (try dsimp only at hSw); go_simp; all_goals with_reducible rfl)
      (try simp only [Act.put, List.setIfInBounds_toArray, List.set_cons_zero, List.set_cons_succ])
      refine wpAnyH_ready (rs := [1, 9]) (by kernel_rfl) (by simp) ?_
      refine (AllReadyH.cons (by rw [List.getElem?_toArray]; rfl) (fun K hK => ?_) (AllReadyH.cons (by rw [List.getElem?_toArray]; rfl) (fun K hK => ?_) AllReadyH.nil))
      · go_simp
        refine (toLocal_any _ _ _ _ _).mono ?_; rintro e v ⟨rfl, hb⟩; clear a0 a1 a2 a3 a4 a5 a6 a7 a8 b0 b1 b2 b3 b4 ; (try clear n0 n1 n2 n3 n4); (try clear m0 m1 m2 m3 m4); (replace P := P.below hb); (replace Q := Q.below hb); (try (replace N := N.below hb)); (try (replace M := M.below hb)); (replace B := B.trans (hb.mono B.size)); clear hb; obtain ⟨a0, a1, a2, a3, a4, a5, a6, a7, a8⟩ := id P; obtain ⟨b0, b1, b2, b3, b4⟩ := id Q; (try (obtain ⟨n0, n1, n2, n3, n4⟩ := id N)); (try (obtain ⟨m0, m1, m2, m3, m4⟩ := id M))
        (try go_wp2_with fail)
        refine hK.out _ _ ?_ (fun hHeld => ?_)
        · simp (maxDischargeDepth := 6) [go_sem, *]
        clear hK K
        (try simp only [Act.put, List.setIfInBounds_toArray, List.set_cons_zero, List.set_cons_succ])
        refine wpAnyH_ready (rs := [3, 9]) (by kernel_rfl) (by simp) ?_
        refine (AllReadyH.cons (by rw [List.getElem?_toArray]; rfl) (fun K hK => ?_) (AllReadyH.cons (by rw [List.getElem?_toArray]; rfl) (fun K hK => ?_) AllReadyH.nil))
        · go_simp
          refine (toDrift_any _ _ _).mono ?_; rintro e v ⟨rfl, hb⟩; clear a0 a1 a2 a3 a4 a5 a6 a7 a8 b0 b1 b2 b3 b4 ; (try clear n0 n1 n2 n3 n4); (try clear m0 m1 m2 m3 m4); (replace P := P.below hb); (replace Q := Q.below hb); (try (replace N := N.below hb)); (try (replace M := M.below hb)); (replace B := B.trans (hb.mono B.size)); clear hb; obtain ⟨a0, a1, a2, a3, a4, a5, a6, a7, a8⟩ := id P; obtain ⟨b0, b1, b2, b3, b4⟩ := id Q; (try (obtain ⟨n0, n1, n2, n3, n4⟩ := id N)); (try (obtain ⟨m0, m1, m2, m3, m4⟩ := id M))
          (try go_wp2_with fail)
          refine hK.out _ _ ?_ (fun hHeld => ?_)
          · simp (maxDischargeDepth := 6) [go_sem, *]
          clear hK K
          (try simp only [Act.put, List.setIfInBounds_toArray, List.set_cons_zero, List.set_cons_succ])
          refine wpAnyH_ready (rs := [5, 9]) (by kernel_rfl) (by simp) ?_
          refine (AllReadyH.cons (by rw [List.getElem?_toArray]; rfl) (fun K hK => ?_) (AllReadyH.cons (by rw [List.getElem?_toArray]; rfl) (fun K hK => ?_) AllReadyH.nil))
          · go_simp
            refine (CI _).mono ?_; rintro e v ⟨rfl, hb⟩; clear a0 a1 a2 a3 a4 a5 a6 a7 a8 b0 b1 b2 b3 b4 ; (try clear n0 n1 n2 n3 n4); (try clear m0 m1 m2 m3 m4); (replace P := P.below hb); (replace Q := Q.below hb); (try (replace N := N.below hb)); (try (replace M := M.below hb)); (replace B := B.trans (hb.mono B.size)); clear hb; obtain ⟨a0, a1, a2, a3, a4, a5, a6, a7, a8⟩ := id P; obtain ⟨b0, b1, b2, b3, b4⟩ := id Q; (try (obtain ⟨n0, n1, n2, n3, n4⟩ := id N)); (try (obtain ⟨m0, m1, m2, m3, m4⟩ := id M))
            (try go_wp2_with fail)
            refine hK.out _ _ ?_ (fun hHeld => ?_)
            · simp (maxDischargeDepth := 6) [go_sem, *]
            clear hK K
            (try simp only [Act.put, List.setIfInBounds_toArray, List.set_cons_zero, List.set_cons_succ])
            refine wpAnyH_take (i := 6) (v := ?_) (by rw [List.getElem?_toArray]; rfl) (by kernel_rfl) (by kernel_rfl) (by kernel_rfl) (by intro _ _ _ h; exact h) (Or.inl ⟨by rfl, ?_⟩) (by assumption) ?_
            rotate_left
            · (intro w hSw; (try dsimp only at hSw); go_simp; all_goals with_reducible rfl)
            (try simp only [Act.put, List.setIfInBounds_toArray, List.set_cons_zero, List.set_cons_succ])
            refine wpAnyH_take (i := 7) (v := ?_) (by rw [List.getElem?_toArray]; rfl) (by kernel_rfl) (by kernel_rfl) (by kernel_rfl) (by intro _ _ _ h; exact h) (Or.inl ⟨by rfl, ?_⟩) (by assumption) ?_
            rotate_left
            · (intro w hSw; (try dsimp only at hSw); go_simp; all_goals with_reducible rfl)
            (try simp only [Act.put, List.setIfInBounds_toArray, List.set_cons_zero, List.set_cons_succ])
            refine wpAnyH_take (i := 8) (v := ?_) (by rw [List.getElem?_toArray]; rfl) (by kernel_rfl) (by kernel_rfl) (by kernel_rfl) (by intro _ _ _ h; exact h) (Or.inl ⟨by rfl, ?_⟩) (by assumption) ?_
            rotate_left
            · (intro w hSw; (try dsimp only at hSw); go_simp; all_goals with_reducible rfl)
            (try simp only [Act.put, List.setIfInBounds_toArray, List.set_cons_zero, List.set_cons_succ])
            refine wpAnyH_ready (rs := [9]) (by kernel_rfl) (by simp) ?_
            refine (AllReadyH.cons (by rw [List.getElem?_toArray]; rfl) (fun K hK => ?_) AllReadyH.nil)
            go_simp
            (have N := Bx.new v 0 0 27); (have hj : w.heap.size + 1 < v.heap.size := b0); (try (have hjM : jM < v.heap.size := m0)); clear a0 a1 a2 a3 a4 a5 a6 a7 a8 b0 b1 b2 b3 b4 ; (try clear n0 n1 n2 n3 n4); (try clear m0 m1 m2 m3 m4); (replace P := P.alloc (.cells #[.int .i64 0, .int .i64 0] 27)); (replace Q := Q.alloc (.cells #[.int .i64 0, .int .i64 0] 27)); (try (replace M := M.alloc (.cells #[.int .i64 0, .int .i64 0] 27))); (replace B := B.alloc B.size (.cells #[.int .i64 0, .int .i64 0] 27)); (generalize v.alloc (.cells #[.int .i64 0, .int .i64 0] 27) = v2 at *); obtain ⟨a0, a1, a2, a3, a4, a5, a6, a7, a8⟩ := id P; obtain ⟨b0, b1, b2, b3, b4⟩ := id Q; (try (obtain ⟨n0, n1, n2, n3, n4⟩ := id N)); (try (obtain ⟨m0, m1, m2, m3, m4⟩ := id M))
            refine hK.out _ _ ?_ (fun hHeld => ?_)
            · simp (maxDischargeDepth := 6) [go_sem, *]
            clear hK K
            (try simp only [Act.put, List.setIfInBounds_toArray, List.set_cons_zero, List.set_cons_succ])
            refine wpAnyH_ready (rs := [10]) (by kernel_rfl) (by simp) ?_
            refine (AllReadyH.cons (by rw [List.getElem?_toArray]; rfl) (fun K hK => ?_) AllReadyH.nil)
            go_simp
            refine hK.out _ _ ?_ (fun hHeld => ?_)
            · simp (maxDischargeDepth := 6) [go_sem, *]
            clear hK K
            (try simp only [Act.put, List.setIfInBounds_toArray, List.set_cons_zero, List.set_cons_succ])
            refine wpAnyH_take (i := 11) (v := ?_) (by rw [List.getElem?_toArray]; rfl) (by kernel_rfl) (by kernel_rfl) (by kernel_rfl) (by intro _ _ _ h; exact h) (Or.inl ⟨by rfl, ?_⟩) (by assumption) ?_
            rotate_left
            · (intro w hSw; (try dsimp only at hSw); go_simp; all_goals with_reducible rfl)
            (try simp only [Act.put, List.setIfInBounds_toArray, List.set_cons_zero, List.set_cons_succ])
            refine wpAnyH_done (by kernel_rfl) ?_ _
            go_wp2_with fail
            go_meet
            case rel => exact ⟨_, rfl, rfl, N.setI k1 k2, M.setIO (by omega) k1 k2, Below.setI B (by omega) k1 k2⟩
          · go_simp
            (have N := Bx.new v 0 0 27); (have hj : w.heap.size + 1 < v.heap.size := b0); (try (have hjM : jM < v.heap.size := m0)); clear a0 a1 a2 a3 a4 a5 a6 a7 a8 b0 b1 b2 b3 b4 ; (try clear n0 n1 n2 n3 n4); (try clear m0 m1 m2 m3 m4); (replace P := P.alloc (.cells #[.int .i64 0, .int .i64 0] 27)); (replace Q := Q.alloc (.cells #[.int .i64 0, .int .i64 0] 27)); (try (replace M := M.alloc (.cells #[.int .i64 0, .int .i64 0] 27))); (replace B := B.alloc B.size (.cells #[.int .i64 0, .int .i64 0] 27)); (generalize v.alloc (.cells #[.int .i64 0, .int .i64 0] 27) = v2 at *); obtain ⟨a0, a1, a2, a3, a4, a5, a6, a7, a8⟩ := id P; obtain ⟨b0, b1, b2, b3, b4⟩ := id Q; (try (obtain ⟨n0, n1, n2, n3, n4⟩ := id N)); (try (obtain ⟨m0, m1, m2, m3, m4⟩ := id M))
            refine hK.out _ _ ?_ (fun hHeld => ?_)
            · simp (maxDischargeDepth := 6) [go_sem, *]
            clear hK K
            (try simp only [Act.put, List.setIfInBounds_toArray, List.set_cons_zero, List.set_cons_succ])
            refine wpAnyH_ready (rs := [5]) (by kernel_rfl) (by simp) ?_
            refine (AllReadyH.cons (by rw [List.getElem?_toArray]; rfl) (fun K hK => ?_) AllReadyH.nil)
            go_simp
            refine (CI _).mono ?_; rintro e v ⟨rfl, hb⟩; clear a0 a1 a2 a3 a4 a5 a6 a7 a8 b0 b1 b2 b3 b4 ; (try clear n0 n1 n2 n3 n4); (try clear m0 m1 m2 m3 m4); (replace P := P.below hb); (replace Q := Q.below hb); (try (replace N := N.below hb)); (try (replace M := M.below hb)); (replace B := B.trans (hb.mono B.size)); clear hb; obtain ⟨a0, a1, a2, a3, a4, a5, a6, a7, a8⟩ := id P; obtain ⟨b0, b1, b2, b3, b4⟩ := id Q; (try (obtain ⟨n0, n1, n2, n3, n4⟩ := id N)); (try (obtain ⟨m0, m1, m2, m3, m4⟩ := id M))
            (try go_wp2_with fail)
            refine hK.out _ _ ?_ (fun hHeld => ?_)
            · simp (maxDischargeDepth := 6) [go_sem, *]
            clear hK K
            (try simp only [Act.put, List.setIfInBounds_toArray, List.set_cons_zero, List.set_cons_succ])
            refine wpAnyH_take (i := 6) (v := ?_) (by rw [List.getElem?_toArray]; rfl) (by kernel_rfl) (by kernel_rfl) (by kernel_rfl) (by intro _ _ _ h; exact h) (Or.inl ⟨by rfl, ?_⟩) (by assumption) ?_
            rotate_left
            · (intro w hSw; (try dsimp only at hSw); go_simp; all_goals with_reducible rfl)
            (try simp only [Act.put, List.setIfInBounds_toArray, List.set_cons_zero, List.set_cons_succ])
            refine wpAnyH_take (i := 7) (v := ?_) (by rw [List.getElem?_toArray]; rfl) (by kernel_rfl) (by kernel_rfl) (by kernel_rfl) (by intro _ _ _ h; exact h) (Or.inl ⟨by rfl, ?_⟩) (by assumption) ?_
            rotate_left
            · (intro w hSw; (try dsimp only at hSw); go_simp; all_goals with_reducible rfl)
            (try simp only [Act.put, List.setIfInBounds_toArray, List.set_cons_zero, List.set_cons_succ])
            refine wpAnyH_take (i := 8) (v := ?_) (by rw [List.getElem?_toArray]; rfl) (by kernel_rfl) (by kernel_rfl) (by kernel_rfl) (by intro _ _ _ h; exact h) (Or.inl ⟨by rfl, ?_⟩) (by assumption) ?_
            rotate_left
            · (intro w hSw; (try dsimp only at hSw); go_simp; all_goals with_reducible rfl)
            (try simp only [Act.put, List.setIfInBounds_toArray, List.set_cons_zero, List.set_cons_succ])
            refine wpAnyH_ready (rs := [10]) (by kernel_rfl) (by simp) ?_
            refine (AllReadyH.cons (by rw [List.getElem?_toArray]; rfl) (fun K hK => ?_) AllReadyH.nil)
            go_simp
            refine hK.out _ _ ?_ (fun hHeld => ?_)
            · simp (maxDischargeDepth := 6) [go_sem, *]
            clear hK K
            (try simp only [Act.put, List.setIfInBounds_toArray, List.set_cons_zero, List.set_cons_succ])
            refine wpAnyH_take (i := 11) (v := ?_) (by rw [List.getElem?_toArray]; rfl) (by kernel_rfl) (by kernel_rfl) (by kernel_rfl) (by intro _ _ _ h; exact h) (Or.inl ⟨by rfl, ?_⟩) (by assumption) ?_
            rotate_left
            · (intro w hSw; (try dsimp only at hSw); go_simp; all_goals with_reducible rfl)
            (try simp only [Act.put, List.setIfInBounds_toArray, List.set_cons_zero, List.set_cons_succ])
            refine wpAnyH_done (by kernel_rfl) ?_ _
            go_wp2_with fail
            go_meet
            case rel => exact ⟨_, rfl, rfl, N.setI k1 k2, M.setIO (by omega) k1 k2, Below.setI B (by omega) k1 k2⟩
        · go_simp
          (have N := Bx.new v 0 0 27); (have hj : w.heap.size + 1 < v.heap.size := b0); (try (have hjM : jM < v.heap.size := m0)); clear a0 a1 a2 a3 a4 a5 a6 a7 a8 b0 b1 b2 b3 b4 ; (try clear n0 n1 n2 n3 n4); (try clear m0 m1 m2 m3 m4); (replace P := P.alloc (.cells #[.int .i64 0, .int .i64 0] 27)); (replace Q := Q.alloc (.cells #[.int .i64 0, .int .i64 0] 27)); (try (replace M := M.alloc (.cells #[.int .i64 0, .int .i64 0] 27))); (replace B := B.alloc B.size (.cells #[.int .i64 0, .int .i64 0] 27)); (generalize v.alloc (.cells #[.int .i64 0, .int .i64 0] 27) = v2 at *); obtain ⟨a0, a1, a2, a3, a4, a5, a6, a7, a8⟩ := id P; obtain ⟨b0, b1, b2, b3, b4⟩ := id Q; (try (obtain ⟨n0, n1, n2, n3, n4⟩ := id N)); (try (obtain ⟨m0, m1, m2, m3, m4⟩ := id M))
          refine hK.out _ _ ?_ (fun hHeld => ?_)
          · simp (maxDischargeDepth := 6) [go_sem, *]
          clear hK K
          (try simp only [Act.put, List.setIfInBounds_toArray, List.set_cons_zero, List.set_cons_succ])
          refine wpAnyH_ready (rs := [3]) (by kernel_rfl) (by simp) ?_
          refine (AllReadyH.cons (by rw [List.getElem?_toArray]; rfl) (fun K hK => ?_) AllReadyH.nil)
          go_simp
          refine (toDrift_any _ _ _).mono ?_; rintro e v ⟨rfl, hb⟩; clear a0 a1 a2 a3 a4 a5 a6 a7 a8 b0 b1 b2 b3 b4 ; (try clear n0 n1 n2 n3 n4); (try clear m0 m1 m2 m3 m4); (replace P := P.below hb); (replace Q := Q.below hb); (try (replace N := N.below hb)); (try (replace M := M.below hb)); (replace B := B.trans (hb.mono B.size)); clear hb; obtain ⟨a0, a1, a2, a3, a4, a5, a6, a7, a8⟩ := id P; obtain ⟨b0, b1, b2, b3, b4⟩ := id Q; (try (obtain ⟨n0, n1, n2, n3, n4⟩ := id N)); (try (obtain ⟨m0, m1, m2, m3, m4⟩ := id M))
          (try go_wp2_with fail)
          refine hK.out _ _ ?_ (fun hHeld => ?_)
          · simp (maxDischargeDepth := 6) [go_sem, *]
          clear hK K
          (try simp only [Act.put, List.setIfInBounds_toArray, List.set_cons_zero, List.set_cons_succ])
          refine wpAnyH_ready (rs := [5]) (by kernel_rfl) (by simp) ?_
          refine (AllReadyH.cons (by rw [List.getElem?_toArray]; rfl) (fun K hK => ?_) AllReadyH.nil)
          go_simp
          refine (CI _).mono ?_; rintro e v ⟨rfl, hb⟩; clear a0 a1 a2 a3 a4 a5 a6 a7 a8 b0 b1 b2 b3 b4 ; (try clear n0 n1 n2 n3 n4); (try clear m0 m1 m2 m3 m4); (replace P := P.below hb); (replace Q := Q.below hb); (try (replace N := N.below hb)); (try (replace M := M.below hb)); (replace B := B.trans (hb.mono B.size)); clear hb; obtain ⟨a0, a1, a2, a3, a4, a5, a6, a7, a8⟩ := id P; obtain ⟨b0, b1, b2, b3, b4⟩ := id Q; (try (obtain ⟨n0, n1, n2, n3, n4⟩ := id N)); (try (obtain ⟨m0, m1, m2, m3, m4⟩ := id M))
          (try go_wp2_with fail)
          refine hK.out _ _ ?_ (fun hHeld => ?_)
          · simp (maxDischargeDepth := 6) [go_sem, *]
          clear hK K
          (try simp only [Act.put, List.setIfInBounds_toArray, List.set_cons_zero, List.set_cons_succ])
          refine wpAnyH_take (i := 6) (v := ?_) (by rw [List.getElem?_toArray]; rfl) (by kernel_rfl) (by kernel_rfl) (by kernel_rfl) (by intro _ _ _ h; exact h) (Or.inl ⟨by rfl, ?_⟩) (by assumption) ?_
          rotate_left
          · (intro w hSw; (try dsimp only at hSw); go_simp; all_goals with_reducible rfl)
          (try simp only [Act.put, List.setIfInBounds_toArray, List.set_cons_zero, List.set_cons_succ])
          refine wpAnyH_take (i := 7) (v := ?_) (by rw [List.getElem?_toArray]; rfl) (by kernel_rfl) (by kernel_rfl) (by kernel_rfl) (by intro _ _ _ h; exact h) (Or.inl ⟨by rfl, ?_⟩) (by assumption) ?_
          rotate_left
          · (intro w hSw; (try dsimp only at hSw); go_simp; all_goals with_reducible rfl)
          (try simp only [Act.put, List.setIfInBounds_toArray, List.set_cons_zero, List.set_cons_succ])
          refine wpAnyH_take (i := 8) (v := ?_) (by rw [List.getElem?_toArray]; rfl) (by kernel_rfl) (by kernel_rfl) (by kernel_rfl) (by intro _ _ _ h; exact h) (Or.inl ⟨by rfl, ?_⟩) (by assumption) ?_
          rotate_left
          · (intro w hSw; (try dsimp only at hSw); go_simp; all_goals with_reducible rfl)
          (try simp only [Act.put, List.setIfInBounds_toArray, List.set_cons_zero, List.set_cons_succ])
          refine wpAnyH_ready (rs := [10]) (by kernel_rfl) (by simp) ?_
          refine (AllReadyH.cons (by rw [List.getElem?_toArray]; rfl) (fun K hK => ?_) AllReadyH.nil)
          go_simp
          refine hK.out _ _ ?_ (fun hHeld => ?_)
          · simp (maxDischargeDepth := 6) [go_sem, *]
          clear hK K
          (try simp only [Act.put, List.setIfInBounds_toArray, List.set_cons_zero, List.set_cons_succ])
          refine wpAnyH_take (i := 11) (v := ?_) (by rw [List.getElem?_toArray]; rfl) (by kernel_rfl) (by kernel_rfl) (by kernel_rfl) (by intro _ _ _ h; exact h) (Or.inl ⟨by rfl, ?_⟩) (by assumption) ?_
          rotate_left
          · (intro w hSw; (try dsimp only at hSw); go_simp; all_goals with_reducible rfl)
          (try simp only [Act.put, List.setIfInBounds_toArray, List.set_cons_zero, List.set_cons_succ])
          refine wpAnyH_done (by kernel_rfl) ?_ _
          go_wp2_with fail
          go_meet
          case rel => exact ⟨_, rfl, rfl, N.setI k1 k2, M.setIO (by omega) k1 k2, Below.setI B (by omega) k1 k2⟩
      · go_simp
        (have N := Bx.new v 0 0 27); (have hj : w.heap.size + 1 < v.heap.size := b0); (try (have hjM : jM < v.heap.size := m0)); clear a0 a1 a2 a3 a4 a5 a6 a7 a8 b0 b1 b2 b3 b4 ; (try clear n0 n1 n2 n3 n4); (try clear m0 m1 m2 m3 m4); (replace P := P.alloc (.cells #[.int .i64 0, .int .i64 0] 27)); (replace Q := Q.alloc (.cells #[.int .i64 0, .int .i64 0] 27)); (try (replace M := M.alloc (.cells #[.int .i64 0, .int .i64 0] 27))); (replace B := B.alloc B.size (.cells #[.int .i64 0, .int .i64 0] 27)); (generalize v.alloc (.cells #[.int .i64 0, .int .i64 0] 27) = v2 at *); obtain ⟨a0, a1, a2, a3, a4, a5, a6, a7, a8⟩ := id P; obtain ⟨b0, b1, b2, b3, b4⟩ := id Q; (try (obtain ⟨n0, n1, n2, n3, n4⟩ := id N)); (try (obtain ⟨m0, m1, m2, m3, m4⟩ := id M))
        refine hK.out _ _ ?_ (fun hHeld => ?_)
        · simp (maxDischargeDepth := 6) [go_sem, *]
        clear hK K
        (try simp only [Act.put, List.setIfInBounds_toArray, List.set_cons_zero, List.set_cons_succ])
        refine wpAnyH_ready (rs := [1]) (by kernel_rfl) (by simp) ?_
        refine (AllReadyH.cons (by rw [List.getElem?_toArray]; rfl) (fun K hK => ?_) AllReadyH.nil)
        go_simp
        refine (toLocal_any _ _ _ _ _).mono ?_; rintro e v ⟨rfl, hb⟩; clear a0 a1 a2 a3 a4 a5 a6 a7 a8 b0 b1 b2 b3 b4 ; (try clear n0 n1 n2 n3 n4); (try clear m0 m1 m2 m3 m4); (replace P := P.below hb); (replace Q := Q.below hb); (try (replace N := N.below hb)); (try (replace M := M.below hb)); (replace B := B.trans (hb.mono B.size)); clear hb; obtain ⟨a0, a1, a2, a3, a4, a5, a6, a7, a8⟩ := id P; obtain ⟨b0, b1, b2, b3, b4⟩ := id Q; (try (obtain ⟨n0, n1, n2, n3, n4⟩ := id N)); (try (obtain ⟨m0, m1, m2, m3, m4⟩ := id M))
        (try go_wp2_with fail)
        refine hK.out _ _ ?_ (fun hHeld => ?_)
        · simp (maxDischargeDepth := 6) [go_sem, *]
        clear hK K
        (try simp only [Act.put, List.setIfInBounds_toArray, List.set_cons_zero, List.set_cons_succ])
        refine wpAnyH_ready (rs := [3]) (by kernel_rfl) (by simp) ?_
        refine (AllReadyH.cons (by rw [List.getElem?_toArray]; rfl) (fun K hK => ?_) AllReadyH.nil)
        go_simp
        refine (toDrift_any _ _ _).mono ?_; rintro e v ⟨rfl, hb⟩; clear a0 a1 a2 a3 a4 a5 a6 a7 a8 b0 b1 b2 b3 b4 ; (try clear n0 n1 n2 n3 n4); (try clear m0 m1 m2 m3 m4); (replace P := P.below hb); (replace Q := Q.below hb); (try (replace N := N.below hb)); (try (replace M := M.below hb)); (replace B := B.trans (hb.mono B.size)); clear hb; obtain ⟨a0, a1, a2, a3, a4, a5, a6, a7, a8⟩ := id P; obtain ⟨b0, b1, b2, b3, b4⟩ := id Q; (try (obtain ⟨n0, n1, n2, n3, n4⟩ := id N)); (try (obtain ⟨m0, m1, m2, m3, m4⟩ := id M))
        (try go_wp2_with fail)
        refine hK.out _ _ ?_ (fun hHeld => ?_)
        · simp (maxDischargeDepth := 6) [go_sem, *]
        clear hK K
        (try simp only [Act.put, List.setIfInBounds_toArray, List.set_cons_zero, List.set_cons_succ])
        refine wpAnyH_ready (rs := [5]) (by kernel_rfl) (by simp) ?_
        refine (AllReadyH.cons (by rw [List.getElem?_toArray]; rfl) (fun K hK => ?_) AllReadyH.nil)
        go_simp
        refine (CI _).mono ?_; rintro e v ⟨rfl, hb⟩; clear a0 a1 a2 a3 a4 a5 a6 a7 a8 b0 b1 b2 b3 b4 ; (try clear n0 n1 n2 n3 n4); (try clear m0 m1 m2 m3 m4); (replace P := P.below hb); (replace Q := Q.below hb); (try (replace N := N.below hb)); (try (replace M := M.below hb)); (replace B := B.trans (hb.mono B.size)); clear hb; obtain ⟨a0, a1, a2, a3, a4, a5, a6, a7, a8⟩ := id P; obtain ⟨b0, b1, b2, b3, b4⟩ := id Q; (try (obtain ⟨n0, n1, n2, n3, n4⟩ := id N)); (try (obtain ⟨m0, m1, m2, m3, m4⟩ := id M))
        (try go_wp2_with fail)
        refine hK.out _ _ ?_ (fun hHeld => ?_)
        · simp (maxDischargeDepth := 6) [go_sem, *]
        clear hK K
        (try simp only [Act.put, List.setIfInBounds_toArray, List.set_cons_zero, List.set_cons_succ])
        refine wpAnyH_take (i := 6) (v := ?_) (by rw [List.getElem?_toArray]; rfl) (by kernel_rfl) (by kernel_rfl) (by kernel_rfl) (by intro _ _ _ h; exact h) (Or.inl ⟨by rfl, ?_⟩) (by assumption) ?_
        rotate_left
        · (intro w hSw; (try dsimp only at hSw); go_simp; all_goals with_reducible rfl)
        (try simp only [Act.put, List.setIfInBounds_toArray, List.set_cons_zero, List.set_cons_succ])
        refine wpAnyH_take (i := 7) (v := ?_) (by rw [List.getElem?_toArray]; rfl) (by kernel_rfl) (by kernel_rfl) (by kernel_rfl) (by intro _ _ _ h; exact h) (Or.inl ⟨by rfl, ?_⟩) (by assumption) ?_
        rotate_left
        · (intro w hSw; (try dsimp only at hSw); go_simp; all_goals with_reducible rfl)
        (try simp only [Act.put, List.setIfInBounds_toArray, List.set_cons_zero, List.set_cons_succ])
        refine wpAnyH_take (i := 8) (v := ?_) (by rw [List.getElem?_toArray]; rfl) (by kernel_rfl) (by kernel_rfl) (by kernel_rfl) (by intro _ _ _ h; exact h) (Or.inl ⟨by rfl, ?_⟩) (by assumption) ?_
        rotate_left
        · (intro w hSw; (try dsimp only at hSw); go_simp; all_goals with_reducible rfl)
        (try simp only [Act.put, List.setIfInBounds_toArray, List.set_cons_zero, List.set_cons_succ])
        refine wpAnyH_ready (rs := [10]) (by kernel_rfl) (by simp) ?_
        refine (AllReadyH.cons (by rw [List.getElem?_toArray]; rfl) (fun K hK => ?_) AllReadyH.nil)
        go_simp
        refine hK.out _ _ ?_ (fun hHeld => ?_)
        · simp (maxDischargeDepth := 6) [go_sem, *]
        clear hK K
        (try simp only [Act.put, List.setIfInBounds_toArray, List.set_cons_zero, List.set_cons_succ])
        refine wpAnyH_take (i := 11) (v := ?_) (by rw [List.getElem?_toArray]; rfl) (by kernel_rfl) (by kernel_rfl) (by kernel_rfl) (by intro _ _ _ h; exact h) (Or.inl ⟨by rfl, ?_⟩) (by assumption) ?_
        rotate_left
        · (intro w hSw; (try dsimp only at hSw); go_simp; all_goals with_reducible rfl)
        (try simp only [Act.put, List.setIfInBounds_toArray, List.set_cons_zero, List.set_cons_succ])
        refine wpAnyH_done (by kernel_rfl) ?_ _
        go_wp2_with fail
        go_meet
        case rel => exact ⟨_, rfl, rfl, N.setI k1 k2, M.setIO (by omega) k1 k2, Below.setI B (by omega) k1 k2⟩
    case rest =>
      obtain ⟨jN, rfl, rfl, N, M', B'⟩ := hcut
      clear P Q B a0 a1 a2 a3 a4 a5 a6 a7 a8 b0 b1 b2 b3 b4  m0 m1 m2 m3 m4 M
      obtain ⟨m0, m1, m2, m3, m4⟩ := id M'
      obtain ⟨n0, n1, n2, n3, n4⟩ := id N
      go_wp2_with fail
      refine (eqIval_same _ _ _).mono ?_
      rintro e v5 ⟨rfl, hb⟩
      have B5 := B'.trans (hb.mono B'.size)
      clear hb
      go_wp2
      go_ret
      exact ⟨rfl, B5⟩
set_option maxRecDepth 100000 in
set_option maxHeartbeats 4000000 in
theorem lawRebase (kn : Bool) (lo hi a n d c : Int) (w : World) (g0 : (Lit.int .i64 lo).wf = true) (g1 : (Lit.int .i64 hi).wf = true) (g2 : (Lit.int .i64 a).wf = true) (g3 : (Lit.int .i64 n).wf = true) (g4 : (Lit.int .i64 d).wf = true) (g5 : (Lit.int .i64 c).wf = true) :
    Calls Try.prog 5 #[.agg #[.bool kn, .int .i64 lo, .int .i64 hi, .int .i64 a], .agg #[.int .i64 n, .int .i64 d], .int .i64 c] w fun e w' => e = .returned (.bool true) ∧ Below w.heap.size w w' := by
  clear g0 g1 g2 g3 g4 g5
  have P := ((BoxL.new w kn lo hi a 25).alloc (.cells #[.int .i64 n, .int .i64 d] 33))
  have Q := (Bx.new (w.alloc (.cells #[.bool kn, .int .i64 lo, .int .i64 hi, .int .i64 a] 25)) n d 33)
  have B : Below w.heap.size w ((w.alloc (.cells #[.bool kn, .int .i64 lo, .int .i64 hi, .int .i64 a] 25)).alloc (.cells #[.int .i64 n, .int .i64 d] 33)) := (Below.alc _ _).alloc (by first | (simp; done) | (simp; omega) | omega) _
  simp only [World.size_alloc] at Q
  have CS := fun w' => specRebase_any kn lo hi a n d c w'
  have CI := fun w' => implRebase_any kn lo hi a n d c w'
  go_enter Try.func5, Try.ntmps5
  go_wp2_with fail
  generalize sel (rbB kn lo hi a n d c) c = k4 at *
  generalize rbB kn lo hi a n d c = k1 at *
  generalize crL kn lo hi a n d c = k2 at *
  generalize crH kn lo hi a n d c = k3 at *
  generalize crC kn lo hi a n d c = kz at *
  generalize (w.alloc (.cells #[.bool kn, .int .i64 lo, .int .i64 hi, .int .i64 a] 25)).alloc (.cells #[.int .i64 n, .int .i64 d] 33) = v at *
  obtain ⟨a0, a1, a2, a3, a4, a5, a6, a7, a8⟩ := id P; obtain ⟨b0, b1, b2, b3, b4⟩ := id Q; (try (obtain ⟨n0, n1, n2, n3, n4, n5, n6, n7, n8⟩ := id N)); (try (obtain ⟨m0, m1, m2, m3, m4, m5, m6, m7, m8⟩ := id M))
  go_cut [7, 8] (fun s5 s6 wx => ∃ j : Nat, s5 = .pointer (some ⟨j, 0, none⟩) ∧ s6 = .int .i64 kz ∧ BoxL wx j k1 k2 k3 k4 ∧ w.heap.size + 1 < j ∧ BoxL wx w.heap.size kn lo hi a ∧ Bx wx (w.heap.size + 1) n d ∧ Below w.heap.size w wx)
  case first =>
    refine wp_region_held_drew (S := (fun w' => w'.cell? ⟨w.heap.size, 0, none⟩ = some (.bool kn) ∧ w'.cell? ⟨w.heap.size, 1, none⟩ = some (.int .i64 lo) ∧ w'.cell? ⟨w.heap.size, 2, none⟩ = some (.int .i64 hi) ∧ w'.cell? ⟨w.heap.size, 3, none⟩ = some (.int .i64 a) ∧ w'.cell? ⟨w.heap.size + 1, 0, none⟩ = some (.int .i64 n) ∧ w'.cell? ⟨w.heap.size + 1, 1, none⟩ = some (.int .i64 d))) (by kernel_rfl) ?_ (fun hHeld => ?_)
    · simp (maxDischargeDepth := 6) [go_sem, *]
    clear a0 a1 a2 a3 a4 a5 a6 a7 a8 b0 b1 b2 b3 b4 ; (try clear n0 n1 n2 n3 n4 n5 n6 n7 n8); (try clear m0 m1 m2 m3 m4 m5 m6 m7 m8)
    replace P := P.drew
    replace Q := Q.drew
    replace B := B.drew
    (try replace M := M.drew)
    generalize v.drew = v at *
    obtain ⟨a0, a1, a2, a3, a4, a5, a6, a7, a8⟩ := id P; obtain ⟨b0, b1, b2, b3, b4⟩ := id Q; (try (obtain ⟨n0, n1, n2, n3, n4, n5, n6, n7, n8⟩ := id N)); (try (obtain ⟨m0, m1, m2, m3, m4, m5, m6, m7, m8⟩ := id M))
    refine wpAnyH_take (i := 0) (v := ?_) (by rw [List.getElem?_toArray]; rfl) (by kernel_rfl) (by kernel_rfl) (by kernel_rfl) (by intro _ _ _ h; exact h) (Or.inl ⟨by rfl, ?_⟩) (by assumption) ?_
    rotate_left
    · (intro w hSw; (try dsimp only at hSw); go_simp; all_goals with_reducible rfl)
    (try simp only [Act.put, List.setIfInBounds_toArray, List.set_cons_zero, List.set_cons_succ])
    refine wpAnyH_take (i := 2) (v := ?_) (by rw [List.getElem?_toArray]; rfl) (by kernel_rfl) (by kernel_rfl) (by kernel_rfl) (by intro _ _ _ h; exact h) (Or.inl ⟨by rfl, ?_⟩) (by assumption) ?_
    rotate_left
    · (intro w hSw; (try dsimp only at hSw); go_simp; all_goals with_reducible rfl)
    (try simp only [Act.put, List.setIfInBounds_toArray, List.set_cons_zero, List.set_cons_succ])
    refine wpAnyH_take (i := 4) (v := ?_) (by rw [List.getElem?_toArray]; rfl) (by kernel_rfl) (by kernel_rfl) (by kernel_rfl) (by intro _ _ _ h; exact h) (Or.inl ⟨by rfl, ?_⟩) (by assumption) ?_
    rotate_left
    · (intro w hSw; (try dsimp only at hSw); go_simp; all_goals with_reducible rfl)
    (try simp only [Act.put, List.setIfInBounds_toArray, List.set_cons_zero, List.set_cons_succ])
    refine wpAnyH_ready (rs := [1, 9]) (by kernel_rfl) (by simp) ?_
    refine (AllReadyH.cons (by rw [List.getElem?_toArray]; rfl) (fun K hK => ?_) (AllReadyH.cons (by rw [List.getElem?_toArray]; rfl) (fun K hK => ?_) AllReadyH.nil))
    · go_simp
      refine (toLocal_any _ _ _ _ _).mono ?_; rintro e v ⟨rfl, hb⟩; clear a0 a1 a2 a3 a4 a5 a6 a7 a8 b0 b1 b2 b3 b4 ; (try clear n0 n1 n2 n3 n4 n5 n6 n7 n8); (try clear m0 m1 m2 m3 m4 m5 m6 m7 m8); (replace P := P.below hb); (replace Q := Q.below hb); (try (replace N := N.below hb)); (try (replace M := M.below hb)); (replace B := B.trans (hb.mono B.size)); clear hb; obtain ⟨a0, a1, a2, a3, a4, a5, a6, a7, a8⟩ := id P; obtain ⟨b0, b1, b2, b3, b4⟩ := id Q; (try (obtain ⟨n0, n1, n2, n3, n4, n5, n6, n7, n8⟩ := id N)); (try (obtain ⟨m0, m1, m2, m3, m4, m5, m6, m7, m8⟩ := id M))
      (try go_wp2_with fail)
      refine hK.out _ _ ?_ (fun hHeld => ?_)
      · simp (maxDischargeDepth := 6) [go_sem, *]
      clear hK K
      (try simp only [Act.put, List.setIfInBounds_toArray, List.set_cons_zero, List.set_cons_succ])
      refine wpAnyH_ready (rs := [3, 9]) (by kernel_rfl) (by simp) ?_
      refine (AllReadyH.cons (by rw [List.getElem?_toArray]; rfl) (fun K hK => ?_) (AllReadyH.cons (by rw [List.getElem?_toArray]; rfl) (fun K hK => ?_) AllReadyH.nil))
      · go_simp
        refine (toDrift_any _ _ _).mono ?_; rintro e v ⟨rfl, hb⟩; clear a0 a1 a2 a3 a4 a5 a6 a7 a8 b0 b1 b2 b3 b4 ; (try clear n0 n1 n2 n3 n4 n5 n6 n7 n8); (try clear m0 m1 m2 m3 m4 m5 m6 m7 m8); (replace P := P.below hb); (replace Q := Q.below hb); (try (replace N := N.below hb)); (try (replace M := M.below hb)); (replace B := B.trans (hb.mono B.size)); clear hb; obtain ⟨a0, a1, a2, a3, a4, a5, a6, a7, a8⟩ := id P; obtain ⟨b0, b1, b2, b3, b4⟩ := id Q; (try (obtain ⟨n0, n1, n2, n3, n4, n5, n6, n7, n8⟩ := id N)); (try (obtain ⟨m0, m1, m2, m3, m4, m5, m6, m7, m8⟩ := id M))
        (try go_wp2_with fail)
        refine hK.out _ _ ?_ (fun hHeld => ?_)
        · simp (maxDischargeDepth := 6) [go_sem, *]
        clear hK K
        (try simp only [Act.put, List.setIfInBounds_toArray, List.set_cons_zero, List.set_cons_succ])
        refine wpAnyH_ready (rs := [5, 9]) (by kernel_rfl) (by simp) ?_
        refine (AllReadyH.cons (by rw [List.getElem?_toArray]; rfl) (fun K hK => ?_) (AllReadyH.cons (by rw [List.getElem?_toArray]; rfl) (fun K hK => ?_) AllReadyH.nil))
        · go_simp
          refine (CS _).mono ?_; rintro e v ⟨rfl, hb⟩; clear a0 a1 a2 a3 a4 a5 a6 a7 a8 b0 b1 b2 b3 b4 ; (try clear n0 n1 n2 n3 n4 n5 n6 n7 n8); (try clear m0 m1 m2 m3 m4 m5 m6 m7 m8); (replace P := P.below hb); (replace Q := Q.below hb); (try (replace N := N.below hb)); (try (replace M := M.below hb)); (replace B := B.trans (hb.mono B.size)); clear hb; obtain ⟨a0, a1, a2, a3, a4, a5, a6, a7, a8⟩ := id P; obtain ⟨b0, b1, b2, b3, b4⟩ := id Q; (try (obtain ⟨n0, n1, n2, n3, n4, n5, n6, n7, n8⟩ := id N)); (try (obtain ⟨m0, m1, m2, m3, m4, m5, m6, m7, m8⟩ := id M))
          (try go_wp2_with fail)
          refine hK.out _ _ ?_ (fun hHeld => ?_)
          · simp (maxDischargeDepth := 6) [go_sem, *]
          clear hK K
          (try simp only [Act.put, List.setIfInBounds_toArray, List.set_cons_zero, List.set_cons_succ])
          refine wpAnyH_take (i := 6) (v := ?_) (by rw [List.getElem?_toArray]; rfl) (by kernel_rfl) (by kernel_rfl) (by kernel_rfl) (by intro _ _ _ h; exact h) (Or.inl ⟨by rfl, ?_⟩) (by assumption) ?_
          rotate_left
          · (intro w hSw; (try dsimp only at hSw); go_simp; all_goals with_reducible rfl)
          (try simp only [Act.put, List.setIfInBounds_toArray, List.set_cons_zero, List.set_cons_succ])
          refine wpAnyH_take (i := 7) (v := ?_) (by rw [List.getElem?_toArray]; rfl) (by kernel_rfl) (by kernel_rfl) (by kernel_rfl) (by intro _ _ _ h; exact h) (Or.inl ⟨by rfl, ?_⟩) (by assumption) ?_
          rotate_left
          · (intro w hSw; (try dsimp only at hSw); go_simp; all_goals with_reducible rfl)
          (try simp only [Act.put, List.setIfInBounds_toArray, List.set_cons_zero, List.set_cons_succ])
          refine wpAnyH_take (i := 8) (v := ?_) (by rw [List.getElem?_toArray]; rfl) (by kernel_rfl) (by kernel_rfl) (by kernel_rfl) (by intro _ _ _ h; exact h) (Or.inl ⟨by rfl, ?_⟩) (by assumption) ?_
          rotate_left
          · (intro w hSw; (try dsimp only at hSw); go_simp; all_goals with_reducible rfl)
          (try simp only [Act.put, List.setIfInBounds_toArray, List.set_cons_zero, List.set_cons_succ])
          refine wpAnyH_ready (rs := [9]) (by kernel_rfl) (by simp) ?_
          refine (AllReadyH.cons (by rw [List.getElem?_toArray]; rfl) (fun K hK => ?_) AllReadyH.nil)
          go_simp
          (have N := BoxL.new v false 0 0 0 29); (have hj : w.heap.size + 1 < v.heap.size := b0); (try (have hjM : jM < v.heap.size := m0)); clear a0 a1 a2 a3 a4 a5 a6 a7 a8 b0 b1 b2 b3 b4 ; (try clear n0 n1 n2 n3 n4 n5 n6 n7 n8); (try clear m0 m1 m2 m3 m4 m5 m6 m7 m8); (replace P := P.alloc (.cells #[.bool false, .int .i64 0, .int .i64 0, .int .i64 0] 29)); (replace Q := Q.alloc (.cells #[.bool false, .int .i64 0, .int .i64 0, .int .i64 0] 29)); (try (replace M := M.alloc (.cells #[.bool false, .int .i64 0, .int .i64 0, .int .i64 0] 29))); (replace B := B.alloc B.size (.cells #[.bool false, .int .i64 0, .int .i64 0, .int .i64 0] 29)); (generalize v.alloc (.cells #[.bool false, .int .i64 0, .int .i64 0, .int .i64 0] 29) = v2 at *); obtain ⟨a0, a1, a2, a3, a4, a5, a6, a7, a8⟩ := id P; obtain ⟨b0, b1, b2, b3, b4⟩ := id Q; (try (obtain ⟨n0, n1, n2, n3, n4, n5, n6, n7, n8⟩ := id N)); (try (obtain ⟨m0, m1, m2, m3, m4, m5, m6, m7, m8⟩ := id M))
          refine hK.out _ _ ?_ (fun hHeld => ?_)
          · simp (maxDischargeDepth := 6) [go_sem, *]
          clear hK K
          (try simp only [Act.put, List.setIfInBounds_toArray, List.set_cons_zero, List.set_cons_succ])
          refine wpAnyH_ready (rs := [10]) (by kernel_rfl) (by simp) ?_
          refine (AllReadyH.cons (by rw [List.getElem?_toArray]; rfl) (fun K hK => ?_) AllReadyH.nil)
          go_simp
          refine hK.out _ _ ?_ (fun hHeld => ?_)
          · simp (maxDischargeDepth := 6) [go_sem, *]
          clear hK K
          (try simp only [Act.put, List.setIfInBounds_toArray, List.set_cons_zero, List.set_cons_succ])
          refine wpAnyH_take (i := 11) (v := ?_) (by rw [List.getElem?_toArray]; rfl) (by kernel_rfl) (by kernel_rfl) (by kernel_rfl) (by intro _ _ _ h; exact h) (Or.inl ⟨by rfl, ?_⟩) (by assumption) ?_
          rotate_left
          · (intro w hSw; (try dsimp only at hSw); go_simp; all_goals with_reducible rfl)
          (try simp only [Act.put, List.setIfInBounds_toArray, List.set_cons_zero, List.set_cons_succ])
          refine wpAnyH_done (by kernel_rfl) ?_ _
          go_wp2_with fail
          go_meet
          case rel => exact ⟨_, rfl, rfl, N.set k1 k2 k3 k4, hj, P.setLO (by omega) k1 k2 k3 k4, Q.setLO (by omega) k1 k2 k3 k4, Below.setL B (by omega) k1 k2 k3 k4⟩
        · go_simp
          (have N := BoxL.new v false 0 0 0 29); (have hj : w.heap.size + 1 < v.heap.size := b0); (try (have hjM : jM < v.heap.size := m0)); clear a0 a1 a2 a3 a4 a5 a6 a7 a8 b0 b1 b2 b3 b4 ; (try clear n0 n1 n2 n3 n4 n5 n6 n7 n8); (try clear m0 m1 m2 m3 m4 m5 m6 m7 m8); (replace P := P.alloc (.cells #[.bool false, .int .i64 0, .int .i64 0, .int .i64 0] 29)); (replace Q := Q.alloc (.cells #[.bool false, .int .i64 0, .int .i64 0, .int .i64 0] 29)); (try (replace M := M.alloc (.cells #[.bool false, .int .i64 0, .int .i64 0, .int .i64 0] 29))); (replace B := B.alloc B.size (.cells #[.bool false, .int .i64 0, .int .i64 0, .int .i64 0] 29)); (generalize v.alloc (.cells #[.bool false, .int .i64 0, .int .i64 0, .int .i64 0] 29) = v2 at *); obtain ⟨a0, a1, a2, a3, a4, a5, a6, a7, a8⟩ := id P; obtain ⟨b0, b1, b2, b3, b4⟩ := id Q; (try (obtain ⟨n0, n1, n2, n3, n4, n5, n6, n7, n8⟩ := id N)); (try (obtain ⟨m0, m1, m2, m3, m4, m5, m6, m7, m8⟩ := id M))
          refine hK.out _ _ ?_ (fun hHeld => ?_)
          · simp (maxDischargeDepth := 6) [go_sem, *]
          clear hK K
          (try simp only [Act.put, List.setIfInBounds_toArray, List.set_cons_zero, List.set_cons_succ])
          refine wpAnyH_ready (rs := [5]) (by kernel_rfl) (by simp) ?_
          refine (AllReadyH.cons (by rw [List.getElem?_toArray]; rfl) (fun K hK => ?_) AllReadyH.nil)
          go_simp
          refine (CS _).mono ?_; rintro e v ⟨rfl, hb⟩; clear a0 a1 a2 a3 a4 a5 a6 a7 a8 b0 b1 b2 b3 b4 ; (try clear n0 n1 n2 n3 n4 n5 n6 n7 n8); (try clear m0 m1 m2 m3 m4 m5 m6 m7 m8); (replace P := P.below hb); (replace Q := Q.below hb); (try (replace N := N.below hb)); (try (replace M := M.below hb)); (replace B := B.trans (hb.mono B.size)); clear hb; obtain ⟨a0, a1, a2, a3, a4, a5, a6, a7, a8⟩ := id P; obtain ⟨b0, b1, b2, b3, b4⟩ := id Q; (try (obtain ⟨n0, n1, n2, n3, n4, n5, n6, n7, n8⟩ := id N)); (try (obtain ⟨m0, m1, m2, m3, m4, m5, m6, m7, m8⟩ := id M))
          (try go_wp2_with fail)
          refine hK.out _ _ ?_ (fun hHeld => ?_)
          · simp (maxDischargeDepth := 6) [go_sem, *]
          clear hK K
          (try simp only [Act.put, List.setIfInBounds_toArray, List.set_cons_zero, List.set_cons_succ])
          refine wpAnyH_take (i := 6) (v := ?_) (by rw [List.getElem?_toArray]; rfl) (by kernel_rfl) (by kernel_rfl) (by kernel_rfl) (by intro _ _ _ h; exact h) (Or.inl ⟨by rfl, ?_⟩) (by assumption) ?_
          rotate_left
          · (intro w hSw; (try dsimp only at hSw); go_simp; all_goals with_reducible rfl)
          (try simp only [Act.put, List.setIfInBounds_toArray, List.set_cons_zero, List.set_cons_succ])
          refine wpAnyH_take (i := 7) (v := ?_) (by rw [List.getElem?_toArray]; rfl) (by kernel_rfl) (by kernel_rfl) (by kernel_rfl) (by intro _ _ _ h; exact h) (Or.inl ⟨by rfl, ?_⟩) (by assumption) ?_
          rotate_left
          · (intro w hSw; (try dsimp only at hSw); go_simp; all_goals with_reducible rfl)
          (try simp only [Act.put, List.setIfInBounds_toArray, List.set_cons_zero, List.set_cons_succ])
          refine wpAnyH_take (i := 8) (v := ?_) (by rw [List.getElem?_toArray]; rfl) (by kernel_rfl) (by kernel_rfl) (by kernel_rfl) (by intro _ _ _ h; exact h) (Or.inl ⟨by rfl, ?_⟩) (by assumption) ?_
          rotate_left
          · (intro w hSw; (try dsimp only at hSw); go_simp; all_goals with_reducible rfl)
          (try simp only [Act.put, List.setIfInBounds_toArray, List.set_cons_zero, List.set_cons_succ])
          refine wpAnyH_ready (rs := [10]) (by kernel_rfl) (by simp) ?_
          refine (AllReadyH.cons (by rw [List.getElem?_toArray]; rfl) (fun K hK => ?_) AllReadyH.nil)
          go_simp
          refine hK.out _ _ ?_ (fun hHeld => ?_)
          · simp (maxDischargeDepth := 6) [go_sem, *]
          clear hK K
          (try simp only [Act.put, List.setIfInBounds_toArray, List.set_cons_zero, List.set_cons_succ])
          refine wpAnyH_take (i := 11) (v := ?_) (by rw [List.getElem?_toArray]; rfl) (by kernel_rfl) (by kernel_rfl) (by kernel_rfl) (by intro _ _ _ h; exact h) (Or.inl ⟨by rfl, ?_⟩) (by assumption) ?_
          rotate_left
          · (intro w hSw; (try dsimp only at hSw); go_simp; all_goals with_reducible rfl)
          (try simp only [Act.put, List.setIfInBounds_toArray, List.set_cons_zero, List.set_cons_succ])
          refine wpAnyH_done (by kernel_rfl) ?_ _
          go_wp2_with fail
          go_meet
          case rel => exact ⟨_, rfl, rfl, N.set k1 k2 k3 k4, hj, P.setLO (by omega) k1 k2 k3 k4, Q.setLO (by omega) k1 k2 k3 k4, Below.setL B (by omega) k1 k2 k3 k4⟩
      · go_simp
        (have N := BoxL.new v false 0 0 0 29); (have hj : w.heap.size + 1 < v.heap.size := b0); (try (have hjM : jM < v.heap.size := m0)); clear a0 a1 a2 a3 a4 a5 a6 a7 a8 b0 b1 b2 b3 b4 ; (try clear n0 n1 n2 n3 n4 n5 n6 n7 n8); (try clear m0 m1 m2 m3 m4 m5 m6 m7 m8); (replace P := P.alloc (.cells #[.bool false, .int .i64 0, .int .i64 0, .int .i64 0] 29)); (replace Q := Q.alloc (.cells #[.bool false, .int .i64 0, .int .i64 0, .int .i64 0] 29)); (try (replace M := M.alloc (.cells #[.bool false, .int .i64 0, .int .i64 0, .int .i64 0] 29))); (replace B := B.alloc B.size (.cells #[.bool false, .int .i64 0, .int .i64 0, .int .i64 0] 29)); (generalize v.alloc (.cells #[.bool false, .int .i64 0, .int .i64 0, .int .i64 0] 29) = v2 at *); obtain ⟨a0, a1, a2, a3, a4, a5, a6, a7, a8⟩ := id P; obtain ⟨b0, b1, b2, b3, b4⟩ := id Q; (try (obtain ⟨n0, n1, n2, n3, n4, n5, n6, n7, n8⟩ := id N)); (try (obtain ⟨m0, m1, m2, m3, m4, m5, m6, m7, m8⟩ := id M))
        refine hK.out _ _ ?_ (fun hHeld => ?_)
        · simp (maxDischargeDepth := 6) [go_sem, *]
        clear hK K
        (try simp only [Act.put, List.setIfInBounds_toArray, List.set_cons_zero, List.set_cons_succ])
        refine wpAnyH_ready (rs := [3]) (by kernel_rfl) (by simp) ?_
        refine (AllReadyH.cons (by rw [List.getElem?_toArray]; rfl) (fun K hK => ?_) AllReadyH.nil)
        go_simp
        refine (toDrift_any _ _ _).mono ?_; rintro e v ⟨rfl, hb⟩; clear a0 a1 a2 a3 a4 a5 a6 a7 a8 b0 b1 b2 b3 b4 ; (try clear n0 n1 n2 n3 n4 n5 n6 n7 n8); (try clear m0 m1 m2 m3 m4 m5 m6 m7 m8); (replace P := P.below hb); (replace Q := Q.below hb); (try (replace N := N.below hb)); (try (replace M := M.below hb)); (replace B := B.trans (hb.mono B.size)); clear hb; obtain ⟨a0, a1, a2, a3, a4, a5, a6, a7, a8⟩ := id P; obtain ⟨b0, b1, b2, b3, b4⟩ := id Q; (try (obtain ⟨n0, n1, n2, n3, n4, n5, n6, n7, n8⟩ := id N)); (try (obtain ⟨m0, m1, m2, m3, m4, m5, m6, m7, m8⟩ := id M))
        (try go_wp2_with fail)
        refine hK.out _ _ ?_ (fun hHeld => ?_)
        · simp (maxDischargeDepth := 6) [go_sem, *]
        clear hK K
        (try simp only [Act.put, List.setIfInBounds_toArray, List.set_cons_zero, List.set_cons_succ])
        refine wpAnyH_ready (rs := [5]) (by kernel_rfl) (by simp) ?_
        refine (AllReadyH.cons (by rw [List.getElem?_toArray]; rfl) (fun K hK => ?_) AllReadyH.nil)
        go_simp
        refine (CS _).mono ?_; rintro e v ⟨rfl, hb⟩; clear a0 a1 a2 a3 a4 a5 a6 a7 a8 b0 b1 b2 b3 b4 ; (try clear n0 n1 n2 n3 n4 n5 n6 n7 n8); (try clear m0 m1 m2 m3 m4 m5 m6 m7 m8); (replace P := P.below hb); (replace Q := Q.below hb); (try (replace N := N.below hb)); (try (replace M := M.below hb)); (replace B := B.trans (hb.mono B.size)); clear hb; obtain ⟨a0, a1, a2, a3, a4, a5, a6, a7, a8⟩ := id P; obtain ⟨b0, b1, b2, b3, b4⟩ := id Q; (try (obtain ⟨n0, n1, n2, n3, n4, n5, n6, n7, n8⟩ := id N)); (try (obtain ⟨m0, m1, m2, m3, m4, m5, m6, m7, m8⟩ := id M))
        (try go_wp2_with fail)
        refine hK.out _ _ ?_ (fun hHeld => ?_)
        · simp (maxDischargeDepth := 6) [go_sem, *]
        clear hK K
        (try simp only [Act.put, List.setIfInBounds_toArray, List.set_cons_zero, List.set_cons_succ])
        refine wpAnyH_take (i := 6) (v := ?_) (by rw [List.getElem?_toArray]; rfl) (by kernel_rfl) (by kernel_rfl) (by kernel_rfl) (by intro _ _ _ h; exact h) (Or.inl ⟨by rfl, ?_⟩) (by assumption) ?_
        rotate_left
        · (intro w hSw; (try dsimp only at hSw); go_simp; all_goals with_reducible rfl)
        (try simp only [Act.put, List.setIfInBounds_toArray, List.set_cons_zero, List.set_cons_succ])
        refine wpAnyH_take (i := 7) (v := ?_) (by rw [List.getElem?_toArray]; rfl) (by kernel_rfl) (by kernel_rfl) (by kernel_rfl) (by intro _ _ _ h; exact h) (Or.inl ⟨by rfl, ?_⟩) (by assumption) ?_
        rotate_left
        · (intro w hSw; (try dsimp only at hSw); go_simp; all_goals with_reducible rfl)
        (try simp only [Act.put, List.setIfInBounds_toArray, List.set_cons_zero, List.set_cons_succ])
        refine wpAnyH_take (i := 8) (v := ?_) (by rw [List.getElem?_toArray]; rfl) (by kernel_rfl) (by kernel_rfl) (by kernel_rfl) (by intro _ _ _ h; exact h) (Or.inl ⟨by rfl, ?_⟩) (by assumption) ?_
        rotate_left
        · (intro w hSw; (try dsimp only at hSw); go_simp; all_goals with_reducible rfl)
        (try simp only [Act.put, List.setIfInBounds_toArray, List.set_cons_zero, List.set_cons_succ])
        refine wpAnyH_ready (rs := [10]) (by kernel_rfl) (by simp) ?_
        refine (AllReadyH.cons (by rw [List.getElem?_toArray]; rfl) (fun K hK => ?_) AllReadyH.nil)
        go_simp
        refine hK.out _ _ ?_ (fun hHeld => ?_)
        · simp (maxDischargeDepth := 6) [go_sem, *]
        clear hK K
        (try simp only [Act.put, List.setIfInBounds_toArray, List.set_cons_zero, List.set_cons_succ])
        refine wpAnyH_take (i := 11) (v := ?_) (by rw [List.getElem?_toArray]; rfl) (by kernel_rfl) (by kernel_rfl) (by kernel_rfl) (by intro _ _ _ h; exact h) (Or.inl ⟨by rfl, ?_⟩) (by assumption) ?_
        rotate_left
        · (intro w hSw; (try dsimp only at hSw); go_simp; all_goals with_reducible rfl)
        (try simp only [Act.put, List.setIfInBounds_toArray, List.set_cons_zero, List.set_cons_succ])
        refine wpAnyH_done (by kernel_rfl) ?_ _
        go_wp2_with fail
        go_meet
        case rel => exact ⟨_, rfl, rfl, N.set k1 k2 k3 k4, hj, P.setLO (by omega) k1 k2 k3 k4, Q.setLO (by omega) k1 k2 k3 k4, Below.setL B (by omega) k1 k2 k3 k4⟩
    · go_simp
      (have N := BoxL.new v false 0 0 0 29); (have hj : w.heap.size + 1 < v.heap.size := b0); (try (have hjM : jM < v.heap.size := m0)); clear a0 a1 a2 a3 a4 a5 a6 a7 a8 b0 b1 b2 b3 b4 ; (try clear n0 n1 n2 n3 n4 n5 n6 n7 n8); (try clear m0 m1 m2 m3 m4 m5 m6 m7 m8); (replace P := P.alloc (.cells #[.bool false, .int .i64 0, .int .i64 0, .int .i64 0] 29)); (replace Q := Q.alloc (.cells #[.bool false, .int .i64 0, .int .i64 0, .int .i64 0] 29)); (try (replace M := M.alloc (.cells #[.bool false, .int .i64 0, .int .i64 0, .int .i64 0] 29))); (replace B := B.alloc B.size (.cells #[.bool false, .int .i64 0, .int .i64 0, .int .i64 0] 29)); (generalize v.alloc (.cells #[.bool false, .int .i64 0, .int .i64 0, .int .i64 0] 29) = v2 at *); obtain ⟨a0, a1, a2, a3, a4, a5, a6, a7, a8⟩ := id P; obtain ⟨b0, b1, b2, b3, b4⟩ := id Q; (try (obtain ⟨n0, n1, n2, n3, n4, n5, n6, n7, n8⟩ := id N)); (try (obtain ⟨m0, m1, m2, m3, m4, m5, m6, m7, m8⟩ := id M))
      refine hK.out _ _ ?_ (fun hHeld => ?_)
      · simp (maxDischargeDepth := 6) [go_sem, *]
      clear hK K
      (try simp only [Act.put, List.setIfInBounds_toArray, List.set_cons_zero, List.set_cons_succ])
      refine wpAnyH_ready (rs := [1]) (by kernel_rfl) (by simp) ?_
      refine (AllReadyH.cons (by rw [List.getElem?_toArray]; rfl) (fun K hK => ?_) AllReadyH.nil)
      go_simp
      refine (toLocal_any _ _ _ _ _).mono ?_; rintro e v ⟨rfl, hb⟩; clear a0 a1 a2 a3 a4 a5 a6 a7 a8 b0 b1 b2 b3 b4 ; (try clear n0 n1 n2 n3 n4 n5 n6 n7 n8); (try clear m0 m1 m2 m3 m4 m5 m6 m7 m8); (replace P := P.below hb); (replace Q := Q.below hb); (try (replace N := N.below hb)); (try (replace M := M.below hb)); (replace B := B.trans (hb.mono B.size)); clear hb; obtain ⟨a0, a1, a2, a3, a4, a5, a6, a7, a8⟩ := id P; obtain ⟨b0, b1, b2, b3, b4⟩ := id Q; (try (obtain ⟨n0, n1, n2, n3, n4, n5, n6, n7, n8⟩ := id N)); (try (obtain ⟨m0, m1, m2, m3, m4, m5, m6, m7, m8⟩ := id M))
      (try go_wp2_with fail)
      refine hK.out _ _ ?_ (fun hHeld => ?_)
      · simp (maxDischargeDepth := 6) [go_sem, *]
      clear hK K
      (try simp only [Act.put, List.setIfInBounds_toArray, List.set_cons_zero, List.set_cons_succ])
      refine wpAnyH_ready (rs := [3]) (by kernel_rfl) (by simp) ?_
      refine (AllReadyH.cons (by rw [List.getElem?_toArray]; rfl) (fun K hK => ?_) AllReadyH.nil)
      go_simp
      refine (toDrift_any _ _ _).mono ?_; rintro e v ⟨rfl, hb⟩; clear a0 a1 a2 a3 a4 a5 a6 a7 a8 b0 b1 b2 b3 b4 ; (try clear n0 n1 n2 n3 n4 n5 n6 n7 n8); (try clear m0 m1 m2 m3 m4 m5 m6 m7 m8); (replace P := P.below hb); (replace Q := Q.below hb); (try (replace N := N.below hb)); (try (replace M := M.below hb)); (replace B := B.trans (hb.mono B.size)); clear hb; obtain ⟨a0, a1, a2, a3, a4, a5, a6, a7, a8⟩ := id P; obtain ⟨b0, b1, b2, b3, b4⟩ := id Q; (try (obtain ⟨n0, n1, n2, n3, n4, n5, n6, n7, n8⟩ := id N)); (try (obtain ⟨m0, m1, m2, m3, m4, m5, m6, m7, m8⟩ := id M))
      (try go_wp2_with fail)
      refine hK.out _ _ ?_ (fun hHeld => ?_)
      · simp (maxDischargeDepth := 6) [go_sem, *]
      clear hK K
      (try simp only [Act.put, List.setIfInBounds_toArray, List.set_cons_zero, List.set_cons_succ])
      refine wpAnyH_ready (rs := [5]) (by kernel_rfl) (by simp) ?_
      refine (AllReadyH.cons (by rw [List.getElem?_toArray]; rfl) (fun K hK => ?_) AllReadyH.nil)
      go_simp
      refine (CS _).mono ?_; rintro e v ⟨rfl, hb⟩; clear a0 a1 a2 a3 a4 a5 a6 a7 a8 b0 b1 b2 b3 b4 ; (try clear n0 n1 n2 n3 n4 n5 n6 n7 n8); (try clear m0 m1 m2 m3 m4 m5 m6 m7 m8); (replace P := P.below hb); (replace Q := Q.below hb); (try (replace N := N.below hb)); (try (replace M := M.below hb)); (replace B := B.trans (hb.mono B.size)); clear hb; obtain ⟨a0, a1, a2, a3, a4, a5, a6, a7, a8⟩ := id P; obtain ⟨b0, b1, b2, b3, b4⟩ := id Q; (try (obtain ⟨n0, n1, n2, n3, n4, n5, n6, n7, n8⟩ := id N)); (try (obtain ⟨m0, m1, m2, m3, m4, m5, m6, m7, m8⟩ := id M))
      (try go_wp2_with fail)
      refine hK.out _ _ ?_ (fun hHeld => ?_)
      · simp (maxDischargeDepth := 6) [go_sem, *]
      clear hK K
      (try simp only [Act.put, List.setIfInBounds_toArray, List.set_cons_zero, List.set_cons_succ])
      refine wpAnyH_take (i := 6) (v := ?_) (by rw [List.getElem?_toArray]; rfl) (by kernel_rfl) (by kernel_rfl) (by kernel_rfl) (by intro _ _ _ h; exact h) (Or.inl ⟨by rfl, ?_⟩) (by assumption) ?_
      rotate_left
      · (intro w hSw; (try dsimp only at hSw); go_simp; all_goals with_reducible rfl)
      (try simp only [Act.put, List.setIfInBounds_toArray, List.set_cons_zero, List.set_cons_succ])
      refine wpAnyH_take (i := 7) (v := ?_) (by rw [List.getElem?_toArray]; rfl) (by kernel_rfl) (by kernel_rfl) (by kernel_rfl) (by intro _ _ _ h; exact h) (Or.inl ⟨by rfl, ?_⟩) (by assumption) ?_
      rotate_left
      · (intro w hSw; (try dsimp only at hSw); go_simp; all_goals with_reducible rfl)
      (try simp only [Act.put, List.setIfInBounds_toArray, List.set_cons_zero, List.set_cons_succ])
      refine wpAnyH_take (i := 8) (v := ?_) (by rw [List.getElem?_toArray]; rfl) (by kernel_rfl) (by kernel_rfl) (by kernel_rfl) (by intro _ _ _ h; exact h) (Or.inl ⟨by rfl, ?_⟩) (by assumption) ?_
      rotate_left
      · (intro w hSw; (try dsimp only at hSw); go_simp; all_goals with_reducible rfl)
      (try simp only [Act.put, List.setIfInBounds_toArray, List.set_cons_zero, List.set_cons_succ])
      refine wpAnyH_ready (rs := [10]) (by kernel_rfl) (by simp) ?_
      refine (AllReadyH.cons (by rw [List.getElem?_toArray]; rfl) (fun K hK => ?_) AllReadyH.nil)
      go_simp
      refine hK.out _ _ ?_ (fun hHeld => ?_)
      · simp (maxDischargeDepth := 6) [go_sem, *]
      clear hK K
      (try simp only [Act.put, List.setIfInBounds_toArray, List.set_cons_zero, List.set_cons_succ])
      refine wpAnyH_take (i := 11) (v := ?_) (by rw [List.getElem?_toArray]; rfl) (by kernel_rfl) (by kernel_rfl) (by kernel_rfl) (by intro _ _ _ h; exact h) (Or.inl ⟨by rfl, ?_⟩) (by assumption) ?_
      rotate_left
      · (intro w hSw; (try dsimp only at hSw); go_simp; all_goals with_reducible rfl)
      (try simp only [Act.put, List.setIfInBounds_toArray, List.set_cons_zero, List.set_cons_succ])
      refine wpAnyH_done (by kernel_rfl) ?_ _
      go_wp2_with fail
      go_meet
      case rel => exact ⟨_, rfl, rfl, N.set k1 k2 k3 k4, hj, P.setLO (by omega) k1 k2 k3 k4, Q.setLO (by omega) k1 k2 k3 k4, Below.setL B (by omega) k1 k2 k3 k4⟩
  case rest =>
    obtain ⟨jM, rfl, rfl, M, hjm, P', Q', B'⟩ := hcut
    clear P Q B a0 a1 a2 a3 a4 a5 a6 a7 a8 b0 b1 b2 b3 b4 
    have P := P'
    have Q := Q'
    skip
    have B := B'
    clear P' Q' B'
    generalize wc = v at *
    obtain ⟨a0, a1, a2, a3, a4, a5, a6, a7, a8⟩ := id P; obtain ⟨b0, b1, b2, b3, b4⟩ := id Q; (try (obtain ⟨n0, n1, n2, n3, n4, n5, n6, n7, n8⟩ := id N)); (try (obtain ⟨m0, m1, m2, m3, m4, m5, m6, m7, m8⟩ := id M))
    go_wp2_with fail
    go_cut [9, 10] (fun s5 s6 wx => ∃ j : Nat, s5 = .pointer (some ⟨j, 0, none⟩) ∧ s6 = .int .i64 kz ∧ BoxL wx j k1 k2 k3 k4 ∧ BoxL wx jM k1 k2 k3 k4 ∧ Below w.heap.size w wx)
    case first =>
      refine wp_region_held_drew (S := (fun w' => w'.cell? ⟨w.heap.size, 0, none⟩ = some (.bool kn) ∧ w'.cell? ⟨w.heap.size, 1, none⟩ = some (.int .i64 lo) ∧ w'.cell? ⟨w.heap.size, 2, none⟩ = some (.int .i64 hi) ∧ w'.cell? ⟨w.heap.size, 3, none⟩ = some (.int .i64 a) ∧ w'.cell? ⟨w.heap.size + 1, 0, none⟩ = some (.int .i64 n) ∧ w'.cell? ⟨w.heap.size + 1, 1, none⟩ = some (.int .i64 d))) (by kernel_rfl) ?_ (fun hHeld => ?_)
      · simp (maxDischargeDepth := 6) [go_sem, *]
      clear a0 a1 a2 a3 a4 a5 a6 a7 a8 b0 b1 b2 b3 b4 ; (try clear n0 n1 n2 n3 n4 n5 n6 n7 n8); (try clear m0 m1 m2 m3 m4 m5 m6 m7 m8)
      replace P := P.drew
      replace Q := Q.drew
      replace B := B.drew
      (try replace M := M.drew)
      generalize v.drew = v at *
      obtain ⟨a0, a1, a2, a3, a4, a5, a6, a7, a8⟩ := id P; obtain ⟨b0, b1, b2, b3, b4⟩ := id Q; (try (obtain ⟨n0, n1, n2, n3, n4, n5, n6, n7, n8⟩ := id N)); (try (obtain ⟨m0, m1, m2, m3, m4, m5, m6, m7, m8⟩ := id M))
      refine wpAnyH_take (i := 0) (v := ?_) (by rw [List.getElem?_toArray]; rfl) (by kernel_rfl) (by kernel_rfl) (by kernel_rfl) (by intro _ _ _ h; exact h) (Or.inl ⟨by rfl, ?_⟩) (by assumption) ?_
      rotate_left
      · (intro w hSw; (try dsimp only at hSw); go_simp; all_goals with_reducible rfl)
      (try simp only [Act.put, List.setIfInBounds_toArray, List.set_cons_zero, List.set_cons_succ])
      refine wpAnyH_take (i := 2) (v := ?_) (by rw [List.getElem?_toArray]; rfl) (by kernel_rfl) (by kernel_rfl) (by kernel_rfl) (by intro _ _ _ h; exact h) (Or.inl ⟨by rfl, ?_⟩) (by assumption) ?_
      rotate_left
      · (intro w hSw; (try dsimp only at hSw); go_simp; all_goals with_reducible rfl)
      (try simp only [Act.put, List.setIfInBounds_toArray, List.set_cons_zero, List.set_cons_succ])
      refine wpAnyH_take (i := 4) (v := ?_) (by rw [List.getElem?_toArray]; rfl) (by kernel_rfl) (by kernel_rfl) (by kernel_rfl) (by intro _ _ _ h; exact h) (Or.inl ⟨by rfl, ?_⟩) (by assumption) ?_
      rotate_left
      · (intro w hSw; (try dsimp only at hSw); go_simp; all_goals with_reducible rfl)
      (try simp only [Act.put, List.setIfInBounds_toArray, List.set_cons_zero, List.set_cons_succ])
      refine wpAnyH_ready (rs := [1, 9]) (by kernel_rfl) (by simp) ?_
      refine (AllReadyH.cons (by rw [List.getElem?_toArray]; rfl) (fun K hK => ?_) (AllReadyH.cons (by rw [List.getElem?_toArray]; rfl) (fun K hK => ?_) AllReadyH.nil))
      · go_simp
        refine (toLocal_any _ _ _ _ _).mono ?_; rintro e v ⟨rfl, hb⟩; clear a0 a1 a2 a3 a4 a5 a6 a7 a8 b0 b1 b2 b3 b4 ; (try clear n0 n1 n2 n3 n4 n5 n6 n7 n8); (try clear m0 m1 m2 m3 m4 m5 m6 m7 m8); (replace P := P.below hb); (replace Q := Q.below hb); (try (replace N := N.below hb)); (try (replace M := M.below hb)); (replace B := B.trans (hb.mono B.size)); clear hb; obtain ⟨a0, a1, a2, a3, a4, a5, a6, a7, a8⟩ := id P; obtain ⟨b0, b1, b2, b3, b4⟩ := id Q; (try (obtain ⟨n0, n1, n2, n3, n4, n5, n6, n7, n8⟩ := id N)); (try (obtain ⟨m0, m1, m2, m3, m4, m5, m6, m7, m8⟩ := id M))
        (try go_wp2_with fail)
        refine hK.out _ _ ?_ (fun hHeld => ?_)
        · simp (maxDischargeDepth := 6) [go_sem, *]
        clear hK K
        (try simp only [Act.put, List.setIfInBounds_toArray, List.set_cons_zero, List.set_cons_succ])
        refine wpAnyH_ready (rs := [3, 9]) (by kernel_rfl) (by simp) ?_
        refine (AllReadyH.cons (by rw [List.getElem?_toArray]; rfl) (fun K hK => ?_) (AllReadyH.cons (by rw [List.getElem?_toArray]; rfl) (fun K hK => ?_) AllReadyH.nil))
        · go_simp
          refine (toDrift_any _ _ _).mono ?_; rintro e v ⟨rfl, hb⟩; clear a0 a1 a2 a3 a4 a5 a6 a7 a8 b0 b1 b2 b3 b4 ; (try clear n0 n1 n2 n3 n4 n5 n6 n7 n8); (try clear m0 m1 m2 m3 m4 m5 m6 m7 m8); (replace P := P.below hb); (replace Q := Q.below hb); (try (replace N := N.below hb)); (try (replace M := M.below hb)); (replace B := B.trans (hb.mono B.size)); clear hb; obtain ⟨a0, a1, a2, a3, a4, a5, a6, a7, a8⟩ := id P; obtain ⟨b0, b1, b2, b3, b4⟩ := id Q; (try (obtain ⟨n0, n1, n2, n3, n4, n5, n6, n7, n8⟩ := id N)); (try (obtain ⟨m0, m1, m2, m3, m4, m5, m6, m7, m8⟩ := id M))
          (try go_wp2_with fail)
          refine hK.out _ _ ?_ (fun hHeld => ?_)
          · simp (maxDischargeDepth := 6) [go_sem, *]
          clear hK K
          (try simp only [Act.put, List.setIfInBounds_toArray, List.set_cons_zero, List.set_cons_succ])
          refine wpAnyH_ready (rs := [5, 9]) (by kernel_rfl) (by simp) ?_
          refine (AllReadyH.cons (by rw [List.getElem?_toArray]; rfl) (fun K hK => ?_) (AllReadyH.cons (by rw [List.getElem?_toArray]; rfl) (fun K hK => ?_) AllReadyH.nil))
          · go_simp
            refine (CI _).mono ?_; rintro e v ⟨rfl, hb⟩; clear a0 a1 a2 a3 a4 a5 a6 a7 a8 b0 b1 b2 b3 b4 ; (try clear n0 n1 n2 n3 n4 n5 n6 n7 n8); (try clear m0 m1 m2 m3 m4 m5 m6 m7 m8); (replace P := P.below hb); (replace Q := Q.below hb); (try (replace N := N.below hb)); (try (replace M := M.below hb)); (replace B := B.trans (hb.mono B.size)); clear hb; obtain ⟨a0, a1, a2, a3, a4, a5, a6, a7, a8⟩ := id P; obtain ⟨b0, b1, b2, b3, b4⟩ := id Q; (try (obtain ⟨n0, n1, n2, n3, n4, n5, n6, n7, n8⟩ := id N)); (try (obtain ⟨m0, m1, m2, m3, m4, m5, m6, m7, m8⟩ := id M))
            (try go_wp2_with fail)
            refine hK.out _ _ ?_ (fun hHeld => ?_)
            · simp (maxDischargeDepth := 6) [go_sem, *]
            clear hK K
            (try simp only [Act.put, List.setIfInBounds_toArray, List.set_cons_zero, List.set_cons_succ])
            refine wpAnyH_take (i := 6) (v := ?_) (by rw [List.getElem?_toArray]; rfl) (by kernel_rfl) (by kernel_rfl) (by kernel_rfl) (by intro _ _ _ h; exact h) (Or.inl ⟨by rfl, ?_⟩) (by assumption) ?_
            rotate_left
            · (intro w hSw; (try dsimp only at hSw); go_simp; all_goals with_reducible rfl)
            (try simp only [Act.put, List.setIfInBounds_toArray, List.set_cons_zero, List.set_cons_succ])
            refine wpAnyH_take (i := 7) (v := ?_) (by rw [List.getElem?_toArray]; rfl) (by kernel_rfl) (by kernel_rfl) (by kernel_rfl) (by intro _ _ _ h; exact h) (Or.inl ⟨by rfl, ?_⟩) (by assumption) ?_
            rotate_left
            · (intro w hSw; (try dsimp only at hSw); go_simp; all_goals with_reducible rfl)
            (try simp only [Act.put, List.setIfInBounds_toArray, List.set_cons_zero, List.set_cons_succ])
            refine wpAnyH_take (i := 8) (v := ?_) (by rw [List.getElem?_toArray]; rfl) (by kernel_rfl) (by kernel_rfl) (by kernel_rfl) (by intro _ _ _ h; exact h) (Or.inl ⟨by rfl, ?_⟩) (by assumption) ?_
            rotate_left
            · (intro w hSw; (try dsimp only at hSw); go_simp; all_goals with_reducible rfl)
            (try simp only [Act.put, List.setIfInBounds_toArray, List.set_cons_zero, List.set_cons_succ])
            refine wpAnyH_ready (rs := [9]) (by kernel_rfl) (by simp) ?_
            refine (AllReadyH.cons (by rw [List.getElem?_toArray]; rfl) (fun K hK => ?_) AllReadyH.nil)
            go_simp
            (have N := BoxL.new v false 0 0 0 29); (have hj : w.heap.size + 1 < v.heap.size := b0); (try (have hjM : jM < v.heap.size := m0)); clear a0 a1 a2 a3 a4 a5 a6 a7 a8 b0 b1 b2 b3 b4 ; (try clear n0 n1 n2 n3 n4 n5 n6 n7 n8); (try clear m0 m1 m2 m3 m4 m5 m6 m7 m8); (replace P := P.alloc (.cells #[.bool false, .int .i64 0, .int .i64 0, .int .i64 0] 29)); (replace Q := Q.alloc (.cells #[.bool false, .int .i64 0, .int .i64 0, .int .i64 0] 29)); (try (replace M := M.alloc (.cells #[.bool false, .int .i64 0, .int .i64 0, .int .i64 0] 29))); (replace B := B.alloc B.size (.cells #[.bool false, .int .i64 0, .int .i64 0, .int .i64 0] 29)); (generalize v.alloc (.cells #[.bool false, .int .i64 0, .int .i64 0, .int .i64 0] 29) = v2 at *); obtain ⟨a0, a1, a2, a3, a4, a5, a6, a7, a8⟩ := id P; obtain ⟨b0, b1, b2, b3, b4⟩ := id Q; (try (obtain ⟨n0, n1, n2, n3, n4, n5, n6, n7, n8⟩ := id N)); (try (obtain ⟨m0, m1, m2, m3, m4, m5, m6, m7, m8⟩ := id M))
            refine hK.out _ _ ?_ (fun hHeld => ?_)
            · simp (maxDischargeDepth := 6) [go_sem, *]
            clear hK K
            (try simp only [Act.put, List.setIfInBounds_toArray, List.set_cons_zero, List.set_cons_succ])
            refine wpAnyH_ready (rs := [10]) (by kernel_rfl) (by simp) ?_
            refine (AllReadyH.cons (by rw [List.getElem?_toArray]; rfl) (fun K hK => ?_) AllReadyH.nil)
            go_simp
            refine hK.out _ _ ?_ (fun hHeld => ?_)
            · simp (maxDischargeDepth := 6) [go_sem, *]
            clear hK K
            (try simp only [Act.put, List.setIfInBounds_toArray, List.set_cons_zero, List.set_cons_succ])
            refine wpAnyH_take (i := 11) (v := ?_) (by rw [List.getElem?_toArray]; rfl) (by kernel_rfl) (by kernel_rfl) (by kernel_rfl) (by intro _ _ _ h; exact h) (Or.inl ⟨by rfl, ?_⟩) (by assumption) ?_
            rotate_left
            · (intro w hSw; (try dsimp only at hSw); go_simp; all_goals with_reducible rfl)
            (try simp only [Act.put, List.setIfInBounds_toArray, List.set_cons_zero, List.set_cons_succ])
            refine wpAnyH_done (by kernel_rfl) ?_ _
            go_wp2_with fail
            go_meet
            case rel => exact ⟨_, rfl, rfl, N.set k1 k2 k3 k4, M.setLO (by omega) k1 k2 k3 k4, Below.setL B (by omega) k1 k2 k3 k4⟩
          · go_simp
            (have N := BoxL.new v false 0 0 0 29); (have hj : w.heap.size + 1 < v.heap.size := b0); (try (have hjM : jM < v.heap.size := m0)); clear a0 a1 a2 a3 a4 a5 a6 a7 a8 b0 b1 b2 b3 b4 ; (try clear n0 n1 n2 n3 n4 n5 n6 n7 n8); (try clear m0 m1 m2 m3 m4 m5 m6 m7 m8); (replace P := P.alloc (.cells #[.bool false, .int .i64 0, .int .i64 0, .int .i64 0] 29)); (replace Q := Q.alloc (.cells #[.bool false, .int .i64 0, .int .i64 0, .int .i64 0] 29)); (try (replace M := M.alloc (.cells #[.bool false, .int .i64 0, .int .i64 0, .int .i64 0] 29))); (replace B := B.alloc B.size (.cells #[.bool false, .int .i64 0, .int .i64 0, .int .i64 0] 29)); (generalize v.alloc (.cells #[.bool false, .int .i64 0, .int .i64 0, .int .i64 0] 29) = v2 at *); obtain ⟨a0, a1, a2, a3, a4, a5, a6, a7, a8⟩ := id P; obtain ⟨b0, b1, b2, b3, b4⟩ := id Q; (try (obtain ⟨n0, n1, n2, n3, n4, n5, n6, n7, n8⟩ := id N)); (try (obtain ⟨m0, m1, m2, m3, m4, m5, m6, m7, m8⟩ := id M))
            refine hK.out _ _ ?_ (fun hHeld => ?_)
            · simp (maxDischargeDepth := 6) [go_sem, *]
            clear hK K
            (try simp only [Act.put, List.setIfInBounds_toArray, List.set_cons_zero, List.set_cons_succ])
            refine wpAnyH_ready (rs := [5]) (by kernel_rfl) (by simp) ?_
            refine (AllReadyH.cons (by rw [List.getElem?_toArray]; rfl) (fun K hK => ?_) AllReadyH.nil)
            go_simp
            refine (CI _).mono ?_; rintro e v ⟨rfl, hb⟩; clear a0 a1 a2 a3 a4 a5 a6 a7 a8 b0 b1 b2 b3 b4 ; (try clear n0 n1 n2 n3 n4 n5 n6 n7 n8); (try clear m0 m1 m2 m3 m4 m5 m6 m7 m8); (replace P := P.below hb); (replace Q := Q.below hb); (try (replace N := N.below hb)); (try (replace M := M.below hb)); (replace B := B.trans (hb.mono B.size)); clear hb; obtain ⟨a0, a1, a2, a3, a4, a5, a6, a7, a8⟩ := id P; obtain ⟨b0, b1, b2, b3, b4⟩ := id Q; (try (obtain ⟨n0, n1, n2, n3, n4, n5, n6, n7, n8⟩ := id N)); (try (obtain ⟨m0, m1, m2, m3, m4, m5, m6, m7, m8⟩ := id M))
            (try go_wp2_with fail)
            refine hK.out _ _ ?_ (fun hHeld => ?_)
            · simp (maxDischargeDepth := 6) [go_sem, *]
            clear hK K
            (try simp only [Act.put, List.setIfInBounds_toArray, List.set_cons_zero, List.set_cons_succ])
            refine wpAnyH_take (i := 6) (v := ?_) (by rw [List.getElem?_toArray]; rfl) (by kernel_rfl) (by kernel_rfl) (by kernel_rfl) (by intro _ _ _ h; exact h) (Or.inl ⟨by rfl, ?_⟩) (by assumption) ?_
            rotate_left
            · (intro w hSw; (try dsimp only at hSw); go_simp; all_goals with_reducible rfl)
            (try simp only [Act.put, List.setIfInBounds_toArray, List.set_cons_zero, List.set_cons_succ])
            refine wpAnyH_take (i := 7) (v := ?_) (by rw [List.getElem?_toArray]; rfl) (by kernel_rfl) (by kernel_rfl) (by kernel_rfl) (by intro _ _ _ h; exact h) (Or.inl ⟨by rfl, ?_⟩) (by assumption) ?_
            rotate_left
            · (intro w hSw; (try dsimp only at hSw); go_simp; all_goals with_reducible rfl)
            (try simp only [Act.put, List.setIfInBounds_toArray, List.set_cons_zero, List.set_cons_succ])
            refine wpAnyH_take (i := 8) (v := ?_) (by rw [List.getElem?_toArray]; rfl) (by kernel_rfl) (by kernel_rfl) (by kernel_rfl) (by intro _ _ _ h; exact h) (Or.inl ⟨by rfl, ?_⟩) (by assumption) ?_
            rotate_left
            · (intro w hSw; (try dsimp only at hSw); go_simp; all_goals with_reducible rfl)
            (try simp only [Act.put, List.setIfInBounds_toArray, List.set_cons_zero, List.set_cons_succ])
            refine wpAnyH_ready (rs := [10]) (by kernel_rfl) (by simp) ?_
            refine (AllReadyH.cons (by rw [List.getElem?_toArray]; rfl) (fun K hK => ?_) AllReadyH.nil)
            go_simp
            refine hK.out _ _ ?_ (fun hHeld => ?_)
            · simp (maxDischargeDepth := 6) [go_sem, *]
            clear hK K
            (try simp only [Act.put, List.setIfInBounds_toArray, List.set_cons_zero, List.set_cons_succ])
            refine wpAnyH_take (i := 11) (v := ?_) (by rw [List.getElem?_toArray]; rfl) (by kernel_rfl) (by kernel_rfl) (by kernel_rfl) (by intro _ _ _ h; exact h) (Or.inl ⟨by rfl, ?_⟩) (by assumption) ?_
            rotate_left
            · (intro w hSw; (try dsimp only at hSw); go_simp; all_goals with_reducible rfl)
            (try simp only [Act.put, List.setIfInBounds_toArray, List.set_cons_zero, List.set_cons_succ])
            refine wpAnyH_done (by kernel_rfl) ?_ _
            go_wp2_with fail
            go_meet
            case rel => exact ⟨_, rfl, rfl, N.set k1 k2 k3 k4, M.setLO (by omega) k1 k2 k3 k4, Below.setL B (by omega) k1 k2 k3 k4⟩
        · go_simp
          (have N := BoxL.new v false 0 0 0 29); (have hj : w.heap.size + 1 < v.heap.size := b0); (try (have hjM : jM < v.heap.size := m0)); clear a0 a1 a2 a3 a4 a5 a6 a7 a8 b0 b1 b2 b3 b4 ; (try clear n0 n1 n2 n3 n4 n5 n6 n7 n8); (try clear m0 m1 m2 m3 m4 m5 m6 m7 m8); (replace P := P.alloc (.cells #[.bool false, .int .i64 0, .int .i64 0, .int .i64 0] 29)); (replace Q := Q.alloc (.cells #[.bool false, .int .i64 0, .int .i64 0, .int .i64 0] 29)); (try (replace M := M.alloc (.cells #[.bool false, .int .i64 0, .int .i64 0, .int .i64 0] 29))); (replace B := B.alloc B.size (.cells #[.bool false, .int .i64 0, .int .i64 0, .int .i64 0] 29)); (generalize v.alloc (.cells #[.bool false, .int .i64 0, .int .i64 0, .int .i64 0] 29) = v2 at *); obtain ⟨a0, a1, a2, a3, a4, a5, a6, a7, a8⟩ := id P; obtain ⟨b0, b1, b2, b3, b4⟩ := id Q; (try (obtain ⟨n0, n1, n2, n3, n4, n5, n6, n7, n8⟩ := id N)); (try (obtain ⟨m0, m1, m2, m3, m4, m5, m6, m7, m8⟩ := id M))
          refine hK.out _ _ ?_ (fun hHeld => ?_)
          · simp (maxDischargeDepth := 6) [go_sem, *]
          clear hK K
          (try simp only [Act.put, List.setIfInBounds_toArray, List.set_cons_zero, List.set_cons_succ])
          refine wpAnyH_ready (rs := [3]) (by kernel_rfl) (by simp) ?_
          refine (AllReadyH.cons (by rw [List.getElem?_toArray]; rfl) (fun K hK => ?_) AllReadyH.nil)
          go_simp
          refine (toDrift_any _ _ _).mono ?_; rintro e v ⟨rfl, hb⟩; clear a0 a1 a2 a3 a4 a5 a6 a7 a8 b0 b1 b2 b3 b4 ; (try clear n0 n1 n2 n3 n4 n5 n6 n7 n8); (try clear m0 m1 m2 m3 m4 m5 m6 m7 m8); (replace P := P.below hb); (replace Q := Q.below hb); (try (replace N := N.below hb)); (try (replace M := M.below hb)); (replace B := B.trans (hb.mono B.size)); clear hb; obtain ⟨a0, a1, a2, a3, a4, a5, a6, a7, a8⟩ := id P; obtain ⟨b0, b1, b2, b3, b4⟩ := id Q; (try (obtain ⟨n0, n1, n2, n3, n4, n5, n6, n7, n8⟩ := id N)); (try (obtain ⟨m0, m1, m2, m3, m4, m5, m6, m7, m8⟩ := id M))
          (try go_wp2_with fail)
          refine hK.out _ _ ?_ (fun hHeld => ?_)
          · simp (maxDischargeDepth := 6) [go_sem, *]
          clear hK K
          (try simp only [Act.put, List.setIfInBounds_toArray, List.set_cons_zero, List.set_cons_succ])
          refine wpAnyH_ready (rs := [5]) (by kernel_rfl) (by simp) ?_
          refine (AllReadyH.cons (by rw [List.getElem?_toArray]; rfl) (fun K hK => ?_) AllReadyH.nil)
          go_simp
          refine (CI _).mono ?_; rintro e v ⟨rfl, hb⟩; clear a0 a1 a2 a3 a4 a5 a6 a7 a8 b0 b1 b2 b3 b4 ; (try clear n0 n1 n2 n3 n4 n5 n6 n7 n8); (try clear m0 m1 m2 m3 m4 m5 m6 m7 m8); (replace P := P.below hb); (replace Q := Q.below hb); (try (replace N := N.below hb)); (try (replace M := M.below hb)); (replace B := B.trans (hb.mono B.size)); clear hb; obtain ⟨a0, a1, a2, a3, a4, a5, a6, a7, a8⟩ := id P; obtain ⟨b0, b1, b2, b3, b4⟩ := id Q; (try (obtain ⟨n0, n1, n2, n3, n4, n5, n6, n7, n8⟩ := id N)); (try (obtain ⟨m0, m1, m2, m3, m4, m5, m6, m7, m8⟩ := id M))
          (try go_wp2_with fail)
          refine hK.out _ _ ?_ (fun hHeld => ?_)
          · simp (maxDischargeDepth := 6) [go_sem, *]
          clear hK K
          (try simp only [Act.put, List.setIfInBounds_toArray, List.set_cons_zero, List.set_cons_succ])
          refine wpAnyH_take (i := 6) (v := ?_) (by rw [List.getElem?_toArray]; rfl) (by kernel_rfl) (by kernel_rfl) (by kernel_rfl) (by intro _ _ _ h; exact h) (Or.inl ⟨by rfl, ?_⟩) (by assumption) ?_
          rotate_left
          · (intro w hSw; (try dsimp only at hSw); go_simp; all_goals with_reducible rfl)
          (try simp only [Act.put, List.setIfInBounds_toArray, List.set_cons_zero, List.set_cons_succ])
          refine wpAnyH_take (i := 7) (v := ?_) (by rw [List.getElem?_toArray]; rfl) (by kernel_rfl) (by kernel_rfl) (by kernel_rfl) (by intro _ _ _ h; exact h) (Or.inl ⟨by rfl, ?_⟩) (by assumption) ?_
          rotate_left
          · (intro w hSw; (try dsimp only at hSw); go_simp; all_goals with_reducible rfl)
          (try simp only [Act.put, List.setIfInBounds_toArray, List.set_cons_zero, List.set_cons_succ])
          refine wpAnyH_take (i := 8) (v := ?_) (by rw [List.getElem?_toArray]; rfl) (by kernel_rfl) (by kernel_rfl) (by kernel_rfl) (by intro _ _ _ h; exact h) (Or.inl ⟨by rfl, ?_⟩) (by assumption) ?_
          rotate_left
          · (intro w hSw; (try dsimp only at hSw); go_simp; all_goals with_reducible rfl)
          (try simp only [Act.put, List.setIfInBounds_toArray, List.set_cons_zero, List.set_cons_succ])
          refine wpAnyH_ready (rs := [10]) (by kernel_rfl) (by simp) ?_
          refine (AllReadyH.cons (by rw [List.getElem?_toArray]; rfl) (fun K hK => ?_) AllReadyH.nil)
          go_simp
          refine hK.out _ _ ?_ (fun hHeld => ?_)
          · simp (maxDischargeDepth := 6) [go_sem, *]
          clear hK K
          (try simp only [Act.put, List.setIfInBounds_toArray, List.set_cons_zero, List.set_cons_succ])
          refine wpAnyH_take (i := 11) (v := ?_) (by rw [List.getElem?_toArray]; rfl) (by kernel_rfl) (by kernel_rfl) (by kernel_rfl) (by intro _ _ _ h; exact h) (Or.inl ⟨by rfl, ?_⟩) (by assumption) ?_
          rotate_left
          · (intro w hSw; (try dsimp only at hSw); go_simp; all_goals with_reducible rfl)
          (try simp only [Act.put, List.setIfInBounds_toArray, List.set_cons_zero, List.set_cons_succ])
          refine wpAnyH_done (by kernel_rfl) ?_ _
          go_wp2_with fail
          go_meet
          case rel => exact ⟨_, rfl, rfl, N.set k1 k2 k3 k4, M.setLO (by omega) k1 k2 k3 k4, Below.setL B (by omega) k1 k2 k3 k4⟩
      · go_simp
        (have N := BoxL.new v false 0 0 0 29); (have hj : w.heap.size + 1 < v.heap.size := b0); (try (have hjM : jM < v.heap.size := m0)); clear a0 a1 a2 a3 a4 a5 a6 a7 a8 b0 b1 b2 b3 b4 ; (try clear n0 n1 n2 n3 n4 n5 n6 n7 n8); (try clear m0 m1 m2 m3 m4 m5 m6 m7 m8); (replace P := P.alloc (.cells #[.bool false, .int .i64 0, .int .i64 0, .int .i64 0] 29)); (replace Q := Q.alloc (.cells #[.bool false, .int .i64 0, .int .i64 0, .int .i64 0] 29)); (try (replace M := M.alloc (.cells #[.bool false, .int .i64 0, .int .i64 0, .int .i64 0] 29))); (replace B := B.alloc B.size (.cells #[.bool false, .int .i64 0, .int .i64 0, .int .i64 0] 29)); (generalize v.alloc (.cells #[.bool false, .int .i64 0, .int .i64 0, .int .i64 0] 29) = v2 at *); obtain ⟨a0, a1, a2, a3, a4, a5, a6, a7, a8⟩ := id P; obtain ⟨b0, b1, b2, b3, b4⟩ := id Q; (try (obtain ⟨n0, n1, n2, n3, n4, n5, n6, n7, n8⟩ := id N)); (try (obtain ⟨m0, m1, m2, m3, m4, m5, m6, m7, m8⟩ := id M))
        refine hK.out _ _ ?_ (fun hHeld => ?_)
        · simp (maxDischargeDepth := 6) [go_sem, *]
        clear hK K
        (try simp only [Act.put, List.setIfInBounds_toArray, List.set_cons_zero, List.set_cons_succ])
        refine wpAnyH_ready (rs := [1]) (by kernel_rfl) (by simp) ?_
        refine (AllReadyH.cons (by rw [List.getElem?_toArray]; rfl) (fun K hK => ?_) AllReadyH.nil)
        go_simp
        refine (toLocal_any _ _ _ _ _).mono ?_; rintro e v ⟨rfl, hb⟩; clear a0 a1 a2 a3 a4 a5 a6 a7 a8 b0 b1 b2 b3 b4 ; (try clear n0 n1 n2 n3 n4 n5 n6 n7 n8); (try clear m0 m1 m2 m3 m4 m5 m6 m7 m8); (replace P := P.below hb); (replace Q := Q.below hb); (try (replace N := N.below hb)); (try (replace M := M.below hb)); (replace B := B.trans (hb.mono B.size)); clear hb; obtain ⟨a0, a1, a2, a3, a4, a5, a6, a7, a8⟩ := id P; obtain ⟨b0, b1, b2, b3, b4⟩ := id Q; (try (obtain ⟨n0, n1, n2, n3, n4, n5, n6, n7, n8⟩ := id N)); (try (obtain ⟨m0, m1, m2, m3, m4, m5, m6, m7, m8⟩ := id M))
        (try go_wp2_with fail)
        refine hK.out _ _ ?_ (fun hHeld => ?_)
        · simp (maxDischargeDepth := 6) [go_sem, *]
        clear hK K
        (try simp only [Act.put, List.setIfInBounds_toArray, List.set_cons_zero, List.set_cons_succ])
        refine wpAnyH_ready (rs := [3]) (by kernel_rfl) (by simp) ?_
        refine (AllReadyH.cons (by rw [List.getElem?_toArray]; rfl) (fun K hK => ?_) AllReadyH.nil)
        go_simp
        refine (toDrift_any _ _ _).mono ?_; rintro e v ⟨rfl, hb⟩; clear a0 a1 a2 a3 a4 a5 a6 a7 a8 b0 b1 b2 b3 b4 ; (try clear n0 n1 n2 n3 n4 n5 n6 n7 n8); (try clear m0 m1 m2 m3 m4 m5 m6 m7 m8); (replace P := P.below hb); (replace Q := Q.below hb); (try (replace N := N.below hb)); (try (replace M := M.below hb)); (replace B := B.trans (hb.mono B.size)); clear hb; obtain ⟨a0, a1, a2, a3, a4, a5, a6, a7, a8⟩ := id P; obtain ⟨b0, b1, b2, b3, b4⟩ := id Q; (try (obtain ⟨n0, n1, n2, n3, n4, n5, n6, n7, n8⟩ := id N)); (try (obtain ⟨m0, m1, m2, m3, m4, m5, m6, m7, m8⟩ := id M))
        (try go_wp2_with fail)
        refine hK.out _ _ ?_ (fun hHeld => ?_)
        · simp (maxDischargeDepth := 6) [go_sem, *]
        clear hK K
        (try simp only [Act.put, List.setIfInBounds_toArray, List.set_cons_zero, List.set_cons_succ])
        refine wpAnyH_ready (rs := [5]) (by kernel_rfl) (by simp) ?_
        refine (AllReadyH.cons (by rw [List.getElem?_toArray]; rfl) (fun K hK => ?_) AllReadyH.nil)
        go_simp
        refine (CI _).mono ?_; rintro e v ⟨rfl, hb⟩; clear a0 a1 a2 a3 a4 a5 a6 a7 a8 b0 b1 b2 b3 b4 ; (try clear n0 n1 n2 n3 n4 n5 n6 n7 n8); (try clear m0 m1 m2 m3 m4 m5 m6 m7 m8); (replace P := P.below hb); (replace Q := Q.below hb); (try (replace N := N.below hb)); (try (replace M := M.below hb)); (replace B := B.trans (hb.mono B.size)); clear hb; obtain ⟨a0, a1, a2, a3, a4, a5, a6, a7, a8⟩ := id P; obtain ⟨b0, b1, b2, b3, b4⟩ := id Q; (try (obtain ⟨n0, n1, n2, n3, n4, n5, n6, n7, n8⟩ := id N)); (try (obtain ⟨m0, m1, m2, m3, m4, m5, m6, m7, m8⟩ := id M))
        (try go_wp2_with fail)
        refine hK.out _ _ ?_ (fun hHeld => ?_)
        · simp (maxDischargeDepth := 6) [go_sem, *]
        clear hK K
        (try simp only [Act.put, List.setIfInBounds_toArray, List.set_cons_zero, List.set_cons_succ])
        refine wpAnyH_take (i := 6) (v := ?_) (by rw [List.getElem?_toArray]; rfl) (by kernel_rfl) (by kernel_rfl) (by kernel_rfl) (by intro _ _ _ h; exact h) (Or.inl ⟨by rfl, ?_⟩) (by assumption) ?_
        rotate_left
        · (intro w hSw; (try dsimp only at hSw); go_simp; all_goals with_reducible rfl)
        (try simp only [Act.put, List.setIfInBounds_toArray, List.set_cons_zero, List.set_cons_succ])
        refine wpAnyH_take (i := 7) (v := ?_) (by rw [List.getElem?_toArray]; rfl) (by kernel_rfl) (by kernel_rfl) (by kernel_rfl) (by intro _ _ _ h; exact h) (Or.inl ⟨by rfl, ?_⟩) (by assumption) ?_
        rotate_left
        · (intro w hSw; (try dsimp only at hSw); go_simp; all_goals with_reducible rfl)
        (try simp only [Act.put, List.setIfInBounds_toArray, List.set_cons_zero, List.set_cons_succ])
        refine wpAnyH_take (i := 8) (v := ?_) (by rw [List.getElem?_toArray]; rfl) (by kernel_rfl) (by kernel_rfl) (by kernel_rfl) (by intro _ _ _ h; exact h) (Or.inl ⟨by rfl, ?_⟩) (by assumption) ?_
        rotate_left
        · (intro w hSw; (try dsimp only at hSw); go_simp; all_goals with_reducible rfl)
        (try simp only [Act.put, List.setIfInBounds_toArray, List.set_cons_zero, List.set_cons_succ])
        refine wpAnyH_ready (rs := [10]) (by kernel_rfl) (by simp) ?_
        refine (AllReadyH.cons (by rw [List.getElem?_toArray]; rfl) (fun K hK => ?_) AllReadyH.nil)
        go_simp
        refine hK.out _ _ ?_ (fun hHeld => ?_)
        · simp (maxDischargeDepth := 6) [go_sem, *]
        clear hK K
        (try simp only [Act.put, List.setIfInBounds_toArray, List.set_cons_zero, List.set_cons_succ])
        refine wpAnyH_take (i := 11) (v := ?_) (by rw [List.getElem?_toArray]; rfl) (by kernel_rfl) (by kernel_rfl) (by kernel_rfl) (by intro _ _ _ h; exact h) (Or.inl ⟨by rfl, ?_⟩) (by assumption) ?_
        rotate_left
        · (intro w hSw; (try dsimp only at hSw); go_simp; all_goals with_reducible rfl)
        (try simp only [Act.put, List.setIfInBounds_toArray, List.set_cons_zero, List.set_cons_succ])
        refine wpAnyH_done (by kernel_rfl) ?_ _
        go_wp2_with fail
        go_meet
        case rel => exact ⟨_, rfl, rfl, N.set k1 k2 k3 k4, M.setLO (by omega) k1 k2 k3 k4, Below.setL B (by omega) k1 k2 k3 k4⟩
    case rest =>
      obtain ⟨jN, rfl, rfl, N, M', B'⟩ := hcut
      clear P Q B a0 a1 a2 a3 a4 a5 a6 a7 a8 b0 b1 b2 b3 b4  m0 m1 m2 m3 m4 m5 m6 m7 m8 M
      obtain ⟨m0, m1, m2, m3, m4, m5, m6, m7, m8⟩ := id M'
      obtain ⟨n0, n1, n2, n3, n4, n5, n6, n7, n8⟩ := id N
      go_wp2_with fail
      refine (eqLocal_same _ _ _ _ _).mono ?_
      rintro e v5 ⟨rfl, hb⟩
      have B5 := B'.trans (hb.mono B'.size)
      clear hb
      go_wp2
      go_ret
      exact ⟨rfl, B5⟩
set_option maxHeartbeats 4000000 in
theorem lawLearn (lo hi c : Int) (w : World) (w1 : (Lit.int .i64 lo).wf = true) (w2 : (Lit.int .i64 hi).wf = true) (w3 : (Lit.int .i64 c).wf = true) :
    Calls Try.prog 6 #[.agg #[.int .i64 lo, .int .i64 hi], .int .i64 c] w fun e w' => e = .returned (.bool true) ∧ Below w.heap.size w w' := by
  clear w1 w2 w3
  have Q := Bx.new w lo hi 23
  have B : Below w.heap.size w (w.alloc (.cells #[.int .i64 lo, .int .i64 hi] 23)) := Below.alc _ _
  have CS := fun w' => specLearn_any lo hi c w'
  have CI := fun w' => implLearn_any lo hi c w'
  generalize sel (lnB lo hi c) lo = k2 at *
  generalize sel (lnB lo hi c) hi = k3 at *
  generalize sel (lnB lo hi c) c = k4 at *
  generalize lnB lo hi c = k1 at *
  go_enter Try.func6, Try.ntmps6
  go_wp2_with fail
  refine (toIval_any _ _ _).mono ?_
  rintro e v1 ⟨rfl, hb⟩
  replace Q := Q.below hb
  replace B := B.trans (hb.mono B.size)
  clear hb
  go_wp2_with fail
  refine (CS _).mono ?_
  rintro e v2 ⟨rfl, hb⟩
  replace Q := (Q.below hb).alloc (.cells #[.bool k1, .int .i64 k2, .int .i64 k3, .int .i64 k4] 29)
  replace B := B.trans (hb.mono B.size)
  clear hb
  have M := BoxL.new v2 k1 k2 k3 k4 29
  have B1 := B.alloc B.size (.cells #[.bool k1, .int .i64 k2, .int .i64 k3, .int .i64 k4] 29)
  obtain ⟨b0, b1, b2, b3, b4⟩ := id Q
  go_wp2_with fail
  refine (toIval_any _ _ _).mono ?_
  rintro e v3 ⟨rfl, hb⟩
  replace M := M.below hb
  replace B1 := B1.trans (hb.mono B1.size)
  clear hb Q b0 b1 b2 b3 b4
  go_wp2_with fail
  refine (CI _).mono ?_
  rintro e v4 ⟨rfl, hb⟩
  replace M := (M.below hb).alloc (.cells #[.bool k1, .int .i64 k2, .int .i64 k3, .int .i64 k4] 29)
  replace B1 := (B1.trans (hb.mono B1.size))
  have N := BoxL.new v4 k1 k2 k3 k4 29
  have B2 := B1.alloc B1.size (.cells #[.bool k1, .int .i64 k2, .int .i64 k3, .int .i64 k4] 29)
  clear hb
  obtain ⟨m0, m1, m2, m3, m4, m5, m6, m7, m8⟩ := id M
  go_wp2_with fail
  refine (eqLocal_same _ _ _ _ _).mono ?_
  rintro e v5 ⟨rfl, hb⟩
  have B3 := B2.trans (hb.mono B2.size)
  clear hb
  go_wp2
  go_ret
  exact ⟨rfl, B3⟩
end Go.Proofs.Ytenknfgdolhilaa
