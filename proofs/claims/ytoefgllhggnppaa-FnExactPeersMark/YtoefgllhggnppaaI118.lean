/- Contracts of PeersCarried. -/
import Derived.Test.YtoefgllhggnppaaI117
import Derived.Deep.RegionHeld3
import Derived.Deep.DeepCutAuto
import Derived.WalkKit
import Derived.WalkSpells
import Derived.WalkLawsBesides
import Derived.Deep.RegionHeld
namespace Go.Proofs.Ytoefgllhggnppaa
open Go.RowKit
set_option linter.unusedVariables false
theorem two_but (w : World) (j : Nat) (a b : Value) : But j w ((w.setCell ⟨j, 0, none⟩ a).setCell ⟨j, 1, none⟩ b) := ((But.refl j w).setCell 0 a).setCell 1 b
theorem Bx2.two {w : World} {j : Nat} {u v : Value} (h : Bx2 w j u v) (a b : Value) : Bx2 ((w.setCell ⟨j, 0, none⟩ a).setCell ⟨j, 1, none⟩ b) j a b := (h.set0 a).set1 b
set_option maxRecDepth 100000 in
set_option maxHeartbeats 8000000 in
theorem carried_any (x0 x1 x2 x3 : Int) (x4 : Bool) (n d x : Int) (w : World) :
    Calls Try.prog 51 #[.agg #[.int .i64 x0, .int .i64 x1, .int .i64 x2, .int .i64 x3, .bool x4], .agg #[.int .i64 n, .int .i64 d], .int .i64 x] w fun e w' => e = .returned (.tuple #[.agg #[.int .i64 (crL true x1 x2 x3 n d x), .int .i64 (crH true x1 x2 x3 n d x)], .bool (crC true x1 x2 x3 n d x == 0)]) ∧ Below w.heap.size w w' := by
  have CB := fun v => implCarryOn_any true x1 x2 x3 n d x v
  generalize crL true x1 x2 x3 n d x = U at *
  generalize crH true x1 x2 x3 n d x = D at *
  generalize crC true x1 x2 x3 n d x = C at *
  have P := ((Bx5.new w (.int .i64 x0) (.int .i64 x1) (.int .i64 x2) (.int .i64 x3) (.bool x4) 59).alloc (.cells #[.int .i64 n, .int .i64 d] 47)).alloc (.cells #[.int .i64 0, .int .i64 0] 33)
  have Q := (Bx2.new (w.alloc (.cells #[.int .i64 x0, .int .i64 x1, .int .i64 x2, .int .i64 x3, .bool x4] 59)) (.int .i64 n) (.int .i64 d) 47).alloc (.cells #[.int .i64 0, .int .i64 0] 33)
  have R := Bx2.new ((w.alloc (.cells #[.int .i64 x0, .int .i64 x1, .int .i64 x2, .int .i64 x3, .bool x4] 59)).alloc (.cells #[.int .i64 n, .int .i64 d] 47)) (.int .i64 0) (.int .i64 0) 33
  simp only [World.size_alloc] at Q R
  have B := ((Below.nw w (.cells #[.int .i64 x0, .int .i64 x1, .int .i64 x2, .int .i64 x3, .bool x4] 59)).alloc (by simp) (.cells #[.int .i64 n, .int .i64 d] 47)).alloc (by simp; omega) (.cells #[.int .i64 0, .int .i64 0] 33)
  go_enter Try.func51, Try.ntmps51
  go_upto_region 1 with fail
  generalize ((w.alloc (.cells #[.int .i64 x0, .int .i64 x1, .int .i64 x2, .int .i64 x3, .bool x4] 59)).alloc (.cells #[.int .i64 n, .int .i64 d] 47)).alloc (.cells #[.int .i64 0, .int .i64 0] 33) = v at *
  obtain ⟨a0, a1, a2, a3, a4, a5, a6, a7, a8, a9, b1⟩ := id P; obtain ⟨q0, q1, q2, q3, q4⟩ := id Q; obtain ⟨r0, r1, r2, r3, r4⟩ := id R; (try (obtain ⟨n0, n1, n2, n3, n4⟩ := id N))
  go_cut [8, 9] (fun s8 s9 wx => ∃ j : Nat, s8 = .pointer (some ⟨j, 0, none⟩) ∧ s9 = .int .i64 C ∧ Bx2 wx j (.int .i64 U) (.int .i64 D) ∧ w.heap.size + 2 < j ∧ Bx2 wx (w.heap.size + 2) (.int .i64 0) (.int .i64 0) ∧ Below w.heap.size w wx)
  case first =>
    refine wp_region_held_drew (S := (fun w' => w'.cell? ⟨w.heap.size, 1, none⟩ = some (.int .i64 x1) ∧ w'.cell? ⟨w.heap.size, 2, none⟩ = some (.int .i64 x2) ∧ w'.cell? ⟨w.heap.size, 3, none⟩ = some (.int .i64 x3) ∧ w'.cell? ⟨w.heap.size + 1, 0, none⟩ = some (.int .i64 n) ∧ w'.cell? ⟨w.heap.size + 1, 1, none⟩ = some (.int .i64 d))) (by kernel_rfl) ?_ (fun hHeld => ?_)
    · first | exact ⟨a2, a3, a4, q1, q2⟩ | (simp (maxDischargeDepth := 6) [go_sem, *]; done)
    clear a0 a1 a2 a3 a4 a5 a6 a7 a8 a9 b1 q0 q1 q2 q3 q4 r0 r1 r2 r3 r4; (try clear n0 n1 n2 n3 n4)
    replace P := P.drew
    replace Q := Q.drew
    replace R := R.drew
    replace B := Below.drew B
    generalize v.drew = v at *
    obtain ⟨a0, a1, a2, a3, a4, a5, a6, a7, a8, a9, b1⟩ := id P; obtain ⟨q0, q1, q2, q3, q4⟩ := id Q; obtain ⟨r0, r1, r2, r3, r4⟩ := id R; (try (obtain ⟨n0, n1, n2, n3, n4⟩ := id N))
    refine wpAnyH_take (i := 0) (v := ?_) (by rw [List.getElem?_toArray]; rfl) (by kernel_rfl) (by kernel_rfl) (by kernel_rfl) (by intro _ _ _ h; exact h) (Or.inl ⟨by rfl, ?_⟩) (by assumption) ?_
    rotate_left
    · (intro w hSw; (try dsimp only at hSw); go_simp; all_goals with_reducible rfl)
    (try simp only [Act.put, List.setIfInBounds_toArray, List.set_cons_zero, List.set_cons_succ])
    refine wpAnyH_take (i := 1) (v := ?_) (by rw [List.getElem?_toArray]; rfl) (by kernel_rfl) (by kernel_rfl) (by kernel_rfl) (by intro _ _ _ h; exact h) (Or.inl ⟨by rfl, ?_⟩) (by assumption) ?_
    rotate_left
    · (intro w hSw; (try dsimp only at hSw); go_simp; all_goals with_reducible rfl)
    (try simp only [Act.put, List.setIfInBounds_toArray, List.set_cons_zero, List.set_cons_succ])
    refine wpAnyH_take (i := 2) (v := ?_) (by rw [List.getElem?_toArray]; rfl) (by kernel_rfl) (by kernel_rfl) (by kernel_rfl) (by intro _ _ _ h; exact h) (Or.inl ⟨by rfl, ?_⟩) (by assumption) ?_
    rotate_left
    · (intro w hSw; (try dsimp only at hSw); go_simp; all_goals with_reducible rfl)
    (try simp only [Act.put, List.setIfInBounds_toArray, List.set_cons_zero, List.set_cons_succ])
    refine wpAnyH_take (i := 3) (v := ?_) (by rw [List.getElem?_toArray]; rfl) (by kernel_rfl) (by kernel_rfl) (by kernel_rfl) (by intro _ _ _ h; exact h) (Or.inl ⟨by rfl, ?_⟩) (by assumption) ?_
    rotate_left
    · (intro w hSw; (try dsimp only at hSw); go_simp; all_goals with_reducible rfl)
    (try simp only [Act.put, List.setIfInBounds_toArray, List.set_cons_zero, List.set_cons_succ])
    refine wpAnyH_take (i := 5) (v := ?_) (by rw [List.getElem?_toArray]; rfl) (by kernel_rfl) (by kernel_rfl) (by kernel_rfl) (by intro _ _ _ h; exact h) (Or.inl ⟨by rfl, ?_⟩) (by assumption) ?_
    rotate_left
    · (intro w hSw; (try dsimp only at hSw); go_simp; all_goals with_reducible rfl)
    (try simp only [Act.put, List.setIfInBounds_toArray, List.set_cons_zero, List.set_cons_succ])
    refine wpAnyH_take (i := 6) (v := ?_) (by rw [List.getElem?_toArray]; rfl) (by kernel_rfl) (by kernel_rfl) (by kernel_rfl) (by intro _ _ _ h; exact h) (Or.inl ⟨by rfl, ?_⟩) (by assumption) ?_
    rotate_left
    · (intro w hSw; (try dsimp only at hSw); go_simp; all_goals with_reducible rfl)
    (try simp only [Act.put, List.setIfInBounds_toArray, List.set_cons_zero, List.set_cons_succ])
    refine wpAnyH_ready (rs := [4, 11]) (by kernel_rfl) (by simp) ?_
    refine (AllReadyH.cons (by rw [List.getElem?_toArray]; rfl) (fun K hK => ?_) (AllReadyH.cons (by rw [List.getElem?_toArray]; rfl) (fun K hK => ?_) AllReadyH.nil))
    · go_simp
      refine (knownAt_any _ _ _ _).mono ?_; rintro e v ⟨rfl, hb⟩; clear a0 a1 a2 a3 a4 a5 a6 a7 a8 a9 b1 q0 q1 q2 q3 q4 r0 r1 r2 r3 r4; (try clear n0 n1 n2 n3 n4); (replace P := P.below hb); (replace Q := Q.below hb); (replace R := R.below hb); (try (replace N := N.below hb)); (replace B := B.trans (hb.mono B.size)); clear hb; obtain ⟨a0, a1, a2, a3, a4, a5, a6, a7, a8, a9, b1⟩ := id P; obtain ⟨q0, q1, q2, q3, q4⟩ := id Q; obtain ⟨r0, r1, r2, r3, r4⟩ := id R; (try (obtain ⟨n0, n1, n2, n3, n4⟩ := id N))
      (try go_wp2_with fail)
      refine hK.out _ _ ?_ (fun hHeld => ?_)
      · first | exact ⟨a2, a3, a4, q1, q2⟩ | (simp (maxDischargeDepth := 6) [go_sem, *]; done)
      clear hK K
      (try simp only [Act.put, List.setIfInBounds_toArray, List.set_cons_zero, List.set_cons_succ])
      refine wpAnyH_ready (rs := [7, 11]) (by kernel_rfl) (by simp) ?_
      refine (AllReadyH.cons (by rw [List.getElem?_toArray]; rfl) (fun K hK => ?_) (AllReadyH.cons (by rw [List.getElem?_toArray]; rfl) (fun K hK => ?_) AllReadyH.nil))
      · go_simp
        refine (CB _).mono ?_; rintro e v ⟨rfl, hb⟩; clear a0 a1 a2 a3 a4 a5 a6 a7 a8 a9 b1 q0 q1 q2 q3 q4 r0 r1 r2 r3 r4; (try clear n0 n1 n2 n3 n4); (replace P := P.below hb); (replace Q := Q.below hb); (replace R := R.below hb); (try (replace N := N.below hb)); (replace B := B.trans (hb.mono B.size)); clear hb; obtain ⟨a0, a1, a2, a3, a4, a5, a6, a7, a8, a9, b1⟩ := id P; obtain ⟨q0, q1, q2, q3, q4⟩ := id Q; obtain ⟨r0, r1, r2, r3, r4⟩ := id R; (try (obtain ⟨n0, n1, n2, n3, n4⟩ := id N))
        (try go_wp2_with fail)
        refine hK.out _ _ ?_ (fun hHeld => ?_)
        · first | exact ⟨a2, a3, a4, q1, q2⟩ | (simp (maxDischargeDepth := 6) [go_sem, *]; done)
        clear hK K
        (try simp only [Act.put, List.setIfInBounds_toArray, List.set_cons_zero, List.set_cons_succ])
        refine wpAnyH_take (i := 8) (v := ?_) (by rw [List.getElem?_toArray]; rfl) (by kernel_rfl) (by kernel_rfl) (by kernel_rfl) (by intro _ _ _ h; exact h) (Or.inl ⟨by rfl, ?_⟩) (by assumption) ?_
        rotate_left
        · (intro w hSw; (try dsimp only at hSw); go_simp; all_goals with_reducible rfl)
        (try simp only [Act.put, List.setIfInBounds_toArray, List.set_cons_zero, List.set_cons_succ])
        refine wpAnyH_take (i := 9) (v := ?_) (by rw [List.getElem?_toArray]; rfl) (by kernel_rfl) (by kernel_rfl) (by kernel_rfl) (by intro _ _ _ h; exact h) (Or.inl ⟨by rfl, ?_⟩) (by assumption) ?_
        rotate_left
        · (intro w hSw; (try dsimp only at hSw); go_simp; all_goals with_reducible rfl)
        (try simp only [Act.put, List.setIfInBounds_toArray, List.set_cons_zero, List.set_cons_succ])
        refine wpAnyH_take (i := 10) (v := ?_) (by rw [List.getElem?_toArray]; rfl) (by kernel_rfl) (by kernel_rfl) (by kernel_rfl) (by intro _ _ _ h; exact h) (Or.inl ⟨by rfl, ?_⟩) (by assumption) ?_
        rotate_left
        · (intro w hSw; (try dsimp only at hSw); go_simp; all_goals with_reducible rfl)
        (try simp only [Act.put, List.setIfInBounds_toArray, List.set_cons_zero, List.set_cons_succ])
        refine wpAnyH_ready (rs := [11]) (by kernel_rfl) (by simp) ?_
        refine (AllReadyH.cons (by rw [List.getElem?_toArray]; rfl) (fun K hK => ?_) AllReadyH.nil)
        go_simp
        (have N := Bx2.new v (.int .i64 0) (.int .i64 0) 33); (have hj : w.heap.size + 2 < v.heap.size := r0); clear a0 a1 a2 a3 a4 a5 a6 a7 a8 a9 b1 q0 q1 q2 q3 q4 r0 r1 r2 r3 r4; (try clear n0 n1 n2 n3 n4); (replace P := P.alloc (.cells #[.int .i64 0, .int .i64 0] 33)); (replace Q := Q.alloc (.cells #[.int .i64 0, .int .i64 0] 33)); (replace R := R.alloc (.cells #[.int .i64 0, .int .i64 0] 33)); (replace B := B.alloc B.size (.cells #[.int .i64 0, .int .i64 0] 33)); (generalize v.alloc (.cells #[.int .i64 0, .int .i64 0] 33) = v2 at *); obtain ⟨a0, a1, a2, a3, a4, a5, a6, a7, a8, a9, b1⟩ := id P; obtain ⟨q0, q1, q2, q3, q4⟩ := id Q; obtain ⟨r0, r1, r2, r3, r4⟩ := id R; (try (obtain ⟨n0, n1, n2, n3, n4⟩ := id N))
        refine hK.out _ _ ?_ (fun hHeld => ?_)
        · first | exact ⟨a2, a3, a4, q1, q2⟩ | (simp (maxDischargeDepth := 6) [go_sem, *]; done)
        clear hK K
        (try simp only [Act.put, List.setIfInBounds_toArray, List.set_cons_zero, List.set_cons_succ])
        refine wpAnyH_ready (rs := [12]) (by kernel_rfl) (by simp) ?_
        refine (AllReadyH.cons (by rw [List.getElem?_toArray]; rfl) (fun K hK => ?_) AllReadyH.nil)
        go_simp
        refine hK.out _ _ ?_ (fun hHeld => ?_)
        · first | exact ⟨a2, a3, a4, q1, q2⟩ | (simp (maxDischargeDepth := 6) [go_sem, *]; done)
        clear hK K
        (try simp only [Act.put, List.setIfInBounds_toArray, List.set_cons_zero, List.set_cons_succ])
        refine wpAnyH_take (i := 13) (v := ?_) (by rw [List.getElem?_toArray]; rfl) (by kernel_rfl) (by kernel_rfl) (by kernel_rfl) (by intro _ _ _ h; exact h) (Or.inl ⟨by rfl, ?_⟩) (by assumption) ?_
        rotate_left
        · (intro w hSw; (try dsimp only at hSw); go_simp; all_goals with_reducible rfl)
        (try simp only [Act.put, List.setIfInBounds_toArray, List.set_cons_zero, List.set_cons_succ])
        refine wpAnyH_done (by kernel_rfl) ?_ _
        go_wp2_with fail
        go_meet
        case rel => exact ⟨_, rfl, rfl, N.two _ _, hj, R.but (two_but _ _ _ _) (by omega), B.trans ((two_but _ _ _ _).below (by omega) B.size)⟩
      · go_simp
        (have N := Bx2.new v (.int .i64 0) (.int .i64 0) 33); (have hj : w.heap.size + 2 < v.heap.size := r0); clear a0 a1 a2 a3 a4 a5 a6 a7 a8 a9 b1 q0 q1 q2 q3 q4 r0 r1 r2 r3 r4; (try clear n0 n1 n2 n3 n4); (replace P := P.alloc (.cells #[.int .i64 0, .int .i64 0] 33)); (replace Q := Q.alloc (.cells #[.int .i64 0, .int .i64 0] 33)); (replace R := R.alloc (.cells #[.int .i64 0, .int .i64 0] 33)); (replace B := B.alloc B.size (.cells #[.int .i64 0, .int .i64 0] 33)); (generalize v.alloc (.cells #[.int .i64 0, .int .i64 0] 33) = v2 at *); obtain ⟨a0, a1, a2, a3, a4, a5, a6, a7, a8, a9, b1⟩ := id P; obtain ⟨q0, q1, q2, q3, q4⟩ := id Q; obtain ⟨r0, r1, r2, r3, r4⟩ := id R; (try (obtain ⟨n0, n1, n2, n3, n4⟩ := id N))
        refine hK.out _ _ ?_ (fun hHeld => ?_)
        · first | exact ⟨a2, a3, a4, q1, q2⟩ | (simp (maxDischargeDepth := 6) [go_sem, *]; done)
        clear hK K
        (try simp only [Act.put, List.setIfInBounds_toArray, List.set_cons_zero, List.set_cons_succ])
        refine wpAnyH_ready (rs := [7]) (by kernel_rfl) (by simp) ?_
        refine (AllReadyH.cons (by rw [List.getElem?_toArray]; rfl) (fun K hK => ?_) AllReadyH.nil)
        go_simp
        refine (CB _).mono ?_; rintro e v ⟨rfl, hb⟩; clear a0 a1 a2 a3 a4 a5 a6 a7 a8 a9 b1 q0 q1 q2 q3 q4 r0 r1 r2 r3 r4; (try clear n0 n1 n2 n3 n4); (replace P := P.below hb); (replace Q := Q.below hb); (replace R := R.below hb); (try (replace N := N.below hb)); (replace B := B.trans (hb.mono B.size)); clear hb; obtain ⟨a0, a1, a2, a3, a4, a5, a6, a7, a8, a9, b1⟩ := id P; obtain ⟨q0, q1, q2, q3, q4⟩ := id Q; obtain ⟨r0, r1, r2, r3, r4⟩ := id R; (try (obtain ⟨n0, n1, n2, n3, n4⟩ := id N))
        (try go_wp2_with fail)
        refine hK.out _ _ ?_ (fun hHeld => ?_)
        · first | exact ⟨a2, a3, a4, q1, q2⟩ | (simp (maxDischargeDepth := 6) [go_sem, *]; done)
        clear hK K
        (try simp only [Act.put, List.setIfInBounds_toArray, List.set_cons_zero, List.set_cons_succ])
        refine wpAnyH_take (i := 8) (v := ?_) (by rw [List.getElem?_toArray]; rfl) (by kernel_rfl) (by kernel_rfl) (by kernel_rfl) (by intro _ _ _ h; exact h) (Or.inl ⟨by rfl, ?_⟩) (by assumption) ?_
        rotate_left
        · (intro w hSw; (try dsimp only at hSw); go_simp; all_goals with_reducible rfl)
        (try simp only [Act.put, List.setIfInBounds_toArray, List.set_cons_zero, List.set_cons_succ])
        refine wpAnyH_take (i := 9) (v := ?_) (by rw [List.getElem?_toArray]; rfl) (by kernel_rfl) (by kernel_rfl) (by kernel_rfl) (by intro _ _ _ h; exact h) (Or.inl ⟨by rfl, ?_⟩) (by assumption) ?_
        rotate_left
        · (intro w hSw; (try dsimp only at hSw); go_simp; all_goals with_reducible rfl)
        (try simp only [Act.put, List.setIfInBounds_toArray, List.set_cons_zero, List.set_cons_succ])
        refine wpAnyH_take (i := 10) (v := ?_) (by rw [List.getElem?_toArray]; rfl) (by kernel_rfl) (by kernel_rfl) (by kernel_rfl) (by intro _ _ _ h; exact h) (Or.inl ⟨by rfl, ?_⟩) (by assumption) ?_
        rotate_left
        · (intro w hSw; (try dsimp only at hSw); go_simp; all_goals with_reducible rfl)
        (try simp only [Act.put, List.setIfInBounds_toArray, List.set_cons_zero, List.set_cons_succ])
        refine wpAnyH_ready (rs := [12]) (by kernel_rfl) (by simp) ?_
        refine (AllReadyH.cons (by rw [List.getElem?_toArray]; rfl) (fun K hK => ?_) AllReadyH.nil)
        go_simp
        refine hK.out _ _ ?_ (fun hHeld => ?_)
        · first | exact ⟨a2, a3, a4, q1, q2⟩ | (simp (maxDischargeDepth := 6) [go_sem, *]; done)
        clear hK K
        (try simp only [Act.put, List.setIfInBounds_toArray, List.set_cons_zero, List.set_cons_succ])
        refine wpAnyH_take (i := 13) (v := ?_) (by rw [List.getElem?_toArray]; rfl) (by kernel_rfl) (by kernel_rfl) (by kernel_rfl) (by intro _ _ _ h; exact h) (Or.inl ⟨by rfl, ?_⟩) (by assumption) ?_
        rotate_left
        · (intro w hSw; (try dsimp only at hSw); go_simp; all_goals with_reducible rfl)
        (try simp only [Act.put, List.setIfInBounds_toArray, List.set_cons_zero, List.set_cons_succ])
        refine wpAnyH_done (by kernel_rfl) ?_ _
        go_wp2_with fail
        go_meet
        case rel => exact ⟨_, rfl, rfl, N.two _ _, hj, R.but (two_but _ _ _ _) (by omega), B.trans ((two_but _ _ _ _).below (by omega) B.size)⟩
    · go_simp
      (have N := Bx2.new v (.int .i64 0) (.int .i64 0) 33); (have hj : w.heap.size + 2 < v.heap.size := r0); clear a0 a1 a2 a3 a4 a5 a6 a7 a8 a9 b1 q0 q1 q2 q3 q4 r0 r1 r2 r3 r4; (try clear n0 n1 n2 n3 n4); (replace P := P.alloc (.cells #[.int .i64 0, .int .i64 0] 33)); (replace Q := Q.alloc (.cells #[.int .i64 0, .int .i64 0] 33)); (replace R := R.alloc (.cells #[.int .i64 0, .int .i64 0] 33)); (replace B := B.alloc B.size (.cells #[.int .i64 0, .int .i64 0] 33)); (generalize v.alloc (.cells #[.int .i64 0, .int .i64 0] 33) = v2 at *); obtain ⟨a0, a1, a2, a3, a4, a5, a6, a7, a8, a9, b1⟩ := id P; obtain ⟨q0, q1, q2, q3, q4⟩ := id Q; obtain ⟨r0, r1, r2, r3, r4⟩ := id R; (try (obtain ⟨n0, n1, n2, n3, n4⟩ := id N))
      refine hK.out _ _ ?_ (fun hHeld => ?_)
      · first | exact ⟨a2, a3, a4, q1, q2⟩ | (simp (maxDischargeDepth := 6) [go_sem, *]; done)
      clear hK K
      (try simp only [Act.put, List.setIfInBounds_toArray, List.set_cons_zero, List.set_cons_succ])
      refine wpAnyH_ready (rs := [4]) (by kernel_rfl) (by simp) ?_
      refine (AllReadyH.cons (by rw [List.getElem?_toArray]; rfl) (fun K hK => ?_) AllReadyH.nil)
      go_simp
      refine (knownAt_any _ _ _ _).mono ?_; rintro e v ⟨rfl, hb⟩; clear a0 a1 a2 a3 a4 a5 a6 a7 a8 a9 b1 q0 q1 q2 q3 q4 r0 r1 r2 r3 r4; (try clear n0 n1 n2 n3 n4); (replace P := P.below hb); (replace Q := Q.below hb); (replace R := R.below hb); (try (replace N := N.below hb)); (replace B := B.trans (hb.mono B.size)); clear hb; obtain ⟨a0, a1, a2, a3, a4, a5, a6, a7, a8, a9, b1⟩ := id P; obtain ⟨q0, q1, q2, q3, q4⟩ := id Q; obtain ⟨r0, r1, r2, r3, r4⟩ := id R; (try (obtain ⟨n0, n1, n2, n3, n4⟩ := id N))
      (try go_wp2_with fail)
      refine hK.out _ _ ?_ (fun hHeld => ?_)
      · first | exact ⟨a2, a3, a4, q1, q2⟩ | (simp (maxDischargeDepth := 6) [go_sem, *]; done)
      clear hK K
      (try simp only [Act.put, List.setIfInBounds_toArray, List.set_cons_zero, List.set_cons_succ])
      refine wpAnyH_ready (rs := [7]) (by kernel_rfl) (by simp) ?_
      refine (AllReadyH.cons (by rw [List.getElem?_toArray]; rfl) (fun K hK => ?_) AllReadyH.nil)
      go_simp
      refine (CB _).mono ?_; rintro e v ⟨rfl, hb⟩; clear a0 a1 a2 a3 a4 a5 a6 a7 a8 a9 b1 q0 q1 q2 q3 q4 r0 r1 r2 r3 r4; (try clear n0 n1 n2 n3 n4); (replace P := P.below hb); (replace Q := Q.below hb); (replace R := R.below hb); (try (replace N := N.below hb)); (replace B := B.trans (hb.mono B.size)); clear hb; obtain ⟨a0, a1, a2, a3, a4, a5, a6, a7, a8, a9, b1⟩ := id P; obtain ⟨q0, q1, q2, q3, q4⟩ := id Q; obtain ⟨r0, r1, r2, r3, r4⟩ := id R; (try (obtain ⟨n0, n1, n2, n3, n4⟩ := id N))
      (try go_wp2_with fail)
      refine hK.out _ _ ?_ (fun hHeld => ?_)
      · first | exact ⟨a2, a3, a4, q1, q2⟩ | (simp (maxDischargeDepth := 6) [go_sem, *]; done)
      clear hK K
      (try simp only [Act.put, List.setIfInBounds_toArray, List.set_cons_zero, List.set_cons_succ])
      refine wpAnyH_take (i := 8) (v := ?_) (by rw [List.getElem?_toArray]; rfl) (by kernel_rfl) (by kernel_rfl) (by kernel_rfl) (by intro _ _ _ h; exact h) (Or.inl ⟨by rfl, ?_⟩) (by assumption) ?_
      rotate_left
      · (intro w hSw; (try dsimp only at hSw); go_simp; all_goals with_reducible rfl)
      (try simp only [Act.put, List.setIfInBounds_toArray, List.set_cons_zero, List.set_cons_succ])
      refine wpAnyH_take (i := 9) (v := ?_) (by rw [List.getElem?_toArray]; rfl) (by kernel_rfl) (by kernel_rfl) (by kernel_rfl) (by intro _ _ _ h; exact h) (Or.inl ⟨by rfl, ?_⟩) (by assumption) ?_
      rotate_left
      · (intro w hSw; (try dsimp only at hSw); go_simp; all_goals with_reducible rfl)
      (try simp only [Act.put, List.setIfInBounds_toArray, List.set_cons_zero, List.set_cons_succ])
      refine wpAnyH_take (i := 10) (v := ?_) (by rw [List.getElem?_toArray]; rfl) (by kernel_rfl) (by kernel_rfl) (by kernel_rfl) (by intro _ _ _ h; exact h) (Or.inl ⟨by rfl, ?_⟩) (by assumption) ?_
      rotate_left
      · (intro w hSw; (try dsimp only at hSw); go_simp; all_goals with_reducible rfl)
      (try simp only [Act.put, List.setIfInBounds_toArray, List.set_cons_zero, List.set_cons_succ])
      refine wpAnyH_ready (rs := [12]) (by kernel_rfl) (by simp) ?_
      refine (AllReadyH.cons (by rw [List.getElem?_toArray]; rfl) (fun K hK => ?_) AllReadyH.nil)
      go_simp
      refine hK.out _ _ ?_ (fun hHeld => ?_)
      · first | exact ⟨a2, a3, a4, q1, q2⟩ | (simp (maxDischargeDepth := 6) [go_sem, *]; done)
      clear hK K
      (try simp only [Act.put, List.setIfInBounds_toArray, List.set_cons_zero, List.set_cons_succ])
      refine wpAnyH_take (i := 13) (v := ?_) (by rw [List.getElem?_toArray]; rfl) (by kernel_rfl) (by kernel_rfl) (by kernel_rfl) (by intro _ _ _ h; exact h) (Or.inl ⟨by rfl, ?_⟩) (by assumption) ?_
      rotate_left
      · (intro w hSw; (try dsimp only at hSw); go_simp; all_goals with_reducible rfl)
      (try simp only [Act.put, List.setIfInBounds_toArray, List.set_cons_zero, List.set_cons_succ])
      refine wpAnyH_done (by kernel_rfl) ?_ _
      go_wp2_with fail
      go_meet
      case rel => exact ⟨_, rfl, rfl, N.two _ _, hj, R.but (two_but _ _ _ _) (by omega), B.trans ((two_but _ _ _ _).below (by omega) B.size)⟩
  case rest =>
    obtain ⟨j, rfl, rfl, N, hj, R', B'⟩ := hcut
    clear P Q R B a0 a1 a2 a3 a4 a5 a6 a7 a8 a9 b1 q0 q1 q2 q3 q4 r0 r1 r2 r3 r4
    obtain ⟨r0, r1, r2, r3, r4⟩ := id R'
    obtain ⟨n0, n1, n2, n3, n4⟩ := id N
    go_wp2_with fail
    exact bodyPost_ret (v := (.tuple #[.agg #[.int .i64 U, .int .i64 D], .bool (C == 0)])) (by simp (maxDischargeDepth := 6) [results, Try.results51, go_sem, *]) rfl ⟨rfl, B'.trans ((two_but _ _ _ _).below (by omega) B'.size)⟩
set_option maxRecDepth 100000 in
set_option maxHeartbeats 16000000 in
theorem specPeersCarried_any (a : Option Addr) (m c : Nat) (M : Nat → PT) (n d x y : Int) (w : World) (hm : m ≤ maxLen) (hs : SrcC w a (m * 5) (MFPeer M)) :
    Calls Try.prog 26 #[.slice a m c, .agg #[.int .i64 n, .int .i64 d], .int .i64 x, .int .i64 y] w fun e w' => ∃ v0 v1, e = .returned (.tuple #[v0, v1]) ∧ w'.ownsRow w.heap.size 33 2 v0 ((caL M m n d x y).map cV).length (vrow ((caL M m n d x y).map cV)) ∧ w'.ownsRow w.heap.size 3 1 v1 ((caL M m n d x y).map cI).length (irow ((caL M m n d x y).map cI)) ∧ Below w.heap.size w w' := by
  have HS : Hid (SrcC w a (m * 5) (MFPeer M)) := hs
  have HPL : Hid (∀ k, k < (frL M m x y).length → ∃ P : Nat, gI (frL M m x y) k = (P : Int) ∧ P < m) := fun k hk => frL_place hk
  have hFl := PeersFresh_len M m x y
  have HCL : Hid (caL M m n d x y = caK M n d x (frL M m x y) (frL M m x y).length) := rfl
  have C1 := fun (v : World) (hb : Below w.heap.size w v) => specPeersFresh_any a m c M x y v hm (HS.out.below hb)
  have Q := Bx2.new w (.int .i64 n) (.int .i64 d) 47
  have B := Below.nw w (.cells #[.int .i64 n, .int .i64 d] 47)
  have hmm : m ≤ 9223372036854775807 := hm
  clear hs
  rw [HCL.out]
  generalize frL M m x y = Fr at *
  clear HCL
  go_enter Try.func26, Try.ntmps26
  go_upto_region 1 with fail
  have hw0 : (w.alloc (.cells #[.int .i64 n, .int .i64 d] 47)).heap.size = w.heap.size + 1 := by simp
  generalize w.alloc (.cells #[.int .i64 n, .int .i64 d] 47) = w0 at *
  have A1 := Below.nw w0 (.cells #[] 33)
  have O1 := made_ival w0
  have A2 := Below.nw (w0.alloc (.cells #[] 33)) (.cells #[] 3)
  have O2 := made_int (w0.alloc (.cells #[] 33))
  replace O1 := own_belK' O1 A2
  replace Q := (Q.below A1).below A2
  replace B := (B.trans (A1.mono B.size)).trans (A2.mono (B.trans (A1.mono B.size)).size)
  simp only [World.size_alloc] at O2
  rw [hw0] at O1 O2
  go_upto_region 2 with fail
  clear A1 A2
  have hw1 : w.heap.size + 3 ≤ ((w0.alloc (.cells #[] 33)).alloc (.cells #[] 3)).heap.size := by simp [hw0]
  generalize (w0.alloc (.cells #[] 33)).alloc (.cells #[] 3) = w1 at *
  go_wp2_with fail
  refine (C1 _ B).mono ?_
  rintro e w2 ⟨vf, rfl, OF, hb⟩
  have ST : CaSt w n d vf Fr [] [] (.slice (some ⟨w.heap.size + 1, 0, none⟩) 0 0) (.slice (some ⟨w.heap.size + 1 + 1, 0, none⟩) 0 0) w2 := ⟨Q.below hb, own_base OF (by omega), own_belK' O1 hb, own_belK' (own_base O2 (by omega)) hb, fun g hg hg' => by have := (World.ownsRow.lt OF g hg).1; simp [Value.ownBlock] at hg'; omega, fun g hg hg' => by have := (World.ownsRow.lt OF g hg).1; simp [Value.ownBlock] at hg'; omega, fun g hg hg' => by simp [Value.ownBlock] at hg hg'; omega, B.trans (hb.mono B.size)⟩
  clear C1 Q O1 O2 OF hb B hw0 hw1
  obtain ⟨af, cf, rfl, _, _, _⟩ := ownF_src ST.2.1
  go_wp2_with fail
  go_loopw [10, 11, 13] (fun vo vi i wr => ∃ k : Nat, k ≤ Fr.length ∧ i = .int .i64 k ∧ CaSt w n d (.slice af Fr.length cf) Fr ((caK M n d x Fr k).map cV) ((caK M n d x Fr k).map cI) vo vi wr) (fun _ _ i _ => Fr.length - (intOf i).toNat)
  case atStart => exact ⟨0, Nat.zero_le _, rfl, ST⟩
  case round =>
    clear ST
    obtain ⟨k, hk, rfl, ST⟩ := hrel
    by_cases hlt : k < Fr.length
    · obtain ⟨gb, gc, egf, hgl, hgc⟩ := ST.place hlt
      simp at egf
      obtain ⟨rfl, rfl⟩ := egf
      obtain ⟨P, hP, hPm⟩ := HPL.out k hlt
      rw [hP] at hgc
      obtain ⟨b, off, rfl, hf⟩ := HS.out.some (by omega)
      obtain ⟨x0, x1, x2, x3, x4, hM⟩ := tupPeer M P
      have HCB : Hid (∀ wq, Below w.heap.size w wq → Cs wq b off (m * 5) (MFPeer M)) := fun wq hb => hf.below hb hf.1
      have hbw : b < w.heap.size := hf.1
      have hli : (k : Int) < (Fr.length : Int) := by omega
      have hPi : (P : Int) < (m : Int) := by omega
      have hKl := caK_len M n d x Fr k
      have HY : Hid (crC true x1 x2 x3 n d x = 0 → caK M n d x Fr (k + 1) = caK M n d x Fr k ++ [(x0, crL true x1 x2 x3 n d x, crH true x1 x2 x3 n d x)]) := fun h => by
        have q := caK_yes (M := M) (n := n) (d := d) (x := x) (Fr := Fr) (k := k) (by rw [hP, Int.toNat_natCast, hM]; exact h)
        rw [hP, Int.toNat_natCast, hM] at q
        exact q
      have HNn : Hid (crC true x1 x2 x3 n d x ≠ 0 → caK M n d x Fr (k + 1) = caK M n d x Fr k) := fun h => caK_no (by rw [hP, Int.toNat_natCast, hM]; exact h)
      have HM : Hid (M P = (x0, x1, x2, x3, x4)) := hM
      clear hM hP hf
      have CC := fun v => specCarryOn_any true x1 x2 x3 n d x v
      generalize caK M n d x Fr k = K at *
      generalize crL true x1 x2 x3 n d x = U at *
      generalize crH true x1 x2 x3 n d x = D at *
      generalize crC true x1 x2 x3 n d x = C at *
      obtain ⟨c0, c1, c2, c3, c4⟩ := (HCB.out wr ST.2.2.2.2.2.2.2).elPeer hPm HM.out
      have hbr : b < wr.heap.size := Nat.lt_of_lt_of_le hbw ST.2.2.2.2.2.2.2.size
      have hlk : (K.map cV).length ≤ 9 := by rw [List.length_map]; omega
      have hlk2 : (K.map cI).length ≤ 9 := by rw [List.length_map]; omega
      have A1 := Below.nw wr (.cells #[.int .i64 x0, .int .i64 x1, .int .i64 x2, .int .i64 x3, .bool x4] 59)
      have KB := Bx5.new wr (.int .i64 x0) (.int .i64 x1) (.int .i64 x2) (.int .i64 x3) (.bool x4) 59
      have HLT : Hid (∀ g, u10.ownBlock = some g → g < wr.heap.size) := ST.lts.2.2.1
      go_upto_region 7 with fail
      clear c0 c1 c2 c3 c4 hgc
      replace ST := ST.below A1
      clear hbr hgl A1
      generalize hbk : wr.heap.size = bk at *
      generalize wr.alloc (.cells #[.int .i64 x0, .int .i64 x1, .int .i64 x2, .int .i64 x3, .bool x4] 59) = w3 at *
      obtain ⟨k9, k0, k1, k2, k3, k4, f0, f1, f2, f3, f4⟩ := id KB
      obtain ⟨q0, q1, q2, q3, q4⟩ := ST.1
      go_wp2_with fail
      refine (CC _).mono ?_
      rintro e w4 ⟨rfl, hb⟩
      clear k9 k0 k1 k2 k3 k4 f0 f1 f2 f3 f4 q0 q1 q2 q3 q4 CC
      replace ST := ST.below hb
      replace KB := KB.below hb
      clear hb
      have A2 := Below.nw w4 (.cells #[.int .i64 U, .int .i64 D] 33)
      have N := Bx2.new w4 (.int .i64 U) (.int .i64 D) 33
      go_upto_region 8 with fail
      replace ST := ST.below A2
      replace KB := KB.below A2
      clear A2
      generalize hbn : w4.heap.size = bn at *
      generalize w4.alloc (.cells #[.int .i64 U, .int .i64 D] 33) = w5 at *
      have hKBO : Hid (∀ g, u10.ownBlock = some g → g < bk) := HLT
      obtain ⟨n0, n1, n2, n3, n4⟩ := id N
      obtain ⟨k9, k0, k1, k2, k3, k4, f0, f1, f2, f3, f4⟩ := id KB
      by_cases hC : C = 0
      · have HT : Hid (caK M n d x Fr (k + 1) = K ++ [(x0, U, D)]) := HY.out hC
        subst hC
        have hs5 := ST.lts
        have OW := ST.2.2.1
        clear HY HNn
        go_upto_region 10 with (at_builtin; refine add_ival rfl _ _ rfl (w.heap.size + 1) (K.map cV) _ rfl OW rfl (by omega) (by omega) ?_; intro v' w9 O9 hg9 hn9)
        have ST9 := ST.addV O9 hg9 hn9
        have KB9 := KB.kept hg9 (fun e => by have := hKBO.out _ e.symm; omega)
        clear OW O9 hg9 hn9 n0 n1 n2 n3 n4 N
        clear k9 k0 k1 k2 k3 k4 f0 f1 f2 f3 f4 KB
        obtain ⟨k9, k0, k1, k2, k3, k4, f0, f1, f2, f3, f4⟩ := id KB9
        have hs9 := ST9.lts
        have OI := ST9.2.2.2.1
        go_wp2_with (at_builtin; refine add_int rfl _ _ rfl (w.heap.size + 1) (K.map cI) _ rfl OI rfl (by omega) (by omega) ?_; intro v2 w10 O10 hg10 hn10)
        have ST10 : Hid (CaSt w n d _ Fr (K.map cV ++ [(U, D)]) (K.map cI ++ [x0]) v' v2 w10) := ST9.addI O10 hg10 hn10
        clear OI O10 hg10 hn10 ST9 ST k9 k0 k1 k2 k3 k4 f0 f1 f2 f3 f4 KB9
        go_wp2_with fail
        go_roundw
        case rel => exact ⟨k + 1, by omega, by go_num, by rw [HT.out, List.map_append, List.map_append]; exact ST10.out⟩
        case measure => simp [intOf]; omega
      · have HT : Hid (caK M n d x Fr (k + 1) = K) := HNn.out hC
        have hC' : (C == 0) = false := by simp [hC]
        clear HY HNn
        go_wp2_with fail
        go_roundw
        case rel => exact ⟨k + 1, by omega, by go_num, by rw [HT.out]; exact ST⟩
        case measure => simp [intOf]; omega
    · have hkn : k = Fr.length := by omega
      have hli : ¬ (k : Int) < (Fr.length : Int) := by omega
      subst hkn
      obtain ⟨av, cv, rfl, _, _, _⟩ := ownF_src ST.2.2.1
      obtain ⟨ai, ci, rfl, _, _, _⟩ := ownF_src ST.2.2.2.1
      go_wp2_with fail
      exact bodyPost_ret (v := (.tuple #[.slice av ((caK M n d x Fr Fr.length).map cV).length cv, .slice ai ((caK M n d x Fr Fr.length).map cI).length ci])) (by simp (maxDischargeDepth := 6) [results, Try.results26, go_sem, *]) rfl ⟨_, _, rfl, by simpa only [List.length_map] using own_base ST.2.2.1 (Nat.le_succ _), by simpa only [List.length_map] using own_base ST.2.2.2.1 (Nat.le_succ _), ST.2.2.2.2.2.2.2⟩
set_option maxRecDepth 100000 in
set_option maxHeartbeats 16000000 in
theorem implPeersCarried_any (a : Option Addr) (m c : Nat) (M : Nat → PT) (n d x y : Int) (w : World) (hm : m ≤ maxLen) (hs : SrcC w a (m * 5) (MFPeer M)) (w_dn : (Lit.int .i64 n).wf = true) (w_dd : (Lit.int .i64 d).wf = true) (wx : (Lit.int .i64 x).wf = true) (wy : (Lit.int .i64 y).wf = true) :
    Calls Try.prog 28 #[.slice a m c, .agg #[.int .i64 n, .int .i64 d], .int .i64 x, .int .i64 y] w fun e w' => ∃ v0 v1, e = .returned (.tuple #[v0, v1]) ∧ w'.ownsRow w.heap.size 33 2 v0 ((caL M m n d x y).map cV).length (vrow ((caL M m n d x y).map cV)) ∧ w'.ownsRow w.heap.size 3 1 v1 ((caL M m n d x y).map cI).length (irow ((caL M m n d x y).map cI)) ∧ ApR v0 v1 ∧ Below w.heap.size w w' := by
  have HS : Hid (SrcC w a (m * 5) (MFPeer M)) := hs
  have HPL : Hid (∀ k, k < (frL M m x y).length → ∃ P : Nat, gI (frL M m x y) k = (P : Int) ∧ P < m) := fun k hk => frL_place hk
  have hFl := PeersFresh_len M m x y
  have HCL : Hid (caL M m n d x y = caK M n d x (frL M m x y) (frL M m x y).length) := rfl
  have C1 := fun (v : World) (hb : Below w.heap.size w v) => implPeersFresh_any a m c M x y v hm (HS.out.below hb) wx wy
  have Q := Bx2.new w (.int .i64 n) (.int .i64 d) 47
  have B := Below.nw w (.cells #[.int .i64 n, .int .i64 d] 47)
  have hmm : m ≤ 9223372036854775807 := hm
  clear hs w_dn w_dd wx wy
  rw [HCL.out]
  generalize frL M m x y = Fr at *
  clear HCL
  go_enter Try.func28, Try.ntmps28
  go_upto_region 1 with fail
  have hw0 : (w.alloc (.cells #[.int .i64 n, .int .i64 d] 47)).heap.size = w.heap.size + 1 := by simp
  generalize w.alloc (.cells #[.int .i64 n, .int .i64 d] 47) = w0 at *
  go_wp2_with fail
  refine (C1 _ B).mono ?_
  rintro e w2 ⟨vf, rfl, OF, hb⟩
  have ST : CaSt w n d vf Fr [] [] (.slice none 0 0) (.slice none 0 0) w2 := ⟨Q.below hb, own_base OF (by omega), nil_ival _ _, nil_int _ _, fun g hg hg' => by simp [Value.ownBlock] at hg', fun g hg hg' => by simp [Value.ownBlock] at hg', fun g hg hg' => by simp [Value.ownBlock] at hg, B.trans (hb.mono B.size)⟩
  clear C1 Q OF hb B hw0
  obtain ⟨af, cf, rfl, _, _, _⟩ := ownF_src ST.2.1
  go_wp2_with fail
  go_loopw [10, 11, 21] (fun vo vi i wr => ∃ k : Nat, k ≤ Fr.length ∧ i = .int .i64 k ∧ CaSt w n d (.slice af Fr.length cf) Fr ((caK M n d x Fr k).map cV) ((caK M n d x Fr k).map cI) vo vi wr) (fun _ _ i _ => Fr.length - (intOf i).toNat)
  case atStart => exact ⟨0, Nat.zero_le _, rfl, ST⟩
  case round =>
    clear ST
    obtain ⟨k, hk, rfl, ST⟩ := hrel
    by_cases hlt : k < Fr.length
    · obtain ⟨gb, gc, egf, hgl, hgc⟩ := ST.place hlt
      simp at egf
      obtain ⟨rfl, rfl⟩ := egf
      obtain ⟨P, hP, hPm⟩ := HPL.out k hlt
      rw [hP] at hgc
      obtain ⟨b, off, rfl, hf⟩ := HS.out.some (by omega)
      obtain ⟨x0, x1, x2, x3, x4, hM⟩ := tupPeer M P
      have HCB : Hid (∀ wq, Below w.heap.size w wq → Cs wq b off (m * 5) (MFPeer M)) := fun wq hb => hf.below hb hf.1
      have hbw : b < w.heap.size := hf.1
      have hli : (k : Int) < (Fr.length : Int) := by omega
      have hPi : (P : Int) < (m : Int) := by omega
      have hKl := caK_len M n d x Fr k
      have HY : Hid (crC true x1 x2 x3 n d x = 0 → caK M n d x Fr (k + 1) = caK M n d x Fr k ++ [(x0, crL true x1 x2 x3 n d x, crH true x1 x2 x3 n d x)]) := fun h => by
        have q := caK_yes (M := M) (n := n) (d := d) (x := x) (Fr := Fr) (k := k) (by rw [hP, Int.toNat_natCast, hM]; exact h)
        rw [hP, Int.toNat_natCast, hM] at q
        exact q
      have HNn : Hid (crC true x1 x2 x3 n d x ≠ 0 → caK M n d x Fr (k + 1) = caK M n d x Fr k) := fun h => caK_no (by rw [hP, Int.toNat_natCast, hM]; exact h)
      have HM : Hid (M P = (x0, x1, x2, x3, x4)) := hM
      clear hM hP hf
      have CC := fun v => carried_any x0 x1 x2 x3 x4 n d x v
      generalize caK M n d x Fr k = K at *
      generalize crL true x1 x2 x3 n d x = U at *
      generalize crH true x1 x2 x3 n d x = D at *
      generalize crC true x1 x2 x3 n d x = C at *
      obtain ⟨c0, c1, c2, c3, c4⟩ := (HCB.out wr ST.2.2.2.2.2.2.2).elPeer hPm HM.out
      have hbr : b < wr.heap.size := Nat.lt_of_lt_of_le hbw ST.2.2.2.2.2.2.2.size
      have hlk : (K.map cV).length ≤ 9 := by rw [List.length_map]; omega
      have hlk2 : (K.map cI).length ≤ 9 := by rw [List.length_map]; omega
      go_upto_region 6 with fail
      clear hgc hgl
      obtain ⟨q0, q1, q2, q3, q4⟩ := ST.1
      go_cut [14, 15] (fun s8 s9 wx => ∃ j : Nat, s8 = .pointer (some ⟨j, 0, none⟩) ∧ s9 = .bool (C == 0) ∧ Bx2 wx j (.int .i64 U) (.int .i64 D) ∧ CaSt w n d (.slice (some ⟨gb, 0, none⟩) Fr.length cf) Fr (K.map cV) (K.map cI) u10 u11 wx ∧ b < wx.heap.size)
      case first =>
        refine wp_region_held_drew (S := (fun w' => w'.cell? ⟨b, off + P * 5, none⟩ = some (.int .i64 x0) ∧ w'.cell? ⟨b, off + P * 5 + 1, none⟩ = some (.int .i64 x1) ∧ w'.cell? ⟨b, off + P * 5 + 2, none⟩ = some (.int .i64 x2) ∧ w'.cell? ⟨b, off + P * 5 + 3, none⟩ = some (.int .i64 x3) ∧ w'.cell? ⟨b, off + P * 5 + 4, none⟩ = some (.bool x4) ∧ w'.cell? ⟨w.heap.size, 0, none⟩ = some (.int .i64 n) ∧ w'.cell? ⟨w.heap.size, 1, none⟩ = some (.int .i64 d))) (by kernel_rfl) ?_ (fun hHeld => ?_)
        · first | exact ⟨c0, c1, c2, c3, c4, q1, q2⟩ | (simp (maxDischargeDepth := 6) [go_sem, *]; done)
        clear q0 q1 q2 q3 q4 c0 c1 c2 c3 c4
        replace ST := ST.drew
        replace hbr : b < wr.drew.heap.size := hbr
        generalize wr.drew = v at *
        obtain ⟨q0, q1, q2, q3, q4⟩ := ST.1; obtain ⟨c0, c1, c2, c3, c4⟩ := (HCB.out _ ST.2.2.2.2.2.2.2).elPeer hPm HM.out; (try (obtain ⟨n0, n1, n2, n3, n4⟩ := id N))
        refine wpAnyH_take (i := 0) (v := ?_) (by rw [List.getElem?_toArray]; rfl) (by kernel_rfl) (by kernel_rfl) (by kernel_rfl) (by intro _ _ _ h; exact h) (Or.inl ⟨by rfl, ?_⟩) (by assumption) ?_
        rotate_left
        · (intro w hSw; (try dsimp only at hSw); go_simp; all_goals with_reducible rfl)
        (try simp only [Act.put, List.setIfInBounds_toArray, List.set_cons_zero, List.set_cons_succ])
        refine wpAnyH_take (i := 1) (v := ?_) (by rw [List.getElem?_toArray]; rfl) (by kernel_rfl) (by kernel_rfl) (by kernel_rfl) (by intro _ _ _ h; exact h) (Or.inl ⟨by rfl, ?_⟩) (by assumption) ?_
        rotate_left
        · (intro w hSw; (try dsimp only at hSw); go_simp; all_goals with_reducible rfl)
        (try simp only [Act.put, List.setIfInBounds_toArray, List.set_cons_zero, List.set_cons_succ])
        refine wpAnyH_take (i := 2) (v := ?_) (by rw [List.getElem?_toArray]; rfl) (by kernel_rfl) (by kernel_rfl) (by kernel_rfl) (by intro _ _ _ h; exact h) (Or.inl ⟨by rfl, ?_⟩) (by assumption) ?_
        rotate_left
        · (intro w hSw; (try dsimp only at hSw); go_simp; all_goals with_reducible rfl)
        (try simp only [Act.put, List.setIfInBounds_toArray, List.set_cons_zero, List.set_cons_succ])
        refine wpAnyH_take (i := 3) (v := ?_) (by rw [List.getElem?_toArray]; rfl) (by kernel_rfl) (by kernel_rfl) (by kernel_rfl) (by intro _ _ _ h; exact h) (Or.inl ⟨by rfl, ?_⟩) (by assumption) ?_
        rotate_left
        · (intro w hSw; (try dsimp only at hSw); go_simp; all_goals with_reducible rfl)
        (try simp only [Act.put, List.setIfInBounds_toArray, List.set_cons_zero, List.set_cons_succ])
        refine wpAnyH_take (i := 4) (v := ?_) (by rw [List.getElem?_toArray]; rfl) (by kernel_rfl) (by kernel_rfl) (by kernel_rfl) (by intro _ _ _ h; exact h) (Or.inl ⟨by rfl, ?_⟩) (by assumption) ?_
        rotate_left
        · (intro w hSw; (try dsimp only at hSw); go_simp; all_goals with_reducible rfl)
        (try simp only [Act.put, List.setIfInBounds_toArray, List.set_cons_zero, List.set_cons_succ])
        refine wpAnyH_take (i := 5) (v := ?_) (by rw [List.getElem?_toArray]; rfl) (by kernel_rfl) (by kernel_rfl) (by kernel_rfl) (by intro _ _ _ h; exact h) (Or.inl ⟨by rfl, ?_⟩) (by assumption) ?_
        rotate_left
        · (intro w hSw; (try dsimp only at hSw); go_simp; all_goals with_reducible rfl)
        (try simp only [Act.put, List.setIfInBounds_toArray, List.set_cons_zero, List.set_cons_succ])
        refine wpAnyH_ready (rs := [6, 10]) (by kernel_rfl) (by simp) ?_
        refine (AllReadyH.cons (by rw [List.getElem?_toArray]; rfl) (fun K hK => ?_) (AllReadyH.cons (by rw [List.getElem?_toArray]; rfl) (fun K hK => ?_) AllReadyH.nil))
        · go_simp
          refine (CC _).mono ?_; rintro e v ⟨rfl, hb⟩; clear q0 q1 q2 q3 q4 c0 c1 c2 c3 c4; (try clear n0 n1 n2 n3 n4); (replace ST := ST.below hb); (try (replace N := N.below hb)); (replace hbr := Nat.lt_of_lt_of_le hbr hb.size); clear hb; obtain ⟨q0, q1, q2, q3, q4⟩ := ST.1; obtain ⟨c0, c1, c2, c3, c4⟩ := (HCB.out _ ST.2.2.2.2.2.2.2).elPeer hPm HM.out; (try (obtain ⟨n0, n1, n2, n3, n4⟩ := id N))
          (try go_wp2_with fail)
          refine hK.out _ _ ?_ (fun hHeld => ?_)
          · first | exact ⟨c0, c1, c2, c3, c4, q1, q2⟩ | (simp (maxDischargeDepth := 6) [go_sem, *]; done)
          clear hK K
          (try simp only [Act.put, List.setIfInBounds_toArray, List.set_cons_zero, List.set_cons_succ])
          refine wpAnyH_take (i := 7) (v := ?_) (by rw [List.getElem?_toArray]; rfl) (by kernel_rfl) (by kernel_rfl) (by kernel_rfl) (by intro _ _ _ h; exact h) (Or.inl ⟨by rfl, ?_⟩) (by assumption) ?_
          rotate_left
          · (intro w hSw; (try dsimp only at hSw); go_simp; all_goals with_reducible rfl)
          (try simp only [Act.put, List.setIfInBounds_toArray, List.set_cons_zero, List.set_cons_succ])
          refine wpAnyH_take (i := 8) (v := ?_) (by rw [List.getElem?_toArray]; rfl) (by kernel_rfl) (by kernel_rfl) (by kernel_rfl) (by intro _ _ _ h; exact h) (Or.inl ⟨by rfl, ?_⟩) (by assumption) ?_
          rotate_left
          · (intro w hSw; (try dsimp only at hSw); go_simp; all_goals with_reducible rfl)
          (try simp only [Act.put, List.setIfInBounds_toArray, List.set_cons_zero, List.set_cons_succ])
          refine wpAnyH_take (i := 9) (v := ?_) (by rw [List.getElem?_toArray]; rfl) (by kernel_rfl) (by kernel_rfl) (by kernel_rfl) (by intro _ _ _ h; exact h) (Or.inl ⟨by rfl, ?_⟩) (by assumption) ?_
          rotate_left
          · (intro w hSw; (try dsimp only at hSw); go_simp; all_goals with_reducible rfl)
          (try simp only [Act.put, List.setIfInBounds_toArray, List.set_cons_zero, List.set_cons_succ])
          refine wpAnyH_ready (rs := [10]) (by kernel_rfl) (by simp) ?_
          refine (AllReadyH.cons (by rw [List.getElem?_toArray]; rfl) (fun K hK => ?_) AllReadyH.nil)
          go_simp
          (have N := Bx2.new v (.int .i64 0) (.int .i64 0) 33); (have hj := ST.lts); clear q0 q1 q2 q3 q4 c0 c1 c2 c3 c4; (try clear n0 n1 n2 n3 n4); (replace ST := ST.below (Below.nw v (.cells #[.int .i64 0, .int .i64 0] 33))); (replace hbr : b < (v.alloc (.cells #[.int .i64 0, .int .i64 0] 33)).heap.size := Nat.lt_of_lt_of_le hbr (by simp)); (generalize v.heap.size = jn at *); (generalize v.alloc (.cells #[.int .i64 0, .int .i64 0] 33) = v2 at *); obtain ⟨q0, q1, q2, q3, q4⟩ := ST.1; obtain ⟨c0, c1, c2, c3, c4⟩ := (HCB.out _ ST.2.2.2.2.2.2.2).elPeer hPm HM.out; (try (obtain ⟨n0, n1, n2, n3, n4⟩ := id N))
          refine hK.out _ _ ?_ (fun hHeld => ?_)
          · first | exact ⟨c0, c1, c2, c3, c4, q1, q2⟩ | (simp (maxDischargeDepth := 6) [go_sem, *]; done)
          clear hK K
          (try simp only [Act.put, List.setIfInBounds_toArray, List.set_cons_zero, List.set_cons_succ])
          refine wpAnyH_ready (rs := [11]) (by kernel_rfl) (by simp) ?_
          refine (AllReadyH.cons (by rw [List.getElem?_toArray]; rfl) (fun K hK => ?_) AllReadyH.nil)
          go_simp
          refine hK.out _ _ ?_ (fun hHeld => ?_)
          · first | exact ⟨c0, c1, c2, c3, c4, q1, q2⟩ | (simp (maxDischargeDepth := 6) [go_sem, *]; done)
          clear hK K
          (try simp only [Act.put, List.setIfInBounds_toArray, List.set_cons_zero, List.set_cons_succ])
          refine wpAnyH_take (i := 12) (v := ?_) (by rw [List.getElem?_toArray]; rfl) (by kernel_rfl) (by kernel_rfl) (by kernel_rfl) (by intro _ _ _ h; exact h) (Or.inl ⟨by rfl, ?_⟩) (by assumption) ?_
          rotate_left
          · (intro w hSw; (try dsimp only at hSw); go_simp; all_goals with_reducible rfl)
          (try simp only [Act.put, List.setIfInBounds_toArray, List.set_cons_zero, List.set_cons_succ])
          refine wpAnyH_done (by kernel_rfl) ?_ _
          go_wp2_with fail
          go_meet
          case rel => exact ⟨_, rfl, rfl, N.two _ _, ST.but (two_but _ _ _ _) hj, by simpa using hbr⟩
        · go_simp
          (have N := Bx2.new v (.int .i64 0) (.int .i64 0) 33); (have hj := ST.lts); clear q0 q1 q2 q3 q4 c0 c1 c2 c3 c4; (try clear n0 n1 n2 n3 n4); (replace ST := ST.below (Below.nw v (.cells #[.int .i64 0, .int .i64 0] 33))); (replace hbr : b < (v.alloc (.cells #[.int .i64 0, .int .i64 0] 33)).heap.size := Nat.lt_of_lt_of_le hbr (by simp)); (generalize v.heap.size = jn at *); (generalize v.alloc (.cells #[.int .i64 0, .int .i64 0] 33) = v2 at *); obtain ⟨q0, q1, q2, q3, q4⟩ := ST.1; obtain ⟨c0, c1, c2, c3, c4⟩ := (HCB.out _ ST.2.2.2.2.2.2.2).elPeer hPm HM.out; (try (obtain ⟨n0, n1, n2, n3, n4⟩ := id N))
          refine hK.out _ _ ?_ (fun hHeld => ?_)
          · first | exact ⟨c0, c1, c2, c3, c4, q1, q2⟩ | (simp (maxDischargeDepth := 6) [go_sem, *]; done)
          clear hK K
          (try simp only [Act.put, List.setIfInBounds_toArray, List.set_cons_zero, List.set_cons_succ])
          refine wpAnyH_ready (rs := [6]) (by kernel_rfl) (by simp) ?_
          refine (AllReadyH.cons (by rw [List.getElem?_toArray]; rfl) (fun K hK => ?_) AllReadyH.nil)
          go_simp
          refine (CC _).mono ?_; rintro e v ⟨rfl, hb⟩; clear q0 q1 q2 q3 q4 c0 c1 c2 c3 c4; (try clear n0 n1 n2 n3 n4); (replace ST := ST.below hb); (try (replace N := N.below hb)); (replace hbr := Nat.lt_of_lt_of_le hbr hb.size); clear hb; obtain ⟨q0, q1, q2, q3, q4⟩ := ST.1; obtain ⟨c0, c1, c2, c3, c4⟩ := (HCB.out _ ST.2.2.2.2.2.2.2).elPeer hPm HM.out; (try (obtain ⟨n0, n1, n2, n3, n4⟩ := id N))
          (try go_wp2_with fail)
          refine hK.out _ _ ?_ (fun hHeld => ?_)
          · first | exact ⟨c0, c1, c2, c3, c4, q1, q2⟩ | (simp (maxDischargeDepth := 6) [go_sem, *]; done)
          clear hK K
          (try simp only [Act.put, List.setIfInBounds_toArray, List.set_cons_zero, List.set_cons_succ])
          refine wpAnyH_take (i := 7) (v := ?_) (by rw [List.getElem?_toArray]; rfl) (by kernel_rfl) (by kernel_rfl) (by kernel_rfl) (by intro _ _ _ h; exact h) (Or.inl ⟨by rfl, ?_⟩) (by assumption) ?_
          rotate_left
          · (intro w hSw; (try dsimp only at hSw); go_simp; all_goals with_reducible rfl)
          (try simp only [Act.put, List.setIfInBounds_toArray, List.set_cons_zero, List.set_cons_succ])
          refine wpAnyH_take (i := 8) (v := ?_) (by rw [List.getElem?_toArray]; rfl) (by kernel_rfl) (by kernel_rfl) (by kernel_rfl) (by intro _ _ _ h; exact h) (Or.inl ⟨by rfl, ?_⟩) (by assumption) ?_
          rotate_left
          · (intro w hSw; (try dsimp only at hSw); go_simp; all_goals with_reducible rfl)
          (try simp only [Act.put, List.setIfInBounds_toArray, List.set_cons_zero, List.set_cons_succ])
          refine wpAnyH_take (i := 9) (v := ?_) (by rw [List.getElem?_toArray]; rfl) (by kernel_rfl) (by kernel_rfl) (by kernel_rfl) (by intro _ _ _ h; exact h) (Or.inl ⟨by rfl, ?_⟩) (by assumption) ?_
          rotate_left
          · (intro w hSw; (try dsimp only at hSw); go_simp; all_goals with_reducible rfl)
          (try simp only [Act.put, List.setIfInBounds_toArray, List.set_cons_zero, List.set_cons_succ])
          refine wpAnyH_ready (rs := [11]) (by kernel_rfl) (by simp) ?_
          refine (AllReadyH.cons (by rw [List.getElem?_toArray]; rfl) (fun K hK => ?_) AllReadyH.nil)
          go_simp
          refine hK.out _ _ ?_ (fun hHeld => ?_)
          · first | exact ⟨c0, c1, c2, c3, c4, q1, q2⟩ | (simp (maxDischargeDepth := 6) [go_sem, *]; done)
          clear hK K
          (try simp only [Act.put, List.setIfInBounds_toArray, List.set_cons_zero, List.set_cons_succ])
          refine wpAnyH_take (i := 12) (v := ?_) (by rw [List.getElem?_toArray]; rfl) (by kernel_rfl) (by kernel_rfl) (by kernel_rfl) (by intro _ _ _ h; exact h) (Or.inl ⟨by rfl, ?_⟩) (by assumption) ?_
          rotate_left
          · (intro w hSw; (try dsimp only at hSw); go_simp; all_goals with_reducible rfl)
          (try simp only [Act.put, List.setIfInBounds_toArray, List.set_cons_zero, List.set_cons_succ])
          refine wpAnyH_done (by kernel_rfl) ?_ _
          go_wp2_with fail
          go_meet
          case rel => exact ⟨_, rfl, rfl, N.two _ _, ST.but (two_but _ _ _ _) hj, by simpa using hbr⟩
      case rest =>
        obtain ⟨bn, rfl, rfl, N, ST', hbr'⟩ := hcut
        clear ST hbr q0 q1 q2 q3 q4 c0 c1 c2 c3 c4
        have ST := ST'
        have hbr5 := hbr'
        clear ST' hbr' CC
        generalize wc = w5 at *
        obtain ⟨n0, n1, n2, n3, n4⟩ := id N
        by_cases hC : C = 0
        · have HT : Hid (caK M n d x Fr (k + 1) = K ++ [(x0, U, D)]) := HY.out hC
          subst hC
          have hs5 := ST.lts
          have OW := ST.2.2.1
          clear HY HNn
          go_upto_region 9 with (at_builtin; refine add_ival rfl _ _ rfl (w.heap.size + 1) (K.map cV) _ rfl OW rfl (by omega) (by omega) ?_; intro v' w9 O9 hg9 hn9)
          have ST9 := ST.addV O9 hg9 hn9
          clear OW O9 hg9 hn9 n0 n1 n2 n3 n4 N
          obtain ⟨c0, c1, c2, c3, c4⟩ := (HCB.out w9 ST9.2.2.2.2.2.2.2).elPeer hPm HM.out
          have hbr9 : b < w9.heap.size := Nat.lt_of_lt_of_le hbw ST9.2.2.2.2.2.2.2.size
          have hs9 := ST9.lts
          have OI := ST9.2.2.2.1
          go_wp2_with (at_builtin; refine add_int rfl _ _ rfl (w.heap.size + 1) (K.map cI) _ rfl OI rfl (by omega) (by omega) ?_; intro v2 w10 O10 hg10 hn10)
          have ST10 : Hid (CaSt w n d _ Fr (K.map cV ++ [(U, D)]) (K.map cI ++ [x0]) v' v2 w10) := ST9.addI O10 hg10 hn10
          clear OI O10 hg10 hn10 ST9 ST c0 c1 c2 c3 c4
          go_wp2_with fail
          go_roundw
          case rel => exact ⟨k + 1, by omega, by go_num, by rw [HT.out, List.map_append, List.map_append]; exact ST10.out⟩
          case measure => simp [intOf]; omega
        · have HT : Hid (caK M n d x Fr (k + 1) = K) := HNn.out hC
          have hC' : (C == 0) = false := by simp [hC]
          clear HY HNn
          rw [hC']
          go_wp2_with fail
          go_roundw
          case rel => exact ⟨k + 1, by omega, by go_num, by rw [HT.out]; exact ST⟩
          case measure => simp [intOf]; omega
    · have hkn : k = Fr.length := by omega
      have hli : ¬ (k : Int) < (Fr.length : Int) := by omega
      subst hkn
      obtain ⟨av, cv, rfl, _, _, _⟩ := ownF_src ST.2.2.1
      obtain ⟨ai, ci, rfl, _, _, _⟩ := ownF_src ST.2.2.2.1
      go_wp2_with fail
      exact bodyPost_ret (v := (.tuple #[.slice av ((caK M n d x Fr Fr.length).map cV).length cv, .slice ai ((caK M n d x Fr Fr.length).map cI).length ci])) (by simp (maxDischargeDepth := 6) [results, Try.results28, go_sem, *]) rfl ⟨_, _, rfl, by simpa only [List.length_map] using own_base ST.2.2.1 (Nat.le_succ _), by simpa only [List.length_map] using own_base ST.2.2.2.1 (Nat.le_succ _), ST.2.2.2.2.2.2.1, ST.2.2.2.2.2.2.2⟩
end Go.Proofs.Ytoefgllhggnppaa
