/- The rates of a drift, in the program. -/
import Derived.Test.YtblappilppfkiaaDoorF124
import Derived.Test.YtblappilppfkiaaDoorF115
import Derived.Deep.RegionHeld3
import Derived.Deep.DeepCutAuto
import Derived.WalkKit
import Derived.WalkSpells
import Derived.WalkLawsBesides
import Derived.Deep.RegionHeld
namespace Go.Proofs.YtblappilppfkiaaDoor
open Go.RowKit
set_option linter.unusedVariables false
set_option maxRecDepth 100000 in
set_option maxHeartbeats 8000000 in
theorem implRateOfDrift_any (n d : Int) (u : Addr) (w : World) (E : Er w 0 u) : Calls Tryd.prog 16 #[.agg #[.int .i64 n, .int .i64 d]] w fun e w' => e = .returned (.tuple #[.agg #[.int .i64 (rdX n d), .int .i64 (rdY n d)], .agg #[.int .i64 (rdZ n d), .int .i64 (rdU n d)], .bool (okD n d)]) ∧ Below w.heap.size w w' := by
  have A0 := Below.nw w (.cells #[.int .i64 n, .int .i64 d] 35)
  have A1 := Below.nw (w.alloc (.cells #[.int .i64 n, .int .i64 d] 35)) (.cells #[.int .i64 0, .int .i64 0] 27)
  have A2 := Below.nw ((w.alloc (.cells #[.int .i64 n, .int .i64 d] 35)).alloc (.cells #[.int .i64 0, .int .i64 0] 27)) (.cells #[.int .i64 0, .int .i64 0] 27)
  have D := ((Bx2.new w (.int .i64 n) (.int .i64 d) 35).below A1).below A2
  have R := (Bx2.new (w.alloc (.cells #[.int .i64 n, .int .i64 d] 35)) (.int .i64 0) (.int .i64 0) 27).below A2
  have T := Bx2.new ((w.alloc (.cells #[.int .i64 n, .int .i64 d] 35)).alloc (.cells #[.int .i64 0, .int .i64 0] 27)) (.int .i64 0) (.int .i64 0) 27
  have B := (A0.trans (A1.mono A0.size)).trans (A2.mono (A0.trans (A1.mono A0.size)).size)
  simp only [World.size_alloc] at R T
  clear A0 A1 A2
  have hj1 : w.heap.size ≤ w.heap.size + 1 := by omega
  have hj2 : w.heap.size ≤ w.heap.size + 1 + 1 := by omega
  have hne : w.heap.size + 1 ≠ w.heap.size + 1 + 1 := by omega
  replace E := E.below B
  cases h1 : okD n d
  · obtain ⟨e1, e2, e3, e4⟩ := rd_f h1
    rw [e1, e2, e3, e4]
    clear e1 e2 e3 e4
    go_enter Tryd.func16, Tryd.ntmps16; go_upto_region 1 with fail; generalize (((w.alloc (.cells #[.int .i64 n, .int .i64 d] 35)).alloc (.cells #[.int .i64 0, .int .i64 0] 27)).alloc (.cells #[.int .i64 0, .int .i64 0] 27)) = v at *; generalize w.heap.size + 1 + 1 = j2 at *; generalize w.heap.size + 1 = j1 at *
    have hne' := Ne.symm hne
    obtain ⟨n0, n1, n2, n3, n4⟩ := id D
    go_wp2_with fail
    refine (okd_any _ _ _).mono ?_
    rintro e v2 ⟨rfl, hbl⟩
    rw [h1]
    clear n0 n1 n2 n3 n4
    replace R := R.below hbl
    replace T := T.below hbl
    replace B := B.trans (hbl.mono B.size)
    clear hbl
    obtain ⟨r0, r1, r2, r3, r4⟩ := id R
    obtain ⟨t0, t1, t2, t3, t4⟩ := id T
    go_wp2_with fail
    exact bodyPost_ret (v := (.tuple #[.agg #[.int .i64 0, .int .i64 0], .agg #[.int .i64 0, .int .i64 0], .bool false])) (by simp (maxDischargeDepth := 6) [results, Tryd.results16, go_sem, *]) rfl ⟨rfl, two_in B hj1 hj2 _ _ _ _⟩
  obtain ⟨e1, e2, e3, e4⟩ := rd_t h1
  rw [e1, e2, e3, e4]
  clear e1 e2 e3 e4
  have C1 := fun w' E' => lowest_any d (d + n) u w' E'
  have C2 := fun w' E' => lowest_any d (d - n) u w' E'
  generalize foX d (d + n) = x1 at *
  generalize foY d (d + n) = y1 at *
  generalize nfV u (foB d (d + n)) = b1 at *
  generalize foX d (d - n) = x2 at *
  generalize foY d (d - n) = y2 at *
  generalize nfV u (foB d (d - n)) = b2 at *
  go_enter Tryd.func16, Tryd.ntmps16; go_upto_region 1 with fail; generalize (((w.alloc (.cells #[.int .i64 n, .int .i64 d] 35)).alloc (.cells #[.int .i64 0, .int .i64 0] 27)).alloc (.cells #[.int .i64 0, .int .i64 0] 27)) = v at *; generalize w.heap.size + 1 + 1 = j2 at *; generalize w.heap.size + 1 = j1 at *
  obtain ⟨n0, n1, n2, n3, n4⟩ := id D
  go_wp2_with fail
  refine (okd_any _ _ _).mono ?_
  rintro e v2 ⟨rfl, hbl⟩
  rw [h1]
  clear n0 n1 n2 n3 n4
  replace D := D.below hbl
  replace R := R.below hbl
  replace T := T.below hbl
  replace E := E.below hbl
  replace B := B.trans (hbl.mono B.size)
  clear hbl
  have SK : Hid (∀ w', Below v2.heap.size v2 w' → (w'.cell? ⟨w.heap.size, 0, none⟩ = some (.int .i64 n) ∧ w'.cell? ⟨w.heap.size, 1, none⟩ = some (.int .i64 d))) := fun w' hw => ⟨(D.below hw).2.1, (D.below hw).2.2.1⟩
  go_upto_region 3 with fail
  go_cut [5] (fun s5 wx => ∃ k : Nat, s5 = .pointer (some ⟨k, 0, none⟩) ∧ v2.heap.size ≤ k ∧ Bx2 wx k (.int .i64 x1) (.int .i64 y1) ∧ Below v2.heap.size v2 wx)
  case first =>
    refine wp_region_held_drew (S := (fun w' => w'.cell? ⟨w.heap.size, 0, none⟩ = some (.int .i64 n) ∧ w'.cell? ⟨w.heap.size, 1, none⟩ = some (.int .i64 d))) (by kernel_rfl) ?_ (fun hHeld => ?_)
    · first | exact SK.out _ XB | exact SK.out _ (Below.drew (Below.refl _ _))
    have XB : Below v2.heap.size v2 v2.drew := Below.drew (Below.refl _ _)
    generalize v2.drew = vx at *
    refine wpAnyH_take (i := 0) (v := ?_) (by rw [List.getElem?_toArray]; rfl) (by kernel_rfl) (by kernel_rfl) (by kernel_rfl) (by intro _ _ _ h; exact h) (Or.inl ⟨by rfl, ?_⟩) (by assumption) ?_
    rotate_left
    · (intro w hSw; (try dsimp only at hSw); go_simp; all_goals with_reducible rfl)
    (try simp only [Act.put, List.setIfInBounds_toArray, List.set_cons_zero, List.set_cons_succ])
    refine wpAnyH_take (i := 1) (v := ?_) (by rw [List.getElem?_toArray]; rfl) (by kernel_rfl) (by kernel_rfl) (by kernel_rfl) (by intro _ _ _ h; exact h) (Or.inl ⟨by rfl, ?_⟩) (by assumption) ?_
    rotate_left
    · (intro w hSw; (try dsimp only at hSw); go_simp; all_goals with_reducible rfl)
    (try simp only [Act.put, List.setIfInBounds_toArray, List.set_cons_zero, List.set_cons_succ])
    refine wpAnyH_take (i := 2) (v := ?_) (by rw [List.getElem?_toArray]; rfl) (by kernel_rfl) (by kernel_rfl) (by kernel_rfl) (by intro _ _ _ h; exact h) (Or.inl ⟨by rfl, ?_⟩) (by assumption) ?_
    rotate_left
    · (intro w hSw; (try dsimp only at hSw); go_simp; all_goals with_reducible rfl)
    (try simp only [Act.put, List.setIfInBounds_toArray, List.set_cons_zero, List.set_cons_succ])
    refine wpAnyH_ready (rs := [3, 8]) (by kernel_rfl) (by simp) ?_
    refine (AllReadyH.cons (by rw [List.getElem?_toArray]; rfl) (fun K hK => ?_) (AllReadyH.cons (by rw [List.getElem?_toArray]; rfl) (fun K hK => ?_) AllReadyH.nil))
    · go_simp
      refine (fastest_any n d _ h1).mono ?_; rintro ee vx ⟨rfl, hbl⟩; (try clear kz0 kz1 kz2 kz3 kz4); (replace XB := XB.trans (hbl.mono XB.size)); (try (replace K4 := K4.below hbl)); clear hbl; (try (obtain ⟨kz0, kz1, kz2, kz3, kz4⟩ := id K4))
      (try go_wp2_with fail)
      refine hK.out _ _ ?_ (fun hHeld => ?_)
      · first | exact SK.out _ XB | exact SK.out _ (Below.drew (Below.refl _ _))
      clear hK K
      (try simp only [Act.put, List.setIfInBounds_toArray, List.set_cons_zero, List.set_cons_succ])
      refine wpAnyH_ready (rs := [4, 8]) (by kernel_rfl) (by simp) ?_
      refine (AllReadyH.cons (by rw [List.getElem?_toArray]; rfl) (fun K hK => ?_) (AllReadyH.cons (by rw [List.getElem?_toArray]; rfl) (fun K hK => ?_) AllReadyH.nil))
      · go_simp
        refine (C1 _ (E.below XB)).mono ?_; rintro ee vx ⟨rfl, hbl⟩; (try clear kz0 kz1 kz2 kz3 kz4); (replace XB := XB.trans (hbl.mono XB.size)); (try (replace K4 := K4.below hbl)); clear hbl; (try (obtain ⟨kz0, kz1, kz2, kz3, kz4⟩ := id K4))
        (try go_wp2_with fail)
        refine hK.out _ _ ?_ (fun hHeld => ?_)
        · first | exact SK.out _ XB | exact SK.out _ (Below.drew (Below.refl _ _))
        clear hK K
        (try simp only [Act.put, List.setIfInBounds_toArray, List.set_cons_zero, List.set_cons_succ])
        refine wpAnyH_take (i := 5) (v := ?_) (by rw [List.getElem?_toArray]; rfl) (by kernel_rfl) (by kernel_rfl) (by kernel_rfl) (by intro _ _ _ h; exact h) (Or.inl ⟨by rfl, ?_⟩) (by assumption) ?_
        rotate_left
        · (intro w hSw; (try dsimp only at hSw); go_simp; all_goals with_reducible rfl)
        (try simp only [Act.put, List.setIfInBounds_toArray, List.set_cons_zero, List.set_cons_succ])
        refine wpAnyH_take (i := 6) (v := ?_) (by rw [List.getElem?_toArray]; rfl) (by kernel_rfl) (by kernel_rfl) (by kernel_rfl) (by intro _ _ _ h; exact h) (Or.inl ⟨by rfl, ?_⟩) (by assumption) ?_
        rotate_left
        · (intro w hSw; (try dsimp only at hSw); go_simp; all_goals with_reducible rfl)
        (try simp only [Act.put, List.setIfInBounds_toArray, List.set_cons_zero, List.set_cons_succ])
        refine wpAnyH_take (i := 7) (v := ?_) (by rw [List.getElem?_toArray]; rfl) (by kernel_rfl) (by kernel_rfl) (by kernel_rfl) (by intro _ _ _ h; exact h) (Or.inl ⟨by rfl, ?_⟩) (by assumption) ?_
        rotate_left
        · (intro w hSw; (try dsimp only at hSw); go_simp; all_goals with_reducible rfl)
        (try simp only [Act.put, List.setIfInBounds_toArray, List.set_cons_zero, List.set_cons_succ])
        refine wpAnyH_ready (rs := [8]) (by kernel_rfl) (by simp) ?_
        refine (AllReadyH.cons (by rw [List.getElem?_toArray]; rfl) (fun K hK => ?_) AllReadyH.nil)
        go_simp
        (have K4 := Bx2.new vx (.int .i64 0) (.int .i64 0) 27); (have hkk := XB.size); (replace XB := XB.trans ((Below.nw vx (.cells #[.int .i64 0, .int .i64 0] 27)).mono XB.size)); (generalize vx.heap.size = kk at *); (generalize vx.alloc (.cells #[.int .i64 0, .int .i64 0] 27) = vx at *); (try (obtain ⟨kz0, kz1, kz2, kz3, kz4⟩ := id K4))
        refine hK.out _ _ ?_ (fun hHeld => ?_)
        · first | exact SK.out _ XB | exact SK.out _ (Below.drew (Below.refl _ _))
        clear hK K
        (try simp only [Act.put, List.setIfInBounds_toArray, List.set_cons_zero, List.set_cons_succ])
        refine wpAnyH_ready (rs := [9]) (by kernel_rfl) (by simp) ?_
        refine (AllReadyH.cons (by rw [List.getElem?_toArray]; rfl) (fun K hK => ?_) AllReadyH.nil)
        go_simp
        (have KP := (K4.set0 (.int .i64 x1)).set1 (.int .i64 y1)); (replace XB := (XB.setCell (p := ⟨kk, 0, none⟩) hkk (.int .i64 x1)).setCell (p := ⟨kk, 1, none⟩) hkk (.int .i64 y1))
        refine hK.out _ _ ?_ (fun hHeld => ?_)
        · first | exact SK.out _ XB | exact SK.out _ (Below.drew (Below.refl _ _))
        clear hK K
        (try simp only [Act.put, List.setIfInBounds_toArray, List.set_cons_zero, List.set_cons_succ])
        refine wpAnyH_take (i := 10) (v := ?_) (by rw [List.getElem?_toArray]; rfl) (by kernel_rfl) (by kernel_rfl) (by kernel_rfl) (by intro _ _ _ h; exact h) (Or.inl ⟨by rfl, ?_⟩) (by assumption) ?_
        rotate_left
        · (intro w hSw; (try dsimp only at hSw); go_simp; all_goals with_reducible rfl)
        (try simp only [Act.put, List.setIfInBounds_toArray, List.set_cons_zero, List.set_cons_succ])
        refine wpAnyH_done (by kernel_rfl) ?_ _
        (try clear kz0 kz1 kz2 kz3 kz4)
        (try clear K4)
        generalize (vx.setCell ⟨kk, 0, none⟩ (.int .i64 x1)).setCell ⟨kk, 1, none⟩ (.int .i64 y1) = vz at *
        go_wp2_with fail
        go_meet
        case rel => exact ⟨_, rfl, hkk, KP, XB⟩
      · go_simp
        (have K4 := Bx2.new vx (.int .i64 0) (.int .i64 0) 27); (have hkk := XB.size); (replace XB := XB.trans ((Below.nw vx (.cells #[.int .i64 0, .int .i64 0] 27)).mono XB.size)); (generalize vx.heap.size = kk at *); (generalize vx.alloc (.cells #[.int .i64 0, .int .i64 0] 27) = vx at *); (try (obtain ⟨kz0, kz1, kz2, kz3, kz4⟩ := id K4))
        refine hK.out _ _ ?_ (fun hHeld => ?_)
        · first | exact SK.out _ XB | exact SK.out _ (Below.drew (Below.refl _ _))
        clear hK K
        (try simp only [Act.put, List.setIfInBounds_toArray, List.set_cons_zero, List.set_cons_succ])
        refine wpAnyH_ready (rs := [4]) (by kernel_rfl) (by simp) ?_
        refine (AllReadyH.cons (by rw [List.getElem?_toArray]; rfl) (fun K hK => ?_) AllReadyH.nil)
        go_simp
        refine (C1 _ (E.below XB)).mono ?_; rintro ee vx ⟨rfl, hbl⟩; (try clear kz0 kz1 kz2 kz3 kz4); (replace XB := XB.trans (hbl.mono XB.size)); (try (replace K4 := K4.below hbl)); clear hbl; (try (obtain ⟨kz0, kz1, kz2, kz3, kz4⟩ := id K4))
        (try go_wp2_with fail)
        refine hK.out _ _ ?_ (fun hHeld => ?_)
        · first | exact SK.out _ XB | exact SK.out _ (Below.drew (Below.refl _ _))
        clear hK K
        (try simp only [Act.put, List.setIfInBounds_toArray, List.set_cons_zero, List.set_cons_succ])
        refine wpAnyH_take (i := 5) (v := ?_) (by rw [List.getElem?_toArray]; rfl) (by kernel_rfl) (by kernel_rfl) (by kernel_rfl) (by intro _ _ _ h; exact h) (Or.inl ⟨by rfl, ?_⟩) (by assumption) ?_
        rotate_left
        · (intro w hSw; (try dsimp only at hSw); go_simp; all_goals with_reducible rfl)
        (try simp only [Act.put, List.setIfInBounds_toArray, List.set_cons_zero, List.set_cons_succ])
        refine wpAnyH_take (i := 6) (v := ?_) (by rw [List.getElem?_toArray]; rfl) (by kernel_rfl) (by kernel_rfl) (by kernel_rfl) (by intro _ _ _ h; exact h) (Or.inl ⟨by rfl, ?_⟩) (by assumption) ?_
        rotate_left
        · (intro w hSw; (try dsimp only at hSw); go_simp; all_goals with_reducible rfl)
        (try simp only [Act.put, List.setIfInBounds_toArray, List.set_cons_zero, List.set_cons_succ])
        refine wpAnyH_take (i := 7) (v := ?_) (by rw [List.getElem?_toArray]; rfl) (by kernel_rfl) (by kernel_rfl) (by kernel_rfl) (by intro _ _ _ h; exact h) (Or.inl ⟨by rfl, ?_⟩) (by assumption) ?_
        rotate_left
        · (intro w hSw; (try dsimp only at hSw); go_simp; all_goals with_reducible rfl)
        (try simp only [Act.put, List.setIfInBounds_toArray, List.set_cons_zero, List.set_cons_succ])
        refine wpAnyH_ready (rs := [9]) (by kernel_rfl) (by simp) ?_
        refine (AllReadyH.cons (by rw [List.getElem?_toArray]; rfl) (fun K hK => ?_) AllReadyH.nil)
        go_simp
        (have KP := (K4.set0 (.int .i64 x1)).set1 (.int .i64 y1)); (replace XB := (XB.setCell (p := ⟨kk, 0, none⟩) hkk (.int .i64 x1)).setCell (p := ⟨kk, 1, none⟩) hkk (.int .i64 y1))
        refine hK.out _ _ ?_ (fun hHeld => ?_)
        · first | exact SK.out _ XB | exact SK.out _ (Below.drew (Below.refl _ _))
        clear hK K
        (try simp only [Act.put, List.setIfInBounds_toArray, List.set_cons_zero, List.set_cons_succ])
        refine wpAnyH_take (i := 10) (v := ?_) (by rw [List.getElem?_toArray]; rfl) (by kernel_rfl) (by kernel_rfl) (by kernel_rfl) (by intro _ _ _ h; exact h) (Or.inl ⟨by rfl, ?_⟩) (by assumption) ?_
        rotate_left
        · (intro w hSw; (try dsimp only at hSw); go_simp; all_goals with_reducible rfl)
        (try simp only [Act.put, List.setIfInBounds_toArray, List.set_cons_zero, List.set_cons_succ])
        refine wpAnyH_done (by kernel_rfl) ?_ _
        (try clear kz0 kz1 kz2 kz3 kz4)
        (try clear K4)
        generalize (vx.setCell ⟨kk, 0, none⟩ (.int .i64 x1)).setCell ⟨kk, 1, none⟩ (.int .i64 y1) = vz at *
        go_wp2_with fail
        go_meet
        case rel => exact ⟨_, rfl, hkk, KP, XB⟩
    · go_simp
      (have K4 := Bx2.new vx (.int .i64 0) (.int .i64 0) 27); (have hkk := XB.size); (replace XB := XB.trans ((Below.nw vx (.cells #[.int .i64 0, .int .i64 0] 27)).mono XB.size)); (generalize vx.heap.size = kk at *); (generalize vx.alloc (.cells #[.int .i64 0, .int .i64 0] 27) = vx at *); (try (obtain ⟨kz0, kz1, kz2, kz3, kz4⟩ := id K4))
      refine hK.out _ _ ?_ (fun hHeld => ?_)
      · first | exact SK.out _ XB | exact SK.out _ (Below.drew (Below.refl _ _))
      clear hK K
      (try simp only [Act.put, List.setIfInBounds_toArray, List.set_cons_zero, List.set_cons_succ])
      refine wpAnyH_ready (rs := [3]) (by kernel_rfl) (by simp) ?_
      refine (AllReadyH.cons (by rw [List.getElem?_toArray]; rfl) (fun K hK => ?_) AllReadyH.nil)
      go_simp
      refine (fastest_any n d _ h1).mono ?_; rintro ee vx ⟨rfl, hbl⟩; (try clear kz0 kz1 kz2 kz3 kz4); (replace XB := XB.trans (hbl.mono XB.size)); (try (replace K4 := K4.below hbl)); clear hbl; (try (obtain ⟨kz0, kz1, kz2, kz3, kz4⟩ := id K4))
      (try go_wp2_with fail)
      refine hK.out _ _ ?_ (fun hHeld => ?_)
      · first | exact SK.out _ XB | exact SK.out _ (Below.drew (Below.refl _ _))
      clear hK K
      (try simp only [Act.put, List.setIfInBounds_toArray, List.set_cons_zero, List.set_cons_succ])
      refine wpAnyH_ready (rs := [4]) (by kernel_rfl) (by simp) ?_
      refine (AllReadyH.cons (by rw [List.getElem?_toArray]; rfl) (fun K hK => ?_) AllReadyH.nil)
      go_simp
      refine (C1 _ (E.below XB)).mono ?_; rintro ee vx ⟨rfl, hbl⟩; (try clear kz0 kz1 kz2 kz3 kz4); (replace XB := XB.trans (hbl.mono XB.size)); (try (replace K4 := K4.below hbl)); clear hbl; (try (obtain ⟨kz0, kz1, kz2, kz3, kz4⟩ := id K4))
      (try go_wp2_with fail)
      refine hK.out _ _ ?_ (fun hHeld => ?_)
      · first | exact SK.out _ XB | exact SK.out _ (Below.drew (Below.refl _ _))
      clear hK K
      (try simp only [Act.put, List.setIfInBounds_toArray, List.set_cons_zero, List.set_cons_succ])
      refine wpAnyH_take (i := 5) (v := ?_) (by rw [List.getElem?_toArray]; rfl) (by kernel_rfl) (by kernel_rfl) (by kernel_rfl) (by intro _ _ _ h; exact h) (Or.inl ⟨by rfl, ?_⟩) (by assumption) ?_
      rotate_left
      · (intro w hSw; (try dsimp only at hSw); go_simp; all_goals with_reducible rfl)
      (try simp only [Act.put, List.setIfInBounds_toArray, List.set_cons_zero, List.set_cons_succ])
      refine wpAnyH_take (i := 6) (v := ?_) (by rw [List.getElem?_toArray]; rfl) (by kernel_rfl) (by kernel_rfl) (by kernel_rfl) (by intro _ _ _ h; exact h) (Or.inl ⟨by rfl, ?_⟩) (by assumption) ?_
      rotate_left
      · (intro w hSw; (try dsimp only at hSw); go_simp; all_goals with_reducible rfl)
      (try simp only [Act.put, List.setIfInBounds_toArray, List.set_cons_zero, List.set_cons_succ])
      refine wpAnyH_take (i := 7) (v := ?_) (by rw [List.getElem?_toArray]; rfl) (by kernel_rfl) (by kernel_rfl) (by kernel_rfl) (by intro _ _ _ h; exact h) (Or.inl ⟨by rfl, ?_⟩) (by assumption) ?_
      rotate_left
      · (intro w hSw; (try dsimp only at hSw); go_simp; all_goals with_reducible rfl)
      (try simp only [Act.put, List.setIfInBounds_toArray, List.set_cons_zero, List.set_cons_succ])
      refine wpAnyH_ready (rs := [9]) (by kernel_rfl) (by simp) ?_
      refine (AllReadyH.cons (by rw [List.getElem?_toArray]; rfl) (fun K hK => ?_) AllReadyH.nil)
      go_simp
      (have KP := (K4.set0 (.int .i64 x1)).set1 (.int .i64 y1)); (replace XB := (XB.setCell (p := ⟨kk, 0, none⟩) hkk (.int .i64 x1)).setCell (p := ⟨kk, 1, none⟩) hkk (.int .i64 y1))
      refine hK.out _ _ ?_ (fun hHeld => ?_)
      · first | exact SK.out _ XB | exact SK.out _ (Below.drew (Below.refl _ _))
      clear hK K
      (try simp only [Act.put, List.setIfInBounds_toArray, List.set_cons_zero, List.set_cons_succ])
      refine wpAnyH_take (i := 10) (v := ?_) (by rw [List.getElem?_toArray]; rfl) (by kernel_rfl) (by kernel_rfl) (by kernel_rfl) (by intro _ _ _ h; exact h) (Or.inl ⟨by rfl, ?_⟩) (by assumption) ?_
      rotate_left
      · (intro w hSw; (try dsimp only at hSw); go_simp; all_goals with_reducible rfl)
      (try simp only [Act.put, List.setIfInBounds_toArray, List.set_cons_zero, List.set_cons_succ])
      refine wpAnyH_done (by kernel_rfl) ?_ _
      (try clear kz0 kz1 kz2 kz3 kz4)
      (try clear K4)
      generalize (vx.setCell ⟨kk, 0, none⟩ (.int .i64 x1)).setCell ⟨kk, 1, none⟩ (.int .i64 y1) = vz at *
      go_wp2_with fail
      go_meet
      case rel => exact ⟨_, rfl, hkk, KP, XB⟩
  case rest =>
    obtain ⟨k1, rfl, hk1, K1, XB⟩ := hcut
    clear SK C1
    have d11 : k1 ≠ j1 := by have := R.1; omega
    have d12 : k1 ≠ j2 := by have := T.1; omega
    replace D := D.below XB
    replace R := R.below XB
    replace T := T.below XB
    replace E := E.below XB
    replace B := B.trans (XB.mono B.size)
    clear XB hk1
    generalize wc = v4 at *
    have SK : Hid (∀ w', Below v4.heap.size v4 w' → (w'.cell? ⟨w.heap.size, 0, none⟩ = some (.int .i64 n) ∧ w'.cell? ⟨w.heap.size, 1, none⟩ = some (.int .i64 d))) := fun w' hw => ⟨(D.below hw).2.1, (D.below hw).2.2.1⟩
    go_upto_region 4 with fail
    go_cut [7] (fun s5 wx => ∃ k : Nat, s5 = .pointer (some ⟨k, 0, none⟩) ∧ v4.heap.size ≤ k ∧ Bx2 wx k (.int .i64 x2) (.int .i64 y2) ∧ Below v4.heap.size v4 wx)
    case first =>
      refine wp_region_held_drew (S := (fun w' => w'.cell? ⟨w.heap.size, 0, none⟩ = some (.int .i64 n) ∧ w'.cell? ⟨w.heap.size, 1, none⟩ = some (.int .i64 d))) (by kernel_rfl) ?_ (fun hHeld => ?_)
      · first | exact SK.out _ XB | exact SK.out _ (Below.drew (Below.refl _ _))
      have XB : Below v4.heap.size v4 v4.drew := Below.drew (Below.refl _ _)
      generalize v4.drew = vx at *
      refine wpAnyH_take (i := 0) (v := ?_) (by rw [List.getElem?_toArray]; rfl) (by kernel_rfl) (by kernel_rfl) (by kernel_rfl) (by intro _ _ _ h; exact h) (Or.inl ⟨by rfl, ?_⟩) (by assumption) ?_
      rotate_left
      · (intro w hSw; (try dsimp only at hSw); go_simp; all_goals with_reducible rfl)
      (try simp only [Act.put, List.setIfInBounds_toArray, List.set_cons_zero, List.set_cons_succ])
      refine wpAnyH_take (i := 1) (v := ?_) (by rw [List.getElem?_toArray]; rfl) (by kernel_rfl) (by kernel_rfl) (by kernel_rfl) (by intro _ _ _ h; exact h) (Or.inl ⟨by rfl, ?_⟩) (by assumption) ?_
      rotate_left
      · (intro w hSw; (try dsimp only at hSw); go_simp; all_goals with_reducible rfl)
      (try simp only [Act.put, List.setIfInBounds_toArray, List.set_cons_zero, List.set_cons_succ])
      refine wpAnyH_take (i := 2) (v := ?_) (by rw [List.getElem?_toArray]; rfl) (by kernel_rfl) (by kernel_rfl) (by kernel_rfl) (by intro _ _ _ h; exact h) (Or.inl ⟨by rfl, ?_⟩) (by assumption) ?_
      rotate_left
      · (intro w hSw; (try dsimp only at hSw); go_simp; all_goals with_reducible rfl)
      (try simp only [Act.put, List.setIfInBounds_toArray, List.set_cons_zero, List.set_cons_succ])
      refine wpAnyH_ready (rs := [3, 8]) (by kernel_rfl) (by simp) ?_
      refine (AllReadyH.cons (by rw [List.getElem?_toArray]; rfl) (fun K hK => ?_) (AllReadyH.cons (by rw [List.getElem?_toArray]; rfl) (fun K hK => ?_) AllReadyH.nil))
      · go_simp
        refine (slowest_any n d _ h1).mono ?_; rintro ee vx ⟨rfl, hbl⟩; (try clear kz0 kz1 kz2 kz3 kz4); (replace XB := XB.trans (hbl.mono XB.size)); (try (replace K4 := K4.below hbl)); clear hbl; (try (obtain ⟨kz0, kz1, kz2, kz3, kz4⟩ := id K4))
        (try go_wp2_with fail)
        refine hK.out _ _ ?_ (fun hHeld => ?_)
        · first | exact SK.out _ XB | exact SK.out _ (Below.drew (Below.refl _ _))
        clear hK K
        (try simp only [Act.put, List.setIfInBounds_toArray, List.set_cons_zero, List.set_cons_succ])
        refine wpAnyH_ready (rs := [4, 8]) (by kernel_rfl) (by simp) ?_
        refine (AllReadyH.cons (by rw [List.getElem?_toArray]; rfl) (fun K hK => ?_) (AllReadyH.cons (by rw [List.getElem?_toArray]; rfl) (fun K hK => ?_) AllReadyH.nil))
        · go_simp
          refine (C2 _ (E.below XB)).mono ?_; rintro ee vx ⟨rfl, hbl⟩; (try clear kz0 kz1 kz2 kz3 kz4); (replace XB := XB.trans (hbl.mono XB.size)); (try (replace K4 := K4.below hbl)); clear hbl; (try (obtain ⟨kz0, kz1, kz2, kz3, kz4⟩ := id K4))
          (try go_wp2_with fail)
          refine hK.out _ _ ?_ (fun hHeld => ?_)
          · first | exact SK.out _ XB | exact SK.out _ (Below.drew (Below.refl _ _))
          clear hK K
          (try simp only [Act.put, List.setIfInBounds_toArray, List.set_cons_zero, List.set_cons_succ])
          refine wpAnyH_take (i := 5) (v := ?_) (by rw [List.getElem?_toArray]; rfl) (by kernel_rfl) (by kernel_rfl) (by kernel_rfl) (by intro _ _ _ h; exact h) (Or.inl ⟨by rfl, ?_⟩) (by assumption) ?_
          rotate_left
          · (intro w hSw; (try dsimp only at hSw); go_simp; all_goals with_reducible rfl)
          (try simp only [Act.put, List.setIfInBounds_toArray, List.set_cons_zero, List.set_cons_succ])
          refine wpAnyH_take (i := 6) (v := ?_) (by rw [List.getElem?_toArray]; rfl) (by kernel_rfl) (by kernel_rfl) (by kernel_rfl) (by intro _ _ _ h; exact h) (Or.inl ⟨by rfl, ?_⟩) (by assumption) ?_
          rotate_left
          · (intro w hSw; (try dsimp only at hSw); go_simp; all_goals with_reducible rfl)
          (try simp only [Act.put, List.setIfInBounds_toArray, List.set_cons_zero, List.set_cons_succ])
          refine wpAnyH_take (i := 7) (v := ?_) (by rw [List.getElem?_toArray]; rfl) (by kernel_rfl) (by kernel_rfl) (by kernel_rfl) (by intro _ _ _ h; exact h) (Or.inl ⟨by rfl, ?_⟩) (by assumption) ?_
          rotate_left
          · (intro w hSw; (try dsimp only at hSw); go_simp; all_goals with_reducible rfl)
          (try simp only [Act.put, List.setIfInBounds_toArray, List.set_cons_zero, List.set_cons_succ])
          refine wpAnyH_ready (rs := [8]) (by kernel_rfl) (by simp) ?_
          refine (AllReadyH.cons (by rw [List.getElem?_toArray]; rfl) (fun K hK => ?_) AllReadyH.nil)
          go_simp
          (have K4 := Bx2.new vx (.int .i64 0) (.int .i64 0) 27); (have hkk := XB.size); (replace XB := XB.trans ((Below.nw vx (.cells #[.int .i64 0, .int .i64 0] 27)).mono XB.size)); (generalize vx.heap.size = kk at *); (generalize vx.alloc (.cells #[.int .i64 0, .int .i64 0] 27) = vx at *); (try (obtain ⟨kz0, kz1, kz2, kz3, kz4⟩ := id K4))
          refine hK.out _ _ ?_ (fun hHeld => ?_)
          · first | exact SK.out _ XB | exact SK.out _ (Below.drew (Below.refl _ _))
          clear hK K
          (try simp only [Act.put, List.setIfInBounds_toArray, List.set_cons_zero, List.set_cons_succ])
          refine wpAnyH_ready (rs := [9]) (by kernel_rfl) (by simp) ?_
          refine (AllReadyH.cons (by rw [List.getElem?_toArray]; rfl) (fun K hK => ?_) AllReadyH.nil)
          go_simp
          (have KP := (K4.set0 (.int .i64 x2)).set1 (.int .i64 y2)); (replace XB := (XB.setCell (p := ⟨kk, 0, none⟩) hkk (.int .i64 x2)).setCell (p := ⟨kk, 1, none⟩) hkk (.int .i64 y2))
          refine hK.out _ _ ?_ (fun hHeld => ?_)
          · first | exact SK.out _ XB | exact SK.out _ (Below.drew (Below.refl _ _))
          clear hK K
          (try simp only [Act.put, List.setIfInBounds_toArray, List.set_cons_zero, List.set_cons_succ])
          refine wpAnyH_take (i := 10) (v := ?_) (by rw [List.getElem?_toArray]; rfl) (by kernel_rfl) (by kernel_rfl) (by kernel_rfl) (by intro _ _ _ h; exact h) (Or.inl ⟨by rfl, ?_⟩) (by assumption) ?_
          rotate_left
          · (intro w hSw; (try dsimp only at hSw); go_simp; all_goals with_reducible rfl)
          (try simp only [Act.put, List.setIfInBounds_toArray, List.set_cons_zero, List.set_cons_succ])
          refine wpAnyH_done (by kernel_rfl) ?_ _
          (try clear kz0 kz1 kz2 kz3 kz4)
          (try clear K4)
          generalize (vx.setCell ⟨kk, 0, none⟩ (.int .i64 x2)).setCell ⟨kk, 1, none⟩ (.int .i64 y2) = vz at *
          go_wp2_with fail
          go_meet
          case rel => exact ⟨_, rfl, hkk, KP, XB⟩
        · go_simp
          (have K4 := Bx2.new vx (.int .i64 0) (.int .i64 0) 27); (have hkk := XB.size); (replace XB := XB.trans ((Below.nw vx (.cells #[.int .i64 0, .int .i64 0] 27)).mono XB.size)); (generalize vx.heap.size = kk at *); (generalize vx.alloc (.cells #[.int .i64 0, .int .i64 0] 27) = vx at *); (try (obtain ⟨kz0, kz1, kz2, kz3, kz4⟩ := id K4))
          refine hK.out _ _ ?_ (fun hHeld => ?_)
          · first | exact SK.out _ XB | exact SK.out _ (Below.drew (Below.refl _ _))
          clear hK K
          (try simp only [Act.put, List.setIfInBounds_toArray, List.set_cons_zero, List.set_cons_succ])
          refine wpAnyH_ready (rs := [4]) (by kernel_rfl) (by simp) ?_
          refine (AllReadyH.cons (by rw [List.getElem?_toArray]; rfl) (fun K hK => ?_) AllReadyH.nil)
          go_simp
          refine (C2 _ (E.below XB)).mono ?_; rintro ee vx ⟨rfl, hbl⟩; (try clear kz0 kz1 kz2 kz3 kz4); (replace XB := XB.trans (hbl.mono XB.size)); (try (replace K4 := K4.below hbl)); clear hbl; (try (obtain ⟨kz0, kz1, kz2, kz3, kz4⟩ := id K4))
          (try go_wp2_with fail)
          refine hK.out _ _ ?_ (fun hHeld => ?_)
          · first | exact SK.out _ XB | exact SK.out _ (Below.drew (Below.refl _ _))
          clear hK K
          (try simp only [Act.put, List.setIfInBounds_toArray, List.set_cons_zero, List.set_cons_succ])
          refine wpAnyH_take (i := 5) (v := ?_) (by rw [List.getElem?_toArray]; rfl) (by kernel_rfl) (by kernel_rfl) (by kernel_rfl) (by intro _ _ _ h; exact h) (Or.inl ⟨by rfl, ?_⟩) (by assumption) ?_
          rotate_left
          · (intro w hSw; (try dsimp only at hSw); go_simp; all_goals with_reducible rfl)
          (try simp only [Act.put, List.setIfInBounds_toArray, List.set_cons_zero, List.set_cons_succ])
          refine wpAnyH_take (i := 6) (v := ?_) (by rw [List.getElem?_toArray]; rfl) (by kernel_rfl) (by kernel_rfl) (by kernel_rfl) (by intro _ _ _ h; exact h) (Or.inl ⟨by rfl, ?_⟩) (by assumption) ?_
          rotate_left
          · (intro w hSw; (try dsimp only at hSw); go_simp; all_goals with_reducible rfl)
          (try simp only [Act.put, List.setIfInBounds_toArray, List.set_cons_zero, List.set_cons_succ])
          refine wpAnyH_take (i := 7) (v := ?_) (by rw [List.getElem?_toArray]; rfl) (by kernel_rfl) (by kernel_rfl) (by kernel_rfl) (by intro _ _ _ h; exact h) (Or.inl ⟨by rfl, ?_⟩) (by assumption) ?_
          rotate_left
          · (intro w hSw; (try dsimp only at hSw); go_simp; all_goals with_reducible rfl)
          (try simp only [Act.put, List.setIfInBounds_toArray, List.set_cons_zero, List.set_cons_succ])
          refine wpAnyH_ready (rs := [9]) (by kernel_rfl) (by simp) ?_
          refine (AllReadyH.cons (by rw [List.getElem?_toArray]; rfl) (fun K hK => ?_) AllReadyH.nil)
          go_simp
          (have KP := (K4.set0 (.int .i64 x2)).set1 (.int .i64 y2)); (replace XB := (XB.setCell (p := ⟨kk, 0, none⟩) hkk (.int .i64 x2)).setCell (p := ⟨kk, 1, none⟩) hkk (.int .i64 y2))
          refine hK.out _ _ ?_ (fun hHeld => ?_)
          · first | exact SK.out _ XB | exact SK.out _ (Below.drew (Below.refl _ _))
          clear hK K
          (try simp only [Act.put, List.setIfInBounds_toArray, List.set_cons_zero, List.set_cons_succ])
          refine wpAnyH_take (i := 10) (v := ?_) (by rw [List.getElem?_toArray]; rfl) (by kernel_rfl) (by kernel_rfl) (by kernel_rfl) (by intro _ _ _ h; exact h) (Or.inl ⟨by rfl, ?_⟩) (by assumption) ?_
          rotate_left
          · (intro w hSw; (try dsimp only at hSw); go_simp; all_goals with_reducible rfl)
          (try simp only [Act.put, List.setIfInBounds_toArray, List.set_cons_zero, List.set_cons_succ])
          refine wpAnyH_done (by kernel_rfl) ?_ _
          (try clear kz0 kz1 kz2 kz3 kz4)
          (try clear K4)
          generalize (vx.setCell ⟨kk, 0, none⟩ (.int .i64 x2)).setCell ⟨kk, 1, none⟩ (.int .i64 y2) = vz at *
          go_wp2_with fail
          go_meet
          case rel => exact ⟨_, rfl, hkk, KP, XB⟩
      · go_simp
        (have K4 := Bx2.new vx (.int .i64 0) (.int .i64 0) 27); (have hkk := XB.size); (replace XB := XB.trans ((Below.nw vx (.cells #[.int .i64 0, .int .i64 0] 27)).mono XB.size)); (generalize vx.heap.size = kk at *); (generalize vx.alloc (.cells #[.int .i64 0, .int .i64 0] 27) = vx at *); (try (obtain ⟨kz0, kz1, kz2, kz3, kz4⟩ := id K4))
        refine hK.out _ _ ?_ (fun hHeld => ?_)
        · first | exact SK.out _ XB | exact SK.out _ (Below.drew (Below.refl _ _))
        clear hK K
        (try simp only [Act.put, List.setIfInBounds_toArray, List.set_cons_zero, List.set_cons_succ])
        refine wpAnyH_ready (rs := [3]) (by kernel_rfl) (by simp) ?_
        refine (AllReadyH.cons (by rw [List.getElem?_toArray]; rfl) (fun K hK => ?_) AllReadyH.nil)
        go_simp
        refine (slowest_any n d _ h1).mono ?_; rintro ee vx ⟨rfl, hbl⟩; (try clear kz0 kz1 kz2 kz3 kz4); (replace XB := XB.trans (hbl.mono XB.size)); (try (replace K4 := K4.below hbl)); clear hbl; (try (obtain ⟨kz0, kz1, kz2, kz3, kz4⟩ := id K4))
        (try go_wp2_with fail)
        refine hK.out _ _ ?_ (fun hHeld => ?_)
        · first | exact SK.out _ XB | exact SK.out _ (Below.drew (Below.refl _ _))
        clear hK K
        (try simp only [Act.put, List.setIfInBounds_toArray, List.set_cons_zero, List.set_cons_succ])
        refine wpAnyH_ready (rs := [4]) (by kernel_rfl) (by simp) ?_
        refine (AllReadyH.cons (by rw [List.getElem?_toArray]; rfl) (fun K hK => ?_) AllReadyH.nil)
        go_simp
        refine (C2 _ (E.below XB)).mono ?_; rintro ee vx ⟨rfl, hbl⟩; (try clear kz0 kz1 kz2 kz3 kz4); (replace XB := XB.trans (hbl.mono XB.size)); (try (replace K4 := K4.below hbl)); clear hbl; (try (obtain ⟨kz0, kz1, kz2, kz3, kz4⟩ := id K4))
        (try go_wp2_with fail)
        refine hK.out _ _ ?_ (fun hHeld => ?_)
        · first | exact SK.out _ XB | exact SK.out _ (Below.drew (Below.refl _ _))
        clear hK K
        (try simp only [Act.put, List.setIfInBounds_toArray, List.set_cons_zero, List.set_cons_succ])
        refine wpAnyH_take (i := 5) (v := ?_) (by rw [List.getElem?_toArray]; rfl) (by kernel_rfl) (by kernel_rfl) (by kernel_rfl) (by intro _ _ _ h; exact h) (Or.inl ⟨by rfl, ?_⟩) (by assumption) ?_
        rotate_left
        · (intro w hSw; (try dsimp only at hSw); go_simp; all_goals with_reducible rfl)
        (try simp only [Act.put, List.setIfInBounds_toArray, List.set_cons_zero, List.set_cons_succ])
        refine wpAnyH_take (i := 6) (v := ?_) (by rw [List.getElem?_toArray]; rfl) (by kernel_rfl) (by kernel_rfl) (by kernel_rfl) (by intro _ _ _ h; exact h) (Or.inl ⟨by rfl, ?_⟩) (by assumption) ?_
        rotate_left
        · (intro w hSw; (try dsimp only at hSw); go_simp; all_goals with_reducible rfl)
        (try simp only [Act.put, List.setIfInBounds_toArray, List.set_cons_zero, List.set_cons_succ])
        refine wpAnyH_take (i := 7) (v := ?_) (by rw [List.getElem?_toArray]; rfl) (by kernel_rfl) (by kernel_rfl) (by kernel_rfl) (by intro _ _ _ h; exact h) (Or.inl ⟨by rfl, ?_⟩) (by assumption) ?_
        rotate_left
        · (intro w hSw; (try dsimp only at hSw); go_simp; all_goals with_reducible rfl)
        (try simp only [Act.put, List.setIfInBounds_toArray, List.set_cons_zero, List.set_cons_succ])
        refine wpAnyH_ready (rs := [9]) (by kernel_rfl) (by simp) ?_
        refine (AllReadyH.cons (by rw [List.getElem?_toArray]; rfl) (fun K hK => ?_) AllReadyH.nil)
        go_simp
        (have KP := (K4.set0 (.int .i64 x2)).set1 (.int .i64 y2)); (replace XB := (XB.setCell (p := ⟨kk, 0, none⟩) hkk (.int .i64 x2)).setCell (p := ⟨kk, 1, none⟩) hkk (.int .i64 y2))
        refine hK.out _ _ ?_ (fun hHeld => ?_)
        · first | exact SK.out _ XB | exact SK.out _ (Below.drew (Below.refl _ _))
        clear hK K
        (try simp only [Act.put, List.setIfInBounds_toArray, List.set_cons_zero, List.set_cons_succ])
        refine wpAnyH_take (i := 10) (v := ?_) (by rw [List.getElem?_toArray]; rfl) (by kernel_rfl) (by kernel_rfl) (by kernel_rfl) (by intro _ _ _ h; exact h) (Or.inl ⟨by rfl, ?_⟩) (by assumption) ?_
        rotate_left
        · (intro w hSw; (try dsimp only at hSw); go_simp; all_goals with_reducible rfl)
        (try simp only [Act.put, List.setIfInBounds_toArray, List.set_cons_zero, List.set_cons_succ])
        refine wpAnyH_done (by kernel_rfl) ?_ _
        (try clear kz0 kz1 kz2 kz3 kz4)
        (try clear K4)
        generalize (vx.setCell ⟨kk, 0, none⟩ (.int .i64 x2)).setCell ⟨kk, 1, none⟩ (.int .i64 y2) = vz at *
        go_wp2_with fail
        go_meet
        case rel => exact ⟨_, rfl, hkk, KP, XB⟩
    case rest =>
      obtain ⟨k2, rfl, hk2, K2, XB⟩ := hcut
      clear SK C2
      have d21 : k2 ≠ j1 := by have := R.1; omega
      have d22 : k2 ≠ j2 := by have := T.1; omega
      replace K1 := K1.below XB
      replace R := R.below XB
      replace T := T.below XB
      replace B := B.trans (XB.mono B.size)
      clear XB hk2 D E
      generalize wc = v9 at *
      -- d11 .. : the two boxes lie elsewhere than the results
      obtain ⟨p0, p1, p2, p3, p4⟩ := id K1
      obtain ⟨q0, q1, q2, q3, q4⟩ := id K2
      have RR := (R.set0 (.int .i64 x1)).set1 (.int .i64 y1)
      have TT := ((T.setO hne 0 (.int .i64 x1)).setO hne 1 (.int .i64 y1))
      have RR2 := ((RR.setO (Ne.symm hne) 0 (.int .i64 x2)).setO (Ne.symm hne) 1 (.int .i64 y2))
      have TT2 := (TT.set0 (.int .i64 x2)).set1 (.int .i64 y2)
      have BB := two_in B hj1 hj2 (.int .i64 x1) (.int .i64 y1) (.int .i64 x2) (.int .i64 y2)
      obtain ⟨r0, r1, r2, r3, r4⟩ := id R
      obtain ⟨t0, t1, t2, t3, t4⟩ := id T
      go_upto_region 5 with fail
      refine wp_region_held_drew (S := (fun w' => w'.cell? ⟨k1, 0, none⟩ = some (.int .i64 x1) ∧ w'.cell? ⟨k1, 1, none⟩ = some (.int .i64 y1) ∧ w'.cell? ⟨k2, 0, none⟩ = some (.int .i64 x2) ∧ w'.cell? ⟨k2, 1, none⟩ = some (.int .i64 y2))) (by kernel_rfl) ?_ (fun hHeld => ?_)
      · first | exact ⟨p1, p2, q1, q2⟩ | exact ⟨(keepC (keepC p1 d11) d11), (keepC (keepC p2 d11) d11), (keepC (keepC q1 d21) d21), (keepC (keepC q2 d21) d21)⟩ | exact ⟨(keepC (keepC (keepC (keepC p1 d11) d11) d12) d12), (keepC (keepC (keepC (keepC p2 d11) d11) d12) d12), (keepC (keepC (keepC (keepC q1 d21) d21) d22) d22), (keepC (keepC (keepC (keepC q2 d21) d21) d22) d22)⟩
      refine wpAnyH_take (i := 0) (v := ?_) (by rw [List.getElem?_toArray]; rfl) (by kernel_rfl) (by kernel_rfl) (by kernel_rfl) (by intro _ _ _ h; exact h) (Or.inl ⟨by rfl, ?_⟩) (by assumption) ?_
      rotate_left
      · (intro w hSw; (try dsimp only at hSw); go_simp; all_goals with_reducible rfl)
      (try simp only [Act.put, List.setIfInBounds_toArray, List.set_cons_zero, List.set_cons_succ])
      refine wpAnyH_take (i := 1) (v := ?_) (by rw [List.getElem?_toArray]; rfl) (by kernel_rfl) (by kernel_rfl) (by kernel_rfl) (by intro _ _ _ h; exact h) (Or.inl ⟨by rfl, ?_⟩) (by assumption) ?_
      rotate_left
      · (intro w hSw; (try dsimp only at hSw); go_simp; all_goals with_reducible rfl)
      (try simp only [Act.put, List.setIfInBounds_toArray, List.set_cons_zero, List.set_cons_succ])
      refine wpAnyH_ready (rs := [2]) (by kernel_rfl) (by simp) ?_
      refine AllReadyH.cons (by rw [List.getElem?_toArray]; rfl) (fun K hK => ?_) AllReadyH.nil
      go_simp
      refine hK.out _ _ ?_ (fun hHeld => ?_)
      · first | exact ⟨p1, p2, q1, q2⟩ | exact ⟨(keepC (keepC p1 d11) d11), (keepC (keepC p2 d11) d11), (keepC (keepC q1 d21) d21), (keepC (keepC q2 d21) d21)⟩ | exact ⟨(keepC (keepC (keepC (keepC p1 d11) d11) d12) d12), (keepC (keepC (keepC (keepC p2 d11) d11) d12) d12), (keepC (keepC (keepC (keepC q1 d21) d21) d22) d22), (keepC (keepC (keepC (keepC q2 d21) d21) d22) d22)⟩
      clear hK K
      (try simp only [Act.put, List.setIfInBounds_toArray, List.set_cons_zero, List.set_cons_succ])
      refine wpAnyH_ready (rs := [3]) (by kernel_rfl) (by simp) ?_
      refine AllReadyH.cons (by rw [List.getElem?_toArray]; rfl) (fun K hK => ?_) AllReadyH.nil
      go_simp
      refine hK.out _ _ ?_ (fun hHeld => ?_)
      · first | exact ⟨p1, p2, q1, q2⟩ | exact ⟨(keepC (keepC p1 d11) d11), (keepC (keepC p2 d11) d11), (keepC (keepC q1 d21) d21), (keepC (keepC q2 d21) d21)⟩ | exact ⟨(keepC (keepC (keepC (keepC p1 d11) d11) d12) d12), (keepC (keepC (keepC (keepC p2 d11) d11) d12) d12), (keepC (keepC (keepC (keepC q1 d21) d21) d22) d22), (keepC (keepC (keepC (keepC q2 d21) d21) d22) d22)⟩
      clear hK K
      (try simp only [Act.put, List.setIfInBounds_toArray, List.set_cons_zero, List.set_cons_succ])
      refine wpAnyH_take (i := 4) (v := ?_) (by rw [List.getElem?_toArray]; rfl) (by kernel_rfl) (by kernel_rfl) (by kernel_rfl) (by intro _ _ _ h; exact h) (Or.inl ⟨by rfl, ?_⟩) (by assumption) ?_
      rotate_left
      · (intro w hSw; (try dsimp only at hSw); go_simp; all_goals with_reducible rfl)
      (try simp only [Act.put, List.setIfInBounds_toArray, List.set_cons_zero, List.set_cons_succ])
      refine wpAnyH_done (by kernel_rfl) ?_ _
      go_wp2_with fail
      clear r0 r1 r2 r3 r4 t0 t1 t2 t3 t4 p0 p1 p2 p3 p4 q0 q1 q2 q3 q4 R T RR TT K1 K2 B
      generalize (((v9.setCell ⟨j1, 0, none⟩ (.int .i64 x1)).setCell ⟨j1, 1, none⟩ (.int .i64 y1)).setCell ⟨j2, 0, none⟩ (.int .i64 x2)).setCell ⟨j2, 1, none⟩ (.int .i64 y2) = v10 at *
      obtain ⟨r0, r1, r2, r3, r4⟩ := id RR2
      obtain ⟨t0, t1, t2, t3, t4⟩ := id TT2
      exact bodyPost_ret (v := (.tuple #[.agg #[.int .i64 x1, .int .i64 y1], .agg #[.int .i64 x2, .int .i64 y2], .bool true])) (by simp (maxDischargeDepth := 6) [results, Tryd.results16, go_sem, *]) rfl ⟨rfl, Below.drew BB⟩
end Go.Proofs.YtblappilppfkiaaDoor
