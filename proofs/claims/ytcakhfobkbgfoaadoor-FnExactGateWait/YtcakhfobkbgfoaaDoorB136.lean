/- SlotAt and InSlot in the specification. -/
import Derived.Test.YtcakhfobkbgfoaaDoorB135
import Derived.Deep.RegionHeld3
import Derived.WalkKit
import Derived.WalkSpells
import Derived.WalkLawsBesides
import Derived.Deep.RegionHeld
namespace Go.Proofs.YtcakhfobkbgfoaaDoor
open Go.RowKit
set_option linter.unusedVariables false
/- The slot and the round at a time, in the specification. -/
theorem sa_out {s g : Int} {M : Nat → SlT} {n : Nat} {t : Int} (h : saG s g M n t = false) : saB s g M n t = false ∧ saI s g M n t = 0 ∧ saK s g M n t = 0 := by
  have e : saB s g M n t = false := by unfold saB; rw [h]; rfl
  exact ⟨e, sa_no e⟩
theorem sa_none {s g : Int} {M : Nat → SlT} {n : Nat} {t : Int} (h : fnd (saP s g M n t) n = n) : saB s g M n t = false ∧ saI s g M n t = 0 ∧ saK s g M n t = 0 := by
  have e : saB s g M n t = false := by unfold saB; rw [h, decide_eq_false (by omega)]; simp
  exact ⟨e, sa_no e⟩
theorem sa_one {s g : Int} {M : Nat → SlT} {n : Nat} {t : Int} (hG : saG s g M n t = true) {j : Nat} (h : fnd (saP s g M n t) n = j) (hj : j < n) : saB s g M n t = true ∧ saI s g M n t = j ∧ saK s g M n t = saR s g M n t := by
  have e : saB s g M n t = true := by unfold saB; rw [hG, h, decide_eq_true hj]; rfl
  obtain ⟨y1, y2, y3, y4⟩ := sa_yes e
  exact ⟨e, by rw [y1, h], y2⟩
set_option maxRecDepth 100000 in
set_option maxHeartbeats 8000000 in
theorem specSlotAt_any (s g : Int) (a : Option Addr) (n c : Nat) (M : Nat → SlT) (t : Int) (w : World) (hm : n ≤ maxLen) (hs : SrcC w a (n * 2) (MFSlot M)) :
    Calls Tryd.prog 42 #[.agg #[.int .i64 s, .int .i64 g, .slice a n c], .int .i64 t] w fun e w' => e = .returned (.tuple #[.int .i64 (saI s g M n t), .int .i64 (saK s g M n t), .bool (saB s g M n t)]) ∧ Below w.heap.size w w' := by
  have B := Below.nw w (.cells #[.int .i64 s, .int .i64 g, .slice a n c] 30)
  have N := Tx3.new w (.int .i64 s) (.int .i64 g) (.slice a n c) 30
  have HS : Hid (SrcC w a (n * 2) (MFSlot M)) := hs
  clear hs
  have C1 := fun w' h => specPlanOk_any s g a n c M w' hm h
  have CT := fun w' => l2Time_any t w'
  cases h1 : plB s g M n
  · obtain ⟨e1, e2, e3⟩ := sa_out (t := t) (show saG s g M n t = false by unfold saG; rw [h1]; rfl)
    rw [e1, e2, e3]
    rw [h1] at C1
    clear e1 e2 e3
    go_enter Tryd.func42, Tryd.ntmps42
    go_upto_region 1 with fail
    generalize w.alloc (.cells #[.int .i64 s, .int .i64 g, .slice a n c] 30) = v at *
    obtain ⟨n0, n1, n2, n3, n4, n5, n6⟩ := id N
    go_wp2_with fail
    refine (C1 _ (HS.out.below B)).mono ?_
    rintro e v1 ⟨rfl, hb⟩
    clear n0 n1 n2 n3 n4 n5 n6
    replace B := B.trans (hb.mono B.size)
    replace N := N.below hb
    clear hb
    go_wp2_with fail
    exact bodyPost_ret (v := (.tuple #[.int .i64 0, .int .i64 0, .bool false])) (by simp (maxDischargeDepth := 6) [results, Tryd.results42, go_sem, *]) rfl ⟨rfl, B⟩
  cases h2 : okT t
  · obtain ⟨e1, e2, e3⟩ := sa_out (show saG s g M n t = false by unfold saG; rw [h1, h2]; rfl)
    rw [e1, e2, e3]
    rw [h1] at C1
    clear e1 e2 e3
    go_enter Tryd.func42, Tryd.ntmps42
    go_upto_region 1 with fail
    generalize w.alloc (.cells #[.int .i64 s, .int .i64 g, .slice a n c] 30) = v at *
    obtain ⟨n0, n1, n2, n3, n4, n5, n6⟩ := id N
    go_wp2_with fail
    refine (C1 _ (HS.out.below B)).mono ?_
    rintro e v1 ⟨rfl, hb⟩
    clear n0 n1 n2 n3 n4 n5 n6
    replace B := B.trans (hb.mono B.size)
    replace N := N.below hb
    clear hb
    go_wp2_with fail
    refine (CT _).mono ?_
    rintro e w' ⟨rfl, rfl⟩
    rw [h2]
    go_wp2_with fail
    exact bodyPost_ret (v := (.tuple #[.int .i64 0, .int .i64 0, .bool false])) (by simp (maxDischargeDepth := 6) [results, Tryd.results42, go_sem, *]) rfl ⟨rfl, B⟩
  by_cases h3 : t < s
  · obtain ⟨e1, e2, e3⟩ := sa_out (show saG s g M n t = false by unfold saG; rw [h1, h2, decide_eq_true h3]; rfl)
    rw [e1, e2, e3]
    rw [h1] at C1
    clear e1 e2 e3
    go_enter Tryd.func42, Tryd.ntmps42
    go_upto_region 1 with fail
    generalize w.alloc (.cells #[.int .i64 s, .int .i64 g, .slice a n c] 30) = v at *
    obtain ⟨n0, n1, n2, n3, n4, n5, n6⟩ := id N
    go_wp2_with fail
    refine (C1 _ (HS.out.below B)).mono ?_
    rintro e v1 ⟨rfl, hb⟩
    clear n0 n1 n2 n3 n4 n5 n6
    replace B := B.trans (hb.mono B.size)
    replace N := N.below hb
    clear hb
    go_wp2_with fail
    refine (CT _).mono ?_
    rintro e w' ⟨rfl, rfl⟩
    rw [h2]
    obtain ⟨n0, n1, n2, n3, n4, n5, n6⟩ := id N
    go_wp2_with fail
    exact bodyPost_ret (v := (.tuple #[.int .i64 0, .int .i64 0, .bool false])) (by simp (maxDischargeDepth := 6) [results, Tryd.results42, go_sem, *]) rfl ⟨rfl, B⟩
  have hG : saG s g M n t = true := by unfold saG; rw [h1, h2, decide_eq_false h3]; rfl
  obtain ⟨k1, k2, k3, k4, k5⟩ := saG_t hG
  obtain ⟨p1, p2, p3, p4⟩ := plB_t h1
  have hr := rn_bd h1
  have CR := fun w' h => specRoundOf_any s g a n c M w' hm h
  rw [rnI_t h1] at CR
  have CO := fun (j : Nat) w' h => specOccurrence_any s g a n c M (j : Int) (saR s g M n t) w' hm h
  have HP : Hid (∀ j : Nat, saP s g M n t j = (ocB s g M n j (saR s g M n t) && (decide (ocL s g M n j (saR s g M n t) ≤ t) && decide (t < ocH s g M n j (saR s g M n t))))) := fun j => rfl
  have H0 : Hid (fnd (saP s g M n t) n = n → saB s g M n t = false ∧ saI s g M n t = 0 ∧ saK s g M n t = 0) := sa_none
  have H1 : Hid (∀ j, fnd (saP s g M n t) n = j → j < n → saB s g M n t = true ∧ saI s g M n t = j ∧ saK s g M n t = saR s g M n t) := fun j h hj => sa_one hG h hj
  have hq : (t - s).tdiv (upS g M n) = saR s g M n t := Int.tdiv_eq_ediv_of_nonneg (by omega)
  have hw1 : IntKind.i64.wrap (t - s) = t - s := Go.IntWalk.i64_in _ ⟨by omega, by omega⟩
  have hx1 : wrap64 (t - s) = t - s := Go.IntWalk.wrap64_in _ ⟨by omega, by omega⟩
  have hw2 : IntKind.i64.wrap (saR s g M n t) = saR s g M n t := Go.IntWalk.i64_in _ ⟨by omega, by omega⟩
  have hx2 : wrap64 (saR s g M n t) = saR s g M n t := Go.IntWalk.wrap64_in _ ⟨by omega, by omega⟩
  have hu0 : 0 < upS g M n := by omega
  have hne : ¬ upS g M n = 0 := by omega
  rw [h1] at C1
  clear hG k1 k2 k3 k4 k5 p1 p2 p4 hr h1
  generalize saP s g M n t = P at *
  generalize saR s g M n t = K at *
  generalize upS g M n = u at *
  go_enter Tryd.func42, Tryd.ntmps42
  go_upto_region 1 with fail
  generalize w.alloc (.cells #[.int .i64 s, .int .i64 g, .slice a n c] 30) = v at *
  obtain ⟨n0, n1, n2, n3, n4, n5, n6⟩ := id N
  go_wp2_with fail
  refine (C1 _ (HS.out.below B)).mono ?_
  rintro e v1 ⟨rfl, hb⟩
  clear n0 n1 n2 n3 n4 n5 n6
  replace B := B.trans (hb.mono B.size)
  replace N := N.below hb
  clear hb
  go_wp2_with fail
  refine (CT _).mono ?_
  rintro e w' ⟨rfl, rfl⟩
  rw [h2]
  clear C1 CT h2
  obtain ⟨n0, n1, n2, n3, n4, n5, n6⟩ := id N
  have SK : Hid (∀ w', Below v1.heap.size v1 w' → ((fun w' => w'.cell? ⟨w.heap.size, 0, none⟩ = some (.int .i64 s) ∧ w'.cell? ⟨w.heap.size, 1, none⟩ = some (.int .i64 g) ∧ w'.cell? ⟨w.heap.size, 2, none⟩ = some (.slice a n c))) w') := fun w' hw => ⟨(N.below hw).2.1, (N.below hw).2.2.1, (N.below hw).2.2.2.1⟩
  go_upto_region 3 with fail
  refine wp_region_held_drew (S := (fun w' => w'.cell? ⟨w.heap.size, 0, none⟩ = some (.int .i64 s) ∧ w'.cell? ⟨w.heap.size, 1, none⟩ = some (.int .i64 g) ∧ w'.cell? ⟨w.heap.size, 2, none⟩ = some (.slice a n c))) (by kernel_rfl) ?_ (fun hHeld => ?_)
  · first | exact SK.out _ XB | exact SK.out _ (Below.drew (Below.refl _ _))
  have XB : Below v1.heap.size v1 v1.drew := Below.drew (Below.refl _ _)
  generalize v1.drew = vx at *
  refine wpAnyH_take (i := 0) (v := ?_) (by rw [List.getElem?_toArray]; rfl) (by kernel_rfl) (by kernel_rfl) (by kernel_rfl) (by intro _ _ _ h; exact h) (Or.inl ⟨by rfl, ?_⟩) (by assumption) ?_
  rotate_left
  · (intro w hSw; (try dsimp only at hSw); go_simp; all_goals with_reducible rfl)
  (try simp only [Act.put, List.setIfInBounds_toArray, List.set_cons_zero, List.set_cons_succ])
  refine wpAnyH_take (i := 1) (v := ?_) (by rw [List.getElem?_toArray]; rfl) (by kernel_rfl) (by kernel_rfl) (by kernel_rfl) (by intro _ _ _ h; exact h) (Or.inl ⟨by rfl, ?_⟩) (by assumption) ?_
  rotate_left
  · (intro w hSw; (try dsimp only at hSw); go_simp; all_goals with_reducible rfl)
  (try simp only [Act.put, List.setIfInBounds_toArray, List.set_cons_zero, List.set_cons_succ])
  refine wpAnyH_take (i := 2) (v := ?_) (by rw [List.getElem?_toArray]; rfl) (by kernel_rfl) (by kernel_rfl) (by kernel_rfl) (by intro _ _ _ h; exact h) (Or.inl ⟨by rfl, ?_⟩) (by assumption) ?_
  rotate_left
  · (intro w hSw; (try dsimp only at hSw); go_simp; all_goals with_reducible rfl)
  (try simp only [Act.put, List.setIfInBounds_toArray, List.set_cons_zero, List.set_cons_succ])
  refine wpAnyH_take (i := 3) (v := ?_) (by rw [List.getElem?_toArray]; rfl) (by kernel_rfl) (by kernel_rfl) (by kernel_rfl) (by intro _ _ _ h; exact h) (Or.inl ⟨by rfl, ?_⟩) (by assumption) ?_
  rotate_left
  · (intro w hSw; (try dsimp only at hSw); go_simp; all_goals with_reducible rfl)
  (try simp only [Act.put, List.setIfInBounds_toArray, List.set_cons_zero, List.set_cons_succ])
  (try simp only [hw1, hx1])
  refine wpAnyH_take (i := 4) (v := ?_) (by rw [List.getElem?_toArray]; rfl) (by kernel_rfl) (by kernel_rfl) (by kernel_rfl) (by intro _ _ _ h; exact h) (Or.inl ⟨by rfl, ?_⟩) (by assumption) ?_
  rotate_left
  · (intro w hSw; (try dsimp only at hSw); go_simp; all_goals with_reducible rfl)
  (try simp only [Act.put, List.setIfInBounds_toArray, List.set_cons_zero, List.set_cons_succ])
  refine wpAnyH_ready (rs := [5]) (by kernel_rfl) (by simp) ?_
  refine AllReadyH.cons (by rw [List.getElem?_toArray]; rfl) (fun K hK => ?_) AllReadyH.nil
  go_simp
  refine (CR vx (HS.out.below (B.trans (XB.mono B.size)))).mono ?_; rintro ee vx ⟨rfl, hbl⟩; (replace XB := XB.trans (hbl.mono XB.size)); (clear hbl)
  (try go_wp2_with fail)
  refine hK.out _ _ ?_ (fun hHeld => ?_)
  · first | exact SK.out _ XB | exact SK.out _ (Below.drew (Below.refl _ _))
  clear hK K
  (try simp only [Act.put, List.setIfInBounds_toArray, List.set_cons_zero, List.set_cons_succ])
  refine wpAnyH_take (i := 6) (v := ?_) (by rw [List.getElem?_toArray]; rfl) (by kernel_rfl) (by kernel_rfl) (by kernel_rfl) (by intro _ _ _ h; exact h) (Or.inl ⟨by rfl, ?_⟩) (by assumption) ?_
  rotate_left
  · (intro w hSw; (try dsimp only at hSw); go_simp; all_goals with_reducible rfl)
  (try simp only [Act.put, List.setIfInBounds_toArray, List.set_cons_zero, List.set_cons_succ])
  (try simp only [hq, hw2, hx2])
  refine wpAnyH_take (i := 7) (v := ?_) (by rw [List.getElem?_toArray]; rfl) (by kernel_rfl) (by kernel_rfl) (by kernel_rfl) (by intro _ _ _ h; exact h) (Or.inl ⟨by rfl, ?_⟩) (by assumption) ?_
  rotate_left
  · (intro w hSw; (try dsimp only at hSw); go_simp; all_goals with_reducible rfl)
  (try simp only [Act.put, List.setIfInBounds_toArray, List.set_cons_zero, List.set_cons_succ])
  refine wpAnyH_done (by kernel_rfl) ?_ _
  clear n0 n1 n2 n3 n4 n5 n6
  replace B := B.trans (XB.mono B.size)
  replace N := N.below XB
  clear XB SK CR hq hw1 hx1 hw2 hx2 hu0 hne h3
  generalize vx = v2 at *
  go_wp2_with fail
  go_loopw [8] (fun i wr => ∃ (j : Nat), j ≤ n ∧ i = .int .i64 j ∧ fnd P j = j ∧ Tx3 wr w.heap.size (.int .i64 s) (.int .i64 g) (.slice a n c) ∧ Below w.heap.size w wr) (fun i _ => n - (intOf i).toNat)
  case atStart => exact ⟨0, Nat.zero_le _, rfl, rfl, N, B⟩
  case round =>
    clear N B
    obtain ⟨j, hj, rfl, hF, N, B⟩ := hrel
    by_cases hlt : j < n
    · have hli : (j : Int) < (n : Int) := by omega
      have HLT : Hid (j < n) := hlt
      have HF : Hid (fnd P j = j) := hF
      have HJ := HP.out j
      have C := CO j
      clear hF hlt hj CO
      generalize ocL s g M n j K = X at *
      generalize ocH s g M n j K = Y at *
      generalize ocB s g M n j K = Q at *
      have HJ : Hid (P j = (Q && (decide (X ≤ t) && decide (t < Y)))) := HJ
      obtain ⟨n0, n1, n2, n3, n4, n5, n6⟩ := id N
      go_wp2_with fail
      refine (C _ (HS.out.below B)).mono ?_
      rintro e w3 ⟨rfl, hb⟩
      clear n0 n1 n2 n3 n4 n5 n6
      replace B := B.trans (hb.mono B.size)
      replace N := N.below hb
      clear hb
      have NL := Below.nw w3 (.cells #[.int .i64 X, .int .i64 Y] 25)
      have Z := Bx2.new w3 (.int .i64 X) (.int .i64 Y) 25
      go_upto_region 8 with fail
      replace B := B.trans (NL.mono B.size)
      replace N := N.below NL
      clear NL C
      generalize w3.alloc (.cells #[.int .i64 X, .int .i64 Y] 25) = w4 at *
      generalize w3.heap.size = jz at *
      obtain ⟨z0, z1, z2, z3, z4⟩ := id Z
      cases Q
      · have HM : Hid (fnd P (j + 1) = j + 1) := fnd_miss HF.out (by rw [HJ.out]; rfl)
        go_wp2_with fail
        go_roundw
        case rel => exact ⟨j + 1, HLT.out, by go_num, HM.out, N, B⟩
        case measure => have hlt' := HLT.out; simp [intOf]; omega
      by_cases hX : X ≤ t
      · by_cases hY : t < Y
        · have HM : Hid (fnd P n = j) := fnd_is HF.out (by rw [HJ.out, decide_eq_true hX, decide_eq_true hY]; rfl) HLT.out
          go_wp2_with fail
          obtain ⟨e1, e2, e3⟩ := H1.out j HM.out HLT.out
          exact bodyPost_ret (v := (.tuple #[.int .i64 (j : Int), .int .i64 K, .bool true])) (by simp (maxDischargeDepth := 6) [results, Tryd.results42, go_sem, *]) rfl ⟨by rw [e1, e2, e3], B⟩
        · have HM : Hid (fnd P (j + 1) = j + 1) := fnd_miss HF.out (by rw [HJ.out, decide_eq_false hY]; simp)
          go_wp2_with fail
          go_roundw
          case rel => exact ⟨j + 1, HLT.out, by go_num, HM.out, N, B⟩
          case measure => have hlt' := HLT.out; simp [intOf]; omega
      · have HM : Hid (fnd P (j + 1) = j + 1) := fnd_miss HF.out (by rw [HJ.out, decide_eq_false hX]; simp)
        go_wp2_with fail
        go_roundw
        case rel => exact ⟨j + 1, HLT.out, by go_num, HM.out, N, B⟩
        case measure => have hlt' := HLT.out; simp [intOf]; omega
    · have hkn : j = n := by omega
      subst hkn
      have hli : ¬ (j : Int) < (j : Int) := by omega
      have HF : Hid (fnd P j = j) := hF
      clear hF
      obtain ⟨n0, n1, n2, n3, n4, n5, n6⟩ := id N
      go_wp2_with fail
      obtain ⟨e1, e2, e3⟩ := H0.out HF.out
      exact bodyPost_ret (v := (.tuple #[.int .i64 0, .int .i64 0, .bool false])) (by simp (maxDischargeDepth := 6) [results, Tryd.results42, go_sem, *]) rfl ⟨by rw [e1, e2, e3], B⟩

theorem is_no {s g : Int} {M : Nat → SlT} {n : Nat} {o f t : Int} (h : isB s g M n o f t = false) : isI s g M n o f t = 0 ∧ isK s g M n o f t = 0 := by
  unfold isI isK
  rw [h]
  exact ⟨rfl, rfl⟩
theorem is_yes {s g : Int} {M : Nat → SlT} {n : Nat} {o f t : Int} (h : isB s g M n o f t = true) : isI s g M n o f t = saI s g M n f ∧ isK s g M n o f t = saK s g M n f := by
  unfold isI isK
  rw [h]
  exact ⟨rfl, rfl⟩
set_option maxRecDepth 100000 in
set_option maxHeartbeats 8000000 in
theorem specInSlot_any (s g : Int) (a : Option Addr) (n c : Nat) (M : Nat → SlT) (o f t : Int) (w : World) (hm : n ≤ maxLen) (hs : SrcC w a (n * 2) (MFSlot M)) :
    Calls Tryd.prog 54 #[.agg #[.int .i64 s, .int .i64 g, .slice a n c], .int .i64 o, .int .i64 f, .int .i64 t] w fun e w' => e = .returned (.tuple #[.int .i64 (isI s g M n o f t), .int .i64 (isK s g M n o f t), .bool (isB s g M n o f t)]) ∧ Below w.heap.size w w' := by
  have B := Below.nw w (.cells #[.int .i64 s, .int .i64 g, .slice a n c] 30)
  have N := Tx3.new w (.int .i64 s) (.int .i64 g) (.slice a n c) 30
  have HS : Hid (SrcC w a (n * 2) (MFSlot M)) := hs
  clear hs
  have C1 := fun w' h => specSlotAt_any s g a n c M f w' hm h
  cases h1 : saB s g M n f
  · have hB : isB s g M n o f t = false := by unfold isB; rw [h1]; rfl
    rw [(is_no hB).1, (is_no hB).2, hB]
    rw [h1, (sa_no h1).1, (sa_no h1).2] at C1
    clear hB
    go_enter Tryd.func54, Tryd.ntmps54
    go_upto_region 1 with fail
    generalize w.alloc (.cells #[.int .i64 s, .int .i64 g, .slice a n c] 30) = v at *
    obtain ⟨n0, n1, n2, n3, n4, n5, n6⟩ := id N
    go_wp2_with fail
    refine (C1 _ (HS.out.below B)).mono ?_
    rintro e v1 ⟨rfl, hb⟩
    clear n0 n1 n2 n3 n4 n5 n6
    replace B := B.trans (hb.mono B.size)
    replace N := N.below hb
    clear hb
    obtain ⟨n0, n1, n2, n3, n4, n5, n6⟩ := id N
    go_wp2_with fail
    exact bodyPost_ret (v := (.tuple #[.int .i64 0, .int .i64 0, .bool false])) (by simp (maxDischargeDepth := 6) [results, Tryd.results54, go_sem, *]) rfl ⟨rfl, B⟩
  obtain ⟨y1, y2, y3, y4⟩ := sa_yes h1
  have CO := fun w' h => specOccurrence_any s g a n c M (saI s g M n f) (saK s g M n f) w' hm h
  have hiN : (saI s g M n f).toNat < n := by rw [y1]; omega
  have hiE : saI s g M n f = ((saI s g M n f).toNat : Int) := by rw [y1]; omega
  have LK : Hid (∀ w', SrcC w' a (n * 2) (MFSlot M) → ∃ b off, a = some ⟨b, off, none⟩ ∧ w'.cell? ⟨b, off + (saI s g M n f).toNat * 2, none⟩ = some (.int .i64 (M (saI s g M n f).toNat).1) ∧ w'.cell? ⟨b, off + (saI s g M n f).toNat * 2 + 1, none⟩ = some (.int .i64 (M (saI s g M n f).toNat).2)) := fun w' h => by
    rcases h with q | ⟨b, off, e, hc⟩
    · exact absurd q (by omega)
    · exact ⟨b, off, e, hc.elSlot hiN rfl⟩
  have HB : isB s g M n o f t = (((M (saI s g M n f).toNat).1 == o) && (!decide (t < f) && !decide (ocH s g M n (saI s g M n f) (saK s g M n f) < t))) := by unfold isB; rw [h1]; rfl
  rw [h1] at C1
  have HI : Hid (((saI s g M n f).toNat : Int) < (n : Int)) := by rw [Hid]; omega
  have H0 : Hid (isB s g M n o f t = false → isI s g M n o f t = 0 ∧ isK s g M n o f t = 0) := is_no
  have H1 : Hid (isB s g M n o f t = true → isI s g M n o f t = saI s g M n f ∧ isK s g M n o f t = saK s g M n f) := is_yes
  clear y1 y2 y3 y4 h1 hiN
  generalize isI s g M n o f t = AI at *
  generalize isK s g M n o f t = AK at *
  generalize isB s g M n o f t = AB at *
  generalize ocL s g M n (saI s g M n f) (saK s g M n f) = X at *
  generalize ocH s g M n (saI s g M n f) (saK s g M n f) = Y at *
  generalize ocB s g M n (saI s g M n f) (saK s g M n f) = Q at *
  generalize saK s g M n f = K at *
  generalize hS : saI s g M n f = I at *
  clear hS
  generalize I.toNat = iN at *
  subst hiE
  generalize (M iN).1 = ow at *
  generalize (M iN).2 = lg at *
  have hli := HI.out
  cases ho : (ow == o)
  · have hne : (ow != o) = true := by rw [bne, ho]; rfl
    have e0 : AB = false := by rw [HB, ho]; rfl
    subst e0
    obtain ⟨rfl, rfl⟩ := H0.out rfl
    clear HB H0 H1 ho
    go_enter Tryd.func54, Tryd.ntmps54
    go_upto_region 1 with fail
    generalize w.alloc (.cells #[.int .i64 s, .int .i64 g, .slice a n c] 30) = v at *
    obtain ⟨n0, n1, n2, n3, n4, n5, n6⟩ := id N
    go_wp2_with fail
    refine (C1 _ (HS.out.below B)).mono ?_
    rintro e v1 ⟨rfl, hb⟩
    clear n0 n1 n2 n3 n4 n5 n6
    replace B := B.trans (hb.mono B.size)
    replace N := N.below hb
    clear hb
    obtain ⟨b, off, rfl, c1, c2⟩ := LK.out v1 (HS.out.below B)
    clear LK HS
    obtain ⟨n0, n1, n2, n3, n4, n5, n6⟩ := id N
    go_wp2_with fail
    exact bodyPost_ret (v := (.tuple #[.int .i64 0, .int .i64 0, .bool false])) (by simp (maxDischargeDepth := 6) [results, Tryd.results54, go_sem, *]) rfl ⟨rfl, B⟩
  have hne : (ow != o) = false := by rw [bne, ho]; rfl
  by_cases h3 : t < f
  · have e0 : AB = false := by rw [HB, decide_eq_true h3]; simp
    subst e0
    obtain ⟨rfl, rfl⟩ := H0.out rfl
    clear HB H0 H1 ho
    go_enter Tryd.func54, Tryd.ntmps54
    go_upto_region 1 with fail
    generalize w.alloc (.cells #[.int .i64 s, .int .i64 g, .slice a n c] 30) = v at *
    obtain ⟨n0, n1, n2, n3, n4, n5, n6⟩ := id N
    go_wp2_with fail
    refine (C1 _ (HS.out.below B)).mono ?_
    rintro e v1 ⟨rfl, hb⟩
    clear n0 n1 n2 n3 n4 n5 n6
    replace B := B.trans (hb.mono B.size)
    replace N := N.below hb
    clear hb
    obtain ⟨b, off, rfl, c1, c2⟩ := LK.out v1 (HS.out.below B)
    clear LK HS
    obtain ⟨n0, n1, n2, n3, n4, n5, n6⟩ := id N
    go_wp2_with fail
    exact bodyPost_ret (v := (.tuple #[.int .i64 0, .int .i64 0, .bool false])) (by simp (maxDischargeDepth := 6) [results, Tryd.results54, go_sem, *]) rfl ⟨rfl, B⟩
  by_cases h4 : Y < t
  · have e0 : AB = false := by rw [HB, decide_eq_true h4]; simp
    subst e0
    obtain ⟨rfl, rfl⟩ := H0.out rfl
    clear HB H0 H1 ho
    go_enter Tryd.func54, Tryd.ntmps54
    go_upto_region 1 with fail
    generalize w.alloc (.cells #[.int .i64 s, .int .i64 g, .slice a n c] 30) = v at *
    obtain ⟨n0, n1, n2, n3, n4, n5, n6⟩ := id N
    go_wp2_with fail
    refine (C1 _ (HS.out.below B)).mono ?_
    rintro e v1 ⟨rfl, hb⟩
    clear n0 n1 n2 n3 n4 n5 n6
    replace B := B.trans (hb.mono B.size)
    replace N := N.below hb
    clear hb
    obtain ⟨b, off, rfl, c1, c2⟩ := LK.out v1 (HS.out.below B)
    clear LK
    obtain ⟨n0, n1, n2, n3, n4, n5, n6⟩ := id N
    go_wp2_with fail
    refine (CO _ (HS.out.below B)).mono ?_
    rintro e v2 ⟨rfl, hb⟩
    clear n0 n1 n2 n3 n4 n5 n6
    replace B := B.trans (hb.mono B.size)
    replace N := N.below hb
    clear hb
    clear c1 c2
    have NL := Below.nw v2 (.cells #[.int .i64 X, .int .i64 Y] 25)
    have Z := Bx2.new v2 (.int .i64 X) (.int .i64 Y) 25
    go_upto_region 5 with fail
    replace B := B.trans (NL.mono B.size)
    clear NL
    generalize v2.alloc (.cells #[.int .i64 X, .int .i64 Y] 25) = v3 at *
    generalize v2.heap.size = jz at *
    obtain ⟨z0, z1, z2, z3, z4⟩ := id Z
    go_wp2_with fail
    exact bodyPost_ret (v := (.tuple #[.int .i64 0, .int .i64 0, .bool false])) (by simp (maxDischargeDepth := 6) [results, Tryd.results54, go_sem, *]) rfl ⟨rfl, B⟩
  have e0 : AB = true := by rw [HB, ho, decide_eq_false h3, decide_eq_false h4]; rfl
  subst e0
  obtain ⟨rfl, rfl⟩ := H1.out rfl
  clear HB H0 H1 ho
  go_enter Tryd.func54, Tryd.ntmps54
  go_upto_region 1 with fail
  generalize w.alloc (.cells #[.int .i64 s, .int .i64 g, .slice a n c] 30) = v at *
  obtain ⟨n0, n1, n2, n3, n4, n5, n6⟩ := id N
  go_wp2_with fail
  refine (C1 _ (HS.out.below B)).mono ?_
  rintro e v1 ⟨rfl, hb⟩
  clear n0 n1 n2 n3 n4 n5 n6
  replace B := B.trans (hb.mono B.size)
  replace N := N.below hb
  clear hb
  obtain ⟨b, off, rfl, c1, c2⟩ := LK.out v1 (HS.out.below B)
  clear LK
  obtain ⟨n0, n1, n2, n3, n4, n5, n6⟩ := id N
  go_wp2_with fail
  refine (CO _ (HS.out.below B)).mono ?_
  rintro e v2 ⟨rfl, hb⟩
  clear n0 n1 n2 n3 n4 n5 n6
  replace B := B.trans (hb.mono B.size)
  replace N := N.below hb
  clear hb
  clear c1 c2
  have NL := Below.nw v2 (.cells #[.int .i64 X, .int .i64 Y] 25)
  have Z := Bx2.new v2 (.int .i64 X) (.int .i64 Y) 25
  go_upto_region 5 with fail
  replace B := B.trans (NL.mono B.size)
  clear NL
  generalize v2.alloc (.cells #[.int .i64 X, .int .i64 Y] 25) = v3 at *
  generalize v2.heap.size = jz at *
  obtain ⟨z0, z1, z2, z3, z4⟩ := id Z
  go_wp2_with fail
  exact bodyPost_ret (v := (.tuple #[.int .i64 (iN : Int), .int .i64 AK, .bool true])) (by simp (maxDischargeDepth := 6) [results, Tryd.results54, go_sem, *]) rfl ⟨rfl, B⟩
end Go.Proofs.YtcakhfobkbgfoaaDoor
