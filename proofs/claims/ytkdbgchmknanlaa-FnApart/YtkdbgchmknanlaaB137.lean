/- NextOwn in the specification. -/
import Derived.Test.YtkdbgchmknanlaaB135
import Derived.Deep.RegionHeld3
import Derived.WalkKit
import Derived.WalkSpells
import Derived.WalkLawsBesides
import Derived.Deep.RegionHeld
namespace Go.Proofs.Ytkdbgchmknanlaa
open Go.RowKit
set_option linter.unusedVariables false
/- The next slot of an owner, in the specification. -/
theorem td_bd {x u : Int} (h1 : -1000000000000 ≤ x) (h2 : x ≤ 1000000000000) (hu : 1 ≤ u) : -1000000000000 ≤ x.tdiv u ∧ x.tdiv u ≤ 1000000000000 := by
  by_cases h : 0 ≤ x
  · rw [Int.tdiv_eq_ediv_of_nonneg h]
    have a := Int.ediv_nonneg h (show 0 ≤ u by omega)
    have b : x / u ≤ x := Int.ediv_le_self _ h
    omega
  · have e : x.tdiv u = -((-x).tdiv u) := by rw [Int.neg_tdiv, Int.neg_neg]
    rw [e, Int.tdiv_eq_ediv_of_nonneg (show 0 ≤ -x by omega)]
    have a := Int.ediv_nonneg (show 0 ≤ -x by omega) (show 0 ≤ u by omega)
    have b : -x / u ≤ -x := Int.ediv_le_self _ (by omega)
    omega
theorem no_out {s g : Int} {M : Nat → SlT} {n : Nat} {o t : Int} (h : noB s g M n o t = false) : noI s g M n o t = 0 ∧ noT s g M n o t = 0 := by
  unfold noI noT
  rw [h]
  exact ⟨rfl, rfl⟩
theorem no_bad {s g : Int} {M : Nat → SlT} {n : Nat} {o t : Int} (h : noG s g M n t = false) : noB s g M n o t = false ∧ noI s g M n o t = 0 ∧ noT s g M n o t = 0 := by
  have e : noB s g M n o t = false := by unfold noB; rw [h]; rfl
  exact ⟨e, no_out e⟩
theorem no_none {s g : Int} {M : Nat → SlT} {n : Nat} {o t : Int} (h1 : noF s g M n o t (noR s g M n t) = n) (h2 : noF s g M n o t (noR s g M n t + 1) = n) : noB s g M n o t = false ∧ noI s g M n o t = 0 ∧ noT s g M n o t = 0 := by
  have e : noB s g M n o t = false := by unfold noB; rw [h1, h2, decide_eq_false (by omega)]; simp
  exact ⟨e, no_out e⟩
theorem no_one {s g : Int} {M : Nat → SlT} {n : Nat} {o t : Int} (hG : noG s g M n t = true) {i : Nat} (h1 : noF s g M n o t (noR s g M n t) = i) (hi : i < n) : noB s g M n o t = true ∧ noI s g M n o t = i ∧ noT s g M n o t = ocL s g M n i (noR s g M n t) := by
  have e : noB s g M n o t = true := by unfold noB; rw [hG, h1, decide_eq_true hi]; rfl
  refine ⟨e, ?_, ?_⟩
  · unfold noI; rw [e, h1, decide_eq_true hi]
  · unfold noT; rw [e, h1, decide_eq_true hi]
theorem no_two {s g : Int} {M : Nat → SlT} {n : Nat} {o t : Int} (hG : noG s g M n t = true) (h0 : noF s g M n o t (noR s g M n t) = n) {i : Nat} (h1 : noF s g M n o t (noR s g M n t + 1) = i) (hi : i < n) : noB s g M n o t = true ∧ noI s g M n o t = i ∧ noT s g M n o t = ocL s g M n i (noR s g M n t + 1) := by
  have e : noB s g M n o t = true := by unfold noB; rw [hG, h0, h1, decide_eq_true hi]; simp
  refine ⟨e, ?_, ?_⟩
  · unfold noI; rw [e, h0, h1, decide_eq_false (by omega)]
  · unfold noT; rw [e, h0, h1, decide_eq_false (by omega)]
set_option maxRecDepth 100000 in
set_option maxHeartbeats 16000000 in
theorem specNextOwn_any (s g : Int) (a : Option Addr) (n c : Nat) (M : Nat → SlT) (o t : Int) (w : World) (hm : n ≤ maxLen) (hs : SrcC w a (n * 2) (MFSlot M)) :
    Calls Try.prog 30 #[.agg #[.int .i64 s, .int .i64 g, .slice a n c], .int .i64 o, .int .i64 t] w fun e w' => e = .returned (.tuple #[.int .i64 (noI s g M n o t), .int .i64 (noT s g M n o t), .bool (noB s g M n o t)]) ∧ Below w.heap.size w w' := by
  have B := Below.nw w (.cells #[.int .i64 s, .int .i64 g, .slice a n c] 29)
  have N := Tx3.new w (.int .i64 s) (.int .i64 g) (.slice a n c) 29
  have HS : Hid (SrcC w a (n * 2) (MFSlot M)) := hs
  clear hs
  have C1 := fun w' h => specPlanOk_any s g a n c M w' hm h
  have CT := fun w' => l2Time_any t w'
  cases h1 : plB s g M n
  · obtain ⟨e1, e2, e3⟩ := no_bad (o := o) (t := t) (show noG s g M n t = false by unfold noG; rw [h1]; rfl)
    rw [e1, e2, e3]
    rw [h1] at C1
    clear e1 e2 e3
    go_enter Try.func30, Try.ntmps30
    go_upto_region 1 with fail
    generalize w.alloc (.cells #[.int .i64 s, .int .i64 g, .slice a n c] 29) = v at *
    obtain ⟨n0, n1, n2, n3, n4, n5, n6⟩ := id N
    go_wp2_with fail
    refine (C1 _ (HS.out.below B)).mono ?_
    rintro e v1 ⟨rfl, hb⟩
    clear n0 n1 n2 n3 n4 n5 n6
    replace B := B.trans (hb.mono B.size)
    replace N := N.below hb
    clear hb
    go_wp2_with fail
    exact bodyPost_ret (v := (.tuple #[.int .i64 0, .int .i64 0, .bool false])) (by simp (maxDischargeDepth := 6) [results, Try.results30, go_sem, *]) rfl ⟨rfl, B⟩
  cases h2 : okT t
  · obtain ⟨e1, e2, e3⟩ := no_bad (o := o) (show noG s g M n t = false by unfold noG; rw [h1, h2]; rfl)
    rw [e1, e2, e3]
    rw [h1] at C1
    clear e1 e2 e3
    go_enter Try.func30, Try.ntmps30
    go_upto_region 1 with fail
    generalize w.alloc (.cells #[.int .i64 s, .int .i64 g, .slice a n c] 29) = v at *
    obtain ⟨n0, n1, n2, n3, n4, n5, n6⟩ := id N
    go_wp2_with fail
    refine (C1 _ (HS.out.below B)).mono ?_
    rintro e v1 ⟨rfl, hb⟩
    clear n0 n1 n2 n3 n4 n5 n6
    replace B := B.trans (hb.mono B.size)
    replace N := N.below hb
    clear hb
    go_wp2_with fail
    refine (CT _).mono ?_
    rintro e w' ⟨rfl, rfl⟩
    rw [h2]
    go_wp2_with fail
    exact bodyPost_ret (v := (.tuple #[.int .i64 0, .int .i64 0, .bool false])) (by simp (maxDischargeDepth := 6) [results, Try.results30, go_sem, *]) rfl ⟨rfl, B⟩
  have hG : noG s g M n t = true := by unfold noG; rw [h1, h2]; rfl
  have ht : 0 ≤ t ∧ t ≤ 1000000000000 := of_decide_eq_true h2
  obtain ⟨p1, p2, p3, p4⟩ := plB_t h1
  have hr := rn_bd h1
  have CR := fun w' h => specRoundOf_any s g a n c M w' hm h
  rw [rnI_t h1] at CR
  have CO := fun (i : Nat) (j : Int) w' h => specOccurrence_any s g a n c M (i : Int) j w' hm h
  have hd := td_bd (x := t - s) (u := upS g M n) (by omega) (by omega) (by omega)
  have hK : 0 ≤ noR s g M n t ∧ noR s g M n t ≤ 1000000000000 := by unfold noR imx; split <;> omega
  have CX : ∀ w', Calls Try.prog 62 #[.int .i64 0, .int .i64 ((t - s).tdiv (upS g M n))] w' fun e w'' => e = .returned (.int .i64 (noR s g M n t)) ∧ w' = w'' := fun w' => l1Max_any 0 ((t - s).tdiv (upS g M n)) w'
  have HP : Hid (∀ (j : Int) (i : Nat), noP s g M n o t j i = (ocB s g M n i j && (((M i).1 == o) && decide (t ≤ ocL s g M n i j)))) := fun j i => rfl
  have H0 : Hid (fnd (noP s g M n o t (noR s g M n t)) n = n → fnd (noP s g M n o t (noR s g M n t + 1)) n = n → noB s g M n o t = false ∧ noI s g M n o t = 0 ∧ noT s g M n o t = 0) := no_none
  have H1 : Hid (∀ i, fnd (noP s g M n o t (noR s g M n t)) n = i → i < n → noB s g M n o t = true ∧ noI s g M n o t = i ∧ noT s g M n o t = ocL s g M n i (noR s g M n t)) := fun i h hi => no_one hG h hi
  have H2 : Hid (fnd (noP s g M n o t (noR s g M n t)) n = n → ∀ i, fnd (noP s g M n o t (noR s g M n t + 1)) n = i → i < n → noB s g M n o t = true ∧ noI s g M n o t = i ∧ noT s g M n o t = ocL s g M n i (noR s g M n t + 1)) := fun h0 i h hi => no_two hG h0 h hi
  have hw1 : IntKind.i64.wrap (t - s) = t - s := Go.IntWalk.i64_in _ ⟨by omega, by omega⟩
  have hx1 : wrap64 (t - s) = t - s := Go.IntWalk.wrap64_in _ ⟨by omega, by omega⟩
  have hw2 : IntKind.i64.wrap ((t - s).tdiv (upS g M n)) = (t - s).tdiv (upS g M n) := Go.IntWalk.i64_in _ ⟨by omega, by omega⟩
  have hx2 : wrap64 ((t - s).tdiv (upS g M n)) = (t - s).tdiv (upS g M n) := Go.IntWalk.wrap64_in _ ⟨by omega, by omega⟩
  have hne : ¬ upS g M n = 0 := by omega
  rw [h1] at C1
  clear hG p1 p2 p4 hr h1 hd ht
  generalize noP s g M n o t = P at *
  generalize noR s g M n t = K at *
  generalize hD : (t - s).tdiv (upS g M n) = D at *
  generalize upS g M n = u at *
  go_enter Try.func30, Try.ntmps30
  go_upto_region 1 with fail
  generalize w.alloc (.cells #[.int .i64 s, .int .i64 g, .slice a n c] 29) = v at *
  obtain ⟨n0, n1, n2, n3, n4, n5, n6⟩ := id N
  go_wp2_with fail
  refine (C1 _ (HS.out.below B)).mono ?_
  rintro e v1 ⟨rfl, hb⟩
  clear n0 n1 n2 n3 n4 n5 n6
  replace B := B.trans (hb.mono B.size)
  replace N := N.below hb
  clear hb
  go_wp2_with fail
  refine (CT _).mono ?_
  rintro e w' ⟨rfl, rfl⟩
  rw [h2]
  clear C1 CT h2
  obtain ⟨n0, n1, n2, n3, n4, n5, n6⟩ := id N
  have SK : Hid (∀ w', Below v1.heap.size v1 w' → ((fun w' => w'.cell? ⟨w.heap.size, 0, none⟩ = some (.int .i64 s) ∧ w'.cell? ⟨w.heap.size, 1, none⟩ = some (.int .i64 g) ∧ w'.cell? ⟨w.heap.size, 2, none⟩ = some (.slice a n c))) w') := fun w' hw => ⟨(N.below hw).2.1, (N.below hw).2.2.1, (N.below hw).2.2.2.1⟩
  go_upto_region 3 with fail
  refine wp_region_held_drew (S := (fun w' => w'.cell? ⟨w.heap.size, 0, none⟩ = some (.int .i64 s) ∧ w'.cell? ⟨w.heap.size, 1, none⟩ = some (.int .i64 g) ∧ w'.cell? ⟨w.heap.size, 2, none⟩ = some (.slice a n c))) (by kernel_rfl) ?_ (fun hHeld => ?_)
  · first | exact SK.out _ XB | exact SK.out _ (Below.drew (Below.refl _ _))
  have XB : Below v1.heap.size v1 v1.drew := Below.drew (Below.refl _ _)
  generalize v1.drew = vx at *
  refine wpAnyH_take (i := 0) (v := ?_) (by rw [List.getElem?_toArray]; rfl) (by kernel_rfl) (by kernel_rfl) (by kernel_rfl) (by intro _ _ _ h; exact h) (Or.inl ⟨by rfl, ?_⟩) (by assumption) ?_
  rotate_left
  · (intro w hSw; (try dsimp only at hSw); go_simp; all_goals with_reducible rfl)
  (try simp only [Act.put, List.setIfInBounds_toArray, List.set_cons_zero, List.set_cons_succ])
  refine wpAnyH_take (i := 1) (v := ?_) (by rw [List.getElem?_toArray]; rfl) (by kernel_rfl) (by kernel_rfl) (by kernel_rfl) (by intro _ _ _ h; exact h) (Or.inl ⟨by rfl, ?_⟩) (by assumption) ?_
  rotate_left
  · (intro w hSw; (try dsimp only at hSw); go_simp; all_goals with_reducible rfl)
  (try simp only [Act.put, List.setIfInBounds_toArray, List.set_cons_zero, List.set_cons_succ])
  refine wpAnyH_take (i := 2) (v := ?_) (by rw [List.getElem?_toArray]; rfl) (by kernel_rfl) (by kernel_rfl) (by kernel_rfl) (by intro _ _ _ h; exact h) (Or.inl ⟨by rfl, ?_⟩) (by assumption) ?_
  rotate_left
  · (intro w hSw; (try dsimp only at hSw); go_simp; all_goals with_reducible rfl)
  (try simp only [Act.put, List.setIfInBounds_toArray, List.set_cons_zero, List.set_cons_succ])
  refine wpAnyH_take (i := 3) (v := ?_) (by rw [List.getElem?_toArray]; rfl) (by kernel_rfl) (by kernel_rfl) (by kernel_rfl) (by intro _ _ _ h; exact h) (Or.inl ⟨by rfl, ?_⟩) (by assumption) ?_
  rotate_left
  · (intro w hSw; (try dsimp only at hSw); go_simp; all_goals with_reducible rfl)
  (try simp only [Act.put, List.setIfInBounds_toArray, List.set_cons_zero, List.set_cons_succ])
  (try simp only [hw1, hx1])
  refine wpAnyH_take (i := 4) (v := ?_) (by rw [List.getElem?_toArray]; rfl) (by kernel_rfl) (by kernel_rfl) (by kernel_rfl) (by intro _ _ _ h; exact h) (Or.inl ⟨by rfl, ?_⟩) (by assumption) ?_
  rotate_left
  · (intro w hSw; (try dsimp only at hSw); go_simp; all_goals with_reducible rfl)
  (try simp only [Act.put, List.setIfInBounds_toArray, List.set_cons_zero, List.set_cons_succ])
  refine wpAnyH_ready (rs := [5]) (by kernel_rfl) (by simp) ?_
  refine AllReadyH.cons (by rw [List.getElem?_toArray]; rfl) (fun K hK => ?_) AllReadyH.nil
  go_simp
  refine (CR vx (HS.out.below (B.trans (XB.mono B.size)))).mono ?_; rintro ee vx ⟨rfl, hbl⟩; (replace XB := XB.trans (hbl.mono XB.size)); (clear hbl)
  (try go_wp2_with fail)
  refine hK.out _ _ ?_ (fun hHeld => ?_)
  · first | exact SK.out _ XB | exact SK.out _ (Below.drew (Below.refl _ _))
  clear hK K
  (try simp only [Act.put, List.setIfInBounds_toArray, List.set_cons_zero, List.set_cons_succ])
  refine wpAnyH_take (i := 6) (v := ?_) (by rw [List.getElem?_toArray]; rfl) (by kernel_rfl) (by kernel_rfl) (by kernel_rfl) (by intro _ _ _ h; exact h) (Or.inl ⟨by rfl, ?_⟩) (by assumption) ?_
  rotate_left
  · (intro w hSw; (try dsimp only at hSw); go_simp; all_goals with_reducible rfl)
  (try simp only [Act.put, List.setIfInBounds_toArray, List.set_cons_zero, List.set_cons_succ])
  (try simp only [hw2, hx2])
  refine wpAnyH_ready (rs := [7]) (by kernel_rfl) (by simp) ?_
  refine AllReadyH.cons (by rw [List.getElem?_toArray]; rfl) (fun K hK => ?_) AllReadyH.nil
  go_simp
  refine (CX vx).mono ?_; rintro ee vx' ⟨rfl, rfl⟩
  (try go_wp2_with fail)
  refine hK.out _ _ ?_ (fun hHeld => ?_)
  · first | exact SK.out _ XB | exact SK.out _ (Below.drew (Below.refl _ _))
  clear hK K
  (try simp only [Act.put, List.setIfInBounds_toArray, List.set_cons_zero, List.set_cons_succ])
  refine wpAnyH_take (i := 8) (v := ?_) (by rw [List.getElem?_toArray]; rfl) (by kernel_rfl) (by kernel_rfl) (by kernel_rfl) (by intro _ _ _ h; exact h) (Or.inl ⟨by rfl, ?_⟩) (by assumption) ?_
  rotate_left
  · (intro w hSw; (try dsimp only at hSw); go_simp; all_goals with_reducible rfl)
  (try simp only [Act.put, List.setIfInBounds_toArray, List.set_cons_zero, List.set_cons_succ])
  refine wpAnyH_done (by kernel_rfl) ?_ _
  clear n0 n1 n2 n3 n4 n5 n6
  replace B := B.trans (XB.mono B.size)
  replace N := N.below XB
  clear XB SK CR CX hw1 hx1 hw2 hx2 hne hD
  generalize vx = v2 at *
  have hwK : IntKind.i64.wrap (K + 1) = K + 1 := Go.IntWalk.i64_in _ ⟨by omega, by omega⟩
  go_wp2_with fail
  go_loopw [10] (fun j wr => ∃ (q : Nat), q ≤ 2 ∧ j = .int .i64 (K + (q : Int)) ∧ (1 ≤ q → fnd (P K) n = n) ∧ (2 ≤ q → fnd (P (K + 1)) n = n) ∧ Tx3 wr w.heap.size (.int .i64 s) (.int .i64 g) (.slice a n c) ∧ Below w.heap.size w wr) (fun j _ => (K + 2 - intOf j).toNat)
  case atStart => exact ⟨0, Nat.zero_le _, by simp, fun h => absurd h (by decide), fun h => absurd h (by decide), N, B⟩
  case round =>
    clear N B
    obtain ⟨q, hq, rfl, hq1, hq2, N, B⟩ := hrel
    by_cases hlt : q < 2
    · have hlj : K + (q : Int) ≤ K + 1 := by omega
      have HJ : Hid (∀ i, fnd (P (K + (q : Int))) n = i → i < n → noB s g M n o t = true ∧ noI s g M n o t = i ∧ noT s g M n o t = ocL s g M n i (K + (q : Int))) := fun i h hi => by
        by_cases e : q = 0
        · subst e
          rw [show K + ((0 : Nat) : Int) = K by simp] at h ⊢
          exact H1.out i h hi
        · have e1 : q = 1 := by omega
          subst e1
          exact H2.out (hq1 (by omega)) i h hi
      have HZ : Hid (fnd (P (K + (q : Int))) n = n → (1 ≤ q + 1 → fnd (P K) n = n) ∧ (2 ≤ q + 1 → fnd (P (K + 1)) n = n)) := fun h => by
        by_cases e : q = 0
        · subst e
          rw [show K + ((0 : Nat) : Int) = K by simp] at h
          exact ⟨fun _ => h, fun h2 => absurd h2 (by decide)⟩
        · have e1 : q = 1 := by omega
          subst e1
          exact ⟨fun _ => hq1 (by omega), fun _ => h⟩
      have HQ : Hid (q < 2) := hlt
      have HKQ : Hid (0 ≤ K ∧ K ≤ 1000000000000) := hK
      have hwj : IntKind.i64.wrap (K + (q : Int) + 1) = K + (q : Int) + 1 := Go.IntWalk.i64_in _ ⟨by omega, by omega⟩
      have HP2 := HP.out (K + (q : Int))
      have CO2 := fun i => CO i (K + (q : Int))
      have HP2 : Hid (∀ (i : Nat), P (K + (q : Int)) i = (ocB s g M n i (K + (q : Int)) && (((M i).1 == o) && decide (t ≤ ocL s g M n i (K + (q : Int)))))) := HP2
      have HE : Hid (K + ((q + 1 : Nat) : Int) = K + (q : Int) + 1) := by rw [Hid]; omega
      clear hq1 hq2 hlt hq
      generalize P (K + (q : Int)) = Pq at *
      generalize hJ : K + (q : Int) = J at *
      have HJJ : Hid (K + (q : Int) = J) := hJ
      clear hJ
      go_wp2_with fail
      go_loopw [11] (fun i wr => ∃ (j : Nat), j ≤ n ∧ i = .int .i64 j ∧ fnd Pq j = j ∧ Tx3 wr w.heap.size (.int .i64 s) (.int .i64 g) (.slice a n c) ∧ Below w.heap.size w wr) (fun i _ => n - (intOf i).toNat)
      case atStart => exact ⟨0, Nat.zero_le _, rfl, rfl, N, B⟩
      case round =>
        clear N B
        obtain ⟨i, hi, rfl, hF, N, B⟩ := hrel
        by_cases hlt : i < n
        · have hli : (i : Int) < (n : Int) := by omega
          have HLT : Hid (i < n) := hlt
          have HF : Hid (fnd Pq i = i) := hF
          have HI := HP2.out i
          have C := CO2 i
          have HJi : Hid (fnd Pq n = i → i < n → noB s g M n o t = true ∧ noI s g M n o t = i ∧ noT s g M n o t = ocL s g M n i J) := HJ.out i
          have LK : Hid (∀ w', SrcC w' a (n * 2) (MFSlot M) → ∃ b off, a = some ⟨b, off, none⟩ ∧ w'.cell? ⟨b, off + i * 2, none⟩ = some (.int .i64 (M i).1) ∧ w'.cell? ⟨b, off + i * 2 + 1, none⟩ = some (.int .i64 (M i).2)) := fun w' h => by
            rcases h with q | ⟨b, off, e, hc⟩
            · exact absurd q (by omega)
            · exact ⟨b, off, e, hc.elSlot hlt rfl⟩
          clear hF hlt hi CO2 CO HP HP2
          generalize ocL s g M n i J = X at *
          generalize ocH s g M n i J = Y at *
          generalize ocB s g M n i J = Q at *
          generalize (M i).1 = ow at *
          generalize (M i).2 = lg at *
          have HI : Hid (Pq i = (Q && ((ow == o) && decide (t ≤ X)))) := HI
          obtain ⟨n0, n1, n2, n3, n4, n5, n6⟩ := id N
          go_wp2_with fail
          refine (C _ (HS.out.below B)).mono ?_
          rintro e w3 ⟨rfl, hb⟩
          clear n0 n1 n2 n3 n4 n5 n6
          replace B := B.trans (hb.mono B.size)
          replace N := N.below hb
          clear hb
          have NL := Below.nw w3 (.cells #[.int .i64 X, .int .i64 Y] 38)
          have Z := Bx2.new w3 (.int .i64 X) (.int .i64 Y) 38
          go_upto_region 11 with fail
          replace B := B.trans (NL.mono B.size)
          replace N := N.below NL
          clear NL C
          generalize w3.alloc (.cells #[.int .i64 X, .int .i64 Y] 38) = w4 at *
          generalize w3.heap.size = jz at *
          obtain ⟨z0, z1, z2, z3, z4⟩ := id Z
          cases Q
          · have HM : Hid (fnd Pq (i + 1) = i + 1) := fnd_miss HF.out (by rw [HI.out]; rfl)
            clear LK
            go_wp2_with fail
            go_roundw
            case rel => exact ⟨i + 1, HLT.out, by go_num, HM.out, N, B⟩
            case measure => have hlt' := HLT.out; simp [intOf]; omega
          obtain ⟨b, off, rfl, c1, c2⟩ := LK.out w4 (HS.out.below B)
          clear LK
          obtain ⟨n0, n1, n2, n3, n4, n5, n6⟩ := id N
          cases ho : (ow == o)
          · have HM : Hid (fnd Pq (i + 1) = i + 1) := fnd_miss HF.out (by rw [HI.out, ho]; rfl)
            go_wp2_with fail
            go_roundw
            case rel => exact ⟨i + 1, HLT.out, by go_num, HM.out, N, B⟩
            case measure => have hlt' := HLT.out; simp [intOf]; omega
          by_cases hX : t ≤ X
          · have HM : Hid (fnd Pq n = i) := fnd_is HF.out (by rw [HI.out, ho, decide_eq_true hX]; rfl) HLT.out
            go_upto_region 12 with fail
            refine wp_region_held_drew (S := (fun w' => w'.cell? ⟨jz, 0, none⟩ = some (.int .i64 X) ∧ w'.cell? ⟨jz, 1, none⟩ = some (.int .i64 Y))) (by kernel_rfl) ?_ (fun hHeld => ?_)
            · first | exact ⟨z1, z2⟩ | exact ⟨z1, z2⟩
            refine wpAnyH_take (i := 0) (v := ?_) (by rw [List.getElem?_toArray]; rfl) (by kernel_rfl) (by kernel_rfl) (by kernel_rfl) (by intro _ _ _ h; exact h) (Or.inl ⟨by rfl, ?_⟩) (by assumption) ?_
            rotate_left
            · (intro w hSw; (try dsimp only at hSw); go_simp; all_goals with_reducible rfl)
            (try simp only [Act.put, List.setIfInBounds_toArray, List.set_cons_zero, List.set_cons_succ])
            refine wpAnyH_take (i := 1) (v := ?_) (by rw [List.getElem?_toArray]; rfl) (by kernel_rfl) (by kernel_rfl) (by kernel_rfl) (by intro _ _ _ h; exact h) (Or.inl ⟨by rfl, ?_⟩) (by assumption) ?_
            rotate_left
            · (intro w hSw; (try dsimp only at hSw); go_simp; all_goals with_reducible rfl)
            (try simp only [Act.put, List.setIfInBounds_toArray, List.set_cons_zero, List.set_cons_succ])
            refine wpAnyH_take (i := 2) (v := ?_) (by rw [List.getElem?_toArray]; rfl) (by kernel_rfl) (by kernel_rfl) (by kernel_rfl) (by intro _ _ _ h; exact h) (Or.inl ⟨by rfl, ?_⟩) (by assumption) ?_
            rotate_left
            · (intro w hSw; (try dsimp only at hSw); go_simp; all_goals with_reducible rfl)
            (try simp only [Act.put, List.setIfInBounds_toArray, List.set_cons_zero, List.set_cons_succ])
            refine wpAnyH_take (i := 3) (v := ?_) (by rw [List.getElem?_toArray]; rfl) (by kernel_rfl) (by kernel_rfl) (by kernel_rfl) (by intro _ _ _ h; exact h) (Or.inl ⟨by rfl, ?_⟩) (by assumption) ?_
            rotate_left
            · (intro w hSw; (try dsimp only at hSw); go_simp; all_goals with_reducible rfl)
            (try simp only [Act.put, List.setIfInBounds_toArray, List.set_cons_zero, List.set_cons_succ])
            refine wpAnyH_take (i := 4) (v := ?_) (by rw [List.getElem?_toArray]; rfl) (by kernel_rfl) (by kernel_rfl) (by kernel_rfl) (by intro _ _ _ h; exact h) (Or.inl ⟨by rfl, ?_⟩) (by assumption) ?_
            rotate_left
            · (intro w hSw; (try dsimp only at hSw); go_simp; all_goals with_reducible rfl)
            (try simp only [Act.put, List.setIfInBounds_toArray, List.set_cons_zero, List.set_cons_succ])
            refine wpAnyH_take (i := 5) (v := ?_) (by rw [List.getElem?_toArray]; rfl) (by kernel_rfl) (by kernel_rfl) (by kernel_rfl) (by intro _ _ _ h; exact h) (Or.inl ⟨by rfl, ?_⟩) (by assumption) ?_
            rotate_left
            · (intro w hSw; (try dsimp only at hSw); go_simp; all_goals with_reducible rfl)
            (try simp only [Act.put, List.setIfInBounds_toArray, List.set_cons_zero, List.set_cons_succ])
            refine wpAnyH_done (by kernel_rfl) ?_ _
            go_wp2_with fail
            obtain ⟨e1, e2, e3⟩ := HJi.out HM.out HLT.out
            exact bodyPost_ret (v := (.tuple #[.int .i64 (i : Int), .int .i64 X, .bool true])) (by simp (maxDischargeDepth := 6) [results, Try.results30, go_sem, *]) rfl ⟨by rw [e1, e2, e3], Below.drew B⟩
          · have HM : Hid (fnd Pq (i + 1) = i + 1) := fnd_miss HF.out (by rw [HI.out, decide_eq_false hX]; simp)
            go_wp2_with fail
            go_roundw
            case rel => exact ⟨i + 1, HLT.out, by go_num, HM.out, N, B⟩
            case measure => have hlt' := HLT.out; simp [intOf]; omega
        · have hkn : i = n := by omega
          subst hkn
          have hli : ¬ (i : Int) < (i : Int) := by omega
          have HZ2 : Hid ((1 ≤ q + 1 → fnd (P K) i = i) ∧ (2 ≤ q + 1 → fnd (P (K + 1)) i = i)) := HZ.out hF
          clear hF
          obtain ⟨n0, n1, n2, n3, n4, n5, n6⟩ := id N
          go_wp2_with fail
          go_roundw
          case rel => exact ⟨q + 1, HQ.out, by rw [HE.out], HZ2.out.1, HZ2.out.2, N, B⟩
          case measure => have h1' := HQ.out; have h2' := HJJ.out; simp [intOf]; omega
    · have e2 : q = 2 := by omega
      subst e2
      have hlj : ¬ K + ((2 : Nat) : Int) ≤ K + 1 := by omega
      have HA : Hid (fnd (P K) n = n) := hq1 (by omega)
      have HB : Hid (fnd (P (K + 1)) n = n) := hq2 (by omega)
      clear hq1 hq2
      go_wp2_with fail
      obtain ⟨e1, e2, e3⟩ := H0.out HA.out HB.out
      exact bodyPost_ret (v := (.tuple #[.int .i64 0, .int .i64 0, .bool false])) (by simp (maxDischargeDepth := 6) [results, Try.results30, go_sem, *]) rfl ⟨by rw [e1, e2, e3], B⟩
end Go.Proofs.Ytkdbgchmknanlaa
