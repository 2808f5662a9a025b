/- Occurrence in the specification. -/
import Derived.Test.YtcakhfobkbgfoaaDoorB134
import Derived.Deep.RegionHeld3
import Derived.WalkKit
import Derived.WalkSpells
import Derived.WalkLawsBesides
import Derived.Deep.RegionHeld
namespace Go.Proofs.YtcakhfobkbgfoaaDoor
open Go.RowKit
set_option linter.unusedVariables false
/- Where an occurrence lies, in the specification. -/
def kkB (k : Int) : Bool := decide (0 ≤ k ∧ k ≤ 1000000000000)
theorem oc_out {s g : Int} {M : Nat → SlT} {n : Nat} {i k : Int} (h : ocG s g M n i k = false) : ocB s g M n i k = false ∧ ocL s g M n i k = 0 ∧ ocH s g M n i k = 0 := by
  have e : ocB s g M n i k = false := by unfold ocB; rw [h]; rfl
  exact ⟨e, oc_no e⟩
set_option maxRecDepth 100000 in
set_option maxHeartbeats 8000000 in
theorem specOccurrence_any (s g : Int) (a : Option Addr) (n c : Nat) (M : Nat → SlT) (i k : Int) (w : World) (hm : n ≤ maxLen) (hs : SrcC w a (n * 2) (MFSlot M)) :
    Calls Tryd.prog 21 #[.agg #[.int .i64 s, .int .i64 g, .slice a n c], .int .i64 i, .int .i64 k] w fun e w' => e = .returned (.tuple #[.agg #[.int .i64 (ocL s g M n i k), .int .i64 (ocH s g M n i k)], .bool (ocB s g M n i k)]) ∧ Below w.heap.size w w' := by
  have A0 := Below.nw w (.cells #[.int .i64 s, .int .i64 g, .slice a n c] 30)
  have A1 := Below.nw (w.alloc (.cells #[.int .i64 s, .int .i64 g, .slice a n c] 30)) (.cells #[.int .i64 0, .int .i64 0] 25)
  have N := (Tx3.new w (.int .i64 s) (.int .i64 g) (.slice a n c) 30).below A1
  have R := Bx2.new (w.alloc (.cells #[.int .i64 s, .int .i64 g, .slice a n c] 30)) (.int .i64 0) (.int .i64 0) 25
  have B := A0.trans (A1.mono A0.size)
  simp only [World.size_alloc] at R
  clear A0 A1
  have hj : w.heap.size ≤ w.heap.size + 1 := by omega
  have HS : Hid (SrcC w a (n * 2) (MFSlot M)) := hs
  clear hs
  have C1 := fun w' h => l13Slot_any s g a n c M i w' hm h
  have CK : ∀ w', Calls Tryd.prog 51 #[.int .i64 k, .int .i64 0, .int .i64 1000000000000] w' fun e w'' => e = .returned (.bool (kkB k)) ∧ w' = w'' := fun w' => l1In_any k 0 1000000000000 w'
  cases h1 : sfB s g M n i
  · obtain ⟨e1, e2, e3⟩ := oc_out (k := k) (show ocG s g M n i k = false by unfold ocG; rw [h1]; rfl)
    rw [e1, e2, e3]
    rw [h1] at C1
    clear e1 e2 e3
    go_enter Tryd.func21, Tryd.ntmps21
    go_upto_region 1 with fail
    generalize (w.alloc (.cells #[.int .i64 s, .int .i64 g, .slice a n c] 30)).alloc (.cells #[.int .i64 0, .int .i64 0] 25) = v at *
    generalize w.heap.size + 1 = jr at *
    obtain ⟨n0, n1, n2, n3, n4, n5, n6⟩ := id N
    go_wp2_with fail
    refine (C1 _ (HS.out.below B)).mono ?_
    rintro e v1 ⟨rfl, hb⟩
    clear n0 n1 n2 n3 n4 n5 n6
    replace B := B.trans (hb.mono B.size)
    replace N := N.below hb
    replace R := R.below hb
    clear hb
    have RR := (R.set0 (.int .i64 0)).set1 (.int .i64 0)
    have BB := (B.setCell (p := ⟨jr, 0, none⟩) hj (.int .i64 0)).setCell (p := ⟨jr, 1, none⟩) hj (.int .i64 0)
    obtain ⟨r0, r1, r2, r3, r4⟩ := id R
    go_wp2_with fail
    clear r0 r1 r2 r3 r4
    generalize (v1.setCell ⟨jr, 0, none⟩ (.int .i64 0)).setCell ⟨jr, 1, none⟩ (.int .i64 0) = vz at *
    obtain ⟨r0, r1, r2, r3, r4⟩ := id RR
    exact bodyPost_ret (v := (.tuple #[.agg #[.int .i64 0, .int .i64 0], .bool false])) (by simp (maxDischargeDepth := 6) [results, Tryd.results21, go_sem, *]) rfl ⟨rfl, BB⟩
  rw [h1] at C1
  cases h2 : kkB k
  · obtain ⟨e1, e2, e3⟩ := oc_out (s := s) (g := g) (M := M) (n := n) (i := i) (k := k) (by unfold ocG okK; rw [show decide (0 ≤ k ∧ k ≤ 1000000000000) = false from h2]; simp)
    rw [e1, e2, e3]
    clear e1 e2 e3
    go_enter Tryd.func21, Tryd.ntmps21
    go_upto_region 1 with fail
    generalize (w.alloc (.cells #[.int .i64 s, .int .i64 g, .slice a n c] 30)).alloc (.cells #[.int .i64 0, .int .i64 0] 25) = v at *
    generalize w.heap.size + 1 = jr at *
    obtain ⟨n0, n1, n2, n3, n4, n5, n6⟩ := id N
    go_wp2_with fail
    refine (C1 _ (HS.out.below B)).mono ?_
    rintro e v1 ⟨rfl, hb⟩
    clear n0 n1 n2 n3 n4 n5 n6
    replace B := B.trans (hb.mono B.size)
    replace N := N.below hb
    replace R := R.below hb
    clear hb
    go_wp2_with fail
    refine (CK _).mono ?_
    rintro e w' ⟨rfl, rfl⟩
    rw [h2]
    have RR := (R.set0 (.int .i64 0)).set1 (.int .i64 0)
    have BB := (B.setCell (p := ⟨jr, 0, none⟩) hj (.int .i64 0)).setCell (p := ⟨jr, 1, none⟩) hj (.int .i64 0)
    obtain ⟨r0, r1, r2, r3, r4⟩ := id R
    go_wp2_with fail
    clear r0 r1 r2 r3 r4
    generalize (v1.setCell ⟨jr, 0, none⟩ (.int .i64 0)).setCell ⟨jr, 1, none⟩ (.int .i64 0) = vz at *
    obtain ⟨r0, r1, r2, r3, r4⟩ := id RR
    exact bodyPost_ret (v := (.tuple #[.agg #[.int .i64 0, .int .i64 0], .bool false])) (by simp (maxDischargeDepth := 6) [results, Tryd.results21, go_sem, *]) rfl ⟨rfl, BB⟩
  obtain ⟨q1, q2, q3, q4⟩ := sfB_t h1
  have CR := fun w' h => specRoundOf_any s g a n c M w' hm h
  have hr := rn_bd q1
  rw [rnI_t q1] at CR
  have hq : (1000000000000 : Int).tdiv (upS g M n) = 1000000000000 / upS g M n := Int.tdiv_eq_ediv_of_nonneg (by decide)
  have hb1 : 0 ≤ 1000000000000 / upS g M n := Int.ediv_nonneg (by decide) (by omega)
  have hb2 : 1000000000000 / upS g M n ≤ 1000000000000 := Int.ediv_le_self _ (by decide)
  have hne : (upS g M n == 0) = false := by rw [beq_eq_false_iff_ne]; omega
  have hu0 : 0 < upS g M n := by omega
  have hwd : IntKind.i64.wrap (1000000000000 / upS g M n) = 1000000000000 / upS g M n := Go.IntWalk.i64_in _ ⟨by omega, by omega⟩
  by_cases h3 : 1000000000000 / upS g M n < k
  · obtain ⟨e1, e2, e3⟩ := oc_out (s := s) (g := g) (M := M) (n := n) (i := i) (k := k) (by unfold ocG okK; rw [decide_eq_true h3]; simp)
    rw [e1, e2, e3]
    clear e1 e2 e3 hb1 hb2 hr q1 q2 q3 q4
    generalize 1000000000000 / upS g M n = d at *
    generalize upS g M n = u at *
    go_enter Tryd.func21, Tryd.ntmps21
    go_upto_region 1 with fail
    generalize (w.alloc (.cells #[.int .i64 s, .int .i64 g, .slice a n c] 30)).alloc (.cells #[.int .i64 0, .int .i64 0] 25) = v at *
    generalize w.heap.size + 1 = jr at *
    obtain ⟨n0, n1, n2, n3, n4, n5, n6⟩ := id N
    go_wp2_with fail
    refine (C1 _ (HS.out.below B)).mono ?_
    rintro e v1 ⟨rfl, hb⟩
    clear n0 n1 n2 n3 n4 n5 n6
    replace B := B.trans (hb.mono B.size)
    replace N := N.below hb
    replace R := R.below hb
    clear hb
    go_wp2_with fail
    refine (CK _).mono ?_
    rintro e w' ⟨rfl, rfl⟩
    rw [h2]
    obtain ⟨n0, n1, n2, n3, n4, n5, n6⟩ := id N
    go_wp2_with fail
    refine (CR _ (HS.out.below B)).mono ?_
    rintro e v2 ⟨rfl, hb⟩
    clear n0 n1 n2 n3 n4 n5 n6
    replace B := B.trans (hb.mono B.size)
    replace N := N.below hb
    replace R := R.below hb
    clear hb
    have RR := (R.set0 (.int .i64 0)).set1 (.int .i64 0)
    have BB := (B.setCell (p := ⟨jr, 0, none⟩) hj (.int .i64 0)).setCell (p := ⟨jr, 1, none⟩) hj (.int .i64 0)
    obtain ⟨r0, r1, r2, r3, r4⟩ := id R
    go_wp2_with fail
    clear r0 r1 r2 r3 r4
    generalize (v2.setCell ⟨jr, 0, none⟩ (.int .i64 0)).setCell ⟨jr, 1, none⟩ (.int .i64 0) = vz at *
    obtain ⟨r0, r1, r2, r3, r4⟩ := id RR
    exact bodyPost_ret (v := (.tuple #[.agg #[.int .i64 0, .int .i64 0], .bool false])) (by simp (maxDischargeDepth := 6) [results, Tryd.results21, go_sem, *]) rfl ⟨rfl, BB⟩
  have hG : ocG s g M n i k = true := by
    unfold ocG okK
    rw [h1, show decide (0 ≤ k ∧ k ≤ 1000000000000) = true from h2, decide_eq_false h3]
    rfl
  obtain ⟨o1, o2, o3, o4, o5, o6, o7⟩ := ocG_bd hG
  obtain ⟨e1, e2, e3⟩ := oc_sel hG
  rw [e1, e2, e3]
  clear e1 e2 e3
  have CU := fun w' h => specUpto_any s g a n c M i.toNat w' q1 (Nat.le_of_lt q3) h
  rw [q4] at CU
  have CT := fun w' => l1Told_any (ocF s g M n i k) (ocF s g M n i k + (M i.toNat).2) w'
  have LK : Hid (∀ w', SrcC w' a (n * 2) (MFSlot M) → ∃ b off, a = some ⟨b, off, none⟩ ∧ w'.cell? ⟨b, off + i.toNat * 2, none⟩ = some (.int .i64 (M i.toNat).1) ∧ w'.cell? ⟨b, off + i.toNat * 2 + 1, none⟩ = some (.int .i64 (M i.toNat).2)) := fun w' h => by
    rcases h with q | ⟨b, off, e, hc⟩
    · exact absurd q (by omega)
    · exact ⟨b, off, e, hc.elSlot q3 (show M i.toNat = ((M i.toNat).1, (M i.toNat).2) from rfl)⟩
  have hiN : i = ((i.toNat : Nat) : Int) := q4.symm
  have HI : Hid ((i.toNat : Int) < (n : Int)) := by rw [Hid]; omega
  have hw1 : IntKind.i64.wrap (k * upS g M n) = k * upS g M n := Go.IntWalk.i64_in _ ⟨by omega, by omega⟩
  have hx1 : wrap64 (k * upS g M n) = k * upS g M n := Go.IntWalk.wrap64_in _ ⟨by omega, by omega⟩
  have hw2 : IntKind.i64.wrap (s + k * upS g M n) = s + k * upS g M n := Go.IntWalk.i64_in _ ⟨by omega, by omega⟩
  have hx2 : wrap64 (s + k * upS g M n) = s + k * upS g M n := Go.IntWalk.wrap64_in _ ⟨by omega, by omega⟩
  have hw3 : IntKind.i64.wrap (s + k * upS g M n + upS g M i.toNat) = ocF s g M n i k := Go.IntWalk.i64_in _ ⟨by have := o3; unfold ocF at this; omega, by have := o3; unfold ocF at this; omega⟩
  have hx3 : wrap64 (s + k * upS g M n + upS g M i.toNat) = ocF s g M n i k := Go.IntWalk.wrap64_in _ ⟨by have := o3; unfold ocF at this; omega, by have := o3; unfold ocF at this; omega⟩
  have hw4 : IntKind.i64.wrap (ocF s g M n i k + (M i.toNat).2) = ocF s g M n i k + (M i.toNat).2 := Go.IntWalk.i64_in _ ⟨by omega, by omega⟩
  clear hG o1 o2 o3 o4 o5 o6 o7 q1 q2 q3 q4 hb1 hb2 hr h1
  generalize i.toNat = iN at *
  subst hiN
  generalize ocF s g M n (iN : Int) k = F at *
  generalize (M iN).2 = lg at *
  generalize (M iN).1 = ow at *
  generalize upS g M iN = ui at *
  generalize 1000000000000 / upS g M n = d at *
  generalize upS g M n = u at *
  have hli := HI.out
  generalize sel (okI F (F + lg)) F = X at *
  generalize sel (okI F (F + lg)) (F + lg) = Y at *
  generalize okI F (F + lg) = Q at *
  go_enter Tryd.func21, Tryd.ntmps21
  go_upto_region 1 with fail
  generalize (w.alloc (.cells #[.int .i64 s, .int .i64 g, .slice a n c] 30)).alloc (.cells #[.int .i64 0, .int .i64 0] 25) = v at *
  generalize w.heap.size + 1 = jr at *
  obtain ⟨n0, n1, n2, n3, n4, n5, n6⟩ := id N
  go_wp2_with fail
  refine (C1 _ (HS.out.below B)).mono ?_
  rintro e v1 ⟨rfl, hb⟩
  clear n0 n1 n2 n3 n4 n5 n6
  replace B := B.trans (hb.mono B.size)
  replace N := N.below hb
  replace R := R.below hb
  clear hb
  go_wp2_with fail
  refine (CK _).mono ?_
  rintro e w' ⟨rfl, rfl⟩
  rw [h2]
  obtain ⟨n0, n1, n2, n3, n4, n5, n6⟩ := id N
  go_wp2_with fail
  refine (CR _ (HS.out.below B)).mono ?_
  rintro e v3 ⟨rfl, hb⟩
  clear n0 n1 n2 n3 n4 n5 n6
  replace B := B.trans (hb.mono B.size)
  replace N := N.below hb
  replace R := R.below hb
  clear hb
  clear C1 CK h2
  obtain ⟨n0, n1, n2, n3, n4, n5, n6⟩ := id N
  have SK : Hid (∀ w', Below v3.heap.size v3 w' → ((fun w' => w'.cell? ⟨w.heap.size, 0, none⟩ = some (.int .i64 s) ∧ w'.cell? ⟨w.heap.size, 1, none⟩ = some (.int .i64 g) ∧ w'.cell? ⟨w.heap.size, 2, none⟩ = some (.slice a n c))) w') := fun w' hw => ⟨(N.below hw).2.1, (N.below hw).2.2.1, (N.below hw).2.2.2.1⟩
  go_upto_region 3 with fail
  refine wp_region_held_drew (S := (fun w' => w'.cell? ⟨w.heap.size, 0, none⟩ = some (.int .i64 s) ∧ w'.cell? ⟨w.heap.size, 1, none⟩ = some (.int .i64 g) ∧ w'.cell? ⟨w.heap.size, 2, none⟩ = some (.slice a n c))) (by kernel_rfl) ?_ (fun hHeld => ?_)
  · first | exact SK.out _ XB | exact SK.out _ (Below.drew (Below.refl _ _))
  have XB : Below v3.heap.size v3 v3.drew := Below.drew (Below.refl _ _)
  generalize v3.drew = vx at *
  refine wpAnyH_take (i := 0) (v := ?_) (by rw [List.getElem?_toArray]; rfl) (by kernel_rfl) (by kernel_rfl) (by kernel_rfl) (by intro _ _ _ h; exact h) (Or.inl ⟨by rfl, ?_⟩) (by assumption) ?_
  rotate_left
  · (intro w hSw; (try dsimp only at hSw); go_simp; all_goals with_reducible rfl)
  (try simp only [Act.put, List.setIfInBounds_toArray, List.set_cons_zero, List.set_cons_succ])
  refine wpAnyH_take (i := 1) (v := ?_) (by rw [List.getElem?_toArray]; rfl) (by kernel_rfl) (by kernel_rfl) (by kernel_rfl) (by intro _ _ _ h; exact h) (Or.inl ⟨by rfl, ?_⟩) (by assumption) ?_
  rotate_left
  · (intro w hSw; (try dsimp only at hSw); go_simp; all_goals with_reducible rfl)
  (try simp only [Act.put, List.setIfInBounds_toArray, List.set_cons_zero, List.set_cons_succ])
  refine wpAnyH_take (i := 2) (v := ?_) (by rw [List.getElem?_toArray]; rfl) (by kernel_rfl) (by kernel_rfl) (by kernel_rfl) (by intro _ _ _ h; exact h) (Or.inl ⟨by rfl, ?_⟩) (by assumption) ?_
  rotate_left
  · (intro w hSw; (try dsimp only at hSw); go_simp; all_goals with_reducible rfl)
  (try simp only [Act.put, List.setIfInBounds_toArray, List.set_cons_zero, List.set_cons_succ])
  refine wpAnyH_take (i := 3) (v := ?_) (by rw [List.getElem?_toArray]; rfl) (by kernel_rfl) (by kernel_rfl) (by kernel_rfl) (by intro _ _ _ h; exact h) (Or.inl ⟨by rfl, ?_⟩) (by assumption) ?_
  rotate_left
  · (intro w hSw; (try dsimp only at hSw); go_simp; all_goals with_reducible rfl)
  (try simp only [Act.put, List.setIfInBounds_toArray, List.set_cons_zero, List.set_cons_succ])
  refine wpAnyH_take (i := 7) (v := ?_) (by rw [List.getElem?_toArray]; rfl) (by kernel_rfl) (by kernel_rfl) (by kernel_rfl) (by intro _ _ _ h; exact h) (Or.inl ⟨by rfl, ?_⟩) (by assumption) ?_
  rotate_left
  · (intro w hSw; (try dsimp only at hSw); go_simp; all_goals with_reducible rfl)
  (try simp only [Act.put, List.setIfInBounds_toArray, List.set_cons_zero, List.set_cons_succ])
  refine wpAnyH_take (i := 8) (v := ?_) (by rw [List.getElem?_toArray]; rfl) (by kernel_rfl) (by kernel_rfl) (by kernel_rfl) (by intro _ _ _ h; exact h) (Or.inl ⟨by rfl, ?_⟩) (by assumption) ?_
  rotate_left
  · (intro w hSw; (try dsimp only at hSw); go_simp; all_goals with_reducible rfl)
  (try simp only [Act.put, List.setIfInBounds_toArray, List.set_cons_zero, List.set_cons_succ])
  refine wpAnyH_ready (rs := [4]) (by kernel_rfl) (by simp) ?_
  refine AllReadyH.cons (by rw [List.getElem?_toArray]; rfl) (fun K hK => ?_) AllReadyH.nil
  go_simp
  refine (CR vx (HS.out.below (B.trans (XB.mono B.size)))).mono ?_; rintro ee vx ⟨rfl, hbl⟩; (replace XB := XB.trans (hbl.mono XB.size)); (clear hbl)
  (try go_wp2_with fail)
  refine hK.out _ _ ?_ (fun hHeld => ?_)
  · first | exact SK.out _ XB | exact SK.out _ (Below.drew (Below.refl _ _))
  clear hK K
  (try simp only [Act.put, List.setIfInBounds_toArray, List.set_cons_zero, List.set_cons_succ])
  refine wpAnyH_take (i := 5) (v := ?_) (by rw [List.getElem?_toArray]; rfl) (by kernel_rfl) (by kernel_rfl) (by kernel_rfl) (by intro _ _ _ h; exact h) (Or.inl ⟨by rfl, ?_⟩) (by assumption) ?_
  rotate_left
  · (intro w hSw; (try dsimp only at hSw); go_simp; all_goals with_reducible rfl)
  (try simp only [Act.put, List.setIfInBounds_toArray, List.set_cons_zero, List.set_cons_succ])
  (try simp only [hw1, hx1])
  refine wpAnyH_take (i := 6) (v := ?_) (by rw [List.getElem?_toArray]; rfl) (by kernel_rfl) (by kernel_rfl) (by kernel_rfl) (by intro _ _ _ h; exact h) (Or.inl ⟨by rfl, ?_⟩) (by assumption) ?_
  rotate_left
  · (intro w hSw; (try dsimp only at hSw); go_simp; all_goals with_reducible rfl)
  (try simp only [Act.put, List.setIfInBounds_toArray, List.set_cons_zero, List.set_cons_succ])
  (try simp only [hw2, hx2])
  refine wpAnyH_ready (rs := [9]) (by kernel_rfl) (by simp) ?_
  refine AllReadyH.cons (by rw [List.getElem?_toArray]; rfl) (fun K hK => ?_) AllReadyH.nil
  go_simp
  refine (CU vx (HS.out.below (B.trans (XB.mono B.size)))).mono ?_; rintro ee vx ⟨rfl, hbl⟩; (replace XB := XB.trans (hbl.mono XB.size)); (clear hbl)
  (try go_wp2_with fail)
  refine hK.out _ _ ?_ (fun hHeld => ?_)
  · first | exact SK.out _ XB | exact SK.out _ (Below.drew (Below.refl _ _))
  clear hK K
  (try simp only [Act.put, List.setIfInBounds_toArray, List.set_cons_zero, List.set_cons_succ])
  refine wpAnyH_take (i := 10) (v := ?_) (by rw [List.getElem?_toArray]; rfl) (by kernel_rfl) (by kernel_rfl) (by kernel_rfl) (by intro _ _ _ h; exact h) (Or.inl ⟨by rfl, ?_⟩) (by assumption) ?_
  rotate_left
  · (intro w hSw; (try dsimp only at hSw); go_simp; all_goals with_reducible rfl)
  (try simp only [Act.put, List.setIfInBounds_toArray, List.set_cons_zero, List.set_cons_succ])
  (try simp only [hw3, hx3])
  refine wpAnyH_take (i := 11) (v := ?_) (by rw [List.getElem?_toArray]; rfl) (by kernel_rfl) (by kernel_rfl) (by kernel_rfl) (by intro _ _ _ h; exact h) (Or.inl ⟨by rfl, ?_⟩) (by assumption) ?_
  rotate_left
  · (intro w hSw; (try dsimp only at hSw); go_simp; all_goals with_reducible rfl)
  (try simp only [Act.put, List.setIfInBounds_toArray, List.set_cons_zero, List.set_cons_succ])
  refine wpAnyH_done (by kernel_rfl) ?_ _
  clear n0 n1 n2 n3 n4 n5 n6
  replace B := B.trans (XB.mono B.size)
  replace N := N.below XB
  replace R := R.below XB
  clear XB SK CR CU
  generalize vx = v4 at *
  obtain ⟨b, off, rfl, c1, c2⟩ := LK.out v4 (HS.out.below B)
  clear LK HS
  obtain ⟨n0, n1, n2, n3, n4, n5, n6⟩ := id N
  go_wp2_with fail
  refine (CT _).mono ?_
  rintro e v5 ⟨rfl, hb⟩
  clear n0 n1 n2 n3 n4 n5 n6
  clear c1 c2
  replace B := B.trans (hb.mono B.size)
  replace N := N.below hb
  replace R := R.below hb
  clear hb
  have RR := (R.set0 (.int .i64 X)).set1 (.int .i64 Y)
  have BB := (B.setCell (p := ⟨jr, 0, none⟩) hj (.int .i64 X)).setCell (p := ⟨jr, 1, none⟩) hj (.int .i64 Y)
  obtain ⟨r0, r1, r2, r3, r4⟩ := id R
  go_wp2_with fail
  clear r0 r1 r2 r3 r4
  generalize (v5.setCell ⟨jr, 0, none⟩ (.int .i64 X)).setCell ⟨jr, 1, none⟩ (.int .i64 Y) = vz at *
  obtain ⟨r0, r1, r2, r3, r4⟩ := id RR
  exact bodyPost_ret (v := (.tuple #[.agg #[.int .i64 X, .int .i64 Y], .bool Q])) (by simp (maxDischargeDepth := 6) [results, Tryd.results21, go_sem, *]) rfl ⟨rfl, BB⟩
end Go.Proofs.YtcakhfobkbgfoaaDoor
