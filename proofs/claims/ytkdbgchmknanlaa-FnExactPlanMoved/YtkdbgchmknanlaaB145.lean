/- SlotFrom and Occurrence in the program. -/
import Derived.Test.YtkdbgchmknanlaaB144
import Derived.Deep.RegionHeld3
import Derived.WalkKit
import Derived.WalkSpells
import Derived.WalkLawsBesides
import Derived.Deep.RegionHeld
namespace Go.Proofs.Ytkdbgchmknanlaa
open Go.RowKit
set_option linter.unusedVariables false
/- When a slot begins in a round, in the program. -/
set_option maxRecDepth 100000 in
set_option maxHeartbeats 8000000 in
theorem implSlotFrom_any (s g : Int) (a : Option Addr) (n c : Nat) (M : Nat → SlT) (i : Int) (w : World) (hm : n ≤ maxLen) (hs : SrcC w a (n * 2) (MFSlot M)) :
    Calls Try.prog 22 #[.agg #[.int .i64 s, .int .i64 g, .slice a n c], .int .i64 i] w fun e w' => e = .returned (.tuple #[.int .i64 (sfI s g M n i), .bool (sfB s g M n i)]) ∧ Below w.heap.size w w' := by
  have B := Below.nw w (.cells #[.int .i64 s, .int .i64 g, .slice a n c] 29)
  have N := Tx3.new w (.int .i64 s) (.int .i64 g) (.slice a n c) 29
  have HS : Hid (SrcC w a (n * 2) (MFSlot M)) := hs
  clear hs
  have C1 := fun w' h => planHas_any s g a n c M i w' hm h
  cases h1 : sfB s g M n i
  · have e0 : sfI s g M n i = 0 := by unfold sfI; rw [h1]
    rw [e0]
    rw [h1] at C1
    clear e0
    go_enter Try.func22, Try.ntmps22
    go_upto_region 1 with fail
    generalize w.alloc (.cells #[.int .i64 s, .int .i64 g, .slice a n c] 29) = v at *
    obtain ⟨n0, n1, n2, n3, n4, n5, n6⟩ := id N
    go_wp2_with fail
    refine (C1 _ (HS.out.below B)).mono ?_
    rintro e v1 ⟨rfl, hb⟩
    clear n0 n1 n2 n3 n4 n5 n6
    replace B := B.trans (hb.mono B.size)
    replace N := N.below hb
    clear hb
    go_wp2_with fail
    go_ret2
    exact ⟨rfl, B⟩
  have e0 : sfI s g M n i = upS g M i.toNat := by unfold sfI; rw [h1]
  obtain ⟨q1, q2, q3, q4⟩ := sfB_t h1
  obtain ⟨p1, p2, p3, p4⟩ := plB_t q1
  have hu := upS_bd p2 p4 i.toNat (by omega)
  rw [e0]
  rw [h1] at C1
  have CD := fun w' h => rounds1_any s g a n c M 0 w' q1 kOk_zero h
  have eF : ocF s g M n (i.toNat : Int) 0 = s + upS g M i.toNat := by unfold ocF; rw [Int.zero_mul, Int.add_zero, Int.toNat_natCast]
  have hw1 : IntKind.i64.wrap (ocF s g M n (i.toNat : Int) 0 - s) = upS g M i.toNat := by rw [eF]; rw [show s + upS g M i.toNat - s = upS g M i.toNat by omega]; exact Go.IntWalk.i64_in _ ⟨by omega, by omega⟩
  have hx1 : wrap64 (ocF s g M n (i.toNat : Int) 0 - s) = upS g M i.toNat := by rw [eF]; rw [show s + upS g M i.toNat - s = upS g M i.toNat by omega]; exact Go.IntWalk.wrap64_in _ ⟨by omega, by omega⟩
  have HI : Hid (i.toNat < n) := q3
  have hiN : i = ((i.toNat : Nat) : Int) := q4.symm
  have hli : (i.toNat : Int) < (n : Int) := by omega
  clear e0 eF q1 q2 q3 q4 p1 p2 p3 p4 hu h1
  generalize i.toNat = iN at *
  subst hiN
  generalize upS g M iN = ui at *
  go_enter Try.func22, Try.ntmps22
  go_upto_region 1 with fail
  generalize w.alloc (.cells #[.int .i64 s, .int .i64 g, .slice a n c] 29) = v at *
  obtain ⟨n0, n1, n2, n3, n4, n5, n6⟩ := id N
  go_wp2_with fail
  refine (C1 _ (HS.out.below B)).mono ?_
  rintro e v1 ⟨rfl, hb⟩
  clear n0 n1 n2 n3 n4 n5 n6
  replace B := B.trans (hb.mono B.size)
  replace N := N.below hb
  clear hb
  obtain ⟨n0, n1, n2, n3, n4, n5, n6⟩ := id N
  have SK : Hid (∀ w', Below v1.heap.size v1 w' → ((fun w' => w'.cell? ⟨w.heap.size, 0, none⟩ = some (.int .i64 s) ∧ w'.cell? ⟨w.heap.size, 1, none⟩ = some (.int .i64 g) ∧ w'.cell? ⟨w.heap.size, 2, none⟩ = some (.slice a n c))) w') := fun w' hw => ⟨(N.below hw).2.1, (N.below hw).2.2.1, (N.below hw).2.2.2.1⟩
  go_upto_region 3 with fail
  refine wp_region_held_drew (S := (fun w' => w'.cell? ⟨w.heap.size, 0, none⟩ = some (.int .i64 s) ∧ w'.cell? ⟨w.heap.size, 1, none⟩ = some (.int .i64 g) ∧ w'.cell? ⟨w.heap.size, 2, none⟩ = some (.slice a n c))) (by kernel_rfl) ?_ (fun hHeld => ?_)
  · first | exact SK.out _ XB | exact SK.out _ (Below.drew (Below.refl _ _))
  have XB : Below v1.heap.size v1 v1.drew := Below.drew (Below.refl _ _)
  generalize v1.drew = vx at *
  refine wpAnyH_take (i := 0) (v := ?_) (by rw [List.getElem?_toArray]; rfl) (by kernel_rfl) (by kernel_rfl) (by kernel_rfl) (by intro _ _ _ h; exact h) (Or.inl ⟨by rfl, ?_⟩) (by assumption) ?_
  rotate_left
  · (intro w hSw; (try dsimp only at hSw); go_simp; all_goals with_reducible rfl)
  (try simp only [Act.put, List.setIfInBounds_toArray, List.set_cons_zero, List.set_cons_succ])
  refine wpAnyH_take (i := 4) (v := ?_) (by rw [List.getElem?_toArray]; rfl) (by kernel_rfl) (by kernel_rfl) (by kernel_rfl) (by intro _ _ _ h; exact h) (Or.inl ⟨by rfl, ?_⟩) (by assumption) ?_
  rotate_left
  · (intro w hSw; (try dsimp only at hSw); go_simp; all_goals with_reducible rfl)
  (try simp only [Act.put, List.setIfInBounds_toArray, List.set_cons_zero, List.set_cons_succ])
  refine wpAnyH_take (i := 8) (v := ?_) (by rw [List.getElem?_toArray]; rfl) (by kernel_rfl) (by kernel_rfl) (by kernel_rfl) (by intro _ _ _ h; exact h) (Or.inl ⟨by rfl, ?_⟩) (by assumption) ?_
  rotate_left
  · (intro w hSw; (try dsimp only at hSw); go_simp; all_goals with_reducible rfl)
  (try simp only [Act.put, List.setIfInBounds_toArray, List.set_cons_zero, List.set_cons_succ])
  refine wpAnyH_take (i := 9) (v := ?_) (by rw [List.getElem?_toArray]; rfl) (by kernel_rfl) (by kernel_rfl) (by kernel_rfl) (by intro _ _ _ h; exact h) (Or.inl ⟨by rfl, ?_⟩) (by assumption) ?_
  rotate_left
  · (intro w hSw; (try dsimp only at hSw); go_simp; all_goals with_reducible rfl)
  (try simp only [Act.put, List.setIfInBounds_toArray, List.set_cons_zero, List.set_cons_succ])
  refine wpAnyH_ready (rs := [1]) (by kernel_rfl) (by simp) ?_
  refine (AllReadyH.cons (by rw [List.getElem?_toArray]; rfl) (fun K hK => ?_) AllReadyH.nil)
  go_simp
  refine (CD vx (HS.out.below (B.trans (XB.mono B.size)))).mono ?_; rintro ee vx ⟨b1, b2, rfl, y1, RO, hbl⟩; (replace XB := XB.trans (hbl.mono XB.size)); (clear hbl); (obtain ⟨y2, y3⟩ := RO.2 iN HI.out); (rw [Nat.zero_add] at y2 y3)
  (try go_wp2_with fail)
  refine hK.out _ _ ?_ (fun hHeld => ?_)
  · first | exact SK.out _ XB | exact SK.out _ (Below.drew (Below.refl _ _))
  clear hK K
  (try simp only [Act.put, List.setIfInBounds_toArray, List.set_cons_zero, List.set_cons_succ])
  refine wpAnyH_take (i := 2) (v := ?_) (by rw [List.getElem?_toArray]; rfl) (by kernel_rfl) (by kernel_rfl) (by kernel_rfl) (by intro _ _ _ h; exact h) (Or.inl ⟨by rfl, ?_⟩) (by assumption) ?_
  rotate_left
  · (intro w hSw; (try dsimp only at hSw); go_simp; all_goals with_reducible rfl)
  (try simp only [Act.put, List.setIfInBounds_toArray, List.set_cons_zero, List.set_cons_succ])
  refine wpAnyH_ready (rs := [3]) (by kernel_rfl) (by simp) ?_
  refine (AllReadyH.cons (by rw [List.getElem?_toArray]; rfl) (fun K hK => ?_) AllReadyH.nil)
  go_simp
  refine hK.out _ _ ?_ (fun hHeld => ?_)
  · first | exact SK.out _ XB | exact SK.out _ (Below.drew (Below.refl _ _))
  clear hK K
  (try simp only [Act.put, List.setIfInBounds_toArray, List.set_cons_zero, List.set_cons_succ])
  refine wpAnyH_take (i := 5) (v := ?_) (by rw [List.getElem?_toArray]; rfl) (by kernel_rfl) (by kernel_rfl) (by kernel_rfl) (by intro _ _ _ h; exact h) (Or.inl ⟨by rfl, ?_⟩) (by assumption) ?_
  rotate_left
  · (intro w hSw; (try dsimp only at hSw); go_simp; all_goals with_reducible rfl)
  (try simp only [Act.put, List.setIfInBounds_toArray, List.set_cons_zero, List.set_cons_succ])
  refine wpAnyH_take (i := 6) (v := ?_) (by rw [List.getElem?_toArray]; rfl) (by kernel_rfl) (by kernel_rfl) (by kernel_rfl) (by intro _ _ _ h; exact h) (Or.inl ⟨by rfl, ?_⟩) (by assumption) ?_
  rotate_left
  · (intro w hSw; (try dsimp only at hSw); go_simp; all_goals with_reducible rfl)
  (try simp only [Act.put, List.setIfInBounds_toArray, List.set_cons_zero, List.set_cons_succ])
  refine wpAnyH_ready (rs := [7]) (by kernel_rfl) (by simp) ?_
  refine (AllReadyH.cons (by rw [List.getElem?_toArray]; rfl) (fun K hK => ?_) AllReadyH.nil)
  go_simp
  refine hK.out _ _ ?_ (fun hHeld => ?_)
  · first | exact SK.out _ XB | exact SK.out _ (Below.drew (Below.refl _ _))
  clear hK K
  (try simp only [Act.put, List.setIfInBounds_toArray, List.set_cons_zero, List.set_cons_succ])
  refine wpAnyH_take (i := 10) (v := ?_) (by rw [List.getElem?_toArray]; rfl) (by kernel_rfl) (by kernel_rfl) (by kernel_rfl) (by intro _ _ _ h; exact h) (Or.inl ⟨by rfl, ?_⟩) (by assumption) ?_
  rotate_left
  · (intro w hSw; (try dsimp only at hSw); go_simp; all_goals with_reducible rfl)
  (try simp only [Act.put, List.setIfInBounds_toArray, List.set_cons_zero, List.set_cons_succ])
  refine wpAnyH_take (i := 11) (v := ?_) (by rw [List.getElem?_toArray]; rfl) (by kernel_rfl) (by kernel_rfl) (by kernel_rfl) (by intro _ _ _ h; exact h) (Or.inl ⟨by rfl, ?_⟩) (by assumption) ?_
  rotate_left
  · (intro w hSw; (try dsimp only at hSw); go_simp; all_goals with_reducible rfl)
  (try simp only [Act.put, List.setIfInBounds_toArray, List.set_cons_zero, List.set_cons_succ])
  refine wpAnyH_take (i := 12) (v := ?_) (by rw [List.getElem?_toArray]; rfl) (by kernel_rfl) (by kernel_rfl) (by kernel_rfl) (by intro _ _ _ h; exact h) (Or.inl ⟨by rfl, ?_⟩) (by assumption) ?_
  rotate_left
  · (intro w hSw; (try dsimp only at hSw); go_simp; all_goals with_reducible rfl)
  (try simp only [Act.put, List.setIfInBounds_toArray, List.set_cons_zero, List.set_cons_succ])
  refine wpAnyH_done (by kernel_rfl) ?_ _
  replace B := B.trans (XB.mono B.size)
  (try simp only [hw1, hx1])
  (try go_wp2_with fail)
  go_ret2
  exact ⟨rfl, B⟩
/- Where an occurrence lies, in the program. -/
theorem oc_all {s g : Int} {M : Nat → SlT} {n : Nat} {i k : Int} (e : ocB s g M n i k = false) : ocB s g M n i k = false ∧ ocL s g M n i k = 0 ∧ ocH s g M n i k = 0 := ⟨e, oc_no e⟩
theorem oc_sel2 {s g : Int} {M : Nat → SlT} {n : Nat} {i : Nat} {k : Int} (hp : plB s g M n = true) (hi : i < n) (h0 : 0 ≤ k) : ocB s g M n i k = okI (ocF s g M n i k) (ocF s g M n i k + (M i).2) ∧ ocL s g M n i k = sel (okI (ocF s g M n i k) (ocF s g M n i k + (M i).2)) (ocF s g M n i k) ∧ ocH s g M n i k = sel (okI (ocF s g M n i k) (ocF s g M n i k + (M i).2)) (ocF s g M n i k + (M i).2) := by
  have e := oc_ok hp hi h0
  refine ⟨e, ?_, ?_⟩
  · unfold ocL; rw [e]; cases okI (ocF s g M n i k) (ocF s g M n i k + (M i).2) <;> rfl
  · unfold ocH; rw [e, Int.toNat_natCast]; cases okI (ocF s g M n i k) (ocF s g M n i k + (M i).2) <;> rfl
set_option maxRecDepth 100000 in
set_option maxHeartbeats 8000000 in
theorem implOccurrence_any (s g : Int) (a : Option Addr) (n c : Nat) (M : Nat → SlT) (i k : Int) (w : World) (hm : n ≤ maxLen) (hs : SrcC w a (n * 2) (MFSlot M)) :
    Calls Try.prog 24 #[.agg #[.int .i64 s, .int .i64 g, .slice a n c], .int .i64 i, .int .i64 k] w fun e w' => e = .returned (.tuple #[.agg #[.int .i64 (ocL s g M n i k), .int .i64 (ocH s g M n i k)], .bool (ocB s g M n i k)]) ∧ Below w.heap.size w w' := by
  have A0 := Below.nw w (.cells #[.int .i64 s, .int .i64 g, .slice a n c] 29)
  have A1 := Below.nw (w.alloc (.cells #[.int .i64 s, .int .i64 g, .slice a n c] 29)) (.cells #[.int .i64 0, .int .i64 0] 38)
  have N := (Tx3.new w (.int .i64 s) (.int .i64 g) (.slice a n c) 29).below A1
  have R := Bx2.new (w.alloc (.cells #[.int .i64 s, .int .i64 g, .slice a n c] 29)) (.int .i64 0) (.int .i64 0) 38
  have B := A0.trans (A1.mono A0.size)
  simp only [World.size_alloc] at R
  clear A0 A1
  have hj : w.heap.size ≤ w.heap.size + 1 := by omega
  have HS : Hid (SrcC w a (n * 2) (MFSlot M)) := hs
  clear hs
  have C1 := fun w' h => planHas_any s g a n c M i w' hm h
  cases h1 : sfB s g M n i
  · obtain ⟨e1, e2, e3⟩ := oc_all (s := s) (g := g) (M := M) (n := n) (i := i) (k := k) (by unfold ocB ocG; rw [h1]; rfl)
    rw [e1, e2, e3]
    rw [h1] at C1
    clear e1 e2 e3
    go_enter Try.func24, Try.ntmps24
    go_upto_region 1 with fail
    generalize (w.alloc (.cells #[.int .i64 s, .int .i64 g, .slice a n c] 29)).alloc (.cells #[.int .i64 0, .int .i64 0] 38) = v at *
    generalize w.heap.size + 1 = jr at *
    obtain ⟨n0, n1, n2, n3, n4, n5, n6⟩ := id N
    go_wp2_with fail
    refine (C1 _ (HS.out.below B)).mono ?_
    rintro e v1 ⟨rfl, hb⟩
    clear n0 n1 n2 n3 n4 n5 n6
    replace B := B.trans (hb.mono B.size)
    replace N := N.below hb
    replace R := R.below hb
    clear hb
    have RR := (R.set0 (.int .i64 0)).set1 (.int .i64 0)
    have BB := (B.setCell (p := ⟨jr, 0, none⟩) hj (.int .i64 0)).setCell (p := ⟨jr, 1, none⟩) hj (.int .i64 0)
    obtain ⟨r0, r1, r2, r3, r4⟩ := id R
    go_wp2_with fail
    clear r0 r1 r2 r3 r4
    generalize (v1.setCell ⟨jr, 0, none⟩ (.int .i64 0)).setCell ⟨jr, 1, none⟩ (.int .i64 0) = vz at *
    obtain ⟨r0, r1, r2, r3, r4⟩ := id RR
    exact bodyPost_ret (v := (.tuple #[.agg #[.int .i64 0, .int .i64 0], .bool false])) (by simp (maxDischargeDepth := 6) [results, Try.results24, go_sem, *]) rfl ⟨rfl, BB⟩
  rw [h1] at C1
  obtain ⟨q1, q2, q3, q4⟩ := sfB_t h1
  by_cases h2 : k < 0
  · obtain ⟨e1, e2, e3⟩ := oc_all (s := s) (g := g) (M := M) (n := n) (i := i) (k := k) (by unfold ocB ocG okK; rw [decide_eq_false (show ¬ (0 ≤ k ∧ k ≤ 1000000000000) by omega)]; simp)
    rw [e1, e2, e3]
    clear e1 e2 e3 q1 q2 q3 q4
    go_enter Try.func24, Try.ntmps24
    go_upto_region 1 with fail
    generalize (w.alloc (.cells #[.int .i64 s, .int .i64 g, .slice a n c] 29)).alloc (.cells #[.int .i64 0, .int .i64 0] 38) = v at *
    generalize w.heap.size + 1 = jr at *
    obtain ⟨n0, n1, n2, n3, n4, n5, n6⟩ := id N
    go_wp2_with fail
    refine (C1 _ (HS.out.below B)).mono ?_
    rintro e v1 ⟨rfl, hb⟩
    clear n0 n1 n2 n3 n4 n5 n6
    replace B := B.trans (hb.mono B.size)
    replace N := N.below hb
    replace R := R.below hb
    clear hb
    have RR := (R.set0 (.int .i64 0)).set1 (.int .i64 0)
    have BB := (B.setCell (p := ⟨jr, 0, none⟩) hj (.int .i64 0)).setCell (p := ⟨jr, 1, none⟩) hj (.int .i64 0)
    obtain ⟨r0, r1, r2, r3, r4⟩ := id R
    go_wp2_with fail
    clear r0 r1 r2 r3 r4
    generalize (v1.setCell ⟨jr, 0, none⟩ (.int .i64 0)).setCell ⟨jr, 1, none⟩ (.int .i64 0) = vz at *
    obtain ⟨r0, r1, r2, r3, r4⟩ := id RR
    exact bodyPost_ret (v := (.tuple #[.agg #[.int .i64 0, .int .i64 0], .bool false])) (by simp (maxDischargeDepth := 6) [results, Try.results24, go_sem, *]) rfl ⟨rfl, BB⟩
  have CA := fun w' h => roundAt_any s g a n c M 1000000000000 w' q1 (by decide) h
  by_cases h3 : raI s g M n 1000000000000 < k
  · obtain ⟨e1, e2, e3⟩ := oc_all (oc_late (i := i) q1 h3)
    rw [e1, e2, e3]
    clear e1 e2 e3 q1 q2 q3 q4
    generalize raI s g M n 1000000000000 = rr at *
    go_enter Try.func24, Try.ntmps24
    go_upto_region 1 with fail
    generalize (w.alloc (.cells #[.int .i64 s, .int .i64 g, .slice a n c] 29)).alloc (.cells #[.int .i64 0, .int .i64 0] 38) = v at *
    generalize w.heap.size + 1 = jr at *
    obtain ⟨n0, n1, n2, n3, n4, n5, n6⟩ := id N
    go_wp2_with fail
    refine (C1 _ (HS.out.below B)).mono ?_
    rintro e v1 ⟨rfl, hb⟩
    clear n0 n1 n2 n3 n4 n5 n6
    replace B := B.trans (hb.mono B.size)
    replace N := N.below hb
    replace R := R.below hb
    clear hb
    obtain ⟨n0, n1, n2, n3, n4, n5, n6⟩ := id N
    go_wp2_with fail
    refine (CA _ (HS.out.below B)).mono ?_
    rintro e v2 ⟨rfl, hb⟩
    clear n0 n1 n2 n3 n4 n5 n6
    replace B := B.trans (hb.mono B.size)
    replace N := N.below hb
    replace R := R.below hb
    clear hb
    have RR := (R.set0 (.int .i64 0)).set1 (.int .i64 0)
    have BB := (B.setCell (p := ⟨jr, 0, none⟩) hj (.int .i64 0)).setCell (p := ⟨jr, 1, none⟩) hj (.int .i64 0)
    obtain ⟨r0, r1, r2, r3, r4⟩ := id R
    go_wp2_with fail
    clear r0 r1 r2 r3 r4
    generalize (v2.setCell ⟨jr, 0, none⟩ (.int .i64 0)).setCell ⟨jr, 1, none⟩ (.int .i64 0) = vz at *
    obtain ⟨r0, r1, r2, r3, r4⟩ := id RR
    exact bodyPost_ret (v := (.tuple #[.agg #[.int .i64 0, .int .i64 0], .bool false])) (by simp (maxDischargeDepth := 6) [results, Try.results24, go_sem, *]) rfl ⟨rfl, BB⟩
  have CD := fun w' h => rounds1_any s g a n c M k w' q1 (ra_kOk q1 (t := 1000000000000) (by decide) (by omega) (by omega)) h
  have HI : Hid (i.toNat < n) := q3
  have hiN : i = ((i.toNat : Nat) : Int) := q4.symm
  have hli : (i.toNat : Int) < (n : Int) := by omega
  obtain ⟨e1, e2, e3⟩ := oc_sel2 (i := i.toNat) (k := k) q1 q3 (by omega)
  have CT := fun w' => told_any (ocF s g M n (i.toNat : Int) k) (ocF s g M n (i.toNat : Int) k + (M i.toNat).2) w'
  clear q1 q2 q3 q4 h1
  generalize i.toNat = iN at *
  subst hiN
  rw [e1, e2, e3]
  clear e1 e2 e3
  generalize raI s g M n 1000000000000 = rr at *
  generalize sel (okI (ocF s g M n (iN : Int) k) (ocF s g M n (iN : Int) k + (M iN).2)) (ocF s g M n (iN : Int) k) = X at *
  generalize sel (okI (ocF s g M n (iN : Int) k) (ocF s g M n (iN : Int) k + (M iN).2)) (ocF s g M n (iN : Int) k + (M iN).2) = Y at *
  generalize okI (ocF s g M n (iN : Int) k) (ocF s g M n (iN : Int) k + (M iN).2) = Q at *
  go_enter Try.func24, Try.ntmps24
  go_upto_region 1 with fail
  generalize (w.alloc (.cells #[.int .i64 s, .int .i64 g, .slice a n c] 29)).alloc (.cells #[.int .i64 0, .int .i64 0] 38) = v at *
  generalize w.heap.size + 1 = jr at *
  obtain ⟨n0, n1, n2, n3, n4, n5, n6⟩ := id N
  go_wp2_with fail
  refine (C1 _ (HS.out.below B)).mono ?_
  rintro e v1 ⟨rfl, hb⟩
  clear n0 n1 n2 n3 n4 n5 n6
  replace B := B.trans (hb.mono B.size)
  replace N := N.below hb
  replace R := R.below hb
  clear hb
  obtain ⟨n0, n1, n2, n3, n4, n5, n6⟩ := id N
  go_wp2_with fail
  refine (CA _ (HS.out.below B)).mono ?_
  rintro e v2 ⟨rfl, hb⟩
  clear n0 n1 n2 n3 n4 n5 n6
  replace B := B.trans (hb.mono B.size)
  replace N := N.below hb
  replace R := R.below hb
  clear hb
  obtain ⟨n0, n1, n2, n3, n4, n5, n6⟩ := id N
  go_wp2_with fail
  refine (CD _ (HS.out.below B)).mono ?_
  rintro e v3 ⟨b1, b2, rfl, y1, RO, hb⟩
  clear n0 n1 n2 n3 n4 n5 n6
  replace B := B.trans (hb.mono B.size)
  replace N := N.below hb
  replace R := R.below hb
  clear hb
  obtain ⟨y2, y3⟩ := RO.2 iN HI.out
  rw [Nat.zero_add] at y2 y3
  clear RO CD CA C1
  go_wp2_with fail
  refine (CT _).mono ?_
  rintro e v5 ⟨rfl, hb⟩
  clear y1 y2 y3
  replace B := B.trans (hb.mono B.size)
  replace N := N.below hb
  replace R := R.below hb
  clear hb
  have RR := (R.set0 (.int .i64 X)).set1 (.int .i64 Y)
  have BB := (B.setCell (p := ⟨jr, 0, none⟩) hj (.int .i64 X)).setCell (p := ⟨jr, 1, none⟩) hj (.int .i64 Y)
  obtain ⟨r0, r1, r2, r3, r4⟩ := id R
  go_wp2_with fail
  clear r0 r1 r2 r3 r4
  generalize (v5.setCell ⟨jr, 0, none⟩ (.int .i64 X)).setCell ⟨jr, 1, none⟩ (.int .i64 Y) = vz at *
  obtain ⟨r0, r1, r2, r3, r4⟩ := id RR
  exact bodyPost_ret (v := (.tuple #[.agg #[.int .i64 X, .int .i64 Y], .bool Q])) (by simp (maxDischargeDepth := 6) [results, Try.results24, go_sem, *]) rfl ⟨rfl, BB⟩
end Go.Proofs.Ytkdbgchmknanlaa
