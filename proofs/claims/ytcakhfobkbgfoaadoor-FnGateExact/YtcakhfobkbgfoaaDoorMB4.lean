/- Occurrence in the specification. SlotAt and InSlot in the specification. GateAsk in the specification. GateWait in the specification. Plans in the program: which are right, how long a round is, which round a time lies in. Rounds: what stands in their rows; one more occurrence behind those that stand. Rounds of a plan in the program. One round and two in the program; the round of a time. -/
import Derived.Test.YtcakhfobkbgfoaaDoorMB3
import Derived.Deep.RegionHeld3
import Derived.WalkKit
import Derived.WalkSpells
import Derived.WalkLawsBesides
import Derived.Deep.RegionHeld
import Derived.Deep.QuietTactic
import Derived.BigQuiet
import Derived.Laws.AppendOwn
import Derived.Laws.Tables
import Derived.Laws.CopyRow
import Derived.OwnWalk
namespace Go.Proofs.YtcakhfobkbgfoaaDoor
open Go.RowKit
set_option linter.unusedVariables false
/- Where an occurrence lies, in the specification. -/
def kkB (k : Int) : Bool := decide (0 ≤ k ∧ k ≤ 1000000000000)
theorem oc_out {s g : Int} {M : Nat → SlT} {n : Nat} {i k : Int} (h : ocG s g M n i k = false) : ocB s g M n i k = false ∧ ocL s g M n i k = 0 ∧ ocH s g M n i k = 0 := by
  have e : ocB s g M n i k = false := by unfold ocB; rw [h]; rfl
  exact ⟨e, oc_no e⟩
set_option maxRecDepth 100000 in
set_option maxHeartbeats 8000000 in
theorem specOccurrence_any (s g : Int) (a : Option Addr) (n c : Nat) (M : Nat → SlT) (i k : Int) (w : World) (hm : n ≤ maxLen) (hs : SrcC w a (n * 2) (MFSlot M)) :
    Calls Tryd.prog 21 #[.agg #[.int .i64 s, .int .i64 g, .slice a n c], .int .i64 i, .int .i64 k] w fun e w' => e = .returned (.tuple #[.agg #[.int .i64 (ocL s g M n i k), .int .i64 (ocH s g M n i k)], .bool (ocB s g M n i k)]) ∧ Below w.heap.size w w' := by
  have A0 := Below.nw w (.cells #[.int .i64 s, .int .i64 g, .slice a n c] 30)
  have A1 := Below.nw (w.alloc (.cells #[.int .i64 s, .int .i64 g, .slice a n c] 30)) (.cells #[.int .i64 0, .int .i64 0] 25)
  have N := (Tx3.new w (.int .i64 s) (.int .i64 g) (.slice a n c) 30).below A1
  have R := Bx2.new (w.alloc (.cells #[.int .i64 s, .int .i64 g, .slice a n c] 30)) (.int .i64 0) (.int .i64 0) 25
  have B := A0.trans (A1.mono A0.size)
  simp only [World.size_alloc] at R
  clear A0 A1
  have hj : w.heap.size ≤ w.heap.size + 1 := by omega
  have HS : Hid (SrcC w a (n * 2) (MFSlot M)) := hs
  clear hs
  have C1 := fun w' h => l13Slot_any s g a n c M i w' hm h
  have CK : ∀ w', Calls Tryd.prog 51 #[.int .i64 k, .int .i64 0, .int .i64 1000000000000] w' fun e w'' => e = .returned (.bool (kkB k)) ∧ w' = w'' := fun w' => l1In_any k 0 1000000000000 w'
  cases h1 : sfB s g M n i
  · obtain ⟨e1, e2, e3⟩ := oc_out (k := k) (show ocG s g M n i k = false by unfold ocG; rw [h1]; rfl)
    rw [e1, e2, e3]
    rw [h1] at C1
    clear e1 e2 e3
    go_enter Tryd.func21, Tryd.ntmps21
    go_upto_region 1 with fail
    generalize (w.alloc (.cells #[.int .i64 s, .int .i64 g, .slice a n c] 30)).alloc (.cells #[.int .i64 0, .int .i64 0] 25) = v at *
    generalize w.heap.size + 1 = jr at *
    obtain ⟨n0, n1, n2, n3, n4, n5, n6⟩ := id N
    go_wp2_with fail
    refine (C1 _ (HS.out.below B)).mono ?_
    rintro e v1 ⟨rfl, hb⟩
    clear n0 n1 n2 n3 n4 n5 n6
    replace B := B.trans (hb.mono B.size)
    replace N := N.below hb
    replace R := R.below hb
    clear hb
    have RR := (R.set0 (.int .i64 0)).set1 (.int .i64 0)
    have BB := (B.setCell (p := ⟨jr, 0, none⟩) hj (.int .i64 0)).setCell (p := ⟨jr, 1, none⟩) hj (.int .i64 0)
    obtain ⟨r0, r1, r2, r3, r4⟩ := id R
    go_wp2_with fail
    clear r0 r1 r2 r3 r4
    generalize (v1.setCell ⟨jr, 0, none⟩ (.int .i64 0)).setCell ⟨jr, 1, none⟩ (.int .i64 0) = vz at *
    obtain ⟨r0, r1, r2, r3, r4⟩ := id RR
    exact bodyPost_ret (v := (.tuple #[.agg #[.int .i64 0, .int .i64 0], .bool false])) (by simp (maxDischargeDepth := 6) [results, Tryd.results21, go_sem, *]) rfl ⟨rfl, BB⟩
  rw [h1] at C1
  cases h2 : kkB k
  · obtain ⟨e1, e2, e3⟩ := oc_out (s := s) (g := g) (M := M) (n := n) (i := i) (k := k) (by unfold ocG okK; rw [show decide (0 ≤ k ∧ k ≤ 1000000000000) = false from h2]; simp)
    rw [e1, e2, e3]
    clear e1 e2 e3
    go_enter Tryd.func21, Tryd.ntmps21
    go_upto_region 1 with fail
    generalize (w.alloc (.cells #[.int .i64 s, .int .i64 g, .slice a n c] 30)).alloc (.cells #[.int .i64 0, .int .i64 0] 25) = v at *
    generalize w.heap.size + 1 = jr at *
    obtain ⟨n0, n1, n2, n3, n4, n5, n6⟩ := id N
    go_wp2_with fail
    refine (C1 _ (HS.out.below B)).mono ?_
    rintro e v1 ⟨rfl, hb⟩
    clear n0 n1 n2 n3 n4 n5 n6
    replace B := B.trans (hb.mono B.size)
    replace N := N.below hb
    replace R := R.below hb
    clear hb
    go_wp2_with fail
    refine (CK _).mono ?_
    rintro e w' ⟨rfl, rfl⟩
    rw [h2]
    have RR := (R.set0 (.int .i64 0)).set1 (.int .i64 0)
    have BB := (B.setCell (p := ⟨jr, 0, none⟩) hj (.int .i64 0)).setCell (p := ⟨jr, 1, none⟩) hj (.int .i64 0)
    obtain ⟨r0, r1, r2, r3, r4⟩ := id R
    go_wp2_with fail
    clear r0 r1 r2 r3 r4
    generalize (v1.setCell ⟨jr, 0, none⟩ (.int .i64 0)).setCell ⟨jr, 1, none⟩ (.int .i64 0) = vz at *
    obtain ⟨r0, r1, r2, r3, r4⟩ := id RR
    exact bodyPost_ret (v := (.tuple #[.agg #[.int .i64 0, .int .i64 0], .bool false])) (by simp (maxDischargeDepth := 6) [results, Tryd.results21, go_sem, *]) rfl ⟨rfl, BB⟩
  obtain ⟨q1, q2, q3, q4⟩ := sfB_t h1
  have CR := fun w' h => specRoundOf_any s g a n c M w' hm h
  have hr := rn_bd q1
  rw [rnI_t q1] at CR
  have hq : (1000000000000 : Int).tdiv (upS g M n) = 1000000000000 / upS g M n := Int.tdiv_eq_ediv_of_nonneg (by decide)
  have hb1 : 0 ≤ 1000000000000 / upS g M n := Int.ediv_nonneg (by decide) (by omega)
  have hb2 : 1000000000000 / upS g M n ≤ 1000000000000 := Int.ediv_le_self _ (by decide)
  have hne : (upS g M n == 0) = false := by rw [beq_eq_false_iff_ne]; omega
  have hu0 : 0 < upS g M n := by omega
  have hwd : IntKind.i64.wrap (1000000000000 / upS g M n) = 1000000000000 / upS g M n := Go.IntWalk.i64_in _ ⟨by omega, by omega⟩
  by_cases h3 : 1000000000000 / upS g M n < k
  · obtain ⟨e1, e2, e3⟩ := oc_out (s := s) (g := g) (M := M) (n := n) (i := i) (k := k) (by unfold ocG okK; rw [decide_eq_true h3]; simp)
    rw [e1, e2, e3]
    clear e1 e2 e3 hb1 hb2 hr q1 q2 q3 q4
    generalize 1000000000000 / upS g M n = d at *
    generalize upS g M n = u at *
    go_enter Tryd.func21, Tryd.ntmps21
    go_upto_region 1 with fail
    generalize (w.alloc (.cells #[.int .i64 s, .int .i64 g, .slice a n c] 30)).alloc (.cells #[.int .i64 0, .int .i64 0] 25) = v at *
    generalize w.heap.size + 1 = jr at *
    obtain ⟨n0, n1, n2, n3, n4, n5, n6⟩ := id N
    go_wp2_with fail
    refine (C1 _ (HS.out.below B)).mono ?_
    rintro e v1 ⟨rfl, hb⟩
    clear n0 n1 n2 n3 n4 n5 n6
    replace B := B.trans (hb.mono B.size)
    replace N := N.below hb
    replace R := R.below hb
    clear hb
    go_wp2_with fail
    refine (CK _).mono ?_
    rintro e w' ⟨rfl, rfl⟩
    rw [h2]
    obtain ⟨n0, n1, n2, n3, n4, n5, n6⟩ := id N
    go_wp2_with fail
    refine (CR _ (HS.out.below B)).mono ?_
    rintro e v2 ⟨rfl, hb⟩
    clear n0 n1 n2 n3 n4 n5 n6
    replace B := B.trans (hb.mono B.size)
    replace N := N.below hb
    replace R := R.below hb
    clear hb
    have RR := (R.set0 (.int .i64 0)).set1 (.int .i64 0)
    have BB := (B.setCell (p := ⟨jr, 0, none⟩) hj (.int .i64 0)).setCell (p := ⟨jr, 1, none⟩) hj (.int .i64 0)
    obtain ⟨r0, r1, r2, r3, r4⟩ := id R
    go_wp2_with fail
    clear r0 r1 r2 r3 r4
    generalize (v2.setCell ⟨jr, 0, none⟩ (.int .i64 0)).setCell ⟨jr, 1, none⟩ (.int .i64 0) = vz at *
    obtain ⟨r0, r1, r2, r3, r4⟩ := id RR
    exact bodyPost_ret (v := (.tuple #[.agg #[.int .i64 0, .int .i64 0], .bool false])) (by simp (maxDischargeDepth := 6) [results, Tryd.results21, go_sem, *]) rfl ⟨rfl, BB⟩
  have hG : ocG s g M n i k = true := by
    unfold ocG okK
    rw [h1, show decide (0 ≤ k ∧ k ≤ 1000000000000) = true from h2, decide_eq_false h3]
    rfl
  obtain ⟨o1, o2, o3, o4, o5, o6, o7⟩ := ocG_bd hG
  obtain ⟨e1, e2, e3⟩ := oc_sel hG
  rw [e1, e2, e3]
  clear e1 e2 e3
  have CU := fun w' h => specUpto_any s g a n c M i.toNat w' q1 (Nat.le_of_lt q3) h
  rw [q4] at CU
  have CT := fun w' => l1Told_any (ocF s g M n i k) (ocF s g M n i k + (M i.toNat).2) w'
  have LK : Hid (∀ w', SrcC w' a (n * 2) (MFSlot M) → ∃ b off, a = some ⟨b, off, none⟩ ∧ w'.cell? ⟨b, off + i.toNat * 2, none⟩ = some (.int .i64 (M i.toNat).1) ∧ w'.cell? ⟨b, off + i.toNat * 2 + 1, none⟩ = some (.int .i64 (M i.toNat).2)) := fun w' h => by
    rcases h with q | ⟨b, off, e, hc⟩
    · exact absurd q (by omega)
    · exact ⟨b, off, e, hc.elSlot q3 (show M i.toNat = ((M i.toNat).1, (M i.toNat).2) from rfl)⟩
  have hiN : i = ((i.toNat : Nat) : Int) := q4.symm
  have HI : Hid ((i.toNat : Int) < (n : Int)) := by rw [Hid]; omega
  have hw1 : IntKind.i64.wrap (k * upS g M n) = k * upS g M n := Go.IntWalk.i64_in _ ⟨by omega, by omega⟩
  have hx1 : wrap64 (k * upS g M n) = k * upS g M n := Go.IntWalk.wrap64_in _ ⟨by omega, by omega⟩
  have hw2 : IntKind.i64.wrap (s + k * upS g M n) = s + k * upS g M n := Go.IntWalk.i64_in _ ⟨by omega, by omega⟩
  have hx2 : wrap64 (s + k * upS g M n) = s + k * upS g M n := Go.IntWalk.wrap64_in _ ⟨by omega, by omega⟩
  have hw3 : IntKind.i64.wrap (s + k * upS g M n + upS g M i.toNat) = ocF s g M n i k := Go.IntWalk.i64_in _ ⟨by have := o3; unfold ocF at this; omega, by have := o3; unfold ocF at this; omega⟩
  have hx3 : wrap64 (s + k * upS g M n + upS g M i.toNat) = ocF s g M n i k := Go.IntWalk.wrap64_in _ ⟨by have := o3; unfold ocF at this; omega, by have := o3; unfold ocF at this; omega⟩
  have hw4 : IntKind.i64.wrap (ocF s g M n i k + (M i.toNat).2) = ocF s g M n i k + (M i.toNat).2 := Go.IntWalk.i64_in _ ⟨by omega, by omega⟩
  clear hG o1 o2 o3 o4 o5 o6 o7 q1 q2 q3 q4 hb1 hb2 hr h1
  generalize i.toNat = iN at *
  subst hiN
  generalize ocF s g M n (iN : Int) k = F at *
  generalize (M iN).2 = lg at *
  generalize (M iN).1 = ow at *
  generalize upS g M iN = ui at *
  generalize 1000000000000 / upS g M n = d at *
  generalize upS g M n = u at *
  have hli := HI.out
  generalize sel (okI F (F + lg)) F = X at *
  generalize sel (okI F (F + lg)) (F + lg) = Y at *
  generalize okI F (F + lg) = Q at *
  go_enter Tryd.func21, Tryd.ntmps21
  go_upto_region 1 with fail
  generalize (w.alloc (.cells #[.int .i64 s, .int .i64 g, .slice a n c] 30)).alloc (.cells #[.int .i64 0, .int .i64 0] 25) = v at *
  generalize w.heap.size + 1 = jr at *
  obtain ⟨n0, n1, n2, n3, n4, n5, n6⟩ := id N
  go_wp2_with fail
  refine (C1 _ (HS.out.below B)).mono ?_
  rintro e v1 ⟨rfl, hb⟩
  clear n0 n1 n2 n3 n4 n5 n6
  replace B := B.trans (hb.mono B.size)
  replace N := N.below hb
  replace R := R.below hb
  clear hb
  go_wp2_with fail
  refine (CK _).mono ?_
  rintro e w' ⟨rfl, rfl⟩
  rw [h2]
  obtain ⟨n0, n1, n2, n3, n4, n5, n6⟩ := id N
  go_wp2_with fail
  refine (CR _ (HS.out.below B)).mono ?_
  rintro e v3 ⟨rfl, hb⟩
  clear n0 n1 n2 n3 n4 n5 n6
  replace B := B.trans (hb.mono B.size)
  replace N := N.below hb
  replace R := R.below hb
  clear hb
  clear C1 CK h2
  obtain ⟨n0, n1, n2, n3, n4, n5, n6⟩ := id N
  have SK : Hid (∀ w', Below v3.heap.size v3 w' → ((fun w' => w'.cell? ⟨w.heap.size, 0, none⟩ = some (.int .i64 s) ∧ w'.cell? ⟨w.heap.size, 1, none⟩ = some (.int .i64 g) ∧ w'.cell? ⟨w.heap.size, 2, none⟩ = some (.slice a n c))) w') := fun w' hw => ⟨(N.below hw).2.1, (N.below hw).2.2.1, (N.below hw).2.2.2.1⟩
  go_upto_region 3 with fail
  refine wp_region_held_drew (S := (fun w' => w'.cell? ⟨w.heap.size, 0, none⟩ = some (.int .i64 s) ∧ w'.cell? ⟨w.heap.size, 1, none⟩ = some (.int .i64 g) ∧ w'.cell? ⟨w.heap.size, 2, none⟩ = some (.slice a n c))) (by kernel_rfl) ?_ (fun hHeld => ?_)
  · first | exact SK.out _ XB | exact SK.out _ (Below.drew (Below.refl _ _))
  have XB : Below v3.heap.size v3 v3.drew := Below.drew (Below.refl _ _)
  generalize v3.drew = vx at *
  refine wpAnyH_take (i := 0) (v := ?_) (by rw [List.getElem?_toArray]; rfl) (by kernel_rfl) (by kernel_rfl) (by kernel_rfl) (by intro _ _ _ h; exact h) (Or.inl ⟨by rfl, ?_⟩) (by assumption) ?_
  rotate_left
  · (intro w hSw; (try dsimp only at hSw); go_simp; all_goals with_reducible rfl)
  (try simp only [Act.put, List.setIfInBounds_toArray, List.set_cons_zero, List.set_cons_succ])
  refine wpAnyH_take (i := 1) (v := ?_) (by rw [List.getElem?_toArray]; rfl) (by kernel_rfl) (by kernel_rfl) (by kernel_rfl) (by intro _ _ _ h; exact h) (Or.inl ⟨by rfl, ?_⟩) (by assumption) ?_
  rotate_left
  · (intro w hSw; (try dsimp only at hSw); go_simp; all_goals with_reducible rfl)
  (try simp only [Act.put, List.setIfInBounds_toArray, List.set_cons_zero, List.set_cons_succ])
  refine wpAnyH_take (i := 2) (v := ?_) (by rw [List.getElem?_toArray]; rfl) (by kernel_rfl) (by kernel_rfl) (by kernel_rfl) (by intro _ _ _ h; exact h) (Or.inl ⟨by rfl, ?_⟩) (by assumption) ?_
  rotate_left
  · (intro w hSw; (try dsimp only at hSw); go_simp; all_goals with_reducible rfl)
  (try simp only [Act.put, List.setIfInBounds_toArray, List.set_cons_zero, List.set_cons_succ])
  refine wpAnyH_take (i := 3) (v := ?_) (by rw [List.getElem?_toArray]; rfl) (by kernel_rfl) (by kernel_rfl) (by kernel_rfl) (by intro _ _ _ h; exact h) (Or.inl ⟨by rfl, ?_⟩) (by assumption) ?_
  rotate_left
  · (intro w hSw; (try dsimp only at hSw); go_simp; all_goals with_reducible rfl)
  (try simp only [Act.put, List.setIfInBounds_toArray, List.set_cons_zero, List.set_cons_succ])
  refine wpAnyH_take (i := 7) (v := ?_) (by rw [List.getElem?_toArray]; rfl) (by kernel_rfl) (by kernel_rfl) (by kernel_rfl) (by intro _ _ _ h; exact h) (Or.inl ⟨by rfl, ?_⟩) (by assumption) ?_
  rotate_left
  · (intro w hSw; (try dsimp only at hSw); go_simp; all_goals with_reducible rfl)
  (try simp only [Act.put, List.setIfInBounds_toArray, List.set_cons_zero, List.set_cons_succ])
  refine wpAnyH_take (i := 8) (v := ?_) (by rw [List.getElem?_toArray]; rfl) (by kernel_rfl) (by kernel_rfl) (by kernel_rfl) (by intro _ _ _ h; exact h) (Or.inl ⟨by rfl, ?_⟩) (by assumption) ?_
  rotate_left
  · (intro w hSw; (try dsimp only at hSw); go_simp; all_goals with_reducible rfl)
  (try simp only [Act.put, List.setIfInBounds_toArray, List.set_cons_zero, List.set_cons_succ])
  refine wpAnyH_ready (rs := [4]) (by kernel_rfl) (by simp) ?_
  refine AllReadyH.cons (by rw [List.getElem?_toArray]; rfl) (fun K hK => ?_) AllReadyH.nil
  go_simp
  refine (CR vx (HS.out.below (B.trans (XB.mono B.size)))).mono ?_; rintro ee vx ⟨rfl, hbl⟩; (replace XB := XB.trans (hbl.mono XB.size)); (clear hbl)
  (try go_wp2_with fail)
  refine hK.out _ _ ?_ (fun hHeld => ?_)
  · first | exact SK.out _ XB | exact SK.out _ (Below.drew (Below.refl _ _))
  clear hK K
  (try simp only [Act.put, List.setIfInBounds_toArray, List.set_cons_zero, List.set_cons_succ])
  refine wpAnyH_take (i := 5) (v := ?_) (by rw [List.getElem?_toArray]; rfl) (by kernel_rfl) (by kernel_rfl) (by kernel_rfl) (by intro _ _ _ h; exact h) (Or.inl ⟨by rfl, ?_⟩) (by assumption) ?_
  rotate_left
  · (intro w hSw; (try dsimp only at hSw); go_simp; all_goals with_reducible rfl)
  (try simp only [Act.put, List.setIfInBounds_toArray, List.set_cons_zero, List.set_cons_succ])
  (try simp only [hw1, hx1])
  refine wpAnyH_take (i := 6) (v := ?_) (by rw [List.getElem?_toArray]; rfl) (by kernel_rfl) (by kernel_rfl) (by kernel_rfl) (by intro _ _ _ h; exact h) (Or.inl ⟨by rfl, ?_⟩) (by assumption) ?_
  rotate_left
  · (intro w hSw; (try dsimp only at hSw); go_simp; all_goals with_reducible rfl)
  (try simp only [Act.put, List.setIfInBounds_toArray, List.set_cons_zero, List.set_cons_succ])
  (try simp only [hw2, hx2])
  refine wpAnyH_ready (rs := [9]) (by kernel_rfl) (by simp) ?_
  refine AllReadyH.cons (by rw [List.getElem?_toArray]; rfl) (fun K hK => ?_) AllReadyH.nil
  go_simp
  refine (CU vx (HS.out.below (B.trans (XB.mono B.size)))).mono ?_; rintro ee vx ⟨rfl, hbl⟩; (replace XB := XB.trans (hbl.mono XB.size)); (clear hbl)
  (try go_wp2_with fail)
  refine hK.out _ _ ?_ (fun hHeld => ?_)
  · first | exact SK.out _ XB | exact SK.out _ (Below.drew (Below.refl _ _))
  clear hK K
  (try simp only [Act.put, List.setIfInBounds_toArray, List.set_cons_zero, List.set_cons_succ])
  refine wpAnyH_take (i := 10) (v := ?_) (by rw [List.getElem?_toArray]; rfl) (by kernel_rfl) (by kernel_rfl) (by kernel_rfl) (by intro _ _ _ h; exact h) (Or.inl ⟨by rfl, ?_⟩) (by assumption) ?_
  rotate_left
  · (intro w hSw; (try dsimp only at hSw); go_simp; all_goals with_reducible rfl)
  (try simp only [Act.put, List.setIfInBounds_toArray, List.set_cons_zero, List.set_cons_succ])
  (try simp only [hw3, hx3])
  refine wpAnyH_take (i := 11) (v := ?_) (by rw [List.getElem?_toArray]; rfl) (by kernel_rfl) (by kernel_rfl) (by kernel_rfl) (by intro _ _ _ h; exact h) (Or.inl ⟨by rfl, ?_⟩) (by assumption) ?_
  rotate_left
  · (intro w hSw; (try dsimp only at hSw); go_simp; all_goals with_reducible rfl)
  (try simp only [Act.put, List.setIfInBounds_toArray, List.set_cons_zero, List.set_cons_succ])
  refine wpAnyH_done (by kernel_rfl) ?_ _
  clear n0 n1 n2 n3 n4 n5 n6
  replace B := B.trans (XB.mono B.size)
  replace N := N.below XB
  replace R := R.below XB
  clear XB SK CR CU
  generalize vx = v4 at *
  obtain ⟨b, off, rfl, c1, c2⟩ := LK.out v4 (HS.out.below B)
  clear LK HS
  obtain ⟨n0, n1, n2, n3, n4, n5, n6⟩ := id N
  go_wp2_with fail
  refine (CT _).mono ?_
  rintro e v5 ⟨rfl, hb⟩
  clear n0 n1 n2 n3 n4 n5 n6
  clear c1 c2
  replace B := B.trans (hb.mono B.size)
  replace N := N.below hb
  replace R := R.below hb
  clear hb
  have RR := (R.set0 (.int .i64 X)).set1 (.int .i64 Y)
  have BB := (B.setCell (p := ⟨jr, 0, none⟩) hj (.int .i64 X)).setCell (p := ⟨jr, 1, none⟩) hj (.int .i64 Y)
  obtain ⟨r0, r1, r2, r3, r4⟩ := id R
  go_wp2_with fail
  clear r0 r1 r2 r3 r4
  generalize (v5.setCell ⟨jr, 0, none⟩ (.int .i64 X)).setCell ⟨jr, 1, none⟩ (.int .i64 Y) = vz at *
  obtain ⟨r0, r1, r2, r3, r4⟩ := id RR
  exact bodyPost_ret (v := (.tuple #[.agg #[.int .i64 X, .int .i64 Y], .bool Q])) (by simp (maxDischargeDepth := 6) [results, Tryd.results21, go_sem, *]) rfl ⟨rfl, BB⟩
end Go.Proofs.YtcakhfobkbgfoaaDoor
namespace Go.Proofs.YtcakhfobkbgfoaaDoor
open Go.RowKit
set_option linter.unusedVariables false
/- The slot and the round at a time, in the specification. -/
theorem sa_out {s g : Int} {M : Nat → SlT} {n : Nat} {t : Int} (h : saG s g M n t = false) : saB s g M n t = false ∧ saI s g M n t = 0 ∧ saK s g M n t = 0 := by
  have e : saB s g M n t = false := by unfold saB; rw [h]; rfl
  exact ⟨e, sa_no e⟩
theorem sa_none {s g : Int} {M : Nat → SlT} {n : Nat} {t : Int} (h : fnd (saP s g M n t) n = n) : saB s g M n t = false ∧ saI s g M n t = 0 ∧ saK s g M n t = 0 := by
  have e : saB s g M n t = false := by unfold saB; rw [h, decide_eq_false (by omega)]; simp
  exact ⟨e, sa_no e⟩
theorem sa_one {s g : Int} {M : Nat → SlT} {n : Nat} {t : Int} (hG : saG s g M n t = true) {j : Nat} (h : fnd (saP s g M n t) n = j) (hj : j < n) : saB s g M n t = true ∧ saI s g M n t = j ∧ saK s g M n t = saR s g M n t := by
  have e : saB s g M n t = true := by unfold saB; rw [hG, h, decide_eq_true hj]; rfl
  obtain ⟨y1, y2, y3, y4⟩ := sa_yes e
  exact ⟨e, by rw [y1, h], y2⟩
set_option maxRecDepth 100000 in
set_option maxHeartbeats 8000000 in
theorem specSlotAt_any (s g : Int) (a : Option Addr) (n c : Nat) (M : Nat → SlT) (t : Int) (w : World) (hm : n ≤ maxLen) (hs : SrcC w a (n * 2) (MFSlot M)) :
    Calls Tryd.prog 42 #[.agg #[.int .i64 s, .int .i64 g, .slice a n c], .int .i64 t] w fun e w' => e = .returned (.tuple #[.int .i64 (saI s g M n t), .int .i64 (saK s g M n t), .bool (saB s g M n t)]) ∧ Below w.heap.size w w' := by
  have B := Below.nw w (.cells #[.int .i64 s, .int .i64 g, .slice a n c] 30)
  have N := Tx3.new w (.int .i64 s) (.int .i64 g) (.slice a n c) 30
  have HS : Hid (SrcC w a (n * 2) (MFSlot M)) := hs
  clear hs
  have C1 := fun w' h => specPlanOk_any s g a n c M w' hm h
  have CT := fun w' => l2Time_any t w'
  cases h1 : plB s g M n
  · obtain ⟨e1, e2, e3⟩ := sa_out (t := t) (show saG s g M n t = false by unfold saG; rw [h1]; rfl)
    rw [e1, e2, e3]
    rw [h1] at C1
    clear e1 e2 e3
    go_enter Tryd.func42, Tryd.ntmps42
    go_upto_region 1 with fail
    generalize w.alloc (.cells #[.int .i64 s, .int .i64 g, .slice a n c] 30) = v at *
    obtain ⟨n0, n1, n2, n3, n4, n5, n6⟩ := id N
    go_wp2_with fail
    refine (C1 _ (HS.out.below B)).mono ?_
    rintro e v1 ⟨rfl, hb⟩
    clear n0 n1 n2 n3 n4 n5 n6
    replace B := B.trans (hb.mono B.size)
    replace N := N.below hb
    clear hb
    go_wp2_with fail
    exact bodyPost_ret (v := (.tuple #[.int .i64 0, .int .i64 0, .bool false])) (by simp (maxDischargeDepth := 6) [results, Tryd.results42, go_sem, *]) rfl ⟨rfl, B⟩
  cases h2 : okT t
  · obtain ⟨e1, e2, e3⟩ := sa_out (show saG s g M n t = false by unfold saG; rw [h1, h2]; rfl)
    rw [e1, e2, e3]
    rw [h1] at C1
    clear e1 e2 e3
    go_enter Tryd.func42, Tryd.ntmps42
    go_upto_region 1 with fail
    generalize w.alloc (.cells #[.int .i64 s, .int .i64 g, .slice a n c] 30) = v at *
    obtain ⟨n0, n1, n2, n3, n4, n5, n6⟩ := id N
    go_wp2_with fail
    refine (C1 _ (HS.out.below B)).mono ?_
    rintro e v1 ⟨rfl, hb⟩
    clear n0 n1 n2 n3 n4 n5 n6
    replace B := B.trans (hb.mono B.size)
    replace N := N.below hb
    clear hb
    go_wp2_with fail
    refine (CT _).mono ?_
    rintro e w' ⟨rfl, rfl⟩
    rw [h2]
    go_wp2_with fail
    exact bodyPost_ret (v := (.tuple #[.int .i64 0, .int .i64 0, .bool false])) (by simp (maxDischargeDepth := 6) [results, Tryd.results42, go_sem, *]) rfl ⟨rfl, B⟩
  by_cases h3 : t < s
  · obtain ⟨e1, e2, e3⟩ := sa_out (show saG s g M n t = false by unfold saG; rw [h1, h2, decide_eq_true h3]; rfl)
    rw [e1, e2, e3]
    rw [h1] at C1
    clear e1 e2 e3
    go_enter Tryd.func42, Tryd.ntmps42
    go_upto_region 1 with fail
    generalize w.alloc (.cells #[.int .i64 s, .int .i64 g, .slice a n c] 30) = v at *
    obtain ⟨n0, n1, n2, n3, n4, n5, n6⟩ := id N
    go_wp2_with fail
    refine (C1 _ (HS.out.below B)).mono ?_
    rintro e v1 ⟨rfl, hb⟩
    clear n0 n1 n2 n3 n4 n5 n6
    replace B := B.trans (hb.mono B.size)
    replace N := N.below hb
    clear hb
    go_wp2_with fail
    refine (CT _).mono ?_
    rintro e w' ⟨rfl, rfl⟩
    rw [h2]
    obtain ⟨n0, n1, n2, n3, n4, n5, n6⟩ := id N
    go_wp2_with fail
    exact bodyPost_ret (v := (.tuple #[.int .i64 0, .int .i64 0, .bool false])) (by simp (maxDischargeDepth := 6) [results, Tryd.results42, go_sem, *]) rfl ⟨rfl, B⟩
  have hG : saG s g M n t = true := by unfold saG; rw [h1, h2, decide_eq_false h3]; rfl
  obtain ⟨k1, k2, k3, k4, k5⟩ := saG_t hG
  obtain ⟨p1, p2, p3, p4⟩ := plB_t h1
  have hr := rn_bd h1
  have CR := fun w' h => specRoundOf_any s g a n c M w' hm h
  rw [rnI_t h1] at CR
  have CO := fun (j : Nat) w' h => specOccurrence_any s g a n c M (j : Int) (saR s g M n t) w' hm h
  have HP : Hid (∀ j : Nat, saP s g M n t j = (ocB s g M n j (saR s g M n t) && (decide (ocL s g M n j (saR s g M n t) ≤ t) && decide (t < ocH s g M n j (saR s g M n t))))) := fun j => rfl
  have H0 : Hid (fnd (saP s g M n t) n = n → saB s g M n t = false ∧ saI s g M n t = 0 ∧ saK s g M n t = 0) := sa_none
  have H1 : Hid (∀ j, fnd (saP s g M n t) n = j → j < n → saB s g M n t = true ∧ saI s g M n t = j ∧ saK s g M n t = saR s g M n t) := fun j h hj => sa_one hG h hj
  have hq : (t - s).tdiv (upS g M n) = saR s g M n t := Int.tdiv_eq_ediv_of_nonneg (by omega)
  have hw1 : IntKind.i64.wrap (t - s) = t - s := Go.IntWalk.i64_in _ ⟨by omega, by omega⟩
  have hx1 : wrap64 (t - s) = t - s := Go.IntWalk.wrap64_in _ ⟨by omega, by omega⟩
  have hw2 : IntKind.i64.wrap (saR s g M n t) = saR s g M n t := Go.IntWalk.i64_in _ ⟨by omega, by omega⟩
  have hx2 : wrap64 (saR s g M n t) = saR s g M n t := Go.IntWalk.wrap64_in _ ⟨by omega, by omega⟩
  have hu0 : 0 < upS g M n := by omega
  have hne : ¬ upS g M n = 0 := by omega
  rw [h1] at C1
  clear hG k1 k2 k3 k4 k5 p1 p2 p4 hr h1
  generalize saP s g M n t = P at *
  generalize saR s g M n t = K at *
  generalize upS g M n = u at *
  go_enter Tryd.func42, Tryd.ntmps42
  go_upto_region 1 with fail
  generalize w.alloc (.cells #[.int .i64 s, .int .i64 g, .slice a n c] 30) = v at *
  obtain ⟨n0, n1, n2, n3, n4, n5, n6⟩ := id N
  go_wp2_with fail
  refine (C1 _ (HS.out.below B)).mono ?_
  rintro e v1 ⟨rfl, hb⟩
  clear n0 n1 n2 n3 n4 n5 n6
  replace B := B.trans (hb.mono B.size)
  replace N := N.below hb
  clear hb
  go_wp2_with fail
  refine (CT _).mono ?_
  rintro e w' ⟨rfl, rfl⟩
  rw [h2]
  clear C1 CT h2
  obtain ⟨n0, n1, n2, n3, n4, n5, n6⟩ := id N
  have SK : Hid (∀ w', Below v1.heap.size v1 w' → ((fun w' => w'.cell? ⟨w.heap.size, 0, none⟩ = some (.int .i64 s) ∧ w'.cell? ⟨w.heap.size, 1, none⟩ = some (.int .i64 g) ∧ w'.cell? ⟨w.heap.size, 2, none⟩ = some (.slice a n c))) w') := fun w' hw => ⟨(N.below hw).2.1, (N.below hw).2.2.1, (N.below hw).2.2.2.1⟩
  go_upto_region 3 with fail
  refine wp_region_held_drew (S := (fun w' => w'.cell? ⟨w.heap.size, 0, none⟩ = some (.int .i64 s) ∧ w'.cell? ⟨w.heap.size, 1, none⟩ = some (.int .i64 g) ∧ w'.cell? ⟨w.heap.size, 2, none⟩ = some (.slice a n c))) (by kernel_rfl) ?_ (fun hHeld => ?_)
  · first | exact SK.out _ XB | exact SK.out _ (Below.drew (Below.refl _ _))
  have XB : Below v1.heap.size v1 v1.drew := Below.drew (Below.refl _ _)
  generalize v1.drew = vx at *
  refine wpAnyH_take (i := 0) (v := ?_) (by rw [List.getElem?_toArray]; rfl) (by kernel_rfl) (by kernel_rfl) (by kernel_rfl) (by intro _ _ _ h; exact h) (Or.inl ⟨by rfl, ?_⟩) (by assumption) ?_
  rotate_left
  · (intro w hSw; (try dsimp only at hSw); go_simp; all_goals with_reducible rfl)
  (try simp only [Act.put, List.setIfInBounds_toArray, List.set_cons_zero, List.set_cons_succ])
  refine wpAnyH_take (i := 1) (v := ?_) (by rw [List.getElem?_toArray]; rfl) (by kernel_rfl) (by kernel_rfl) (by kernel_rfl) (by intro _ _ _ h; exact h) (Or.inl ⟨by rfl, ?_⟩) (by assumption) ?_
  rotate_left
  · (intro w hSw; (try dsimp only at hSw); go_simp; all_goals with_reducible rfl)
  (try simp only [Act.put, List.setIfInBounds_toArray, List.set_cons_zero, List.set_cons_succ])
  refine wpAnyH_take (i := 2) (v := ?_) (by rw [List.getElem?_toArray]; rfl) (by kernel_rfl) (by kernel_rfl) (by kernel_rfl) (by intro _ _ _ h; exact h) (Or.inl ⟨by rfl, ?_⟩) (by assumption) ?_
  rotate_left
  · (intro w hSw; (try dsimp only at hSw); go_simp; all_goals with_reducible rfl)
  (try simp only [Act.put, List.setIfInBounds_toArray, List.set_cons_zero, List.set_cons_succ])
  refine wpAnyH_take (i := 3) (v := ?_) (by rw [List.getElem?_toArray]; rfl) (by kernel_rfl) (by kernel_rfl) (by kernel_rfl) (by intro _ _ _ h; exact h) (Or.inl ⟨by rfl, ?_⟩) (by assumption) ?_
  rotate_left
  · (intro w hSw; (try dsimp only at hSw); go_simp; all_goals with_reducible rfl)
  (try simp only [Act.put, List.setIfInBounds_toArray, List.set_cons_zero, List.set_cons_succ])
  (try simp only [hw1, hx1])
  refine wpAnyH_take (i := 4) (v := ?_) (by rw [List.getElem?_toArray]; rfl) (by kernel_rfl) (by kernel_rfl) (by kernel_rfl) (by intro _ _ _ h; exact h) (Or.inl ⟨by rfl, ?_⟩) (by assumption) ?_
  rotate_left
  · (intro w hSw; (try dsimp only at hSw); go_simp; all_goals with_reducible rfl)
  (try simp only [Act.put, List.setIfInBounds_toArray, List.set_cons_zero, List.set_cons_succ])
  refine wpAnyH_ready (rs := [5]) (by kernel_rfl) (by simp) ?_
  refine AllReadyH.cons (by rw [List.getElem?_toArray]; rfl) (fun K hK => ?_) AllReadyH.nil
  go_simp
  refine (CR vx (HS.out.below (B.trans (XB.mono B.size)))).mono ?_; rintro ee vx ⟨rfl, hbl⟩; (replace XB := XB.trans (hbl.mono XB.size)); (clear hbl)
  (try go_wp2_with fail)
  refine hK.out _ _ ?_ (fun hHeld => ?_)
  · first | exact SK.out _ XB | exact SK.out _ (Below.drew (Below.refl _ _))
  clear hK K
  (try simp only [Act.put, List.setIfInBounds_toArray, List.set_cons_zero, List.set_cons_succ])
  refine wpAnyH_take (i := 6) (v := ?_) (by rw [List.getElem?_toArray]; rfl) (by kernel_rfl) (by kernel_rfl) (by kernel_rfl) (by intro _ _ _ h; exact h) (Or.inl ⟨by rfl, ?_⟩) (by assumption) ?_
  rotate_left
  · (intro w hSw; (try dsimp only at hSw); go_simp; all_goals with_reducible rfl)
  (try simp only [Act.put, List.setIfInBounds_toArray, List.set_cons_zero, List.set_cons_succ])
  (try simp only [hq, hw2, hx2])
  refine wpAnyH_take (i := 7) (v := ?_) (by rw [List.getElem?_toArray]; rfl) (by kernel_rfl) (by kernel_rfl) (by kernel_rfl) (by intro _ _ _ h; exact h) (Or.inl ⟨by rfl, ?_⟩) (by assumption) ?_
  rotate_left
  · (intro w hSw; (try dsimp only at hSw); go_simp; all_goals with_reducible rfl)
  (try simp only [Act.put, List.setIfInBounds_toArray, List.set_cons_zero, List.set_cons_succ])
  refine wpAnyH_done (by kernel_rfl) ?_ _
  clear n0 n1 n2 n3 n4 n5 n6
  replace B := B.trans (XB.mono B.size)
  replace N := N.below XB
  clear XB SK CR hq hw1 hx1 hw2 hx2 hu0 hne h3
  generalize vx = v2 at *
  go_wp2_with fail
  go_loopw [8] (fun i wr => ∃ (j : Nat), j ≤ n ∧ i = .int .i64 j ∧ fnd P j = j ∧ Tx3 wr w.heap.size (.int .i64 s) (.int .i64 g) (.slice a n c) ∧ Below w.heap.size w wr) (fun i _ => n - (intOf i).toNat)
  case atStart => exact ⟨0, Nat.zero_le _, rfl, rfl, N, B⟩
  case round =>
    clear N B
    obtain ⟨j, hj, rfl, hF, N, B⟩ := hrel
    by_cases hlt : j < n
    · have hli : (j : Int) < (n : Int) := by omega
      have HLT : Hid (j < n) := hlt
      have HF : Hid (fnd P j = j) := hF
      have HJ := HP.out j
      have C := CO j
      clear hF hlt hj CO
      generalize ocL s g M n j K = X at *
      generalize ocH s g M n j K = Y at *
      generalize ocB s g M n j K = Q at *
      have HJ : Hid (P j = (Q && (decide (X ≤ t) && decide (t < Y)))) := HJ
      obtain ⟨n0, n1, n2, n3, n4, n5, n6⟩ := id N
      go_wp2_with fail
      refine (C _ (HS.out.below B)).mono ?_
      rintro e w3 ⟨rfl, hb⟩
      clear n0 n1 n2 n3 n4 n5 n6
      replace B := B.trans (hb.mono B.size)
      replace N := N.below hb
      clear hb
      have NL := Below.nw w3 (.cells #[.int .i64 X, .int .i64 Y] 25)
      have Z := Bx2.new w3 (.int .i64 X) (.int .i64 Y) 25
      go_upto_region 8 with fail
      replace B := B.trans (NL.mono B.size)
      replace N := N.below NL
      clear NL C
      generalize w3.alloc (.cells #[.int .i64 X, .int .i64 Y] 25) = w4 at *
      generalize w3.heap.size = jz at *
      obtain ⟨z0, z1, z2, z3, z4⟩ := id Z
      cases Q
      · have HM : Hid (fnd P (j + 1) = j + 1) := fnd_miss HF.out (by rw [HJ.out]; rfl)
        go_wp2_with fail
        go_roundw
        case rel => exact ⟨j + 1, HLT.out, by go_num, HM.out, N, B⟩
        case measure => have hlt' := HLT.out; simp [intOf]; omega
      by_cases hX : X ≤ t
      · by_cases hY : t < Y
        · have HM : Hid (fnd P n = j) := fnd_is HF.out (by rw [HJ.out, decide_eq_true hX, decide_eq_true hY]; rfl) HLT.out
          go_wp2_with fail
          obtain ⟨e1, e2, e3⟩ := H1.out j HM.out HLT.out
          exact bodyPost_ret (v := (.tuple #[.int .i64 (j : Int), .int .i64 K, .bool true])) (by simp (maxDischargeDepth := 6) [results, Tryd.results42, go_sem, *]) rfl ⟨by rw [e1, e2, e3], B⟩
        · have HM : Hid (fnd P (j + 1) = j + 1) := fnd_miss HF.out (by rw [HJ.out, decide_eq_false hY]; simp)
          go_wp2_with fail
          go_roundw
          case rel => exact ⟨j + 1, HLT.out, by go_num, HM.out, N, B⟩
          case measure => have hlt' := HLT.out; simp [intOf]; omega
      · have HM : Hid (fnd P (j + 1) = j + 1) := fnd_miss HF.out (by rw [HJ.out, decide_eq_false hX]; simp)
        go_wp2_with fail
        go_roundw
        case rel => exact ⟨j + 1, HLT.out, by go_num, HM.out, N, B⟩
        case measure => have hlt' := HLT.out; simp [intOf]; omega
    · have hkn : j = n := by omega
      subst hkn
      have hli : ¬ (j : Int) < (j : Int) := by omega
      have HF : Hid (fnd P j = j) := hF
      clear hF
      obtain ⟨n0, n1, n2, n3, n4, n5, n6⟩ := id N
      go_wp2_with fail
      obtain ⟨e1, e2, e3⟩ := H0.out HF.out
      exact bodyPost_ret (v := (.tuple #[.int .i64 0, .int .i64 0, .bool false])) (by simp (maxDischargeDepth := 6) [results, Tryd.results42, go_sem, *]) rfl ⟨by rw [e1, e2, e3], B⟩

theorem is_no {s g : Int} {M : Nat → SlT} {n : Nat} {o f t : Int} (h : isB s g M n o f t = false) : isI s g M n o f t = 0 ∧ isK s g M n o f t = 0 := by
  unfold isI isK
  rw [h]
  exact ⟨rfl, rfl⟩
theorem is_yes {s g : Int} {M : Nat → SlT} {n : Nat} {o f t : Int} (h : isB s g M n o f t = true) : isI s g M n o f t = saI s g M n f ∧ isK s g M n o f t = saK s g M n f := by
  unfold isI isK
  rw [h]
  exact ⟨rfl, rfl⟩
set_option maxRecDepth 100000 in
set_option maxHeartbeats 8000000 in
theorem specInSlot_any (s g : Int) (a : Option Addr) (n c : Nat) (M : Nat → SlT) (o f t : Int) (w : World) (hm : n ≤ maxLen) (hs : SrcC w a (n * 2) (MFSlot M)) :
    Calls Tryd.prog 54 #[.agg #[.int .i64 s, .int .i64 g, .slice a n c], .int .i64 o, .int .i64 f, .int .i64 t] w fun e w' => e = .returned (.tuple #[.int .i64 (isI s g M n o f t), .int .i64 (isK s g M n o f t), .bool (isB s g M n o f t)]) ∧ Below w.heap.size w w' := by
  have B := Below.nw w (.cells #[.int .i64 s, .int .i64 g, .slice a n c] 30)
  have N := Tx3.new w (.int .i64 s) (.int .i64 g) (.slice a n c) 30
  have HS : Hid (SrcC w a (n * 2) (MFSlot M)) := hs
  clear hs
  have C1 := fun w' h => specSlotAt_any s g a n c M f w' hm h
  cases h1 : saB s g M n f
  · have hB : isB s g M n o f t = false := by unfold isB; rw [h1]; rfl
    rw [(is_no hB).1, (is_no hB).2, hB]
    rw [h1, (sa_no h1).1, (sa_no h1).2] at C1
    clear hB
    go_enter Tryd.func54, Tryd.ntmps54
    go_upto_region 1 with fail
    generalize w.alloc (.cells #[.int .i64 s, .int .i64 g, .slice a n c] 30) = v at *
    obtain ⟨n0, n1, n2, n3, n4, n5, n6⟩ := id N
    go_wp2_with fail
    refine (C1 _ (HS.out.below B)).mono ?_
    rintro e v1 ⟨rfl, hb⟩
    clear n0 n1 n2 n3 n4 n5 n6
    replace B := B.trans (hb.mono B.size)
    replace N := N.below hb
    clear hb
    obtain ⟨n0, n1, n2, n3, n4, n5, n6⟩ := id N
    go_wp2_with fail
    exact bodyPost_ret (v := (.tuple #[.int .i64 0, .int .i64 0, .bool false])) (by simp (maxDischargeDepth := 6) [results, Tryd.results54, go_sem, *]) rfl ⟨rfl, B⟩
  obtain ⟨y1, y2, y3, y4⟩ := sa_yes h1
  have CO := fun w' h => specOccurrence_any s g a n c M (saI s g M n f) (saK s g M n f) w' hm h
  have hiN : (saI s g M n f).toNat < n := by rw [y1]; omega
  have hiE : saI s g M n f = ((saI s g M n f).toNat : Int) := by rw [y1]; omega
  have LK : Hid (∀ w', SrcC w' a (n * 2) (MFSlot M) → ∃ b off, a = some ⟨b, off, none⟩ ∧ w'.cell? ⟨b, off + (saI s g M n f).toNat * 2, none⟩ = some (.int .i64 (M (saI s g M n f).toNat).1) ∧ w'.cell? ⟨b, off + (saI s g M n f).toNat * 2 + 1, none⟩ = some (.int .i64 (M (saI s g M n f).toNat).2)) := fun w' h => by
    rcases h with q | ⟨b, off, e, hc⟩
    · exact absurd q (by omega)
    · exact ⟨b, off, e, hc.elSlot hiN rfl⟩
  have HB : isB s g M n o f t = (((M (saI s g M n f).toNat).1 == o) && (!decide (t < f) && !decide (ocH s g M n (saI s g M n f) (saK s g M n f) < t))) := by unfold isB; rw [h1]; rfl
  rw [h1] at C1
  have HI : Hid (((saI s g M n f).toNat : Int) < (n : Int)) := by rw [Hid]; omega
  have H0 : Hid (isB s g M n o f t = false → isI s g M n o f t = 0 ∧ isK s g M n o f t = 0) := is_no
  have H1 : Hid (isB s g M n o f t = true → isI s g M n o f t = saI s g M n f ∧ isK s g M n o f t = saK s g M n f) := is_yes
  clear y1 y2 y3 y4 h1 hiN
  generalize isI s g M n o f t = AI at *
  generalize isK s g M n o f t = AK at *
  generalize isB s g M n o f t = AB at *
  generalize ocL s g M n (saI s g M n f) (saK s g M n f) = X at *
  generalize ocH s g M n (saI s g M n f) (saK s g M n f) = Y at *
  generalize ocB s g M n (saI s g M n f) (saK s g M n f) = Q at *
  generalize saK s g M n f = K at *
  generalize hS : saI s g M n f = I at *
  clear hS
  generalize I.toNat = iN at *
  subst hiE
  generalize (M iN).1 = ow at *
  generalize (M iN).2 = lg at *
  have hli := HI.out
  cases ho : (ow == o)
  · have hne : (ow != o) = true := by rw [bne, ho]; rfl
    have e0 : AB = false := by rw [HB, ho]; rfl
    subst e0
    obtain ⟨rfl, rfl⟩ := H0.out rfl
    clear HB H0 H1 ho
    go_enter Tryd.func54, Tryd.ntmps54
    go_upto_region 1 with fail
    generalize w.alloc (.cells #[.int .i64 s, .int .i64 g, .slice a n c] 30) = v at *
    obtain ⟨n0, n1, n2, n3, n4, n5, n6⟩ := id N
    go_wp2_with fail
    refine (C1 _ (HS.out.below B)).mono ?_
    rintro e v1 ⟨rfl, hb⟩
    clear n0 n1 n2 n3 n4 n5 n6
    replace B := B.trans (hb.mono B.size)
    replace N := N.below hb
    clear hb
    obtain ⟨b, off, rfl, c1, c2⟩ := LK.out v1 (HS.out.below B)
    clear LK HS
    obtain ⟨n0, n1, n2, n3, n4, n5, n6⟩ := id N
    go_wp2_with fail
    exact bodyPost_ret (v := (.tuple #[.int .i64 0, .int .i64 0, .bool false])) (by simp (maxDischargeDepth := 6) [results, Tryd.results54, go_sem, *]) rfl ⟨rfl, B⟩
  have hne : (ow != o) = false := by rw [bne, ho]; rfl
  by_cases h3 : t < f
  · have e0 : AB = false := by rw [HB, decide_eq_true h3]; simp
    subst e0
    obtain ⟨rfl, rfl⟩ := H0.out rfl
    clear HB H0 H1 ho
    go_enter Tryd.func54, Tryd.ntmps54
    go_upto_region 1 with fail
    generalize w.alloc (.cells #[.int .i64 s, .int .i64 g, .slice a n c] 30) = v at *
    obtain ⟨n0, n1, n2, n3, n4, n5, n6⟩ := id N
    go_wp2_with fail
    refine (C1 _ (HS.out.below B)).mono ?_
    rintro e v1 ⟨rfl, hb⟩
    clear n0 n1 n2 n3 n4 n5 n6
    replace B := B.trans (hb.mono B.size)
    replace N := N.below hb
    clear hb
    obtain ⟨b, off, rfl, c1, c2⟩ := LK.out v1 (HS.out.below B)
    clear LK HS
    obtain ⟨n0, n1, n2, n3, n4, n5, n6⟩ := id N
    go_wp2_with fail
    exact bodyPost_ret (v := (.tuple #[.int .i64 0, .int .i64 0, .bool false])) (by simp (maxDischargeDepth := 6) [results, Tryd.results54, go_sem, *]) rfl ⟨rfl, B⟩
  by_cases h4 : Y < t
  · have e0 : AB = false := by rw [HB, decide_eq_true h4]; simp
    subst e0
    obtain ⟨rfl, rfl⟩ := H0.out rfl
    clear HB H0 H1 ho
    go_enter Tryd.func54, Tryd.ntmps54
    go_upto_region 1 with fail
    generalize w.alloc (.cells #[.int .i64 s, .int .i64 g, .slice a n c] 30) = v at *
    obtain ⟨n0, n1, n2, n3, n4, n5, n6⟩ := id N
    go_wp2_with fail
    refine (C1 _ (HS.out.below B)).mono ?_
    rintro e v1 ⟨rfl, hb⟩
    clear n0 n1 n2 n3 n4 n5 n6
    replace B := B.trans (hb.mono B.size)
    replace N := N.below hb
    clear hb
    obtain ⟨b, off, rfl, c1, c2⟩ := LK.out v1 (HS.out.below B)
    clear LK
    obtain ⟨n0, n1, n2, n3, n4, n5, n6⟩ := id N
    go_wp2_with fail
    refine (CO _ (HS.out.below B)).mono ?_
    rintro e v2 ⟨rfl, hb⟩
    clear n0 n1 n2 n3 n4 n5 n6
    replace B := B.trans (hb.mono B.size)
    replace N := N.below hb
    clear hb
    clear c1 c2
    have NL := Below.nw v2 (.cells #[.int .i64 X, .int .i64 Y] 25)
    have Z := Bx2.new v2 (.int .i64 X) (.int .i64 Y) 25
    go_upto_region 5 with fail
    replace B := B.trans (NL.mono B.size)
    clear NL
    generalize v2.alloc (.cells #[.int .i64 X, .int .i64 Y] 25) = v3 at *
    generalize v2.heap.size = jz at *
    obtain ⟨z0, z1, z2, z3, z4⟩ := id Z
    go_wp2_with fail
    exact bodyPost_ret (v := (.tuple #[.int .i64 0, .int .i64 0, .bool false])) (by simp (maxDischargeDepth := 6) [results, Tryd.results54, go_sem, *]) rfl ⟨rfl, B⟩
  have e0 : AB = true := by rw [HB, ho, decide_eq_false h3, decide_eq_false h4]; rfl
  subst e0
  obtain ⟨rfl, rfl⟩ := H1.out rfl
  clear HB H0 H1 ho
  go_enter Tryd.func54, Tryd.ntmps54
  go_upto_region 1 with fail
  generalize w.alloc (.cells #[.int .i64 s, .int .i64 g, .slice a n c] 30) = v at *
  obtain ⟨n0, n1, n2, n3, n4, n5, n6⟩ := id N
  go_wp2_with fail
  refine (C1 _ (HS.out.below B)).mono ?_
  rintro e v1 ⟨rfl, hb⟩
  clear n0 n1 n2 n3 n4 n5 n6
  replace B := B.trans (hb.mono B.size)
  replace N := N.below hb
  clear hb
  obtain ⟨b, off, rfl, c1, c2⟩ := LK.out v1 (HS.out.below B)
  clear LK
  obtain ⟨n0, n1, n2, n3, n4, n5, n6⟩ := id N
  go_wp2_with fail
  refine (CO _ (HS.out.below B)).mono ?_
  rintro e v2 ⟨rfl, hb⟩
  clear n0 n1 n2 n3 n4 n5 n6
  replace B := B.trans (hb.mono B.size)
  replace N := N.below hb
  clear hb
  clear c1 c2
  have NL := Below.nw v2 (.cells #[.int .i64 X, .int .i64 Y] 25)
  have Z := Bx2.new v2 (.int .i64 X) (.int .i64 Y) 25
  go_upto_region 5 with fail
  replace B := B.trans (NL.mono B.size)
  clear NL
  generalize v2.alloc (.cells #[.int .i64 X, .int .i64 Y] 25) = v3 at *
  generalize v2.heap.size = jz at *
  obtain ⟨z0, z1, z2, z3, z4⟩ := id Z
  go_wp2_with fail
  exact bodyPost_ret (v := (.tuple #[.int .i64 (iN : Int), .int .i64 AK, .bool true])) (by simp (maxDischargeDepth := 6) [results, Tryd.results54, go_sem, *]) rfl ⟨rfl, B⟩
end Go.Proofs.YtcakhfobkbgfoaaDoor
namespace Go.Proofs.YtcakhfobkbgfoaaDoor
open Go.RowKit
set_option linter.unusedVariables false
set_option maxRecDepth 100000 in
set_option maxHeartbeats 8000000 in
theorem specGateAsk_any (kn : Bool) (lo hi n d x s g : Int) (a : Option Addr) (m c : Nat) (M : Nat → SlT) (o : Int) (w : World) (hm : m ≤ maxLen) (hs : SrcC w a (m * 2) (MFSlot M)) :
    Calls Tryd.prog 13 #[.agg #[.int .i64 lo, .int .i64 hi], .bool kn, .agg #[.int .i64 n, .int .i64 d], .int .i64 x, .agg #[.int .i64 s, .int .i64 g, .slice a m c], .int .i64 o] w fun e w' => e = .returned (.tuple #[.int .i64 (gaI kn lo hi n d x s g M m o), .int .i64 (gaK kn lo hi n d x s g M m o), .int .i64 (gaC kn lo hi n d x s g M m o)]) ∧ Below w.heap.size w w' := by
  have A0 := Below.nw w (.cells #[.int .i64 lo, .int .i64 hi] 25)
  have A1 := Below.nw (w.alloc (.cells #[.int .i64 lo, .int .i64 hi] 25)) (.cells #[.int .i64 n, .int .i64 d] 27)
  have A2 := Below.nw ((w.alloc (.cells #[.int .i64 lo, .int .i64 hi] 25)).alloc (.cells #[.int .i64 n, .int .i64 d] 27)) (.cells #[.int .i64 s, .int .i64 g, .slice a m c] 30)
  have I := ((Bx2.new w (.int .i64 lo) (.int .i64 hi) 25).below A1).below A2
  have D := (Bx2.new (w.alloc (.cells #[.int .i64 lo, .int .i64 hi] 25)) (.int .i64 n) (.int .i64 d) 27).below A2
  have N := Tx3.new ((w.alloc (.cells #[.int .i64 lo, .int .i64 hi] 25)).alloc (.cells #[.int .i64 n, .int .i64 d] 27)) (.int .i64 s) (.int .i64 g) (.slice a m c) 30
  have B := (A0.trans (A1.mono A0.size)).trans (A2.mono (A0.trans (A1.mono A0.size)).size)
  simp only [World.size_alloc] at D N
  clear A0 A1 A2
  have HS : Hid (SrcC w a (m * 2) (MFSlot M)) := hs
  clear hs
  have CI := fun w' => specIvalOk_any lo hi w'
  have CD := fun w' => specDriftOk_any n d w'
  have CX := fun w' => ln_any x w'
  have CP := fun w' h => specPlanOk_any s g a m c M w' hm h
  have CO := fun w' => l4Node_any o w'
  have CG := fun w' => specGateSpan_any lo hi n d x w'
  have CS := fun w' h => specInSlot_any s g a m c M o (gsL lo hi n d x) (gsH lo hi n d x) w' hm h
  go_enter Tryd.func13, Tryd.ntmps13
  go_upto_region 1 with fail
  generalize ((w.alloc (.cells #[.int .i64 lo, .int .i64 hi] 25)).alloc (.cells #[.int .i64 n, .int .i64 d] 27)).alloc (.cells #[.int .i64 s, .int .i64 g, .slice a m c] 30) = v at *
  generalize w.heap.size + 1 + 1 = jn at *
  generalize w.heap.size + 1 = jd at *
  go_cut [45] (fun s45 wx => s45 = .bool (!(gaP kn lo hi n d x (plB s g M m) o)) ∧ Bx2 wx w.heap.size (.int .i64 lo) (.int .i64 hi) ∧ Bx2 wx jd (.int .i64 n) (.int .i64 d) ∧ Tx3 wx jn (.int .i64 s) (.int .i64 g) (.slice a m c) ∧ Below w.heap.size w wx)
  case first => as_aux_lemma =>
    clear CG CS
    cases kn
    · clear CI
      cases q1 : okD n d
      · rw [q1] at CD
        obtain ⟨i0, i1, i2, i3, i4⟩ := id I
        obtain ⟨d0, d1, d2, d3, d4⟩ := id D
        obtain ⟨n0, n1, n2, n3, n4, n5, n6⟩ := id N
        go_wp2_with fail
        refine (CD _).mono ?_
        rintro e u1 ⟨rfl, hb⟩
        clear i0 i1 i2 i3 i4 d0 d1 d2 d3 d4 n0 n1 n2 n3 n4 n5 n6
        replace I := I.below hb
        replace D := D.below hb
        replace N := N.below hb
        replace B := B.trans (hb.mono B.size)
        clear hb
        obtain ⟨i0, i1, i2, i3, i4⟩ := id I
        obtain ⟨d0, d1, d2, d3, d4⟩ := id D
        obtain ⟨n0, n1, n2, n3, n4, n5, n6⟩ := id N
        go_wp2_with fail
        clear i0 i1 i2 i3 i4 d0 d1 d2 d3 d4 n0 n1 n2 n3 n4 n5 n6
        go_meet
        case rel => exact ⟨by simp [gaP, q1], I, D, N, B⟩
      rw [q1] at CD
      obtain ⟨i0, i1, i2, i3, i4⟩ := id I
      obtain ⟨d0, d1, d2, d3, d4⟩ := id D
      obtain ⟨n0, n1, n2, n3, n4, n5, n6⟩ := id N
      go_wp2_with fail
      refine (CD _).mono ?_
      rintro e u1 ⟨rfl, hb⟩
      clear i0 i1 i2 i3 i4 d0 d1 d2 d3 d4 n0 n1 n2 n3 n4 n5 n6
      replace I := I.below hb
      replace D := D.below hb
      replace N := N.below hb
      replace B := B.trans (hb.mono B.size)
      clear hb
      clear CD
      cases q2 : lgB x
      · rw [q2] at CX
        obtain ⟨i0, i1, i2, i3, i4⟩ := id I
        obtain ⟨d0, d1, d2, d3, d4⟩ := id D
        obtain ⟨n0, n1, n2, n3, n4, n5, n6⟩ := id N
        go_wp2_with fail
        refine (CX _).mono ?_
        rintro e w' ⟨rfl, rfl⟩
        clear i0 i1 i2 i3 i4 d0 d1 d2 d3 d4 n0 n1 n2 n3 n4 n5 n6
        obtain ⟨i0, i1, i2, i3, i4⟩ := id I
        obtain ⟨d0, d1, d2, d3, d4⟩ := id D
        obtain ⟨n0, n1, n2, n3, n4, n5, n6⟩ := id N
        go_wp2_with fail
        clear i0 i1 i2 i3 i4 d0 d1 d2 d3 d4 n0 n1 n2 n3 n4 n5 n6
        go_meet
        case rel => exact ⟨by simp [gaP, q1, q2], I, D, N, B⟩
      rw [q2] at CX
      obtain ⟨i0, i1, i2, i3, i4⟩ := id I
      obtain ⟨d0, d1, d2, d3, d4⟩ := id D
      obtain ⟨n0, n1, n2, n3, n4, n5, n6⟩ := id N
      go_wp2_with fail
      refine (CX _).mono ?_
      rintro e w' ⟨rfl, rfl⟩
      clear i0 i1 i2 i3 i4 d0 d1 d2 d3 d4 n0 n1 n2 n3 n4 n5 n6
      clear CX
      cases q3 : plB s g M m
      · rw [q3] at CP
        obtain ⟨i0, i1, i2, i3, i4⟩ := id I
        obtain ⟨d0, d1, d2, d3, d4⟩ := id D
        obtain ⟨n0, n1, n2, n3, n4, n5, n6⟩ := id N
        go_wp2_with fail
        refine (CP _ (HS.out.below B)).mono ?_
        rintro e u3 ⟨rfl, hb⟩
        clear i0 i1 i2 i3 i4 d0 d1 d2 d3 d4 n0 n1 n2 n3 n4 n5 n6
        replace I := I.below hb
        replace D := D.below hb
        replace N := N.below hb
        replace B := B.trans (hb.mono B.size)
        clear hb
        obtain ⟨i0, i1, i2, i3, i4⟩ := id I
        obtain ⟨d0, d1, d2, d3, d4⟩ := id D
        obtain ⟨n0, n1, n2, n3, n4, n5, n6⟩ := id N
        go_wp2_with fail
        clear i0 i1 i2 i3 i4 d0 d1 d2 d3 d4 n0 n1 n2 n3 n4 n5 n6
        go_meet
        case rel => exact ⟨by simp [gaP, q1, q2, q3], I, D, N, B⟩
      rw [q3] at CP
      obtain ⟨i0, i1, i2, i3, i4⟩ := id I
      obtain ⟨d0, d1, d2, d3, d4⟩ := id D
      obtain ⟨n0, n1, n2, n3, n4, n5, n6⟩ := id N
      go_wp2_with fail
      refine (CP _ (HS.out.below B)).mono ?_
      rintro e u3 ⟨rfl, hb⟩
      clear i0 i1 i2 i3 i4 d0 d1 d2 d3 d4 n0 n1 n2 n3 n4 n5 n6
      replace I := I.below hb
      replace D := D.below hb
      replace N := N.below hb
      replace B := B.trans (hb.mono B.size)
      clear hb
      clear CP
      cases q4 : nodB o
      · rw [q4] at CO
        obtain ⟨i0, i1, i2, i3, i4⟩ := id I
        obtain ⟨d0, d1, d2, d3, d4⟩ := id D
        obtain ⟨n0, n1, n2, n3, n4, n5, n6⟩ := id N
        go_wp2_with fail
        refine (CO _).mono ?_
        rintro e w' ⟨rfl, rfl⟩
        clear i0 i1 i2 i3 i4 d0 d1 d2 d3 d4 n0 n1 n2 n3 n4 n5 n6
        obtain ⟨i0, i1, i2, i3, i4⟩ := id I
        obtain ⟨d0, d1, d2, d3, d4⟩ := id D
        obtain ⟨n0, n1, n2, n3, n4, n5, n6⟩ := id N
        go_wp2_with fail
        clear i0 i1 i2 i3 i4 d0 d1 d2 d3 d4 n0 n1 n2 n3 n4 n5 n6
        go_meet
        case rel => exact ⟨by simp [gaP, q1, q2, q3, q4], I, D, N, B⟩
      rw [q4] at CO
      obtain ⟨i0, i1, i2, i3, i4⟩ := id I
      obtain ⟨d0, d1, d2, d3, d4⟩ := id D
      obtain ⟨n0, n1, n2, n3, n4, n5, n6⟩ := id N
      go_wp2_with fail
      refine (CO _).mono ?_
      rintro e w' ⟨rfl, rfl⟩
      clear i0 i1 i2 i3 i4 d0 d1 d2 d3 d4 n0 n1 n2 n3 n4 n5 n6
      clear CO
      obtain ⟨i0, i1, i2, i3, i4⟩ := id I
      obtain ⟨d0, d1, d2, d3, d4⟩ := id D
      obtain ⟨n0, n1, n2, n3, n4, n5, n6⟩ := id N
      go_wp2_with fail
      clear i0 i1 i2 i3 i4 d0 d1 d2 d3 d4 n0 n1 n2 n3 n4 n5 n6
      go_meet
      case rel => exact ⟨by simp [gaP, q1, q2, q3, q4], I, D, N, B⟩
    · skip
      cases q0 : okI lo hi
      · rw [q0] at CI
        obtain ⟨i0, i1, i2, i3, i4⟩ := id I
        obtain ⟨d0, d1, d2, d3, d4⟩ := id D
        obtain ⟨n0, n1, n2, n3, n4, n5, n6⟩ := id N
        go_wp2_with fail
        refine (CI _).mono ?_
        rintro e u0 ⟨rfl, hb⟩
        clear i0 i1 i2 i3 i4 d0 d1 d2 d3 d4 n0 n1 n2 n3 n4 n5 n6
        replace I := I.below hb
        replace D := D.below hb
        replace N := N.below hb
        replace B := B.trans (hb.mono B.size)
        clear hb
        obtain ⟨i0, i1, i2, i3, i4⟩ := id I
        obtain ⟨d0, d1, d2, d3, d4⟩ := id D
        obtain ⟨n0, n1, n2, n3, n4, n5, n6⟩ := id N
        go_wp2_with fail
        clear i0 i1 i2 i3 i4 d0 d1 d2 d3 d4 n0 n1 n2 n3 n4 n5 n6
        go_meet
        case rel => exact ⟨by simp [gaP, q0], I, D, N, B⟩
      rw [q0] at CI
      obtain ⟨i0, i1, i2, i3, i4⟩ := id I
      obtain ⟨d0, d1, d2, d3, d4⟩ := id D
      obtain ⟨n0, n1, n2, n3, n4, n5, n6⟩ := id N
      go_wp2_with fail
      refine (CI _).mono ?_
      rintro e u0 ⟨rfl, hb⟩
      clear i0 i1 i2 i3 i4 d0 d1 d2 d3 d4 n0 n1 n2 n3 n4 n5 n6
      replace I := I.below hb
      replace D := D.below hb
      replace N := N.below hb
      replace B := B.trans (hb.mono B.size)
      clear hb
      clear CI
      cases q1 : okD n d
      · rw [q1] at CD
        obtain ⟨i0, i1, i2, i3, i4⟩ := id I
        obtain ⟨d0, d1, d2, d3, d4⟩ := id D
        obtain ⟨n0, n1, n2, n3, n4, n5, n6⟩ := id N
        go_wp2_with fail
        refine (CD _).mono ?_
        rintro e u1 ⟨rfl, hb⟩
        clear i0 i1 i2 i3 i4 d0 d1 d2 d3 d4 n0 n1 n2 n3 n4 n5 n6
        replace I := I.below hb
        replace D := D.below hb
        replace N := N.below hb
        replace B := B.trans (hb.mono B.size)
        clear hb
        obtain ⟨i0, i1, i2, i3, i4⟩ := id I
        obtain ⟨d0, d1, d2, d3, d4⟩ := id D
        obtain ⟨n0, n1, n2, n3, n4, n5, n6⟩ := id N
        go_wp2_with fail
        clear i0 i1 i2 i3 i4 d0 d1 d2 d3 d4 n0 n1 n2 n3 n4 n5 n6
        go_meet
        case rel => exact ⟨by simp [gaP, q0, q1], I, D, N, B⟩
      rw [q1] at CD
      obtain ⟨i0, i1, i2, i3, i4⟩ := id I
      obtain ⟨d0, d1, d2, d3, d4⟩ := id D
      obtain ⟨n0, n1, n2, n3, n4, n5, n6⟩ := id N
      go_wp2_with fail
      refine (CD _).mono ?_
      rintro e u1 ⟨rfl, hb⟩
      clear i0 i1 i2 i3 i4 d0 d1 d2 d3 d4 n0 n1 n2 n3 n4 n5 n6
      replace I := I.below hb
      replace D := D.below hb
      replace N := N.below hb
      replace B := B.trans (hb.mono B.size)
      clear hb
      clear CD
      cases q2 : lgB x
      · rw [q2] at CX
        obtain ⟨i0, i1, i2, i3, i4⟩ := id I
        obtain ⟨d0, d1, d2, d3, d4⟩ := id D
        obtain ⟨n0, n1, n2, n3, n4, n5, n6⟩ := id N
        go_wp2_with fail
        refine (CX _).mono ?_
        rintro e w' ⟨rfl, rfl⟩
        clear i0 i1 i2 i3 i4 d0 d1 d2 d3 d4 n0 n1 n2 n3 n4 n5 n6
        obtain ⟨i0, i1, i2, i3, i4⟩ := id I
        obtain ⟨d0, d1, d2, d3, d4⟩ := id D
        obtain ⟨n0, n1, n2, n3, n4, n5, n6⟩ := id N
        go_wp2_with fail
        clear i0 i1 i2 i3 i4 d0 d1 d2 d3 d4 n0 n1 n2 n3 n4 n5 n6
        go_meet
        case rel => exact ⟨by simp [gaP, q0, q1, q2], I, D, N, B⟩
      rw [q2] at CX
      obtain ⟨i0, i1, i2, i3, i4⟩ := id I
      obtain ⟨d0, d1, d2, d3, d4⟩ := id D
      obtain ⟨n0, n1, n2, n3, n4, n5, n6⟩ := id N
      go_wp2_with fail
      refine (CX _).mono ?_
      rintro e w' ⟨rfl, rfl⟩
      clear i0 i1 i2 i3 i4 d0 d1 d2 d3 d4 n0 n1 n2 n3 n4 n5 n6
      clear CX
      cases q3 : plB s g M m
      · rw [q3] at CP
        obtain ⟨i0, i1, i2, i3, i4⟩ := id I
        obtain ⟨d0, d1, d2, d3, d4⟩ := id D
        obtain ⟨n0, n1, n2, n3, n4, n5, n6⟩ := id N
        go_wp2_with fail
        refine (CP _ (HS.out.below B)).mono ?_
        rintro e u3 ⟨rfl, hb⟩
        clear i0 i1 i2 i3 i4 d0 d1 d2 d3 d4 n0 n1 n2 n3 n4 n5 n6
        replace I := I.below hb
        replace D := D.below hb
        replace N := N.below hb
        replace B := B.trans (hb.mono B.size)
        clear hb
        obtain ⟨i0, i1, i2, i3, i4⟩ := id I
        obtain ⟨d0, d1, d2, d3, d4⟩ := id D
        obtain ⟨n0, n1, n2, n3, n4, n5, n6⟩ := id N
        go_wp2_with fail
        clear i0 i1 i2 i3 i4 d0 d1 d2 d3 d4 n0 n1 n2 n3 n4 n5 n6
        go_meet
        case rel => exact ⟨by simp [gaP, q0, q1, q2, q3], I, D, N, B⟩
      rw [q3] at CP
      obtain ⟨i0, i1, i2, i3, i4⟩ := id I
      obtain ⟨d0, d1, d2, d3, d4⟩ := id D
      obtain ⟨n0, n1, n2, n3, n4, n5, n6⟩ := id N
      go_wp2_with fail
      refine (CP _ (HS.out.below B)).mono ?_
      rintro e u3 ⟨rfl, hb⟩
      clear i0 i1 i2 i3 i4 d0 d1 d2 d3 d4 n0 n1 n2 n3 n4 n5 n6
      replace I := I.below hb
      replace D := D.below hb
      replace N := N.below hb
      replace B := B.trans (hb.mono B.size)
      clear hb
      clear CP
      cases q4 : nodB o
      · rw [q4] at CO
        obtain ⟨i0, i1, i2, i3, i4⟩ := id I
        obtain ⟨d0, d1, d2, d3, d4⟩ := id D
        obtain ⟨n0, n1, n2, n3, n4, n5, n6⟩ := id N
        go_wp2_with fail
        refine (CO _).mono ?_
        rintro e w' ⟨rfl, rfl⟩
        clear i0 i1 i2 i3 i4 d0 d1 d2 d3 d4 n0 n1 n2 n3 n4 n5 n6
        obtain ⟨i0, i1, i2, i3, i4⟩ := id I
        obtain ⟨d0, d1, d2, d3, d4⟩ := id D
        obtain ⟨n0, n1, n2, n3, n4, n5, n6⟩ := id N
        go_wp2_with fail
        clear i0 i1 i2 i3 i4 d0 d1 d2 d3 d4 n0 n1 n2 n3 n4 n5 n6
        go_meet
        case rel => exact ⟨by simp [gaP, q0, q1, q2, q3, q4], I, D, N, B⟩
      rw [q4] at CO
      obtain ⟨i0, i1, i2, i3, i4⟩ := id I
      obtain ⟨d0, d1, d2, d3, d4⟩ := id D
      obtain ⟨n0, n1, n2, n3, n4, n5, n6⟩ := id N
      go_wp2_with fail
      refine (CO _).mono ?_
      rintro e w' ⟨rfl, rfl⟩
      clear i0 i1 i2 i3 i4 d0 d1 d2 d3 d4 n0 n1 n2 n3 n4 n5 n6
      clear CO
      obtain ⟨i0, i1, i2, i3, i4⟩ := id I
      obtain ⟨d0, d1, d2, d3, d4⟩ := id D
      obtain ⟨n0, n1, n2, n3, n4, n5, n6⟩ := id N
      go_wp2_with fail
      clear i0 i1 i2 i3 i4 d0 d1 d2 d3 d4 n0 n1 n2 n3 n4 n5 n6
      go_meet
      case rel => exact ⟨by simp [gaP, q0, q1, q2, q3, q4], I, D, N, B⟩
  case rest =>
    clear I D N B CI CD CX CP CO
    obtain ⟨rfl, I, D, N, B⟩ := hcut
    generalize wc = v1 at *
    cases hP : gaP kn lo hi n d x (plB s g M m) o
    · have HR : Hid (_ ∧ _ ∧ _) := ga_bad hP
      clear hP CG CS
      go_wp2_with fail
      exact bodyPost_ret (v := (.tuple #[.int .i64 0, .int .i64 0, .int .i64 1])) (by simp (maxDischargeDepth := 6) [results, Tryd.results13, go_sem, *]) rfl ⟨by rw [HR.out.1, HR.out.2.1, HR.out.2.2], B⟩
    cases hG : gaG kn lo hi n d x s g M m o
    · have HR : Hid (_ ∧ _ ∧ _) := ga_un hP hG
      unfold gaG at hG
      rw [hP] at hG
      clear hP
      obtain ⟨i0, i1, i2, i3, i4⟩ := id I
      obtain ⟨d0, d1, d2, d3, d4⟩ := id D
      obtain ⟨n0, n1, n2, n3, n4, n5, n6⟩ := id N
      go_wp2_with fail
      refine (CG _).mono ?_
      rintro e v2 ⟨rfl, hb⟩
      clear i0 i1 i2 i3 i4 d0 d1 d2 d3 d4 n0 n1 n2 n3 n4 n5 n6
      replace I := I.below hb
      replace D := D.below hb
      replace N := N.below hb
      replace B := B.trans (hb.mono B.size)
      clear hb
      clear CG I D
      generalize gsL lo hi n d x = X at *
      generalize gsH lo hi n d x = Y at *
      generalize gsB lo hi n d x = Q at *
      have NL := Below.nw v2 (.cells #[.int .i64 X, .int .i64 Y] 25)
      have Z := Bx2.new v2 (.int .i64 X) (.int .i64 Y) 25
      go_upto_region 4 with fail
      replace N := N.below NL
      replace B := B.trans (NL.mono B.size)
      clear NL
      generalize v2.alloc (.cells #[.int .i64 X, .int .i64 Y] 25) = v3 at *
      generalize v2.heap.size = jz at *
      cases kn
      · go_wp2_with fail
        exact bodyPost_ret (v := (.tuple #[.int .i64 0, .int .i64 0, .int .i64 2])) (by simp (maxDischargeDepth := 6) [results, Tryd.results13, go_sem, *]) rfl ⟨by rw [HR.out.1, HR.out.2.1, HR.out.2.2], B⟩
      cases Q
      · go_wp2_with fail
        exact bodyPost_ret (v := (.tuple #[.int .i64 0, .int .i64 0, .int .i64 2])) (by simp (maxDischargeDepth := 6) [results, Tryd.results13, go_sem, *]) rfl ⟨by rw [HR.out.1, HR.out.2.1, HR.out.2.2], B⟩
      have hI : isB s g M m o X Y = false := by simpa using hG
      rw [hI] at CS
      obtain ⟨n0, n1, n2, n3, n4, n5, n6⟩ := id N
      obtain ⟨z0, z1, z2, z3, z4⟩ := id Z
      go_wp2_with fail
      refine (CS _ (HS.out.below B)).mono ?_
      rintro e v4 ⟨rfl, hb⟩
      replace B := B.trans (hb.mono B.size)
      clear n0 n1 n2 n3 n4 n5 n6 z0 z1 z2 z3 z4 hb
      go_wp2_with fail
      exact bodyPost_ret (v := (.tuple #[.int .i64 0, .int .i64 0, .int .i64 2])) (by simp (maxDischargeDepth := 6) [results, Tryd.results13, go_sem, *]) rfl ⟨by rw [HR.out.1, HR.out.2.1, HR.out.2.2], B⟩
    · have HR : Hid (_ ∧ _ ∧ _) := ga_go hG
      unfold gaG at hG
      rw [hP] at hG
      clear hP
      simp only [Bool.and_eq_true, true_and] at hG
      obtain ⟨rfl, g1, g2⟩ := hG
      rw [g1] at CG
      rw [g2] at CS
      clear g1 g2
      obtain ⟨i0, i1, i2, i3, i4⟩ := id I
      obtain ⟨d0, d1, d2, d3, d4⟩ := id D
      obtain ⟨n0, n1, n2, n3, n4, n5, n6⟩ := id N
      go_wp2_with fail
      refine (CG _).mono ?_
      rintro e v2 ⟨rfl, hb⟩
      clear i0 i1 i2 i3 i4 d0 d1 d2 d3 d4 n0 n1 n2 n3 n4 n5 n6
      replace I := I.below hb
      replace D := D.below hb
      replace N := N.below hb
      replace B := B.trans (hb.mono B.size)
      clear hb
      clear CG I D
      generalize isI s g M m o (gsL lo hi n d x) (gsH lo hi n d x) = R at *
      generalize isK s g M m o (gsL lo hi n d x) (gsH lo hi n d x) = K at *
      generalize gsL lo hi n d x = X at *
      generalize gsH lo hi n d x = Y at *
      have NL := Below.nw v2 (.cells #[.int .i64 X, .int .i64 Y] 25)
      have Z := Bx2.new v2 (.int .i64 X) (.int .i64 Y) 25
      go_upto_region 4 with fail
      replace N := N.below NL
      replace B := B.trans (NL.mono B.size)
      clear NL
      generalize v2.alloc (.cells #[.int .i64 X, .int .i64 Y] 25) = v3 at *
      generalize v2.heap.size = jz at *
      obtain ⟨n0, n1, n2, n3, n4, n5, n6⟩ := id N
      obtain ⟨z0, z1, z2, z3, z4⟩ := id Z
      go_wp2_with fail
      refine (CS _ (HS.out.below B)).mono ?_
      rintro e v4 ⟨rfl, hb⟩
      replace B := B.trans (hb.mono B.size)
      clear n0 n1 n2 n3 n4 n5 n6 z0 z1 z2 z3 z4 hb
      go_wp2_with fail
      exact bodyPost_ret (v := (.tuple #[.int .i64 R, .int .i64 K, .int .i64 0])) (by simp (maxDischargeDepth := 6) [results, Tryd.results13, go_sem, *]) rfl ⟨by rw [HR.out.1, HR.out.2.1, HR.out.2.2], B⟩
end Go.Proofs.YtcakhfobkbgfoaaDoor
namespace Go.Proofs.YtcakhfobkbgfoaaDoor
open Go.RowKit
set_option linter.unusedVariables false
theorem gw_no {kn : Bool} {lo hi h n d x s g : Int} {M : Nat → SlT} {m : Nat} {o t y : Int} (e : gwB kn lo hi h n d x s g M m o t y = false) : gwI kn lo hi h n d x s g M m o t y = 0 := by unfold gwI; rw [e]
theorem gw_at {kn : Bool} {lo hi h n d x s g : Int} {M : Nat → SlT} {m : Nat} {o t y : Int} (hg : gwG t y = true) {j : Nat} (hf : fnd (gwP kn lo hi h n d x s g M m o t) j = j) (hp : (gwP kn lo hi h n d x s g M m o t) j = true) (hj : (j : Int) ≤ y) : gwB kn lo hi h n d x s g M m o t y = true ∧ gwI kn lo hi h n d x s g M m o t y = (j : Int) := by
  have e := fnd_is hf hp (show j < y.toNat + 1 by omega)
  have b : gwB kn lo hi h n d x s g M m o t y = true := by unfold gwB; rw [hg, e, decide_eq_true (by omega)]; rfl
  exact ⟨b, by unfold gwI; rw [b, e]⟩
theorem gw_end {kn : Bool} {lo hi h n d x s g : Int} {M : Nat → SlT} {m : Nat} {o t y : Int} {j : Nat} (hf : fnd (gwP kn lo hi h n d x s g M m o t) j = j) (hy : 0 ≤ y) (hj : j ≤ y.toNat + 1) (hj2 : ¬ (j : Int) ≤ y) : gwB kn lo hi h n d x s g M m o t y = false := by
  have e : j = y.toNat + 1 := by omega
  subst e
  unfold gwB
  rw [hf, decide_eq_false (by omega)]
  simp
set_option maxRecDepth 100000 in
set_option maxHeartbeats 8000000 in
theorem specGateWait_any (kn : Bool) (lo hi h n d x s g : Int) (a : Option Addr) (m c : Nat) (M : Nat → SlT) (o t y : Int) (w : World) (hm : m ≤ maxLen) (hs : SrcC w a (m * 2) (MFSlot M)) :
    Calls Tryd.prog 31 #[.agg #[.bool kn, .int .i64 lo, .int .i64 hi, .int .i64 h], .agg #[.int .i64 n, .int .i64 d], .int .i64 x, .agg #[.int .i64 s, .int .i64 g, .slice a m c], .int .i64 o, .int .i64 t, .int .i64 y] w fun e w' => e = .returned (.tuple #[.int .i64 (gwI kn lo hi h n d x s g M m o t y), .bool (gwB kn lo hi h n d x s g M m o t y)]) ∧ Below w.heap.size w w' := by
  have A0 := Below.nw w (.cells #[.bool kn, .int .i64 lo, .int .i64 hi, .int .i64 h] 64)
  have A1 := Below.nw (w.alloc (.cells #[.bool kn, .int .i64 lo, .int .i64 hi, .int .i64 h] 64)) (.cells #[.int .i64 n, .int .i64 d] 27)
  have A2 := Below.nw ((w.alloc (.cells #[.bool kn, .int .i64 lo, .int .i64 hi, .int .i64 h] 64)).alloc (.cells #[.int .i64 n, .int .i64 d] 27)) (.cells #[.int .i64 s, .int .i64 g, .slice a m c] 30)
  have L := ((BoxL.new w kn lo hi h 64).below A1).below A2
  have D := (Bx2.new (w.alloc (.cells #[.bool kn, .int .i64 lo, .int .i64 hi, .int .i64 h] 64)) (.int .i64 n) (.int .i64 d) 27).below A2
  have N := Tx3.new ((w.alloc (.cells #[.bool kn, .int .i64 lo, .int .i64 hi, .int .i64 h] 64)).alloc (.cells #[.int .i64 n, .int .i64 d] 27)) (.int .i64 s) (.int .i64 g) (.slice a m c) 30
  have B := (A0.trans (A1.mono A0.size)).trans (A2.mono (A0.trans (A1.mono A0.size)).size)
  simp only [World.size_alloc] at D N
  clear A0 A1 A2
  have HS : Hid (SrcC w a (m * 2) (MFSlot M)) := hs
  clear hs
  have C1 := fun w' => l1In_any y 0 400 w'
  have C2 := fun w' => l2Time_any t w'
  go_enter Tryd.func31, Tryd.ntmps31
  go_upto_region 1 with fail
  generalize ((w.alloc (.cells #[.bool kn, .int .i64 lo, .int .i64 hi, .int .i64 h] 64)).alloc (.cells #[.int .i64 n, .int .i64 d] 27)).alloc (.cells #[.int .i64 s, .int .i64 g, .slice a m c] 30) = v at *
  generalize w.heap.size + 1 + 1 = jn at *
  generalize w.heap.size + 1 = jd at *
  cases h1 : decide (0 ≤ y ∧ y ≤ 400)
  · have e1 : gwB kn lo hi h n d x s g M m o t y = false := by unfold gwB gwG; rw [h1]; rfl
    have HR : Hid (gwB kn lo hi h n d x s g M m o t y = false ∧ gwI kn lo hi h n d x s g M m o t y = 0) := ⟨e1, gw_no e1⟩
    rw [h1] at C1
    clear e1 h1
    go_wp2_with fail
    refine (C1 _).mono ?_
    rintro e w' ⟨rfl, rfl⟩
    go_wp2_with fail
    go_ret2
    exact ⟨by rw [HR.out.1, HR.out.2]; rfl, B⟩
  cases h2 : okT t
  · have e1 : gwB kn lo hi h n d x s g M m o t y = false := by unfold gwB gwG; rw [h2]; simp
    have HR : Hid (gwB kn lo hi h n d x s g M m o t y = false ∧ gwI kn lo hi h n d x s g M m o t y = 0) := ⟨e1, gw_no e1⟩
    rw [h1] at C1
    rw [h2] at C2
    clear e1 h1 h2
    go_wp2_with fail
    refine (C1 _).mono ?_
    rintro e w' ⟨rfl, rfl⟩
    go_wp2_with fail
    refine (C2 _).mono ?_
    rintro e w' ⟨rfl, rfl⟩
    go_wp2_with fail
    go_ret2
    exact ⟨by rw [HR.out.1, HR.out.2]; rfl, B⟩
  have HG : Hid (gwG t y = true) := by unfold Hid gwG; rw [h1, h2]; rfl
  have hy := of_decide_eq_true h1
  have ht := okT_t h2
  rw [h1] at C1
  rw [h2] at C2
  clear h1 h2
  go_wp2_with fail
  refine (C1 _).mono ?_
  rintro e w' ⟨rfl, rfl⟩
  go_wp2_with fail
  refine (C2 _).mono ?_
  rintro e w' ⟨rfl, rfl⟩
  clear C1 C2
  go_wp2_with fail
  go_loopw [16] (fun i wr => ∃ (j : Nat), j ≤ y.toNat + 1 ∧ i = .int .i64 (j : Int) ∧ fnd (gwP kn lo hi h n d x s g M m o t) j = j ∧ BoxL wr w.heap.size kn lo hi h ∧ Bx2 wr jd (.int .i64 n) (.int .i64 d) ∧ Tx3 wr jn (.int .i64 s) (.int .i64 g) (.slice a m c) ∧ Below w.heap.size w wr) (fun i _ => y.toNat + 1 - (intOf i).toNat)
  case atStart => exact ⟨0, Nat.zero_le _, rfl, rfl, L, D, N, B⟩
  case round =>
    clear L D N B
    obtain ⟨j, hj2, rfl, hf, L, D, N, B⟩ := hrel
    by_cases hlt : (j : Int) ≤ y
    · have HLT : Hid (j + 1 ≤ y.toNat + 1) := by unfold Hid; omega
      have hw : IntKind.i64.wrap (t + (j : Int)) = t + (j : Int) := Go.IntWalk.i64_in _ ⟨by omega, by omega⟩
      have CC := fun w' => specCarryOn_any kn lo hi h n d (t + (j : Int)) w'
      have CA := fun w' hh => specGateAsk_any true (crL kn lo hi h n d (t + (j : Int))) (crH kn lo hi h n d (t + (j : Int))) n d x s g a m c M o w' hm hh
      have HP : Hid ((gwP kn lo hi h n d x s g M m o t) j = ((crC kn lo hi h n d (t + (j : Int)) == 0) && (gaC true (crL kn lo hi h n d (t + (j : Int))) (crH kn lo hi h n d (t + (j : Int))) n d x s g M m o == 0))) := rfl
      have HY : Hid ((gwP kn lo hi h n d x s g M m o t) j = true → gwB kn lo hi h n d x s g M m o t y = true ∧ gwI kn lo hi h n d x s g M m o t y = (j : Int)) := fun hp => gw_at HG.out hf hp hlt
      have HN : Hid ((gwP kn lo hi h n d x s g M m o t) j = false → fnd (gwP kn lo hi h n d x s g M m o t) (j + 1) = j + 1) := fun hp => fnd_miss hf hp
      clear hj2 hf HG
      generalize gaI true (crL kn lo hi h n d (t + (j : Int))) (crH kn lo hi h n d (t + (j : Int))) n d x s g M m o = GI at *
      generalize gaK true (crL kn lo hi h n d (t + (j : Int))) (crH kn lo hi h n d (t + (j : Int))) n d x s g M m o = GK at *
      generalize gaC true (crL kn lo hi h n d (t + (j : Int))) (crH kn lo hi h n d (t + (j : Int))) n d x s g M m o = GC at *
      generalize crL kn lo hi h n d (t + (j : Int)) = X at *
      generalize crH kn lo hi h n d (t + (j : Int)) = Y at *
      generalize crC kn lo hi h n d (t + (j : Int)) = Q at *
      obtain ⟨l0, l1, l2, l3, l4, l5, l6, l7, l8⟩ := id L
      obtain ⟨d0, d1, d2, d3, d4⟩ := id D
      go_wp2_with fail
      refine (CC _).mono ?_
      rintro e v2 ⟨rfl, hb⟩
      clear l0 l1 l2 l3 l4 l5 l6 l7 l8
      clear d0 d1 d2 d3 d4
      replace L := L.below hb; replace D := D.below hb; replace N := N.below hb; replace B := B.trans (hb.mono B.size); clear hb
      have hb := Below.nw v2 (.cells #[.int .i64 X, .int .i64 Y] 25)
      have Z := Bx2.new v2 (.int .i64 X) (.int .i64 Y) 25
      go_upto_region 7 with fail
      replace L := L.below hb; replace D := D.below hb; replace N := N.below hb; replace B := B.trans (hb.mono B.size); clear hb
      generalize v2.alloc (.cells #[.int .i64 X, .int .i64 Y] 25) = v3 at *
      generalize v2.heap.size = jz at *
      clear CC
      by_cases q1 : Q = 0
      · subst q1
        obtain ⟨d0, d1, d2, d3, d4⟩ := id D
        obtain ⟨n0, n1, n2, n3, n4, n5, n6⟩ := id N
        obtain ⟨z0, z1, z2, z3, z4⟩ := id Z
        go_wp2_with fail
        refine (CA _ (HS.out.below B)).mono ?_
        rintro e v4 ⟨rfl, hb⟩
        clear d0 d1 d2 d3 d4
        clear n0 n1 n2 n3 n4 n5 n6
        clear z0 z1 z2 z3 z4
        replace L := L.below hb; replace D := D.below hb; replace N := N.below hb; replace B := B.trans (hb.mono B.size); clear hb
        clear CA Z
        by_cases q2 : GC = 0
        · subst q2
          have HR : Hid (gwB kn lo hi h n d x s g M m o t y = true ∧ gwI kn lo hi h n d x s g M m o t y = (j : Int)) := HY.out (by rw [HP.out]; rfl)
          clear HY HN HP
          go_wp2_with fail
          go_ret2
          exact ⟨by rw [HR.out.1, HR.out.2]; rfl, B⟩
        · have HR : Hid (fnd (gwP kn lo hi h n d x s g M m o t) (j + 1) = j + 1) := HN.out (by rw [HP.out]; simp [q2])
          clear HY HN HP
          go_wp2_with fail
          go_roundw
          case rel => exact ⟨j + 1, HLT.out, by go_num, HR.out, L, D, N, B⟩
          case measure => have hlt' := HLT.out; simp [intOf]; omega
      · have HR : Hid (fnd (gwP kn lo hi h n d x s g M m o t) (j + 1) = j + 1) := HN.out (by rw [HP.out]; simp [q1])
        clear HY HN HP CA Z
        go_wp2_with fail
        go_roundw
        case rel => exact ⟨j + 1, HLT.out, by go_num, HR.out, L, D, N, B⟩
        case measure => have hlt' := HLT.out; simp [intOf]; omega
    · have e1 := gw_end hf hy.1 hj2 hlt
      have HR : Hid (gwB kn lo hi h n d x s g M m o t y = false ∧ gwI kn lo hi h n d x s g M m o t y = 0) := ⟨e1, gw_no e1⟩
      clear e1 hf hj2
      go_wp2_with fail
      go_ret2
      exact ⟨by rw [HR.out.1, HR.out.2]; rfl, B⟩
end Go.Proofs.YtcakhfobkbgfoaaDoor
namespace Go.Proofs.YtcakhfobkbgfoaaDoor
open Go.RowKit
set_option linter.unusedVariables false
/- The program's slots and plans: which are right; how long a round is; which round a time lies in. -/
set_option maxHeartbeats 2000000 in
theorem slotOk_any (o l : Int) (w : World) :
    Calls Tryd.prog 109 #[.agg #[.int .i64 o, .int .i64 l]] w fun e w' => e = .returned (.bool (slB o l)) ∧ Below w.heap.size w w' := by
  have B := Below.nw w (.cells #[.int .i64 o, .int .i64 l] 42)
  have C1 := fun w' => isNode_any o w'
  cases h1 : nodB o
  · have e0 : slB o l = false := by unfold slB; rw [h1]; rfl
    rw [e0]
    go_enter Tryd.func109, Tryd.ntmps109
    go_wp2_with fail
    refine (C1 _).mono ?_
    rintro e w' ⟨rfl, rfl⟩
    rw [h1]
    go_wp2_with fail
    go_ret
    exact ⟨rfl, B⟩
  · have e0 : slB o l = lnB l := by unfold slB; rw [h1]; rfl
    rw [e0]
    clear e0
    by_cases ha : 1 ≤ l
    · by_cases hb : l ≤ 1000000
      · have e0 : lnB l = true := decide_eq_true ⟨ha, hb⟩
        rw [e0]
        clear e0
        go_enter Tryd.func109, Tryd.ntmps109
        go_wp2_with fail
        refine (C1 _).mono ?_
        rintro e w' ⟨rfl, rfl⟩
        rw [h1]
        go_wp2_with fail
        go_ret
        exact ⟨rfl, B⟩
      · have e0 : lnB l = false := decide_eq_false (by omega)
        rw [e0]
        clear e0
        go_enter Tryd.func109, Tryd.ntmps109
        go_wp2_with fail
        refine (C1 _).mono ?_
        rintro e w' ⟨rfl, rfl⟩
        rw [h1]
        go_wp2_with fail
        go_ret
        exact ⟨ret_bool (decide_eq_false (by omega)), B⟩
    · have e0 : lnB l = false := decide_eq_false (by omega)
      rw [e0]
      clear e0
      go_enter Tryd.func109, Tryd.ntmps109
      go_wp2_with fail
      refine (C1 _).mono ?_
      rintro e w' ⟨rfl, rfl⟩
      rw [h1]
      go_wp2_with fail
      go_ret
      exact ⟨rfl, B⟩
set_option maxRecDepth 100000 in
set_option maxHeartbeats 8000000 in
theorem planOk_any (s g : Int) (a : Option Addr) (n c : Nat) (M : Nat → SlT) (w : World) (hm : n ≤ maxLen) (hs : SrcC w a (n * 2) (MFSlot M)) :
    Calls Tryd.prog 88 #[.agg #[.int .i64 s, .int .i64 g, .slice a n c]] w fun e w' => e = .returned (.bool (plB s g M n)) ∧ Below w.heap.size w w' := by
  unfold maxLen at hm
  have B := Below.nw w (.cells #[.int .i64 s, .int .i64 g, .slice a n c] 30)
  have N := Tx3.new w (.int .i64 s) (.int .i64 g) (.slice a n c) 30
  have C1 := fun w' => isTime_any s w'
  cases h1 : okT s
  · have e0 : plB s g M n = false := by unfold plB; rw [h1]; rfl
    rw [e0]
    clear e0 hs
    go_enter Tryd.func88, Tryd.ntmps88; go_upto_region 1 with fail; generalize w.alloc (.cells #[.int .i64 s, .int .i64 g, .slice a n c] 30) = v at *; obtain ⟨n0, n1, n2, n3, n4, n5, n6⟩ := id N; go_wp2_with fail; refine (C1 _).mono ?_; rintro e w' ⟨rfl, rfl⟩; rw [h1]; go_wp2_with fail; go_ret; exact ⟨rfl, B⟩
  by_cases h2 : g < 0
  · have e0 : plB s g M n = false := by unfold plB; rw [h1, show gpB g = false from decide_eq_false (by omega)]; rfl
    rw [e0]
    clear e0 hs
    go_enter Tryd.func88, Tryd.ntmps88; go_upto_region 1 with fail; generalize w.alloc (.cells #[.int .i64 s, .int .i64 g, .slice a n c] 30) = v at *; obtain ⟨n0, n1, n2, n3, n4, n5, n6⟩ := id N; go_wp2_with fail; refine (C1 _).mono ?_; rintro e w' ⟨rfl, rfl⟩; rw [h1]; go_wp2_with fail; go_ret; exact ⟨rfl, B⟩
  by_cases h3 : 100000 < g
  · have e0 : plB s g M n = false := by unfold plB; rw [h1, show gpB g = false from decide_eq_false (by omega)]; rfl
    rw [e0]
    clear e0 hs
    go_enter Tryd.func88, Tryd.ntmps88; go_upto_region 1 with fail; generalize w.alloc (.cells #[.int .i64 s, .int .i64 g, .slice a n c] 30) = v at *; obtain ⟨n0, n1, n2, n3, n4, n5, n6⟩ := id N; go_wp2_with fail; refine (C1 _).mono ?_; rintro e w' ⟨rfl, rfl⟩; rw [h1]; go_wp2_with fail; go_ret; exact ⟨rfl, B⟩
  have e2 : gpB g = true := decide_eq_true (by omega)
  by_cases h4 : (n : Int) < 1
  · have e0 : plB s g M n = false := by unfold plB; rw [h1, e2, show cnB n = false from decide_eq_false (by omega)]; rfl
    rw [e0]
    clear e0 hs e2
    go_enter Tryd.func88, Tryd.ntmps88; go_upto_region 1 with fail; generalize w.alloc (.cells #[.int .i64 s, .int .i64 g, .slice a n c] 30) = v at *; obtain ⟨n0, n1, n2, n3, n4, n5, n6⟩ := id N; go_wp2_with fail; refine (C1 _).mono ?_; rintro e w' ⟨rfl, rfl⟩; rw [h1]; go_wp2_with fail; go_ret; exact ⟨rfl, B⟩
  by_cases h5 : 12 < (n : Int)
  · have e0 : plB s g M n = false := by unfold plB; rw [h1, e2, show cnB n = false from decide_eq_false (by omega)]; rfl
    rw [e0]
    clear e0 hs e2
    go_enter Tryd.func88, Tryd.ntmps88; go_upto_region 1 with fail; generalize w.alloc (.cells #[.int .i64 s, .int .i64 g, .slice a n c] 30) = v at *; obtain ⟨n0, n1, n2, n3, n4, n5, n6⟩ := id N; go_wp2_with fail; refine (C1 _).mono ?_; rintro e w' ⟨rfl, rfl⟩; rw [h1]; go_wp2_with fail; go_ret; exact ⟨rfl, B⟩
  have e0 : plB s g M n = slA M n := by unfold plB; rw [h1, e2, show cnB n = true from decide_eq_true (by omega)]; rfl
  rw [e0]
  clear e0 e2
  obtain ⟨b, off, rfl, hf⟩ : ∃ b off, a = some ⟨b, off, none⟩ ∧ Cs w b off (n * 2) (MFSlot M) := by
    rcases hs with q | q
    · exact absurd q (by omega)
    · exact q
  have HF : Hid (Cs w b off (n * 2) (MFSlot M)) := hf
  clear hf hs
  go_enter Tryd.func88, Tryd.ntmps88; go_upto_region 1 with fail; generalize w.alloc (.cells #[.int .i64 s, .int .i64 g, .slice (some ⟨b, off, none⟩) n c] 30) = v at *
  obtain ⟨n0, n1, n2, n3, n4, n5, n6⟩ := id N; go_wp2_with fail; refine (C1 _).mono ?_; rintro e w' ⟨rfl, rfl⟩; rw [h1]
  clear C1 h1
  go_wp2_with fail
  clear h2 h3 h4 h5 N
  clear n0 n1 n2 n3 n4 n5 n6
  go_loopw [34] (fun i wr => ∃ (k : Nat), k ≤ n ∧ i = .int .i64 k ∧ slA M k = true ∧ Below w.heap.size w wr) (fun i _ => n - (intOf i).toNat)
  case atStart => exact ⟨0, Nat.zero_le _, rfl, rfl, B⟩
  case round =>
    clear B
    obtain ⟨k, hk, rfl, hA, B⟩ := hrel
    by_cases hlt : k < n
    · obtain ⟨o, l, hM⟩ := tupSlot M k
      obtain ⟨c1, c2⟩ := (HF.out.below B HF.out.1).elSlot hlt hM
      have HA : Hid (slA M (k + 1) = slB o l) := by rw [Hid, slA, hA, hM]; rfl
      have HLT : Hid (k < n) := hlt
      have hli : (k : Int) < (n : Int) := by omega
      have C1 := fun w' => slotOk_any o l w'
      have A1 := Below.nw wr (.cells #[.int .i64 o, .int .i64 l] 42)
      replace B := B.trans (A1.mono B.size)
      clear hM hA HF A1
      go_wp2_with fail
      refine (C1 _).mono ?_
      rintro e v1 ⟨rfl, hb⟩
      replace B := B.trans (hb.mono B.size)
      clear hb
      cases h1 : slB o l
      · have HN : Hid (slA M (k + 1) = false) := by rw [Hid, HA.out, h1]
        clear HA
        go_wp2_with fail
        go_ret
        exact ⟨ret_bool (slA_no HN.out HLT.out).symm, B⟩
      · have HT : Hid (slA M (k + 1) = true) := by rw [Hid, HA.out, h1]
        clear HA
        go_wp2_with fail
        go_roundw
        case rel => exact ⟨k + 1, HLT.out, by go_num, HT.out, B⟩
        case measure => have hlt' := HLT.out; simp [intOf]; omega
    · have hkn : k = n := by omega
      subst hkn
      have hli : ¬ (k : Int) < (k : Int) := by omega
      go_wp2_with fail
      go_ret
      exact ⟨by first | rfl | exact ret_bool hA.symm, B⟩

/- How long a round is. -/
theorem upS_next {g : Int} {M : Nat → SlT} {j : Nat} {o l : Int} (h : M j = (o, l)) : upS g M (j + 1) = upS g M j + (l + g) := by rw [upS, h]; show upS g M j + l + g = _; omega
set_option maxRecDepth 100000 in
set_option maxHeartbeats 8000000 in
theorem planRound_any (s g : Int) (a : Option Addr) (n c : Nat) (M : Nat → SlT) (w : World) (hp : plB s g M n = true) (hs : SrcC w a (n * 2) (MFSlot M)) :
    Calls Tryd.prog 90 #[.agg #[.int .i64 s, .int .i64 g, .slice a n c]] w fun e w' => e = .returned (.int .i64 (upS g M n)) ∧ Below w.heap.size w w' := by
  obtain ⟨p1, p2, p3, p4⟩ := plB_t hp
  have B := Below.nw w (.cells #[.int .i64 s, .int .i64 g, .slice a n c] 30)
  have N := Tx3.new w (.int .i64 s) (.int .i64 g) (.slice a n c) 30
  obtain ⟨b, off, rfl, hf⟩ : ∃ b off, a = some ⟨b, off, none⟩ ∧ Cs w b off (n * 2) (MFSlot M) := by
    rcases hs with q | q
    · exact absurd q (by omega)
    · exact q
  have HF : Hid (Cs w b off (n * 2) (MFSlot M)) := hf
  have HP2 : Hid (0 ≤ g ∧ g ≤ 100000) := p2
  have HP4 : Hid (slA M n = true) := p4
  have hn : n ≤ 12 := p3.2
  clear hf hs hp p1 p2 p3 p4
  go_enter Tryd.func90, Tryd.ntmps90
  go_upto_region 1 with fail
  generalize w.alloc (.cells #[.int .i64 s, .int .i64 g, .slice (some ⟨b, off, none⟩) n c] 30) = v at *
  obtain ⟨n0, n1, n2, n3, n4, n5, n6⟩ := id N
  go_wp2_with fail
  clear n0 n1 n2 n3 n4 n5 n6
  go_loopw [3, 9] (fun s5 i wr => ∃ (j : Nat), j ≤ n ∧ i = .int .i64 j ∧ s5 = .int .i64 (upS g M j) ∧ Tx3 wr w.heap.size (.int .i64 s) (.int .i64 g) (.slice (some ⟨b, off, none⟩) n c) ∧ Below w.heap.size w wr) (fun _ i _ => n - (intOf i).toNat)
  case atStart => exact ⟨0, Nat.zero_le _, rfl, rfl, N, B⟩
  case round =>
    clear N B
    obtain ⟨j, hj, rfl, rfl, N, B⟩ := hrel
    by_cases hlt : j < n
    · obtain ⟨o, l, hM⟩ := tupSlot M j
      obtain ⟨c1, c2⟩ := (HF.out.below B HF.out.1).elSlot hlt hM
      have hb := upS_bd HP2.out HP4.out j (by omega)
      have hl := (slB_t (slA_at HP4.out hlt)).2
      have hg := HP2.out
      rw [hM] at hl
      have HU : Hid (upS g M (j + 1) = upS g M j + (l + g)) := upS_next hM
      have HLT : Hid (j < n) := hlt
      have hli : (j : Int) < (n : Int) := by omega
      have hw1 : IntKind.i64.wrap (l + g) = l + g := Go.IntWalk.i64_in _ ⟨by omega, by omega⟩
      have hw2 : IntKind.i64.wrap (upS g M j + (l + g)) = upS g M j + (l + g) := Go.IntWalk.i64_in _ ⟨by omega, by omega⟩
      clear hM hb hl hg
      generalize upS g M j = u at *
      have A1 := Below.nw wr (.cells #[.int .i64 o, .int .i64 l] 42)
      replace B := B.trans (A1.mono B.size)
      have N1 := N.below A1
      clear A1
      obtain ⟨n0, n1, n2, n3, n4, n5, n6⟩ := id N
      go_upto_region 5 with fail
      clear n0 n1 n2 n3 n4 n5 n6
      clear N
      obtain ⟨n0, n1, n2, n3, n4, n5, n6⟩ := id N1
      go_wp2_with fail
      go_roundw
      case rel => exact ⟨j + 1, HLT.out, by go_num, by rw [HU.out], N1, B⟩
      case measure => have hlt' := HLT.out; simp [intOf]; omega
    · have hkn : j = n := by omega
      subst hkn
      have hli : ¬ (j : Int) < (j : Int) := by omega
      go_wp2_with fail
      go_ret
      exact ⟨rfl, B⟩
/- Which round a time lies in. -/
def raI (s g : Int) (M : Nat → SlT) (n : Nat) (t : Int) : Int := (imx 0 (t - s)).tdiv (upS g M n)
set_option maxRecDepth 100000 in
set_option maxHeartbeats 4000000 in
theorem roundAt_any (s g : Int) (a : Option Addr) (n c : Nat) (M : Nat → SlT) (t : Int) (w : World) (hp : plB s g M n = true) (ht : 0 ≤ t ∧ t ≤ 1000000000000) (hs : SrcC w a (n * 2) (MFSlot M)) :
    Calls Tryd.prog 56 #[.agg #[.int .i64 s, .int .i64 g, .slice a n c], .int .i64 t] w fun e w' => e = .returned (.int .i64 (raI s g M n t)) ∧ Below w.heap.size w w' := by
  obtain ⟨p1, p2, p3, p4⟩ := plB_t hp
  have hr := rn_bd hp
  have B := Below.nw w (.cells #[.int .i64 s, .int .i64 g, .slice a n c] 30)
  have N := Tx3.new w (.int .i64 s) (.int .i64 g) (.slice a n c) 30
  have HS : Hid (SrcC w a (n * 2) (MFSlot M)) := hs
  have C2 := fun w' h => planRound_any s g a n c M w' hp h
  have hw1 : IntKind.i64.wrap (t - s) = t - s := Go.IntWalk.i64_in _ ⟨by omega, by omega⟩
  have hx : 0 ≤ imx 0 (t - s) ∧ imx 0 (t - s) ≤ 1000000000000 := by unfold imx; split <;> omega
  have C1 := fun w' => ranked_any 0 (t - s) w'
  have hq : 0 ≤ (imx 0 (t - s)).tdiv (upS g M n) ∧ (imx 0 (t - s)).tdiv (upS g M n) ≤ 1000000000000 := by
    rw [Int.tdiv_eq_ediv_of_nonneg hx.1]
    exact ⟨Int.ediv_nonneg hx.1 (by omega), Int.le_trans (Int.ediv_le_self _ hx.1) hx.2⟩
  have hw2 : IntKind.i64.wrap ((imx 0 (t - s)).tdiv (upS g M n)) = (imx 0 (t - s)).tdiv (upS g M n) := Go.IntWalk.i64_in _ ⟨by omega, by omega⟩
  have hr0 : upS g M n ≠ 0 := by omega
  have E0 : Hid (raI s g M n t = (imx 0 (t - s)).tdiv (upS g M n)) := rfl
  clear hs hp p1 p2 p3 p4 hr hx hq ht
  generalize raI s g M n t = rr at *
  generalize upS g M n = u at *
  generalize imx 0 (t - s) = x at *
  generalize imn 0 (t - s) = y at *
  go_enter Tryd.func56, Tryd.ntmps56
  go_upto_region 1 with fail
  generalize w.alloc (.cells #[.int .i64 s, .int .i64 g, .slice a n c] 30) = v at *
  obtain ⟨n0, n1, n2, n3, n4, n5, n6⟩ := id N
  go_wp2_with fail
  refine (C1 _).mono ?_
  rintro e w' ⟨rfl, rfl⟩
  go_wp2_with fail
  refine (C2 _ (HS.out.below B)).mono ?_
  rintro e v1 ⟨rfl, hb⟩
  clear n0 n1 n2 n3 n4 n5 n6
  replace B := B.trans (hb.mono B.size)
  clear hb
  go_wp2_with fail
  go_ret
  exact ⟨by rw [E0.out]; rfl, B⟩
/- Whether a plan has a slot; PlanOk, RoundOf. -/
set_option maxHeartbeats 4000000 in
theorem planHas_any (s g : Int) (a : Option Addr) (n c : Nat) (M : Nat → SlT) (i : Int) (w : World) (hm : n ≤ maxLen) (hs : SrcC w a (n * 2) (MFSlot M)) :
    Calls Tryd.prog 55 #[.agg #[.int .i64 s, .int .i64 g, .slice a n c], .int .i64 i] w fun e w' => e = .returned (.bool (sfB s g M n i)) ∧ Below w.heap.size w w' := by
  have B := Below.nw w (.cells #[.int .i64 s, .int .i64 g, .slice a n c] 30)
  have N := Tx3.new w (.int .i64 s) (.int .i64 g) (.slice a n c) 30
  have HS : Hid (SrcC w a (n * 2) (MFSlot M)) := hs
  clear hs
  have C1 := fun w' h => planOk_any s g a n c M w' hm h
  unfold sfB
  cases h1 : plB s g M n
  · rw [h1] at C1
    go_enter Tryd.func55, Tryd.ntmps55
    go_upto_region 1 with fail
    generalize w.alloc (.cells #[.int .i64 s, .int .i64 g, .slice a n c] 30) = v at *
    obtain ⟨n0, n1, n2, n3, n4, n5, n6⟩ := id N
    go_wp2_with fail
    refine (C1 _ (HS.out.below B)).mono ?_
    rintro e v1 ⟨rfl, hb⟩
    clear n0 n1 n2 n3 n4 n5 n6
    replace B := B.trans (hb.mono B.size)
    clear hb
    go_wp2_with fail
    go_ret
    exact ⟨rfl, B⟩
  · rw [h1] at C1
    by_cases h2 : 0 ≤ i
    · have e0 : ixB n i = decide (i < (n : Int)) := by unfold ixB; by_cases h3 : i < (n : Int) <;> simp [h3] <;> omega
      rw [e0]
      go_enter Tryd.func55, Tryd.ntmps55
      go_upto_region 1 with fail
      generalize w.alloc (.cells #[.int .i64 s, .int .i64 g, .slice a n c] 30) = v at *
      obtain ⟨n0, n1, n2, n3, n4, n5, n6⟩ := id N
      go_wp2_with fail
      refine (C1 _ (HS.out.below B)).mono ?_
      rintro e v1 ⟨rfl, hb⟩
      clear n0 n1 n2 n3 n4 n5 n6
      replace B := B.trans (hb.mono B.size)
      replace N := N.below hb
      clear hb
      obtain ⟨n0, n1, n2, n3, n4, n5, n6⟩ := id N
      go_wp2_with fail
      go_ret
      exact ⟨by first | rfl | simp, B⟩
    · have e0 : ixB n i = false := decide_eq_false (by omega)
      rw [e0]
      go_enter Tryd.func55, Tryd.ntmps55
      go_upto_region 1 with fail
      generalize w.alloc (.cells #[.int .i64 s, .int .i64 g, .slice a n c] 30) = v at *
      obtain ⟨n0, n1, n2, n3, n4, n5, n6⟩ := id N
      go_wp2_with fail
      refine (C1 _ (HS.out.below B)).mono ?_
      rintro e v1 ⟨rfl, hb⟩
      clear n0 n1 n2 n3 n4 n5 n6
      replace B := B.trans (hb.mono B.size)
      clear hb
      go_wp2_with fail
      go_ret
      exact ⟨by first | rfl | simp, B⟩
end Go.Proofs.YtcakhfobkbgfoaaDoor
namespace Go.Proofs.YtcakhfobkbgfoaaDoor
open Go.RowKit
set_option linter.unusedVariables false
/- Rounds: two rows of memory, one of occurrences, one of rounds that are cut out of it. -/
theorem run_append_at {P : Program} (w : World) (t ty e : TypeId) (i : TypeInfo) (ht : P.underlying t = some (.slice e)) (hi : P.info? e = some i)
    (g off sLen sCap : Nat) (cur : Array Value) (hg : w.heap[g]? = some (.cells cur e (0, 0)))
    (a : Addr) (m c : Nat) (news : List Value) (hl : news.length = m * i.size) (hnews : ∀ j u, news[j]? = some u → w.cell? (a.add j) = some u) (h1 : ∀ u ∈ news, u.oneCell' = true)
    (hroom : sLen + m ≤ sCap) (hfit : off + sLen * i.size + news.length ≤ cur.size) :
    (Builtin.append_ #[t, t] ty #[.slice (some ⟨g, off, none⟩) sLen sCap, .slice (some a) m c]).run P w =
      .ok (.slice (some ⟨g, off, none⟩) (sLen + m) sCap) (w.setRow g (cur.toList.take (off + sLen * i.size) ++ news ++ cur.toList.drop (off + sLen * i.size + news.length)).toArray) := by
  have hf := run_firstCells_some (P := P) w i.size m a m c news hl hnews
  have hst := run_storeCells_at P g (off + sLen * i.size) e news 0 cur w hg (by simpa using hfit) h1
  simp only [Nat.add_zero] at hst
  have had : (⟨g, off, none⟩ : Addr).add (sLen * i.size) = ⟨g, off + sLen * i.size, none⟩ := by
    unfold Addr.add
    split
    · rename_i h0; rw [h0]; rfl
    · rfl
  simp only [List.append_assoc] at hst
  simp [Builtin.append_, run_underlying ht, sizeOf, typeInfo, hi, Builtin.lenOf, hroom, hf, had, hst]
theorem RowF.splice {w : World} {b T N mm : Nat} {F : Nat → Value} {cur : Array Value} {p q : Value} (hb : w.heap[b]? = some (.cells cur T (0, 0))) (hN : cur.size = N) (hc : ∀ j, j < mm → cur[j]? = some (F j)) (h2 : mm + 2 ≤ N) (hp : F mm = p) (hq : F (mm + 1) = q) :
    RowF (w.setRow b (cur.toList.take mm ++ [p, q] ++ cur.toList.drop (mm + 2)).toArray) b T N (mm + 2) F := by
  have hl : (cur.toList.take mm ++ [p, q] ++ cur.toList.drop (mm + 2)).length = N := by simp; omega
  refine ⟨fun j => (cur.toList.take mm ++ [p, q] ++ cur.toList.drop (mm + 2)).getD j undef, ⟨_, setRow_heap w b cur _ T (0, 0) hb, by simpa using hl, fun j hj => ?_⟩, fun j hj => ?_⟩
  · have hj' : j < (cur.toList.take mm ++ [p, q] ++ cur.toList.drop (mm + 2)).length := by omega
    rw [List.getElem?_toArray]
    show _ = some (List.getD _ j undef)
    rw [List.getD_eq_getElem?_getD, List.getElem?_eq_getElem hj']
    rfl
  · show (cur.toList.take mm ++ [p, q] ++ cur.toList.drop (mm + 2)).getD j undef = F j
    rw [List.getD_eq_getElem?_getD]
    have hlt : (cur.toList.take mm).length = mm := by simp; omega
    by_cases e : j < mm
    · have hcj := hc j e
      rw [List.append_assoc, List.getElem?_append_left (by omega), List.getElem?_take, if_pos e]
      rw [← Array.getElem?_toList] at hcj
      rw [hcj]
      rfl
    · by_cases e2 : j = mm
      · subst e2
        rw [List.append_assoc, List.getElem?_append_right (by omega), hlt, Nat.sub_self]
        exact hp.symm
      · obtain rfl : j = mm + 1 := by omega
        rw [List.append_assoc, List.getElem?_append_right (by omega), hlt, show mm + 1 - mm = 1 by omega]
        exact hq.symm
theorem ival_at2 (w : World) (p q : Int) (T : TypeId) : ∀ j u, [.int .i64 p, .int .i64 q][j]? = some u → (w.alloc (.cells #[.int .i64 p, .int .i64 q] T)).cell? ((⟨w.heap.size, 0, none⟩ : Addr).add j) = some u := by
  intro j u h
  match j, h with
  | 0, h => simp at h; subst h; simp [Addr.add]
  | 1, h => simp at h; subst h; simp [Addr.add]
theorem infoV13 : ∃ i, Tryd.prog.info? 25 = some i ∧ i.zero = some (.agg #[.int .i64 0, .int .i64 0]) ∧ i.size = 2 ∧ i.bytes = 16 := by
  have h : (Tryd.prog.info? 25).map (fun i => (i.zero, i.size, i.bytes)) = some (some (.agg #[.int .i64 0, .int .i64 0]), 2, 16) := by kernel_rfl
  obtain ⟨i, hi, hz⟩ := Option.map_eq_some_iff.1 h
  simp only [Prod.mk.injEq] at hz
  exact ⟨i, hi, hz.1, hz.2.1, hz.2.2⟩
theorem infoS13 : ∃ i, Tryd.prog.info? 102 = some i ∧ i.zero = some (.slice none 0 0) ∧ i.size = 1 ∧ i.bytes = 24 := by
  have h : (Tryd.prog.info? 102).map (fun i => (i.zero, i.size, i.bytes)) = some (some (.slice none 0 0), 1, 24) := by kernel_rfl
  obtain ⟨i, hi, hz⟩ := Option.map_eq_some_iff.1 h
  simp only [Prod.mk.injEq] at hz
  exact ⟨i, hi, hz.1, hz.2.1, hz.2.2⟩
/- One more occurrence behind those that stand in a round. -/
theorem put_at {w : World} {ops : Array Oper} {rest : List Oper} {o : Oper} {a : Act} {Q : Exit → Act → World → Prop} {p q : Int} (hgd : o.guard = none) (s x : Operand)
    (ho : o.op = .call { callee := .builtin .append, args := #[s, x], argTypes := #[102, 102] }) (b off i n N mm : Nat) (F : Nat → Value) (hs : a.eval s = .slice (some ⟨b, off, none⟩) i n)
    (hx : a.eval x = .slice (some ⟨w.heap.size, 0, none⟩) 1 1) (hR : RowF w b 25 N mm F) (hmm : off + i * 2 = mm) (hN : mm + 2 ≤ N) (hin : i + 1 ≤ n) (hp : F mm = .int .i64 p) (hq : F (mm + 1) = .int .i64 q)
    (h : ∀ w', RowF w' b 25 N (mm + 2) F → But b w w' → wpList Tryd.prog ops Q rest (a.put o.dst (.slice (some ⟨b, off, none⟩) (i + 1) n)) w') :
    wpList Tryd.prog ops Q (o :: rest) a (w.alloc (.cells #[.int .i64 p, .int .i64 q] 25)) := by
  obtain ⟨i0, hi, hz0, hz1, hz2⟩ := infoV13
  have hlt := hR.lt
  obtain ⟨f, ⟨cur, hb, hsz, hc⟩, hF⟩ := hR
  have hb1 : (w.alloc (.cells #[.int .i64 p, .int .i64 q] 25)).heap[b]? = some (.cells cur 25 (0, 0)) := by
    rw [← hb]; exact (World.grownBy_alloc w _ none).block b hlt (by simp)
  have hr := run_append_at (P := Tryd.prog) (w.alloc (.cells #[.int .i64 p, .int .i64 q] 25)) 102 o.type 25 i0 Tryd.underlying102 hi b off i n cur hb1 ⟨w.heap.size, 0, none⟩ 1 1 [.int .i64 p, .int .i64 q] (by rw [hz1]; rfl) (ival_at2 w p q 25) (by intro u hu; simp at hu; rcases hu with rfl | rfl <;> rfl) hin (by rw [hz1, hmm, hsz]; simpa using hN)
  rw [hz1, hmm] at hr
  have hK := h _ (RowF.splice (p := .int .i64 p) (q := .int .i64 q) hb1 hsz (fun j hj => by rw [hc j (by omega), hF j hj]) hN hp hq) ?_
  · refine wpList_plain hgd fun _ hK' => ?_
    unfold Oper.wp execOp
    simp only [ho, resolve, invoke, builtin, Sem.run_bind, Sem.run_pure, Result.andThen_ok, List.map_toArray, List.map_cons, List.map_nil, hs, hx, hr]
    exact hK' _ _ hK
  · refine ⟨rfl, rfl, rfl, by simp, fun k hk hne => ?_⟩
    rw [setRow_other _ _ _ _ hne]
    exact (World.grownBy_alloc w _ none).block k hk (by simp)
/- What stands in the rows: when the slots of a round begin and end. -/
def rAt (s g : Int) (M : Nat → SlT) (n : Nat) (k : Int) (j : Nat) : Int := s + (k + (j : Int)) * upS g M n
def rLo (s g : Int) (M : Nat → SlT) (n : Nat) (k : Int) (q : Nat) : Int := rAt s g M n k (q / n) + upS g M (q % n)
def RF (s g : Int) (M : Nat → SlT) (n : Nat) (k : Int) (q : Nat) : Value := match q % 2 with | 0 => .int .i64 (rLo s g M n k (q / 2)) | _ => .int .i64 (rLo s g M n k (q / 2) + (M (q / 2 % n)).2)
def RG (b n : Nat) (j : Nat) : Value := .slice (some ⟨b, j * n * 2, none⟩) n n
theorem rAt_next (s g : Int) (M : Nat → SlT) (n : Nat) (k : Int) (j : Nat) : rAt s g M n k j + upS g M n = rAt s g M n k (j + 1) := by
  unfold rAt
  have : (k + ((j + 1 : Nat) : Int)) * upS g M n = (k + (j : Int)) * upS g M n + upS g M n := by
    rw [show k + ((j + 1 : Nat) : Int) = (k + (j : Int)) + 1 by omega, Int.add_mul, Int.one_mul]
  rw [this]
  omega
theorem RF_at (s g : Int) (M : Nat → SlT) (n : Nat) (k : Int) {i j : Nat} (hi : i < n) : RF s g M n k ((j * n + i) * 2) = .int .i64 (rAt s g M n k j + upS g M i) ∧ RF s g M n k ((j * n + i) * 2 + 1) = .int .i64 (rAt s g M n k j + upS g M i + (M i).2) := by
  have h1 : (j * n + i) / n = j := by
    rw [Nat.add_comm, Nat.add_mul_div_right _ _ (by omega), Nat.div_eq_of_lt hi, Nat.zero_add]
  have h2 : (j * n + i) % n = i := by
    rw [Nat.add_comm, Nat.add_mul_mod_self_right, Nat.mod_eq_of_lt hi]
  have h3 : (j * n + i) * 2 % 2 = 0 := by omega
  have h4 : (j * n + i) * 2 / 2 = j * n + i := by omega
  have h5 : ((j * n + i) * 2 + 1) % 2 = 1 := by omega
  have h6 : ((j * n + i) * 2 + 1) / 2 = j * n + i := by omega
  unfold RF rLo
  rw [h3, h4, h5, h6, h1, h2]
  exact ⟨rfl, rfl⟩
/- Where a round may begin: bounds. -/
def kOk (s g : Int) (M : Nat → SlT) (n : Nat) (k : Int) : Prop := 0 ≤ k ∧ k ≤ 1000000000000 ∧ 0 ≤ k * upS g M n ∧ k * upS g M n ≤ 1000000000000
theorem rAt_bd {s g : Int} {M : Nat → SlT} {n : Nat} {k : Int} {j : Nat} (hp : plB s g M n = true) (hk : kOk s g M n k) (hj : j ≤ 2) : 0 ≤ rAt s g M n k j ∧ rAt s g M n k j ≤ 2000026400000 := by
  obtain ⟨p1, p2, p3, p4⟩ := plB_t hp
  have hr := rn_bd hp
  obtain ⟨k1, k2, k3, k4⟩ := hk
  unfold rAt
  rw [Int.add_mul]
  have : 0 ≤ (j : Int) * upS g M n ∧ (j : Int) * upS g M n ≤ 2 * upS g M n := ⟨Int.mul_nonneg (by omega) (by omega), Int.mul_le_mul_of_nonneg_right (by omega) (by omega)⟩
  omega
def Rd (w : World) (b1 b2 m n : Nat) (F : Nat → Value) : Prop := Cs w b2 0 m (RG b1 n) ∧ Cs w b1 0 (m * n * 2) F
end Go.Proofs.YtcakhfobkbgfoaaDoor
namespace Go.Proofs.YtcakhfobkbgfoaaDoor
open Go.RowKit
set_option linter.unusedVariables false
theorem below_none {v w1 : World} (G : v.grownBy w1 none) : Below v.heap.size v w1 := ⟨G.os, G.tape, G.output, G.size, fun k hk => G.block k hk (by simp)⟩
/- Rounds of a plan, from one on. -/
set_option maxRecDepth 100000 in
set_option maxHeartbeats 8000000 in
theorem rounds_any (s g : Int) (a : Option Addr) (n c : Nat) (M : Nat → SlT) (k : Int) (m : Nat) (w : World) (hp : plB s g M n = true) (hk : kOk s g M n k) (h1m : 1 ≤ m) (h2m : m ≤ 2) (hs : SrcC w a (n * 2) (MFSlot M)) :
    Calls Tryd.prog 57 #[.agg #[.int .i64 s, .int .i64 g, .slice a n c], .int .i64 k, .int .i64 (m : Int)] w fun e w' => ∃ b1 b2, w.heap.size ≤ b1 ∧ w.heap.size ≤ b2 ∧ e = .returned (.slice (some ⟨b2, 0, none⟩) m m) ∧ Rd w' b1 b2 m n (RF s g M n k) ∧ Below w.heap.size w w' := by
  obtain ⟨p1, p2, p3, p4⟩ := plB_t hp
  obtain ⟨i1, hi1, hz11, hz12, hz13⟩ := infoV13
  obtain ⟨i2, hi2, hz21, hz22, hz23⟩ := infoS13
  have B := Below.nw w (.cells #[.int .i64 s, .int .i64 g, .slice a n c] 30)
  have N := Tx3.new w (.int .i64 s) (.int .i64 g) (.slice a n c) 30
  have hv0 : w.heap.size < (w.alloc (.cells #[.int .i64 s, .int .i64 g, .slice a n c] 30)).heap.size := N.1
  obtain ⟨b, off, rfl, hf⟩ : ∃ b off, a = some ⟨b, off, none⟩ ∧ Cs w b off (n * 2) (MFSlot M) := by
    rcases hs with q | q
    · exact absurd q (by omega)
    · exact q
  have HF : Hid (Cs w b off (n * 2) (MFSlot M)) := hf
  have hmn : m * n ≤ 24 := Nat.mul_le_mul h2m p3.2
  have hcn : (m : Int) * (n : Int) = ((m * n : Nat) : Int) := by simp
  have hwm : IntKind.i64.wrap ((m : Int) * (n : Int)) = ((m * n : Nat) : Int) := by rw [hcn]; exact Go.IntWalk.i64_in _ ⟨by omega, by omega⟩
  have CR := fun w' h => planRound_any s g (some ⟨b, off, none⟩) n c M w' hp h
  have hr := rn_bd hp
  obtain ⟨k1, k2, k3, k4⟩ := id hk
  have hw1 : IntKind.i64.wrap (k * upS g M n) = k * upS g M n := Go.IntWalk.i64_in _ ⟨by omega, by omega⟩
  have hx1 : wrap64 (k * upS g M n) = k * upS g M n := Go.IntWalk.wrap64_in _ ⟨by omega, by omega⟩
  have hA0 : rAt s g M n k 0 = s + k * upS g M n := by unfold rAt; simp
  have hw2 : IntKind.i64.wrap (s + k * upS g M n) = rAt s g M n k 0 := by rw [hA0]; exact Go.IntWalk.i64_in _ ⟨by omega, by omega⟩
  have hx2 : wrap64 (s + k * upS g M n) = rAt s g M n k 0 := by rw [hA0]; exact Go.IntWalk.wrap64_in _ ⟨by omega, by omega⟩
  have HP : Hid (plB s g M n = true) := hp
  have HP2 : Hid (0 ≤ g ∧ g ≤ 100000) := p2
  have HP4 : Hid (slA M n = true) := p4
  have HK : Hid (kOk s g M n k) := hk
  have hn1 : 1 ≤ n := p3.1
  have hn2 : n ≤ 12 := p3.2
  clear hf hs hp p1 p2 p3 p4 k1 k2 k3 k4 hk hA0 hr hcn
  go_enter Tryd.func57, Tryd.ntmps57
  go_upto_region 1 with fail
  generalize w.alloc (.cells #[.int .i64 s, .int .i64 g, .slice (some ⟨b, off, none⟩) n c] 30) = v at *
  obtain ⟨n0, n1, n2, n3, n4, n5, n6⟩ := id N
  go_upto_region 3 with (at_make; refine wpList_make_full _ rfl _ _ 102 rfl v.heap.size 25 i1 (.agg #[.int .i64 0, .int .i64 0]) 2 Tryd.underlying102 hi1 hz11 hz12 .i64 .i64 _ _ (m * n) rfl rfl (by first | rfl | exact hwm) (by first | rfl | exact hwm) (by rw [hz13]; omega) (by unfold maxLen; omega) (Nat.le_refl _) ?_; intro w1 O1 G1)
  clear n0 n1 n2 n3 n4 n5 n6
  obtain ⟨-, -, -, R1⟩ := ownF_row (RF s g M n k) O1
  have E1 := below_none G1
  replace B := B.trans (E1.mono B.size)
  replace N := N.below E1
  have hb1 := R1.lt
  generalize v.heap.size = b1 at *
  clear O1 G1 E1
  obtain ⟨n0, n1, n2, n3, n4, n5, n6⟩ := id N
  go_upto_region 4 with (at_make; refine wpList_make_full _ rfl _ _ 103 rfl w1.heap.size 102 i2 (.slice none 0 0) 1 Tryd.underlying103 hi2 hz21 hz22 .i64 .i64 _ _ m rfl rfl rfl rfl (by rw [hz23]; omega) (by unfold maxLen; omega) (Nat.le_refl _) ?_; intro v3 O2 G2)
  clear n0 n1 n2 n3 n4 n5 n6
  obtain ⟨-, -, -, R2⟩ := ownF_row (RG b1 n) O2
  have E1 := below_none G2
  replace B := B.trans (E1.mono B.size)
  replace N := N.below E1
  replace R1 := R1.below' E1
  have hb2 := R2.lt
  generalize w1.heap.size = b2 at *
  rw [Nat.mul_one] at R2
  clear O2 G2 E1 hi1 hz11 hz12 hz13 hi2 hz21 hz22 hz23
  have SK : Hid (∀ w', Below v3.heap.size v3 w' → ((fun w' => w'.cell? ⟨w.heap.size, 0, none⟩ = some (.int .i64 s) ∧ w'.cell? ⟨w.heap.size, 1, none⟩ = some (.int .i64 g) ∧ w'.cell? ⟨w.heap.size, 2, none⟩ = some (.slice (some ⟨b, off, none⟩) n c))) w') := fun w' hw => ⟨(N.below hw).2.1, (N.below hw).2.2.1, (N.below hw).2.2.2.1⟩
  go_upto_region 4 with fail
  refine wp_region_held_drew (S := (fun w' => w'.cell? ⟨w.heap.size, 0, none⟩ = some (.int .i64 s) ∧ w'.cell? ⟨w.heap.size, 1, none⟩ = some (.int .i64 g) ∧ w'.cell? ⟨w.heap.size, 2, none⟩ = some (.slice (some ⟨b, off, none⟩) n c))) (by kernel_rfl) ?_ (fun hHeld => ?_)
  · first | exact SK.out _ XB | exact SK.out _ (Below.drew (Below.refl _ _))
  have XB : Below v3.heap.size v3 v3.drew := Below.drew (Below.refl _ _)
  generalize v3.drew = vx at *
  refine wpAnyH_take (i := 0) (v := ?_) (by rw [List.getElem?_toArray]; rfl) (by kernel_rfl) (by kernel_rfl) (by kernel_rfl) (by intro _ _ _ h; exact h) (Or.inl ⟨by rfl, ?_⟩) (by assumption) ?_
  rotate_left
  · (intro w hSw; (try dsimp only at hSw); go_simp; all_goals with_reducible rfl)
  (try simp only [Act.put, List.setIfInBounds_toArray, List.set_cons_zero, List.set_cons_succ])
  refine wpAnyH_take (i := 1) (v := ?_) (by rw [List.getElem?_toArray]; rfl) (by kernel_rfl) (by kernel_rfl) (by kernel_rfl) (by intro _ _ _ h; exact h) (Or.inl ⟨by rfl, ?_⟩) (by assumption) ?_
  rotate_left
  · (intro w hSw; (try dsimp only at hSw); go_simp; all_goals with_reducible rfl)
  (try simp only [Act.put, List.setIfInBounds_toArray, List.set_cons_zero, List.set_cons_succ])
  refine wpAnyH_take (i := 2) (v := ?_) (by rw [List.getElem?_toArray]; rfl) (by kernel_rfl) (by kernel_rfl) (by kernel_rfl) (by intro _ _ _ h; exact h) (Or.inl ⟨by rfl, ?_⟩) (by assumption) ?_
  rotate_left
  · (intro w hSw; (try dsimp only at hSw); go_simp; all_goals with_reducible rfl)
  (try simp only [Act.put, List.setIfInBounds_toArray, List.set_cons_zero, List.set_cons_succ])
  refine wpAnyH_take (i := 3) (v := ?_) (by rw [List.getElem?_toArray]; rfl) (by kernel_rfl) (by kernel_rfl) (by kernel_rfl) (by intro _ _ _ h; exact h) (Or.inl ⟨by rfl, ?_⟩) (by assumption) ?_
  rotate_left
  · (intro w hSw; (try dsimp only at hSw); go_simp; all_goals with_reducible rfl)
  (try simp only [Act.put, List.setIfInBounds_toArray, List.set_cons_zero, List.set_cons_succ])
  refine wpAnyH_ready (rs := [4]) (by kernel_rfl) (by simp) ?_
  refine AllReadyH.cons (by rw [List.getElem?_toArray]; rfl) (fun K hK => ?_) AllReadyH.nil
  go_simp
  refine (CR vx (.inr ⟨b, off, rfl, HF.out.below (B.trans (XB.mono B.size)) HF.out.1⟩)).mono ?_; rintro ee vx ⟨rfl, hbl⟩; (replace XB := XB.trans (hbl.mono XB.size)); (clear hbl)
  (try go_wp2_with fail)
  refine hK.out _ _ ?_ (fun hHeld => ?_)
  · first | exact SK.out _ XB | exact SK.out _ (Below.drew (Below.refl _ _))
  clear hK K
  (try simp only [Act.put, List.setIfInBounds_toArray, List.set_cons_zero, List.set_cons_succ])
  refine wpAnyH_take (i := 5) (v := ?_) (by rw [List.getElem?_toArray]; rfl) (by kernel_rfl) (by kernel_rfl) (by kernel_rfl) (by intro _ _ _ h; exact h) (Or.inl ⟨by rfl, ?_⟩) (by assumption) ?_
  rotate_left
  · (intro w hSw; (try dsimp only at hSw); go_simp; all_goals with_reducible rfl)
  (try simp only [Act.put, List.setIfInBounds_toArray, List.set_cons_zero, List.set_cons_succ])
  (try simp only [hw1, hx1])
  refine wpAnyH_take (i := 6) (v := ?_) (by rw [List.getElem?_toArray]; rfl) (by kernel_rfl) (by kernel_rfl) (by kernel_rfl) (by intro _ _ _ h; exact h) (Or.inl ⟨by rfl, ?_⟩) (by assumption) ?_
  rotate_left
  · (intro w hSw; (try dsimp only at hSw); go_simp; all_goals with_reducible rfl)
  (try simp only [Act.put, List.setIfInBounds_toArray, List.set_cons_zero, List.set_cons_succ])
  (try simp only [hw2, hx2])
  refine wpAnyH_take (i := 7) (v := ?_) (by rw [List.getElem?_toArray]; rfl) (by kernel_rfl) (by kernel_rfl) (by kernel_rfl) (by intro _ _ _ h; exact h) (Or.inl ⟨by rfl, ?_⟩) (by assumption) ?_
  rotate_left
  · (intro w hSw; (try dsimp only at hSw); go_simp; all_goals with_reducible rfl)
  (try simp only [Act.put, List.setIfInBounds_toArray, List.set_cons_zero, List.set_cons_succ])
  refine wpAnyH_done (by kernel_rfl) ?_ _
  replace B := B.trans (XB.mono B.size)
  replace N := N.below XB
  replace R1 := R1.below' XB
  replace R2 := R2.below' XB
  clear XB SK CR hw1 hx1 hw2 hx2 hb2
  generalize vx = v4 at *
  have HB12 : Hid (w.heap.size < b1 ∧ b1 < b2) := ⟨hv0, hb1⟩
  clear hv0 hb1 hwm
  go_wp2_with fail
  go_loopw [10, 33] (fun s10 i wr => ∃ (j : Nat), j ≤ m ∧ i = .int .i64 j ∧ s10 = .int .i64 (rAt s g M n k j) ∧ RowF wr b1 25 (m * n * 2) (j * n * 2) (RF s g M n k) ∧ RowF wr b2 102 m j (RG b1 n) ∧ Tx3 wr w.heap.size (.int .i64 s) (.int .i64 g) (.slice (some ⟨b, off, none⟩) n c) ∧ Below w.heap.size w wr) (fun _ i _ => m - (intOf i).toNat)
  case atStart => exact ⟨0, Nat.zero_le _, rfl, rfl, by rw [Nat.zero_mul, Nat.zero_mul]; exact R1, R2, N, B⟩
  case round =>
    clear R1 R2 N B
    obtain ⟨j, hj, rfl, rfl, R1, R2, N, B⟩ := hrel
    by_cases hlt : j < m
    · have HLT : Hid (j < m) := hlt
      have hli : (j : Int) < (m : Int) := by omega
      have hjm : (j + 1) * n ≤ m * n := Nat.mul_le_mul_right n hlt
      have hjx : (j + 1) * n = j * n + n := Nat.succ_mul j n
      have hc1 : (j : Int) * (n : Int) = ((j * n : Nat) : Int) := by simp
      have hc2 : ((j : Int) + 1) * (n : Int) = ((j * n + n : Nat) : Int) := by rw [← hjx]; simp
      have hwj : IntKind.i64.wrap ((j : Int) * (n : Int)) = ((j * n : Nat) : Int) := by rw [hc1]; exact Go.IntWalk.i64_in _ ⟨by omega, by omega⟩
      have hwa : IntKind.i64.wrap ((j : Int) + 1) = (j : Int) + 1 := Go.IntWalk.i64_in _ ⟨by omega, by omega⟩
      have hwk : IntKind.i64.wrap (((j : Int) + 1) * (n : Int)) = ((j * n + n : Nat) : Int) := by rw [hc2]; exact Go.IntWalk.i64_in _ ⟨by omega, by omega⟩
      have hbd := rAt_bd HP.out HK.out (show j ≤ 2 by omega)
      have hRF : Hid (∀ i, i < n → RF s g M n k (j * n * 2 + i * 2) = .int .i64 (rAt s g M n k j + upS g M i) ∧ RF s g M n k (j * n * 2 + i * 2 + 1) = .int .i64 (rAt s g M n k j + upS g M i + (M i).2)) := fun i hi => by rw [← Nat.add_mul]; exact RF_at s g M n k hi
      have hNX : Hid (rAt s g M n k j + upS g M n = rAt s g M n k (j + 1)) := rAt_next s g M n k j
      have hRG : Hid (RG b1 n j = .slice (some ⟨b1, j * n * 2, none⟩) n n) := rfl
      have hE1 : Hid ((j + 1) * n * 2 = j * n * 2 + n * 2) := by rw [Hid, hjx, Nat.add_mul]
      rw [hjx] at hjm
      generalize RF s g M n k = F at *
      generalize j * n = jn at *
      generalize m * n = mn at *
      clear hc1 hc2 hjx
      generalize rAt s g M n k j = aj at *
      obtain ⟨n0, n1, n2, n3, n4, n5, n6⟩ := id N
      go_wp2_with fail
      clear n0 n1 n2 n3 n4 n5 n6
      go_loopw [10, 12, 51] (fun s10 s12 i wr => ∃ (q : Nat), q ≤ n ∧ i = .int .i64 q ∧ s10 = .int .i64 (aj + upS g M q) ∧ s12 = .slice (some ⟨b1, jn * 2, none⟩) q n ∧ RowF wr b1 25 (mn * 2) (jn * 2 + q * 2) F ∧ RowF wr b2 102 m j (RG b1 n) ∧ Tx3 wr w.heap.size (.int .i64 s) (.int .i64 g) (.slice (some ⟨b, off, none⟩) n c) ∧ Below w.heap.size w wr) (fun _ _ i _ => n - (intOf i).toNat)
      case atStart => exact ⟨0, Nat.zero_le _, rfl, by rw [upS, Int.add_zero], by simp, R1, R2, N, B⟩
      case round =>
        clear R1 R2 N B hwj hwa hwk hli hlt
        obtain ⟨q, hq, rfl, rfl, rfl, R1, R2, N, B⟩ := hrel
        by_cases hlt : q < n
        · obtain ⟨o, l, hM⟩ := tupSlot M q
          obtain ⟨c1, c2⟩ := (HF.out.below B HF.out.1).elSlot hlt hM
          have hb := upS_bd HP2.out HP4.out q (by omega)
          have hl := (slB_t (slA_at HP4.out hlt)).2
          have hg := HP2.out
          rw [hM] at hl
          obtain ⟨f1, f2⟩ := hRF.out q hlt
          rw [hM] at f2
          have HU : Hid (aj + upS g M (q + 1) = aj + upS g M q + (l + g)) := by rw [Hid, upS_next hM]; omega
          have HQ : Hid (q < n) := hlt
          have hli : (q : Int) < (n : Int) := by omega
          have hw1 : IntKind.i64.wrap (l + g) = l + g := Go.IntWalk.i64_in _ ⟨by omega, by omega⟩
          have hw2 : IntKind.i64.wrap (aj + upS g M q + (l + g)) = aj + upS g M q + (l + g) := Go.IntWalk.i64_in _ ⟨by omega, by omega⟩
          have hw3 : IntKind.i64.wrap (aj + upS g M q + l) = aj + upS g M q + l := Go.IntWalk.i64_in _ ⟨by omega, by omega⟩
          have hfit : jn * 2 + q * 2 + 2 ≤ mn * 2 := by omega
          clear hM hb hl hg
          generalize aj + upS g M q = u at *
          have A1 := Below.nw wr (.cells #[.int .i64 o, .int .i64 l] 42)
          have X := Bx2.new wr (.int .i64 o) (.int .i64 l) 42
          have hz1 := R1.lt
          replace B := B.trans (A1.mono B.size)
          replace N := N.below A1
          replace R1 := R1.below' A1
          replace R2 := R2.below' A1
          clear A1
          go_upto_region 12 with fail
          generalize wr.alloc (.cells #[.int .i64 o, .int .i64 l] 42) = v5 at *
          generalize wr.heap.size = jb at *
          clear c1 c2
          obtain ⟨x0, x1, x2, x3, x4⟩ := id X
          go_upto_region 13 with (at_builtin; refine put_at rfl _ _ rfl b1 (jn * 2) q n (mn * 2) (jn * 2 + q * 2) F rfl rfl R1 rfl hfit HQ.out f1 f2 ?_; intro w9 R9 T9)
          have hb12 := HB12.out
          replace X := X.but T9 (by omega)
          replace N := N.but T9 (by omega)
          have R2' : RowF w9 b2 102 m j (RG b1 n) := by
            obtain ⟨ff, hr, hg⟩ := R2
            exact ⟨ff, hr.of_block (T9.2.2.2.2 b2 hr.lt (by omega)), hg⟩
          replace B := B.trans (T9.below (by omega) (Nat.le_of_lt (by have := N.1; omega)))
          clear R1 R2 T9 hb12 x0 x1 x2 x3 x4 hz1
          obtain ⟨x0, x1, x2, x3, x4⟩ := id X
          obtain ⟨n0, n1, n2, n3, n4, n5, n6⟩ := id N
          go_wp2_with fail
          clear n0 n1 n2 n3 n4 n5 n6
          go_roundw
          case rel => exact ⟨_, _, _, _, ⟨q + 1, HQ.out, rfl, rfl, rfl, (by rw [Nat.add_mul]; exact R9)⟩, by rw [HU.out], rfl, rfl, by simp⟩
          case measure => have hlt' := HQ.out; simp [intOf]; omega
        · have hkn : q = n := by omega
          subst hkn
          have hli : ¬ (q : Int) < (q : Int) := by omega
          have hjm' := HLT.out
          have hli2 : (j : Int) < (m : Int) := by omega
          obtain ⟨⟨y, y1⟩, y2⟩ := R2.facts j HLT.out
          have hb12 := HB12.out
          have R2' := R2.put (j + 1) rfl hRG.out
          have R1' := R1.setO (show b2 ≠ b1 by omega) j (.slice (some ⟨b1, jn * 2, none⟩) q q)
          have N' := N.setO (show b2 ≠ w.heap.size by omega) j (.slice (some ⟨b1, jn * 2, none⟩) q q)
          have B' := B.setCell (p := ⟨b2, j, none⟩) (show w.heap.size ≤ b2 by omega) (.slice (some ⟨b1, jn * 2, none⟩) q q)
          clear R1 R2 N B hb12
          go_wp2_with fail
          go_roundw
          case rel => exact ⟨j + 1, hjm', by go_num, by rw [← hNX.out], by rw [hE1.out]; exact R1', R2', N', B'⟩
          case measure => simp [intOf]; omega
    · have hkn : j = m := by omega
      subst hkn
      have hli : ¬ (j : Int) < (j : Int) := by omega
      have hb12 := HB12.out
      have hD : Rd wr b1 b2 j n (RF s g M n k) := ⟨R2.cs (Nat.le_refl _), R1.cs (Nat.le_refl _)⟩
      clear R1 R2 N
      go_wp2_with fail
      go_ret
      exact ⟨b1, by omega, b2, by omega, rfl, hD, B⟩
end Go.Proofs.YtcakhfobkbgfoaaDoor
namespace Go.Proofs.YtcakhfobkbgfoaaDoor
open Go.RowKit
set_option linter.unusedVariables false
/- One round, and two: where the occurrences of their slots stand. -/
def OcRow (w : World) (b off : Nat) (s g : Int) (M : Nat → SlT) (n : Nat) (k : Int) : Prop := b < w.heap.size ∧ ∀ i, i < n → w.cell? ⟨b, off + i * 2, none⟩ = some (.int .i64 (ocF s g M n i k)) ∧ w.cell? ⟨b, off + i * 2 + 1, none⟩ = some (.int .i64 (ocF s g M n i k + (M i).2))
theorem OcRow.below {w w' : World} {B b off : Nat} {s g : Int} {M : Nat → SlT} {n : Nat} {k : Int} (h : OcRow w b off s g M n k) (hb : Below B w w') (hB : b < B) : OcRow w' b off s g M n k :=
  ⟨Nat.lt_of_lt_of_le h.1 hb.size, fun i hi => ⟨by rw [hb.cell (p := ⟨b, off + i * 2, none⟩) hB]; exact (h.2 i hi).1, by rw [hb.cell (p := ⟨b, off + i * 2 + 1, none⟩) hB]; exact (h.2 i hi).2⟩⟩
theorem OcRow.below' {w w' : World} {b off : Nat} {s g : Int} {M : Nat → SlT} {n : Nat} {k : Int} (h : OcRow w b off s g M n k) (hb : Below w.heap.size w w') : OcRow w' b off s g M n k := h.below hb h.1
theorem Rd.row {w : World} {b1 b2 m n : Nat} {s g : Int} {M : Nat → SlT} {k : Int} (h : Rd w b1 b2 m n (RF s g M n k)) {j : Nat} (hj : j < m) : OcRow w b1 (j * n * 2) s g M n (k + (j : Int)) := by
  refine ⟨h.2.1, fun i hi => ?_⟩
  obtain ⟨e1, e2⟩ := RF_at s g M n k (j := j) hi
  have hlt : j * n + i < m * n := by
    have h1 : (j + 1) * n ≤ m * n := Nat.mul_le_mul_right n hj
    rw [Nat.succ_mul] at h1
    omega
  have a1 := h.2.2 ((j * n + i) * 2) (by omega)
  have a2 := h.2.2 ((j * n + i) * 2 + 1) (by omega)
  have eF : ocF s g M n (i : Int) (k + (j : Int)) = rAt s g M n k j + upS g M i := by unfold ocF rAt; simp
  rw [e1, Nat.zero_add, Nat.add_mul] at a1
  rw [e2, Nat.zero_add, Nat.add_mul] at a2
  rw [eF]
  exact ⟨a1, a2⟩
theorem Rd.at {w : World} {b1 b2 m n : Nat} {F : Nat → Value} (h : Rd w b1 b2 m n F) {j : Nat} (hj : j < m) : w.cell? ⟨b2, j, none⟩ = some (.slice (some ⟨b1, j * n * 2, none⟩) n n) := by
  have a1 := h.1.2 j hj
  rw [Nat.zero_add] at a1
  exact a1
theorem rounds1_any (s g : Int) (a : Option Addr) (n c : Nat) (M : Nat → SlT) (k : Int) (w : World) (hp : plB s g M n = true) (hk : kOk s g M n k) (hs : SrcC w a (n * 2) (MFSlot M)) :
    Calls Tryd.prog 57 #[.agg #[.int .i64 s, .int .i64 g, .slice a n c], .int .i64 k, .int .i64 1] w fun e w' => ∃ b1 b2, e = .returned (.slice (some ⟨b2, 0, none⟩) 1 1) ∧ w'.cell? ⟨b2, 0, none⟩ = some (.slice (some ⟨b1, 0, none⟩) n n) ∧ OcRow w' b1 0 s g M n k ∧ Below w.heap.size w w' := by
  refine (rounds_any s g a n c M k 1 w hp hk (by decide) (by decide) hs).mono ?_
  rintro e w' ⟨b1, b2, -, -, rfl, hD, hB⟩
  have h1 := hD.row (j := 0) (by decide)
  have h2 := hD.at (j := 0) (by decide)
  rw [Nat.zero_mul, Nat.zero_mul] at h1 h2
  rw [show k + ((0 : Nat) : Int) = k by omega] at h1
  exact ⟨b1, b2, rfl, h2, h1, hB⟩
theorem rounds2_any (s g : Int) (a : Option Addr) (n c : Nat) (M : Nat → SlT) (k : Int) (w : World) (hp : plB s g M n = true) (hk : kOk s g M n k) (hs : SrcC w a (n * 2) (MFSlot M)) :
    Calls Tryd.prog 57 #[.agg #[.int .i64 s, .int .i64 g, .slice a n c], .int .i64 k, .int .i64 2] w fun e w' => ∃ b1 b2, e = .returned (.slice (some ⟨b2, 0, none⟩) 2 2) ∧ (∀ j, j < 2 → b2 < w'.heap.size ∧ w'.cell? ⟨b2, j, none⟩ = some (.slice (some ⟨b1, j * n * 2, none⟩) n n) ∧ OcRow w' b1 (j * n * 2) s g M n (k + (j : Int))) ∧ Below w.heap.size w w' := by
  refine (rounds_any s g a n c M k 2 w hp hk (by decide) (by decide) hs).mono ?_
  rintro e w' ⟨b1, b2, -, -, rfl, hD, hB⟩
  exact ⟨b1, b2, rfl, fun j hj => ⟨hD.1.1, hD.at hj, hD.row hj⟩, hB⟩
theorem kOk_zero {s g : Int} {M : Nat → SlT} {n : Nat} : kOk s g M n 0 := ⟨by decide, by decide, by rw [Int.zero_mul]; decide, by rw [Int.zero_mul]; decide⟩
/- The round of a time: bounds, and what the specification's are of it. -/
theorem ra_pos {s g : Int} {M : Nat → SlT} {n : Nat} {t : Int} (hp : plB s g M n = true) : raI s g M n t = imx 0 (t - s) / upS g M n := by
  unfold raI
  rw [Int.tdiv_eq_ediv_of_nonneg (by unfold imx; split <;> omega)]
theorem ra_kOk {s g : Int} {M : Nat → SlT} {n : Nat} {t k : Int} (hp : plB s g M n = true) (ht : 0 ≤ t ∧ t ≤ 1000000000000) (h0 : 0 ≤ k) (hk : k ≤ raI s g M n t) : kOk s g M n k := by
  have hr := rn_bd hp
  obtain ⟨p1, p2, p3, p4⟩ := plB_t hp
  rw [ra_pos hp] at hk
  have hx : 0 ≤ imx 0 (t - s) ∧ imx 0 (t - s) ≤ 1000000000000 := by unfold imx; split <;> omega
  have h1 : imx 0 (t - s) / upS g M n * upS g M n ≤ imx 0 (t - s) := Int.ediv_mul_le _ (by omega)
  have h2 : imx 0 (t - s) / upS g M n ≤ imx 0 (t - s) := Int.ediv_le_self _ hx.1
  have h3 : k * upS g M n ≤ imx 0 (t - s) / upS g M n * upS g M n := Int.mul_le_mul_of_nonneg_right hk (by omega)
  exact ⟨h0, by omega, Int.mul_nonneg h0 (by omega), by omega⟩
theorem ra_zero {s g : Int} {M : Nat → SlT} {n : Nat} {t : Int} (hp : plB s g M n = true) : 0 ≤ raI s g M n t := by
  have hr := rn_bd hp
  rw [ra_pos hp]
  exact Int.ediv_nonneg (by unfold imx; split <;> omega) (by omega)
theorem ra_no {s g : Int} {M : Nat → SlT} {n : Nat} {t : Int} (hp : plB s g M n = true) : noR s g M n t = raI s g M n t := by
  have hr := rn_bd hp
  unfold noR raI
  by_cases h : 0 ≤ t - s
  · have e : imx 0 (t - s) = t - s := by unfold imx; split <;> omega
    have h1 : 0 ≤ (t - s).tdiv (upS g M n) := by rw [Int.tdiv_eq_ediv_of_nonneg h]; exact Int.ediv_nonneg h (by omega)
    rw [e]
    unfold imx
    split <;> omega
  · have e : imx 0 (t - s) = 0 := by unfold imx; split <;> omega
    have h1 : (t - s).tdiv (upS g M n) ≤ 0 := by
      have e2 : t - s = -(s - t) := by omega
      rw [e2, Int.neg_tdiv, Int.tdiv_eq_ediv_of_nonneg (by omega)]
      have := Int.ediv_nonneg (show 0 ≤ s - t by omega) (show 0 ≤ upS g M n by omega)
      omega
    rw [e, Int.zero_tdiv]
    unfold imx
    split <;> omega
theorem ra_sa {s g : Int} {M : Nat → SlT} {n : Nat} {t : Int} (h : s ≤ t) : saR s g M n t = raI s g M n t := by
  unfold saR raI
  have e : imx 0 (t - s) = t - s := by unfold imx; split <;> omega
  rw [e, Int.tdiv_eq_ediv_of_nonneg (by omega)]
/- An occurrence behind the round of the last time is none. -/
theorem oc_late {s g : Int} {M : Nat → SlT} {n : Nat} {i k : Int} (hp : plB s g M n = true) (hk : raI s g M n 1000000000000 < k) : ocB s g M n i k = false := by
  cases h : ocB s g M n i k
  · rfl
  · have hG : ocG s g M n i k = true := by
      unfold ocB at h
      simp only [Bool.and_eq_true] at h
      exact h.1
    obtain ⟨o1, o2, o3, o4, o5, o6, o7⟩ := ocG_bd hG
    have e := (oc_sel hG).1
    rw [h] at e
    have hI : okI (ocF s g M n i k) (ocF s g M n i k + (M i.toNat).2) = true := e.symm
    unfold okI at hI
    simp at hI
    obtain ⟨p1, p2, p3, p4⟩ := plB_t hp
    have hr := rn_bd hp
    have hu := upS_bd p2 p4 i.toNat (by omega)
    have hle : k * upS g M n ≤ 1000000000000 - s := by
      unfold ocF at hI
      omega
    have hle2 : k ≤ (1000000000000 - s) / upS g M n := (Int.le_ediv_iff_mul_le (by omega)).2 hle
    rw [ra_pos hp, show imx 0 (1000000000000 - s) = 1000000000000 - s by unfold imx; split <;> omega] at hk
    omega
/- In a round that may be asked for, an occurrence is one just if it is an interval. -/
theorem oc_ok {s g : Int} {M : Nat → SlT} {n : Nat} {i : Nat} {k : Int} (hp : plB s g M n = true) (hi : i < n) (h0 : 0 ≤ k) : ocB s g M n i k = okI (ocF s g M n i k) (ocF s g M n i k + (M i).2) := by
  have hr := rn_bd hp
  obtain ⟨p1, p2, p3, p4⟩ := plB_t hp
  have hsf : sfB s g M n i = true := by
    unfold sfB ixB
    rw [hp]
    simp
    omega
  cases h : okK (upS g M n) k
  · have hG : ocG s g M n i k = false := by unfold ocG; rw [h]; simp
    have e : ocB s g M n i k = false := by unfold ocB; rw [hG]; rfl
    rw [e]
    cases hI : okI (ocF s g M n i k) (ocF s g M n i k + (M i).2)
    · rfl
    · exfalso
      unfold okI at hI
      simp at hI
      have hu := upS_bd p2 p4 i (by omega)
      have hl := (slB_t (slA_at p4 hi)).2
      have hle : k * upS g M n ≤ 1000000000000 := by
        unfold ocF at hI
        rw [Int.toNat_natCast] at hI
        omega
      have hle2 : k ≤ 1000000000000 / upS g M n := (Int.le_ediv_iff_mul_le (by omega)).2 hle
      have hle3 : 1000000000000 / upS g M n ≤ 1000000000000 := Int.ediv_le_self _ (by decide)
      unfold okK at h
      simp at h
      omega
  · have hG : ocG s g M n i k = true := by unfold ocG; rw [h, hsf]; rfl
    have := (oc_sel hG).1
    rw [Int.toNat_natCast] at this
    exact this
end Go.Proofs.YtcakhfobkbgfoaaDoor
