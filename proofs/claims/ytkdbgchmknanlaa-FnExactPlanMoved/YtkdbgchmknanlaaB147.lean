/- NextOwn in the program. -/
import Derived.Test.YtkdbgchmknanlaaB146
import Derived.Test.YtkdbgchmknanlaaB137
import Derived.Deep.RegionHeld3
import Derived.WalkKit
import Derived.WalkSpells
import Derived.WalkLawsBesides
import Derived.Deep.RegionHeld
namespace Go.Proofs.Ytkdbgchmknanlaa
open Go.RowKit
set_option linter.unusedVariables false
/- The next slot of an owner, in the program. -/
def nqP (s g : Int) (M : Nat → SlT) (n : Nat) (o t k : Int) (i : Nat) : Bool := ((M i).1 == o) && (decide (t ≤ ocF s g M n i k) && okI (ocF s g M n i k) (ocF s g M n i k + (M i).2))
theorem nqP_is {s g : Int} {M : Nat → SlT} {n : Nat} {o t k : Int} (hp : plB s g M n = true) (h0 : 0 ≤ k) {i : Nat} (hi : i < n) : noP s g M n o t k i = nqP s g M n o t k i := by
  obtain ⟨e1, e2, e3⟩ := oc_sel2 (k := k) hp hi h0
  unfold noP nqP
  rw [e1, e2]
  cases okI (ocF s g M n i k) (ocF s g M n i k + (M i).2)
  · simp
  · show (true && (_ && decide (t ≤ ocF s g M n i k))) = _
    simp
theorem nqF {s g : Int} {M : Nat → SlT} {n : Nat} {o t k : Int} (hp : plB s g M n = true) (h0 : 0 ≤ k) : noF s g M n o t k = fnd (nqP s g M n o t k) n := fnd_congr (fun j hj => nqP_is hp h0 hj) n (Nat.le_refl _)
theorem nqL {s g : Int} {M : Nat → SlT} {n : Nat} {o t k : Int} (hp : plB s g M n = true) (h0 : 0 ≤ k) {i : Nat} (h : fnd (nqP s g M n o t k) n = i) (hi : i < n) : ocL s g M n i k = ocF s g M n i k := by
  have hs := fnd_so (P := nqP s g M n o t k) (n := n) (by omega)
  rw [h] at hs
  unfold nqP at hs
  simp only [Bool.and_eq_true] at hs
  rw [(oc_sel2 hp hi h0).2.1, hs.2.2]
  rfl
def Rw2 (w : World) (b1 b2 : Nat) (s g : Int) (M : Nat → SlT) (n : Nat) (k : Int) : Prop := ∀ j, j < 2 → b2 < w.heap.size ∧ w.cell? ⟨b2, j, none⟩ = some (.slice (some ⟨b1, j * n * 2, none⟩) n n) ∧ OcRow w b1 (j * n * 2) s g M n (k + (j : Int))
theorem Rw2.below' {w w' : World} {b1 b2 : Nat} {s g : Int} {M : Nat → SlT} {n : Nat} {k : Int} (h : Rw2 w b1 b2 s g M n k) (hb : Below w.heap.size w w') : Rw2 w' b1 b2 s g M n k := fun j hj => by
  obtain ⟨h1, h2, h3⟩ := h j hj
  exact ⟨Nat.lt_of_lt_of_le h1 hb.size, by rw [hb.cell (p := ⟨b2, j, none⟩) h1]; exact h2, h3.below' hb⟩
set_option maxRecDepth 100000 in
set_option maxHeartbeats 16000000 in
theorem implNextOwn_any (s g : Int) (a : Option Addr) (n c : Nat) (M : Nat → SlT) (o t : Int) (w : World) (hm : n ≤ maxLen) (hs : SrcC w a (n * 2) (MFSlot M)) :
    Calls Try.prog 31 #[.agg #[.int .i64 s, .int .i64 g, .slice a n c], .int .i64 o, .int .i64 t] w fun e w' => e = .returned (.tuple #[.int .i64 (noI s g M n o t), .int .i64 (noT s g M n o t), .bool (noB s g M n o t)]) ∧ Below w.heap.size w w' := by
  have B := Below.nw w (.cells #[.int .i64 s, .int .i64 g, .slice a n c] 29)
  have N := Tx3.new w (.int .i64 s) (.int .i64 g) (.slice a n c) 29
  have HS : Hid (SrcC w a (n * 2) (MFSlot M)) := hs
  clear hs
  have C1 := fun w' h => planOk_any s g a n c M w' hm h
  have CT := fun w' => isTime_any t w'
  cases h1 : plB s g M n
  · obtain ⟨e1, e2, e3⟩ := no_bad (o := o) (t := t) (show noG s g M n t = false by unfold noG; rw [h1]; rfl)
    rw [e1, e2, e3]
    rw [h1] at C1
    clear e1 e2 e3
    go_enter Try.func31, Try.ntmps31
    go_upto_region 1 with fail
    generalize w.alloc (.cells #[.int .i64 s, .int .i64 g, .slice a n c] 29) = v at *
    obtain ⟨n0, n1, n2, n3, n4, n5, n6⟩ := id N
    go_wp2_with fail
    refine (C1 _ (HS.out.below B)).mono ?_
    rintro e v1 ⟨rfl, hb⟩
    clear n0 n1 n2 n3 n4 n5 n6
    replace B := B.trans (hb.mono B.size)
    replace N := N.below hb
    clear hb
    go_wp2_with fail
    exact bodyPost_ret (v := (.tuple #[.int .i64 0, .int .i64 0, .bool false])) (by simp (maxDischargeDepth := 6) [results, Try.results31, go_sem, *]) rfl ⟨rfl, B⟩
  cases h2 : okT t
  · obtain ⟨e1, e2, e3⟩ := no_bad (o := o) (show noG s g M n t = false by unfold noG; rw [h1, h2]; rfl)
    rw [e1, e2, e3]
    rw [h1] at C1
    clear e1 e2 e3
    go_enter Try.func31, Try.ntmps31
    go_upto_region 1 with fail
    generalize w.alloc (.cells #[.int .i64 s, .int .i64 g, .slice a n c] 29) = v at *
    obtain ⟨n0, n1, n2, n3, n4, n5, n6⟩ := id N
    go_wp2_with fail
    refine (C1 _ (HS.out.below B)).mono ?_
    rintro e v1 ⟨rfl, hb⟩
    clear n0 n1 n2 n3 n4 n5 n6
    replace B := B.trans (hb.mono B.size)
    replace N := N.below hb
    clear hb
    go_wp2_with fail
    refine (CT _).mono ?_
    rintro e w' ⟨rfl, rfl⟩
    rw [h2]
    go_wp2_with fail
    exact bodyPost_ret (v := (.tuple #[.int .i64 0, .int .i64 0, .bool false])) (by simp (maxDischargeDepth := 6) [results, Try.results31, go_sem, *]) rfl ⟨rfl, B⟩
  have hG : noG s g M n t = true := by unfold noG; rw [h1, h2]; rfl
  have ht : 0 ≤ t ∧ t ≤ 1000000000000 := of_decide_eq_true h2
  obtain ⟨p1, p2, p3, p4⟩ := plB_t h1
  have hz := ra_zero (t := t) h1
  have eR := ra_no (t := t) h1
  have CA := fun w' h => roundAt_any s g a n c M t w' h1 ht h
  have CD : ∀ w' (h : SrcC w' a (n * 2) (MFSlot M)), Calls Try.prog 56 #[.agg #[.int .i64 s, .int .i64 g, .slice a n c], .int .i64 (raI s g M n t), .int .i64 2] w' fun e w'' => ∃ b1 b2, e = .returned (.slice (some ⟨b2, 0, none⟩) 2 2) ∧ Rw2 w'' b1 b2 s g M n (raI s g M n t) ∧ Below w'.heap.size w' w'' := fun w' h => rounds2_any s g a n c M (raI s g M n t) w' h1 (ra_kOk h1 ht hz (Int.le_refl _)) h
  have CK := fun (x y : Int) w' => ok_any x y w'
  have HP : Hid (∀ (k : Int) (i : Nat), nqP s g M n o t k i = (((M i).1 == o) && (decide (t ≤ ocF s g M n i k) && okI (ocF s g M n i k) (ocF s g M n i k + (M i).2)))) := fun k i => rfl
  have H0 : Hid (fnd (nqP s g M n o t (raI s g M n t)) n = n → fnd (nqP s g M n o t (raI s g M n t + 1)) n = n → noB s g M n o t = false ∧ noI s g M n o t = 0 ∧ noT s g M n o t = 0) := fun x y => no_none (by rw [eR, nqF h1 hz]; exact x) (by rw [eR, nqF h1 (by omega)]; exact y)
  have H1 : Hid (∀ i, fnd (nqP s g M n o t (raI s g M n t)) n = i → i < n → noB s g M n o t = true ∧ noI s g M n o t = i ∧ noT s g M n o t = ocF s g M n i (raI s g M n t)) := fun i h hi => by
    obtain ⟨x, y, z⟩ := no_one (o := o) hG (i := i) (by rw [eR, nqF h1 hz]; exact h) hi
    rw [eR, nqL h1 hz h hi] at z
    exact ⟨x, y, z⟩
  have H2 : Hid (fnd (nqP s g M n o t (raI s g M n t)) n = n → ∀ i, fnd (nqP s g M n o t (raI s g M n t + 1)) n = i → i < n → noB s g M n o t = true ∧ noI s g M n o t = i ∧ noT s g M n o t = ocF s g M n i (raI s g M n t + 1)) := fun h0 i h hi => by
    obtain ⟨x, y, z⟩ := no_two (o := o) hG (by rw [eR, nqF h1 hz]; exact h0) (i := i) (by rw [eR, nqF h1 (by omega)]; exact h) hi
    rw [eR, nqL h1 (by omega) h hi] at z
    exact ⟨x, y, z⟩
  have hn2 : n ≤ 12 := p3.2
  rw [h1] at C1
  clear hG p1 p2 p3 p4 h1 ht hz eR hm
  generalize nqP s g M n o t = P at *
  generalize raI s g M n t = K at *
  go_enter Try.func31, Try.ntmps31
  go_upto_region 1 with fail
  generalize w.alloc (.cells #[.int .i64 s, .int .i64 g, .slice a n c] 29) = v at *
  obtain ⟨n0, n1, n2, n3, n4, n5, n6⟩ := id N
  go_wp2_with fail
  refine (C1 _ (HS.out.below B)).mono ?_
  rintro e v1 ⟨rfl, hb⟩
  clear n0 n1 n2 n3 n4 n5 n6
  replace B := B.trans (hb.mono B.size)
  replace N := N.below hb
  clear hb
  go_wp2_with fail
  refine (CT _).mono ?_
  rintro e w' ⟨rfl, rfl⟩
  rw [h2]
  clear C1 CT h2
  obtain ⟨n0, n1, n2, n3, n4, n5, n6⟩ := id N
  have SK : Hid (∀ w', Below v1.heap.size v1 w' → ((fun w' => w'.cell? ⟨w.heap.size, 0, none⟩ = some (.int .i64 s) ∧ w'.cell? ⟨w.heap.size, 1, none⟩ = some (.int .i64 g) ∧ w'.cell? ⟨w.heap.size, 2, none⟩ = some (.slice a n c))) w') := fun w' hw => ⟨(N.below hw).2.1, (N.below hw).2.2.1, (N.below hw).2.2.2.1⟩
  go_upto_region 3 with fail
  refine wp_region_held_drew (S := (fun w' => w'.cell? ⟨w.heap.size, 0, none⟩ = some (.int .i64 s) ∧ w'.cell? ⟨w.heap.size, 1, none⟩ = some (.int .i64 g) ∧ w'.cell? ⟨w.heap.size, 2, none⟩ = some (.slice a n c))) (by kernel_rfl) ?_ (fun hHeld => ?_)
  · first | exact SK.out _ XB | exact SK.out _ (Below.drew (Below.refl _ _))
  have XB : Below v1.heap.size v1 v1.drew := Below.drew (Below.refl _ _)
  generalize v1.drew = vx at *
  refine wpAnyH_take (i := 0) (v := ?_) (by rw [List.getElem?_toArray]; rfl) (by kernel_rfl) (by kernel_rfl) (by kernel_rfl) (by intro _ _ _ h; exact h) (Or.inl ⟨by rfl, ?_⟩) (by assumption) ?_
  rotate_left
  · (intro w hSw; (try dsimp only at hSw); go_simp; all_goals with_reducible rfl)
  (try simp only [Act.put, List.setIfInBounds_toArray, List.set_cons_zero, List.set_cons_succ])
  refine wpAnyH_take (i := 1) (v := ?_) (by rw [List.getElem?_toArray]; rfl) (by kernel_rfl) (by kernel_rfl) (by kernel_rfl) (by intro _ _ _ h; exact h) (Or.inl ⟨by rfl, ?_⟩) (by assumption) ?_
  rotate_left
  · (intro w hSw; (try dsimp only at hSw); go_simp; all_goals with_reducible rfl)
  (try simp only [Act.put, List.setIfInBounds_toArray, List.set_cons_zero, List.set_cons_succ])
  refine wpAnyH_take (i := 2) (v := ?_) (by rw [List.getElem?_toArray]; rfl) (by kernel_rfl) (by kernel_rfl) (by kernel_rfl) (by intro _ _ _ h; exact h) (Or.inl ⟨by rfl, ?_⟩) (by assumption) ?_
  rotate_left
  · (intro w hSw; (try dsimp only at hSw); go_simp; all_goals with_reducible rfl)
  (try simp only [Act.put, List.setIfInBounds_toArray, List.set_cons_zero, List.set_cons_succ])
  refine wpAnyH_take (i := 6) (v := ?_) (by rw [List.getElem?_toArray]; rfl) (by kernel_rfl) (by kernel_rfl) (by kernel_rfl) (by intro _ _ _ h; exact h) (Or.inl ⟨by rfl, ?_⟩) (by assumption) ?_
  rotate_left
  · (intro w hSw; (try dsimp only at hSw); go_simp; all_goals with_reducible rfl)
  (try simp only [Act.put, List.setIfInBounds_toArray, List.set_cons_zero, List.set_cons_succ])
  refine wpAnyH_ready (rs := [3]) (by kernel_rfl) (by simp) ?_
  refine AllReadyH.cons (by rw [List.getElem?_toArray]; rfl) (fun K hK => ?_) AllReadyH.nil
  go_simp
  refine (CA vx (HS.out.below (B.trans (XB.mono B.size)))).mono ?_; rintro ee vx ⟨rfl, hbl⟩; (replace XB := XB.trans (hbl.mono XB.size)); (clear hbl)
  (try go_wp2_with fail)
  refine hK.out _ _ ?_ (fun hHeld => ?_)
  · first | exact SK.out _ XB | exact SK.out _ (Below.drew (Below.refl _ _))
  clear hK K
  (try simp only [Act.put, List.setIfInBounds_toArray, List.set_cons_zero, List.set_cons_succ])
  refine wpAnyH_ready (rs := [4]) (by kernel_rfl) (by simp) ?_
  refine AllReadyH.cons (by rw [List.getElem?_toArray]; rfl) (fun K hK => ?_) AllReadyH.nil
  go_simp
  refine (CD vx (HS.out.below (B.trans (XB.mono B.size)))).mono ?_; rintro ee vx ⟨b1, b2, rfl, RW, hbl⟩; (replace XB := XB.trans (hbl.mono XB.size)); (clear hbl)
  (try go_wp2_with fail)
  refine hK.out _ _ ?_ (fun hHeld => ?_)
  · first | exact SK.out _ XB | exact SK.out _ (Below.drew (Below.refl _ _))
  clear hK K
  (try simp only [Act.put, List.setIfInBounds_toArray, List.set_cons_zero, List.set_cons_succ])
  refine wpAnyH_take (i := 5) (v := ?_) (by rw [List.getElem?_toArray]; rfl) (by kernel_rfl) (by kernel_rfl) (by kernel_rfl) (by intro _ _ _ h; exact h) (Or.inl ⟨by rfl, ?_⟩) (by assumption) ?_
  rotate_left
  · (intro w hSw; (try dsimp only at hSw); go_simp; all_goals with_reducible rfl)
  (try simp only [Act.put, List.setIfInBounds_toArray, List.set_cons_zero, List.set_cons_succ])
  refine wpAnyH_done (by kernel_rfl) ?_ _
  clear n0 n1 n2 n3 n4 n5 n6
  replace B := B.trans (XB.mono B.size)
  replace N := N.below XB
  clear XB SK CA CD
  generalize vx = v2 at *
  go_wp2_with fail
  go_loopw [27] (fun j wr => ∃ (q : Nat), q ≤ 2 ∧ j = .int .i64 (q : Int) ∧ (1 ≤ q → fnd (P K) n = n) ∧ (2 ≤ q → fnd (P (K + 1)) n = n) ∧ Rw2 wr b1 b2 s g M n K ∧ Tx3 wr w.heap.size (.int .i64 s) (.int .i64 g) (.slice a n c) ∧ Below w.heap.size w wr) (fun j _ => 2 - (intOf j).toNat)
  case atStart => exact ⟨0, Nat.zero_le _, rfl, fun h => absurd h (by decide), fun h => absurd h (by decide), RW, N, B⟩
  case round =>
    clear N B RW
    obtain ⟨q, hq, rfl, hq1, hq2, RW, N, B⟩ := hrel
    by_cases hlt : q < 2
    · have hlj : (q : Int) < 2 := by omega
      have HJ : Hid (∀ i, fnd (P (K + (q : Int))) n = i → i < n → noB s g M n o t = true ∧ noI s g M n o t = i ∧ noT s g M n o t = ocF s g M n i (K + (q : Int))) := fun i h hi => by
        by_cases e : q = 0
        · subst e
          rw [show K + ((0 : Nat) : Int) = K by simp] at h ⊢
          exact H1.out i h hi
        · have e1 : q = 1 := by omega
          subst e1
          exact H2.out (hq1 (by omega)) i h hi
      have HZ : Hid (fnd (P (K + (q : Int))) n = n → (1 ≤ q + 1 → fnd (P K) n = n) ∧ (2 ≤ q + 1 → fnd (P (K + 1)) n = n)) := fun h => by
        by_cases e : q = 0
        · subst e
          rw [show K + ((0 : Nat) : Int) = K by simp] at h
          exact ⟨fun _ => h, fun h2 => absurd h2 (by decide)⟩
        · have e1 : q = 1 := by omega
          subst e1
          exact ⟨fun _ => hq1 (by omega), fun _ => h⟩
      have HQ : Hid (q < 2) := hlt
      have HP2 : Hid (∀ (i : Nat), P (K + (q : Int)) i = (((M i).1 == o) && (decide (t ≤ ocF s g M n i (K + (q : Int))) && okI (ocF s g M n i (K + (q : Int))) (ocF s g M n i (K + (q : Int)) + (M i).2)))) := HP.out (K + (q : Int))
      obtain ⟨-, y1, -⟩ := RW q hlt
      have HRW : Hid (∀ w', Rw2 w' b1 b2 s g M n K → OcRow w' b1 (q * n * 2) s g M n (K + (q : Int))) := fun w' h => (h q HQ.out).2.2
      clear hq1 hq2 hlt hq
      generalize P (K + (q : Int)) = Pq at *
      generalize K + (q : Int) = J at *
      generalize q * n * 2 = fo at *
      go_wp2_with fail
      clear y1
      go_loopw [33] (fun i wr => ∃ (j : Nat), j ≤ n ∧ i = .int .i64 j ∧ fnd Pq j = j ∧ Rw2 wr b1 b2 s g M n K ∧ Tx3 wr w.heap.size (.int .i64 s) (.int .i64 g) (.slice a n c) ∧ Below w.heap.size w wr) (fun i _ => n - (intOf i).toNat)
      case atStart => exact ⟨0, Nat.zero_le _, rfl, rfl, RW, N, B⟩
      case round =>
        clear N B RW
        obtain ⟨i, hi, rfl, hF, RW, N, B⟩ := hrel
        by_cases hlt : i < n
        · have hli : (i : Int) < (n : Int) := by omega
          have HLT : Hid (i < n) := hlt
          have HF : Hid (fnd Pq i = i) := hF
          have HI := HP2.out i
          have HJi : Hid (fnd Pq n = i → i < n → noB s g M n o t = true ∧ noI s g M n o t = i ∧ noT s g M n o t = ocF s g M n i J) := HJ.out i
          obtain ⟨y2, y3⟩ := (HRW.out _ RW).2 i hlt
          have LK : Hid (∀ w', SrcC w' a (n * 2) (MFSlot M) → ∃ b off, a = some ⟨b, off, none⟩ ∧ w'.cell? ⟨b, off + i * 2, none⟩ = some (.int .i64 (M i).1) ∧ w'.cell? ⟨b, off + i * 2 + 1, none⟩ = some (.int .i64 (M i).2)) := fun w' h => by
            rcases h with q | ⟨b, off, e, hc⟩
            · exact absurd q (by omega)
            · exact ⟨b, off, e, hc.elSlot hlt rfl⟩
          clear hF hlt hi HP HP2
          generalize ocF s g M n i J = X at *
          generalize X + (M i).2 = Y at *
          generalize (M i).1 = ow at *
          have HI : Hid (Pq i = ((ow == o) && (decide (t ≤ X) && okI X Y))) := HI
          have NL := Below.nw wr (.cells #[.int .i64 X, .int .i64 Y] 38)
          have Z := Bx2.new wr (.int .i64 X) (.int .i64 Y) 38
          go_upto_region 9 with fail
          replace B := B.trans (NL.mono B.size)
          replace N := N.below NL
          replace RW := RW.below' NL
          clear NL y2 y3
          generalize wr.alloc (.cells #[.int .i64 X, .int .i64 Y] 38) = w4 at *
          generalize wr.heap.size = jz at *
          obtain ⟨z0, z1, z2, z3, z4⟩ := id Z
          obtain ⟨b, off, rfl, c1, c2⟩ := LK.out w4 (HS.out.below B)
          clear LK
          obtain ⟨n0, n1, n2, n3, n4, n5, n6⟩ := id N
          cases ho : (ow == o)
          · have HM : Hid (fnd Pq (i + 1) = i + 1) := fnd_miss HF.out (by rw [HI.out, ho]; rfl)
            go_wp2_with fail
            go_roundw
            case rel => first | exact ⟨i + 1, HLT.out, by go_num, HM.out, RW, N, B⟩ | exact ⟨_, _, ⟨i + 1, HLT.out, rfl, HM.out⟩, rfl, by simp⟩
            case measure => have hlt' := HLT.out; simp [intOf]; omega
          by_cases hX : t ≤ X
          · cases hQ : okI X Y
            · have HM : Hid (fnd Pq (i + 1) = i + 1) := fnd_miss HF.out (by rw [HI.out, hQ]; simp)
              go_wp2_with fail
              refine (CK _ _ _).mono ?_
              rintro e w5 ⟨rfl, hb⟩
              clear n0 n1 n2 n3 n4 n5 n6
              replace B := B.trans (hb.mono B.size)
              replace N := N.below hb
              replace RW := RW.below' hb
              replace Z := Z.below hb
              clear hb z0 z1 z2 z3 z4 c1 c2
              obtain ⟨z0, z1, z2, z3, z4⟩ := id Z
              rw [hQ]
              go_wp2_with fail
              go_roundw
              case rel => first | exact ⟨i + 1, HLT.out, by go_num, HM.out, RW, N, B⟩ | exact ⟨_, _, ⟨i + 1, HLT.out, rfl, HM.out⟩, rfl, by simp⟩
              case measure => have hlt' := HLT.out; simp [intOf]; omega
            · have HM : Hid (fnd Pq n = i) := fnd_is HF.out (by rw [HI.out, ho, hQ, decide_eq_true hX]; rfl) HLT.out
              go_wp2_with fail
              refine (CK _ _ _).mono ?_
              rintro e w5 ⟨rfl, hb⟩
              clear n0 n1 n2 n3 n4 n5 n6
              replace B := B.trans (hb.mono B.size)
              replace N := N.below hb
              replace RW := RW.below' hb
              replace Z := Z.below hb
              clear hb z0 z1 z2 z3 z4 c1 c2
              obtain ⟨z0, z1, z2, z3, z4⟩ := id Z
              rw [hQ]
              go_upto_region 10 with fail
              refine wp_region_held_drew (S := (fun w' => w'.cell? ⟨jz, 0, none⟩ = some (.int .i64 X) ∧ w'.cell? ⟨jz, 1, none⟩ = some (.int .i64 Y))) (by kernel_rfl) ?_ (fun hHeld => ?_)
              · first | exact ⟨z1, z2⟩ | exact ⟨z1, z2⟩
              refine wpAnyH_take (i := 0) (v := ?_) (by rw [List.getElem?_toArray]; rfl) (by kernel_rfl) (by kernel_rfl) (by kernel_rfl) (by intro _ _ _ h; exact h) (Or.inl ⟨by rfl, ?_⟩) (by assumption) ?_
              rotate_left
              · (intro w hSw; (try dsimp only at hSw); go_simp; all_goals with_reducible rfl)
              (try simp only [Act.put, List.setIfInBounds_toArray, List.set_cons_zero, List.set_cons_succ])
              refine wpAnyH_take (i := 1) (v := ?_) (by rw [List.getElem?_toArray]; rfl) (by kernel_rfl) (by kernel_rfl) (by kernel_rfl) (by intro _ _ _ h; exact h) (Or.inl ⟨by rfl, ?_⟩) (by assumption) ?_
              rotate_left
              · (intro w hSw; (try dsimp only at hSw); go_simp; all_goals with_reducible rfl)
              (try simp only [Act.put, List.setIfInBounds_toArray, List.set_cons_zero, List.set_cons_succ])
              refine wpAnyH_take (i := 2) (v := ?_) (by rw [List.getElem?_toArray]; rfl) (by kernel_rfl) (by kernel_rfl) (by kernel_rfl) (by intro _ _ _ h; exact h) (Or.inl ⟨by rfl, ?_⟩) (by assumption) ?_
              rotate_left
              · (intro w hSw; (try dsimp only at hSw); go_simp; all_goals with_reducible rfl)
              (try simp only [Act.put, List.setIfInBounds_toArray, List.set_cons_zero, List.set_cons_succ])
              refine wpAnyH_take (i := 3) (v := ?_) (by rw [List.getElem?_toArray]; rfl) (by kernel_rfl) (by kernel_rfl) (by kernel_rfl) (by intro _ _ _ h; exact h) (Or.inl ⟨by rfl, ?_⟩) (by assumption) ?_
              rotate_left
              · (intro w hSw; (try dsimp only at hSw); go_simp; all_goals with_reducible rfl)
              (try simp only [Act.put, List.setIfInBounds_toArray, List.set_cons_zero, List.set_cons_succ])
              refine wpAnyH_take (i := 4) (v := ?_) (by rw [List.getElem?_toArray]; rfl) (by kernel_rfl) (by kernel_rfl) (by kernel_rfl) (by intro _ _ _ h; exact h) (Or.inl ⟨by rfl, ?_⟩) (by assumption) ?_
              rotate_left
              · (intro w hSw; (try dsimp only at hSw); go_simp; all_goals with_reducible rfl)
              (try simp only [Act.put, List.setIfInBounds_toArray, List.set_cons_zero, List.set_cons_succ])
              refine wpAnyH_take (i := 5) (v := ?_) (by rw [List.getElem?_toArray]; rfl) (by kernel_rfl) (by kernel_rfl) (by kernel_rfl) (by intro _ _ _ h; exact h) (Or.inl ⟨by rfl, ?_⟩) (by assumption) ?_
              rotate_left
              · (intro w hSw; (try dsimp only at hSw); go_simp; all_goals with_reducible rfl)
              (try simp only [Act.put, List.setIfInBounds_toArray, List.set_cons_zero, List.set_cons_succ])
              refine wpAnyH_done (by kernel_rfl) ?_ _
              go_wp2_with fail
              obtain ⟨e1, e2, e3⟩ := HJi.out HM.out HLT.out
              exact bodyPost_ret (v := (.tuple #[.int .i64 (i : Int), .int .i64 X, .bool true])) (by simp (maxDischargeDepth := 6) [results, Try.results31, go_sem, *]) rfl ⟨by rw [e1, e2, e3], Below.drew B⟩
          · have HM : Hid (fnd Pq (i + 1) = i + 1) := fnd_miss HF.out (by rw [HI.out, decide_eq_false hX]; simp)
            go_wp2_with fail
            go_roundw
            case rel => first | exact ⟨i + 1, HLT.out, by go_num, HM.out, RW, N, B⟩ | exact ⟨_, _, ⟨i + 1, HLT.out, rfl, HM.out⟩, rfl, by simp⟩
            case measure => have hlt' := HLT.out; simp [intOf]; omega
        · have hkn : i = n := by omega
          subst hkn
          have hli : ¬ (i : Int) < (i : Int) := by omega
          have HZ2 : Hid ((1 ≤ q + 1 → fnd (P K) i = i) ∧ (2 ≤ q + 1 → fnd (P (K + 1)) i = i)) := HZ.out hF
          clear hF
          go_wp2_with fail
          go_roundw
          case rel => exact ⟨q + 1, HQ.out, by go_num, HZ2.out.1, HZ2.out.2, RW, N, B⟩
          case measure => have h1' := HQ.out; simp [intOf]; omega
    · have e2 : q = 2 := by omega
      subst e2
      have hlj : ¬ ((2 : Nat) : Int) < 2 := by omega
      have HA : Hid (fnd (P K) n = n) := hq1 (by omega)
      have HB : Hid (fnd (P (K + 1)) n = n) := hq2 (by omega)
      clear hq1 hq2
      go_wp2_with fail
      obtain ⟨e1, e2, e3⟩ := H0.out HA.out HB.out
      exact bodyPost_ret (v := (.tuple #[.int .i64 0, .int .i64 0, .bool false])) (by simp (maxDischargeDepth := 6) [results, Try.results31, go_sem, *]) rfl ⟨by rw [e1, e2, e3], B⟩
end Go.Proofs.Ytkdbgchmknanlaa
