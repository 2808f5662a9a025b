/- SlotFrom and Occurrence in the program. SlotAt and InSlot in the program. Contracts of the program's CarryOn. -/
import Derived.Test.YtcakhfobkbgfoaaDoorMB4
import Derived.Deep.RegionHeld3
import Derived.WalkKit
import Derived.WalkSpells
import Derived.WalkLawsBesides
import Derived.Deep.RegionHeld
import Derived.Test.YtcakhfobkbgfoaaDoorMB2
import Derived.Deep.DeepCutAuto
namespace Go.Proofs.YtcakhfobkbgfoaaDoor
open Go.RowKit
set_option linter.unusedVariables false
/- When a slot begins in a round, in the program. -/
theorem oc_all {s g : Int} {M : Nat → SlT} {n : Nat} {i k : Int} (e : ocB s g M n i k = false) : ocB s g M n i k = false ∧ ocL s g M n i k = 0 ∧ ocH s g M n i k = 0 := ⟨e, oc_no e⟩
theorem oc_sel2 {s g : Int} {M : Nat → SlT} {n : Nat} {i : Nat} {k : Int} (hp : plB s g M n = true) (hi : i < n) (h0 : 0 ≤ k) : ocB s g M n i k = okI (ocF s g M n i k) (ocF s g M n i k + (M i).2) ∧ ocL s g M n i k = sel (okI (ocF s g M n i k) (ocF s g M n i k + (M i).2)) (ocF s g M n i k) ∧ ocH s g M n i k = sel (okI (ocF s g M n i k) (ocF s g M n i k + (M i).2)) (ocF s g M n i k + (M i).2) := by
  have e := oc_ok hp hi h0
  refine ⟨e, ?_, ?_⟩
  · unfold ocL; rw [e]; cases okI (ocF s g M n i k) (ocF s g M n i k + (M i).2) <;> rfl
  · unfold ocH; rw [e, Int.toNat_natCast]; cases okI (ocF s g M n i k) (ocF s g M n i k + (M i).2) <;> rfl
set_option maxRecDepth 100000 in
set_option maxHeartbeats 8000000 in
theorem implOccurrence_any (s g : Int) (a : Option Addr) (n c : Nat) (M : Nat → SlT) (i k : Int) (w : World) (hm : n ≤ maxLen) (hs : SrcC w a (n * 2) (MFSlot M)) :
    Calls Tryd.prog 14 #[.agg #[.int .i64 s, .int .i64 g, .slice a n c], .int .i64 i, .int .i64 k] w fun e w' => e = .returned (.tuple #[.agg #[.int .i64 (ocL s g M n i k), .int .i64 (ocH s g M n i k)], .bool (ocB s g M n i k)]) ∧ Below w.heap.size w w' := by
  have A0 := Below.nw w (.cells #[.int .i64 s, .int .i64 g, .slice a n c] 30)
  have A1 := Below.nw (w.alloc (.cells #[.int .i64 s, .int .i64 g, .slice a n c] 30)) (.cells #[.int .i64 0, .int .i64 0] 25)
  have N := (Tx3.new w (.int .i64 s) (.int .i64 g) (.slice a n c) 30).below A1
  have R := Bx2.new (w.alloc (.cells #[.int .i64 s, .int .i64 g, .slice a n c] 30)) (.int .i64 0) (.int .i64 0) 25
  have B := A0.trans (A1.mono A0.size)
  simp only [World.size_alloc] at R
  clear A0 A1
  have hj : w.heap.size ≤ w.heap.size + 1 := by omega
  have HS : Hid (SrcC w a (n * 2) (MFSlot M)) := hs
  clear hs
  have C1 := fun w' h => planHas_any s g a n c M i w' hm h
  cases h1 : sfB s g M n i
  · obtain ⟨e1, e2, e3⟩ := oc_all (s := s) (g := g) (M := M) (n := n) (i := i) (k := k) (by unfold ocB ocG; rw [h1]; rfl)
    rw [e1, e2, e3]
    rw [h1] at C1
    clear e1 e2 e3
    go_enter Tryd.func14, Tryd.ntmps14
    go_upto_region 1 with fail
    generalize (w.alloc (.cells #[.int .i64 s, .int .i64 g, .slice a n c] 30)).alloc (.cells #[.int .i64 0, .int .i64 0] 25) = v at *
    generalize w.heap.size + 1 = jr at *
    obtain ⟨n0, n1, n2, n3, n4, n5, n6⟩ := id N
    go_wp2_with fail
    refine (C1 _ (HS.out.below B)).mono ?_
    rintro e v1 ⟨rfl, hb⟩
    clear n0 n1 n2 n3 n4 n5 n6
    replace B := B.trans (hb.mono B.size)
    replace N := N.below hb
    replace R := R.below hb
    clear hb
    have RR := (R.set0 (.int .i64 0)).set1 (.int .i64 0)
    have BB := (B.setCell (p := ⟨jr, 0, none⟩) hj (.int .i64 0)).setCell (p := ⟨jr, 1, none⟩) hj (.int .i64 0)
    obtain ⟨r0, r1, r2, r3, r4⟩ := id R
    go_wp2_with fail
    clear r0 r1 r2 r3 r4
    generalize (v1.setCell ⟨jr, 0, none⟩ (.int .i64 0)).setCell ⟨jr, 1, none⟩ (.int .i64 0) = vz at *
    obtain ⟨r0, r1, r2, r3, r4⟩ := id RR
    exact bodyPost_ret (v := (.tuple #[.agg #[.int .i64 0, .int .i64 0], .bool false])) (by simp (maxDischargeDepth := 6) [results, Tryd.results14, go_sem, *]) rfl ⟨rfl, BB⟩
  rw [h1] at C1
  obtain ⟨q1, q2, q3, q4⟩ := sfB_t h1
  by_cases h2 : k < 0
  · obtain ⟨e1, e2, e3⟩ := oc_all (s := s) (g := g) (M := M) (n := n) (i := i) (k := k) (by unfold ocB ocG okK; rw [decide_eq_false (show ¬ (0 ≤ k ∧ k ≤ 1000000000000) by omega)]; simp)
    rw [e1, e2, e3]
    clear e1 e2 e3 q1 q2 q3 q4
    go_enter Tryd.func14, Tryd.ntmps14
    go_upto_region 1 with fail
    generalize (w.alloc (.cells #[.int .i64 s, .int .i64 g, .slice a n c] 30)).alloc (.cells #[.int .i64 0, .int .i64 0] 25) = v at *
    generalize w.heap.size + 1 = jr at *
    obtain ⟨n0, n1, n2, n3, n4, n5, n6⟩ := id N
    go_wp2_with fail
    refine (C1 _ (HS.out.below B)).mono ?_
    rintro e v1 ⟨rfl, hb⟩
    clear n0 n1 n2 n3 n4 n5 n6
    replace B := B.trans (hb.mono B.size)
    replace N := N.below hb
    replace R := R.below hb
    clear hb
    have RR := (R.set0 (.int .i64 0)).set1 (.int .i64 0)
    have BB := (B.setCell (p := ⟨jr, 0, none⟩) hj (.int .i64 0)).setCell (p := ⟨jr, 1, none⟩) hj (.int .i64 0)
    obtain ⟨r0, r1, r2, r3, r4⟩ := id R
    go_wp2_with fail
    clear r0 r1 r2 r3 r4
    generalize (v1.setCell ⟨jr, 0, none⟩ (.int .i64 0)).setCell ⟨jr, 1, none⟩ (.int .i64 0) = vz at *
    obtain ⟨r0, r1, r2, r3, r4⟩ := id RR
    exact bodyPost_ret (v := (.tuple #[.agg #[.int .i64 0, .int .i64 0], .bool false])) (by simp (maxDischargeDepth := 6) [results, Tryd.results14, go_sem, *]) rfl ⟨rfl, BB⟩
  have CA := fun w' h => roundAt_any s g a n c M 1000000000000 w' q1 (by decide) h
  by_cases h3 : raI s g M n 1000000000000 < k
  · obtain ⟨e1, e2, e3⟩ := oc_all (oc_late (i := i) q1 h3)
    rw [e1, e2, e3]
    clear e1 e2 e3 q1 q2 q3 q4
    generalize raI s g M n 1000000000000 = rr at *
    go_enter Tryd.func14, Tryd.ntmps14
    go_upto_region 1 with fail
    generalize (w.alloc (.cells #[.int .i64 s, .int .i64 g, .slice a n c] 30)).alloc (.cells #[.int .i64 0, .int .i64 0] 25) = v at *
    generalize w.heap.size + 1 = jr at *
    obtain ⟨n0, n1, n2, n3, n4, n5, n6⟩ := id N
    go_wp2_with fail
    refine (C1 _ (HS.out.below B)).mono ?_
    rintro e v1 ⟨rfl, hb⟩
    clear n0 n1 n2 n3 n4 n5 n6
    replace B := B.trans (hb.mono B.size)
    replace N := N.below hb
    replace R := R.below hb
    clear hb
    obtain ⟨n0, n1, n2, n3, n4, n5, n6⟩ := id N
    go_wp2_with fail
    refine (CA _ (HS.out.below B)).mono ?_
    rintro e v2 ⟨rfl, hb⟩
    clear n0 n1 n2 n3 n4 n5 n6
    replace B := B.trans (hb.mono B.size)
    replace N := N.below hb
    replace R := R.below hb
    clear hb
    have RR := (R.set0 (.int .i64 0)).set1 (.int .i64 0)
    have BB := (B.setCell (p := ⟨jr, 0, none⟩) hj (.int .i64 0)).setCell (p := ⟨jr, 1, none⟩) hj (.int .i64 0)
    obtain ⟨r0, r1, r2, r3, r4⟩ := id R
    go_wp2_with fail
    clear r0 r1 r2 r3 r4
    generalize (v2.setCell ⟨jr, 0, none⟩ (.int .i64 0)).setCell ⟨jr, 1, none⟩ (.int .i64 0) = vz at *
    obtain ⟨r0, r1, r2, r3, r4⟩ := id RR
    exact bodyPost_ret (v := (.tuple #[.agg #[.int .i64 0, .int .i64 0], .bool false])) (by simp (maxDischargeDepth := 6) [results, Tryd.results14, go_sem, *]) rfl ⟨rfl, BB⟩
  have CD := fun w' h => rounds1_any s g a n c M k w' q1 (ra_kOk q1 (t := 1000000000000) (by decide) (by omega) (by omega)) h
  have HI : Hid (i.toNat < n) := q3
  have hiN : i = ((i.toNat : Nat) : Int) := q4.symm
  have hli : (i.toNat : Int) < (n : Int) := by omega
  obtain ⟨e1, e2, e3⟩ := oc_sel2 (i := i.toNat) (k := k) q1 q3 (by omega)
  have CT := fun w' => told_any (ocF s g M n (i.toNat : Int) k) (ocF s g M n (i.toNat : Int) k + (M i.toNat).2) w'
  clear q1 q2 q3 q4 h1
  generalize i.toNat = iN at *
  subst hiN
  rw [e1, e2, e3]
  clear e1 e2 e3
  generalize raI s g M n 1000000000000 = rr at *
  generalize sel (okI (ocF s g M n (iN : Int) k) (ocF s g M n (iN : Int) k + (M iN).2)) (ocF s g M n (iN : Int) k) = X at *
  generalize sel (okI (ocF s g M n (iN : Int) k) (ocF s g M n (iN : Int) k + (M iN).2)) (ocF s g M n (iN : Int) k + (M iN).2) = Y at *
  generalize okI (ocF s g M n (iN : Int) k) (ocF s g M n (iN : Int) k + (M iN).2) = Q at *
  go_enter Tryd.func14, Tryd.ntmps14
  go_upto_region 1 with fail
  generalize (w.alloc (.cells #[.int .i64 s, .int .i64 g, .slice a n c] 30)).alloc (.cells #[.int .i64 0, .int .i64 0] 25) = v at *
  generalize w.heap.size + 1 = jr at *
  obtain ⟨n0, n1, n2, n3, n4, n5, n6⟩ := id N
  go_wp2_with fail
  refine (C1 _ (HS.out.below B)).mono ?_
  rintro e v1 ⟨rfl, hb⟩
  clear n0 n1 n2 n3 n4 n5 n6
  replace B := B.trans (hb.mono B.size)
  replace N := N.below hb
  replace R := R.below hb
  clear hb
  obtain ⟨n0, n1, n2, n3, n4, n5, n6⟩ := id N
  go_wp2_with fail
  refine (CA _ (HS.out.below B)).mono ?_
  rintro e v2 ⟨rfl, hb⟩
  clear n0 n1 n2 n3 n4 n5 n6
  replace B := B.trans (hb.mono B.size)
  replace N := N.below hb
  replace R := R.below hb
  clear hb
  obtain ⟨n0, n1, n2, n3, n4, n5, n6⟩ := id N
  go_wp2_with fail
  refine (CD _ (HS.out.below B)).mono ?_
  rintro e v3 ⟨b1, b2, rfl, y1, RO, hb⟩
  clear n0 n1 n2 n3 n4 n5 n6
  replace B := B.trans (hb.mono B.size)
  replace N := N.below hb
  replace R := R.below hb
  clear hb
  obtain ⟨y2, y3⟩ := RO.2 iN HI.out
  rw [Nat.zero_add] at y2 y3
  clear RO CD CA C1
  go_wp2_with fail
  refine (CT _).mono ?_
  rintro e v5 ⟨rfl, hb⟩
  clear y1 y2 y3
  replace B := B.trans (hb.mono B.size)
  replace N := N.below hb
  replace R := R.below hb
  clear hb
  have RR := (R.set0 (.int .i64 X)).set1 (.int .i64 Y)
  have BB := (B.setCell (p := ⟨jr, 0, none⟩) hj (.int .i64 X)).setCell (p := ⟨jr, 1, none⟩) hj (.int .i64 Y)
  obtain ⟨r0, r1, r2, r3, r4⟩ := id R
  go_wp2_with fail
  clear r0 r1 r2 r3 r4
  generalize (v5.setCell ⟨jr, 0, none⟩ (.int .i64 X)).setCell ⟨jr, 1, none⟩ (.int .i64 Y) = vz at *
  obtain ⟨r0, r1, r2, r3, r4⟩ := id RR
  exact bodyPost_ret (v := (.tuple #[.agg #[.int .i64 X, .int .i64 Y], .bool Q])) (by simp (maxDischargeDepth := 6) [results, Tryd.results14, go_sem, *]) rfl ⟨rfl, BB⟩
end Go.Proofs.YtcakhfobkbgfoaaDoor
namespace Go.Proofs.YtcakhfobkbgfoaaDoor
open Go.RowKit
set_option linter.unusedVariables false
/- The slot and the round at a time, in the program. -/
def sqP (s g : Int) (M : Nat → SlT) (n : Nat) (t : Int) (j : Nat) : Bool := okI (ocF s g M n j (raI s g M n t)) (ocF s g M n j (raI s g M n t) + (M j).2) && (decide (ocF s g M n j (raI s g M n t) ≤ t) && decide (t < ocF s g M n j (raI s g M n t) + (M j).2))
theorem fnd_congr {P Q : Nat → Bool} {n : Nat} (h : ∀ j, j < n → P j = Q j) : ∀ j, j ≤ n → fnd P j = fnd Q j
  | 0, _ => rfl
  | j + 1, hj => by rw [fnd, fnd, fnd_congr h j (by omega), h j (by omega)]
theorem fnd_all {P : Nat → Bool} {n : Nat} (h : ∀ j, j < n → P j = false) : ∀ j, j ≤ n → fnd P j = j
  | 0, _ => rfl
  | j + 1, hj => fnd_miss (fnd_all h j (by omega)) (h j (by omega))
theorem sqP_is {s g : Int} {M : Nat → SlT} {n : Nat} {t : Int} (hp : plB s g M n = true) (hst : s ≤ t) {j : Nat} (hj : j < n) : saP s g M n t j = sqP s g M n t j := by
  obtain ⟨e1, e2, e3⟩ := oc_sel2 (k := raI s g M n t) hp hj (ra_zero hp)
  unfold saP sqP
  rw [ra_sa hst, e1, e2, e3]
  cases okI (ocF s g M n j (raI s g M n t)) (ocF s g M n j (raI s g M n t) + (M j).2) <;> rfl
theorem sqP_no {s g : Int} {M : Nat → SlT} {n : Nat} {t : Int} (hp : plB s g M n = true) (hst : t < s) {j : Nat} (hj : j < n) : sqP s g M n t j = false := by
  obtain ⟨p1, p2, p3, p4⟩ := plB_t hp
  have hr := rn_bd hp
  have hu := upS_bd p2 p4 j (by omega)
  have hk := Int.mul_nonneg (ra_zero (t := t) hp) (show 0 ≤ upS g M n by omega)
  have hlt : ¬ ocF s g M n j (raI s g M n t) ≤ t := by
    unfold ocF
    rw [Int.toNat_natCast]
    omega
  unfold sqP
  rw [decide_eq_false hlt]
  simp
theorem sq_none {s g : Int} {M : Nat → SlT} {n : Nat} {t : Int} (hp : plB s g M n = true) (h : fnd (sqP s g M n t) n = n) : saB s g M n t = false ∧ saI s g M n t = 0 ∧ saK s g M n t = 0 := by
  by_cases hst : s ≤ t
  · exact sa_none (by rw [fnd_congr (fun j hj => sqP_is hp hst hj) n (Nat.le_refl _)]; exact h)
  · exact sa_out (by unfold saG; rw [decide_eq_true (show t < s by omega)]; simp)
theorem sq_one {s g : Int} {M : Nat → SlT} {n : Nat} {t : Int} (hp : plB s g M n = true) (ht : okT t = true) {j : Nat} (h : fnd (sqP s g M n t) n = j) (hj : j < n) : saB s g M n t = true ∧ saI s g M n t = j ∧ saK s g M n t = raI s g M n t := by
  by_cases hst : s ≤ t
  · obtain ⟨e1, e2, e3⟩ := sa_one (show saG s g M n t = true by unfold saG; rw [hp, ht, decide_eq_false (show ¬ t < s by omega)]; rfl) (by rw [fnd_congr (fun j hj => sqP_is hp hst hj) n (Nat.le_refl _)]; exact h) hj
    exact ⟨e1, e2, e3.trans (ra_sa hst)⟩
  · exfalso
    have := fnd_all (P := sqP s g M n t) (fun j hj => sqP_no hp (show t < s by omega) hj) n (Nat.le_refl _)
    omega
set_option maxRecDepth 100000 in
set_option maxHeartbeats 8000000 in
theorem implSlotAt_any (s g : Int) (a : Option Addr) (n c : Nat) (M : Nat → SlT) (t : Int) (w : World) (hm : n ≤ maxLen) (hs : SrcC w a (n * 2) (MFSlot M)) :
    Calls Tryd.prog 114 #[.agg #[.int .i64 s, .int .i64 g, .slice a n c], .int .i64 t] w fun e w' => e = .returned (.tuple #[.int .i64 (saI s g M n t), .int .i64 (saK s g M n t), .bool (saB s g M n t)]) ∧ Below w.heap.size w w' := by
  have B := Below.nw w (.cells #[.int .i64 s, .int .i64 g, .slice a n c] 30)
  have N := Tx3.new w (.int .i64 s) (.int .i64 g) (.slice a n c) 30
  have HS : Hid (SrcC w a (n * 2) (MFSlot M)) := hs
  clear hs
  have C1 := fun w' h => planOk_any s g a n c M w' hm h
  have CT := fun w' => isTime_any t w'
  cases h1 : plB s g M n
  · obtain ⟨e1, e2, e3⟩ := sa_out (t := t) (show saG s g M n t = false by unfold saG; rw [h1]; rfl)
    rw [e1, e2, e3]
    rw [h1] at C1
    clear e1 e2 e3
    go_enter Tryd.func114, Tryd.ntmps114
    go_upto_region 1 with fail
    generalize w.alloc (.cells #[.int .i64 s, .int .i64 g, .slice a n c] 30) = v at *
    obtain ⟨n0, n1, n2, n3, n4, n5, n6⟩ := id N
    go_wp2_with fail
    refine (C1 _ (HS.out.below B)).mono ?_
    rintro e v1 ⟨rfl, hb⟩
    clear n0 n1 n2 n3 n4 n5 n6
    replace B := B.trans (hb.mono B.size)
    replace N := N.below hb
    clear hb
    go_wp2_with fail
    exact bodyPost_ret (v := (.tuple #[.int .i64 0, .int .i64 0, .bool false])) (by simp (maxDischargeDepth := 6) [results, Tryd.results114, go_sem, *]) rfl ⟨rfl, B⟩
  cases h2 : okT t
  · obtain ⟨e1, e2, e3⟩ := sa_out (show saG s g M n t = false by unfold saG; rw [h1, h2]; rfl)
    rw [e1, e2, e3]
    rw [h1] at C1
    clear e1 e2 e3
    go_enter Tryd.func114, Tryd.ntmps114
    go_upto_region 1 with fail
    generalize w.alloc (.cells #[.int .i64 s, .int .i64 g, .slice a n c] 30) = v at *
    obtain ⟨n0, n1, n2, n3, n4, n5, n6⟩ := id N
    go_wp2_with fail
    refine (C1 _ (HS.out.below B)).mono ?_
    rintro e v1 ⟨rfl, hb⟩
    clear n0 n1 n2 n3 n4 n5 n6
    replace B := B.trans (hb.mono B.size)
    replace N := N.below hb
    clear hb
    go_wp2_with fail
    refine (CT _).mono ?_
    rintro e w' ⟨rfl, rfl⟩
    rw [h2]
    go_wp2_with fail
    exact bodyPost_ret (v := (.tuple #[.int .i64 0, .int .i64 0, .bool false])) (by simp (maxDischargeDepth := 6) [results, Tryd.results114, go_sem, *]) rfl ⟨rfl, B⟩
  have ht : 0 ≤ t ∧ t ≤ 1000000000000 := by unfold okT at h2; simpa using h2
  obtain ⟨p1, p2, p3, p4⟩ := plB_t h1
  have CA := fun w' h => roundAt_any s g a n c M t w' h1 ht h
  have CD := fun w' h => rounds1_any s g a n c M (raI s g M n t) w' h1 (ra_kOk h1 ht (ra_zero h1) (Int.le_refl _)) h
  have CK := fun (x y : Int) w' => ok_any x y w'
  have HP : Hid (∀ j : Nat, sqP s g M n t j = (okI (ocF s g M n j (raI s g M n t)) (ocF s g M n j (raI s g M n t) + (M j).2) && (decide (ocF s g M n j (raI s g M n t) ≤ t) && decide (t < ocF s g M n j (raI s g M n t) + (M j).2)))) := fun j => rfl
  have H0 : Hid (fnd (sqP s g M n t) n = n → saB s g M n t = false ∧ saI s g M n t = 0 ∧ saK s g M n t = 0) := sq_none h1
  have H1 : Hid (∀ j, fnd (sqP s g M n t) n = j → j < n → saB s g M n t = true ∧ saI s g M n t = j ∧ saK s g M n t = raI s g M n t) := fun j h hj => sq_one h1 h2 h hj
  have hn2 : n ≤ 12 := p3.2
  rw [h1] at C1
  clear p1 p2 p3 p4 h1 ht hm
  generalize sqP s g M n t = P at *
  generalize raI s g M n t = K at *
  go_enter Tryd.func114, Tryd.ntmps114
  go_upto_region 1 with fail
  generalize w.alloc (.cells #[.int .i64 s, .int .i64 g, .slice a n c] 30) = v at *
  obtain ⟨n0, n1, n2, n3, n4, n5, n6⟩ := id N
  go_wp2_with fail
  refine (C1 _ (HS.out.below B)).mono ?_
  rintro e v1 ⟨rfl, hb⟩
  clear n0 n1 n2 n3 n4 n5 n6
  replace B := B.trans (hb.mono B.size)
  replace N := N.below hb
  clear hb
  go_wp2_with fail
  refine (CT _).mono ?_
  rintro e w' ⟨rfl, rfl⟩
  rw [h2]
  clear C1 CT h2
  obtain ⟨n0, n1, n2, n3, n4, n5, n6⟩ := id N
  go_wp2_with fail
  refine (CA _ (HS.out.below B)).mono ?_
  rintro e v2 ⟨rfl, hb⟩
  clear n0 n1 n2 n3 n4 n5 n6
  replace B := B.trans (hb.mono B.size)
  replace N := N.below hb
  clear hb
  clear CA
  obtain ⟨n0, n1, n2, n3, n4, n5, n6⟩ := id N
  go_wp2_with fail
  refine (CD _ (HS.out.below B)).mono ?_
  rintro e v3 ⟨b1, b2, rfl, y1, RO, hb⟩
  clear n0 n1 n2 n3 n4 n5 n6
  replace B := B.trans (hb.mono B.size)
  replace N := N.below hb
  clear hb
  clear CD
  go_wp2_with fail
  go_loopw [27] (fun i wr => ∃ (j : Nat), j ≤ n ∧ i = .int .i64 j ∧ fnd P j = j ∧ OcRow wr b1 0 s g M n K ∧ Tx3 wr w.heap.size (.int .i64 s) (.int .i64 g) (.slice a n c) ∧ Below w.heap.size w wr) (fun i _ => n - (intOf i).toNat)
  case atStart => exact ⟨0, Nat.zero_le _, rfl, rfl, RO, N, B⟩
  case round =>
    clear N B RO y1
    obtain ⟨j, hj, rfl, hF, RO, N, B⟩ := hrel
    by_cases hlt : j < n
    · have hli : (j : Int) < (n : Int) := by omega
      have HLT : Hid (j < n) := hlt
      have HF : Hid (fnd P j = j) := hF
      have HJ := HP.out j
      obtain ⟨y2, y3⟩ := RO.2 j hlt
      rw [Nat.zero_add] at y2 y3
      generalize ocF s g M n j K = X at *
      generalize X + (M j).2 = Y at *
      have HJ : Hid (P j = (okI X Y && (decide (X ≤ t) && decide (t < Y)))) := HJ
      clear hF hlt hj
      have NL := Below.nw wr (.cells #[.int .i64 X, .int .i64 Y] 25)
      have Z := Bx2.new wr (.int .i64 X) (.int .i64 Y) 25
      go_upto_region 7 with fail
      replace B := B.trans (NL.mono B.size)
      replace N := N.below NL
      replace RO := RO.below' NL
      clear NL y2 y3
      generalize wr.alloc (.cells #[.int .i64 X, .int .i64 Y] 25) = w4 at *
      generalize wr.heap.size = jz at *
      obtain ⟨z0, z1, z2, z3, z4⟩ := id Z
      cases hQ : okI X Y
      · have HM : Hid (fnd P (j + 1) = j + 1) := fnd_miss HF.out (by rw [HJ.out, hQ]; rfl)
        go_wp2_with fail
        refine (CK _ _ _).mono ?_
        rintro e w5 ⟨rfl, hb⟩
        replace B := B.trans (hb.mono B.size)
        replace N := N.below hb
        replace RO := RO.below' hb
        replace Z := Z.below hb
        clear hb z0 z1 z2 z3 z4
        obtain ⟨z0, z1, z2, z3, z4⟩ := id Z
        rw [hQ]
        go_wp2_with fail
        go_roundw
        case rel => first | exact ⟨j + 1, HLT.out, by go_num, HM.out, RO, N, B⟩ | exact ⟨_, _, ⟨j + 1, HLT.out, rfl, HM.out⟩, rfl, by simp⟩
        case measure => have hlt' := HLT.out; simp [intOf]; omega
      by_cases hX : X ≤ t
      · by_cases hY : t < Y
        · have HM : Hid (fnd P n = j) := fnd_is HF.out (by rw [HJ.out, hQ, decide_eq_true hX, decide_eq_true hY]; rfl) HLT.out
          go_wp2_with fail
          refine (CK _ _ _).mono ?_
          rintro e w5 ⟨rfl, hb⟩
          replace B := B.trans (hb.mono B.size)
          replace N := N.below hb
          replace RO := RO.below' hb
          replace Z := Z.below hb
          clear hb z0 z1 z2 z3 z4
          obtain ⟨z0, z1, z2, z3, z4⟩ := id Z
          rw [hQ]
          go_wp2_with fail
          obtain ⟨e1, e2, e3⟩ := H1.out j HM.out HLT.out
          exact bodyPost_ret (v := (.tuple #[.int .i64 (j : Int), .int .i64 K, .bool true])) (by simp (maxDischargeDepth := 6) [results, Tryd.results114, go_sem, *]) rfl ⟨by rw [e1, e2, e3], B⟩
        · have HM : Hid (fnd P (j + 1) = j + 1) := fnd_miss HF.out (by rw [HJ.out, decide_eq_false hY]; simp)
          go_wp2_with fail
          refine (CK _ _ _).mono ?_
          rintro e w5 ⟨rfl, hb⟩
          replace B := B.trans (hb.mono B.size)
          replace N := N.below hb
          replace RO := RO.below' hb
          replace Z := Z.below hb
          clear hb z0 z1 z2 z3 z4
          obtain ⟨z0, z1, z2, z3, z4⟩ := id Z
          rw [hQ]
          go_wp2_with fail
          go_roundw
          case rel => first | exact ⟨j + 1, HLT.out, by go_num, HM.out, RO, N, B⟩ | exact ⟨_, _, ⟨j + 1, HLT.out, rfl, HM.out⟩, rfl, by simp⟩
          case measure => have hlt' := HLT.out; simp [intOf]; omega
      · have HM : Hid (fnd P (j + 1) = j + 1) := fnd_miss HF.out (by rw [HJ.out, decide_eq_false hX]; simp)
        go_wp2_with fail
        refine (CK _ _ _).mono ?_
        rintro e w5 ⟨rfl, hb⟩
        replace B := B.trans (hb.mono B.size)
        replace N := N.below hb
        replace RO := RO.below' hb
        replace Z := Z.below hb
        clear hb z0 z1 z2 z3 z4
        obtain ⟨z0, z1, z2, z3, z4⟩ := id Z
        rw [hQ]
        go_wp2_with fail
        go_roundw
        case rel => first | exact ⟨j + 1, HLT.out, by go_num, HM.out, RO, N, B⟩ | exact ⟨_, _, ⟨j + 1, HLT.out, rfl, HM.out⟩, rfl, by simp⟩
        case measure => have hlt' := HLT.out; simp [intOf]; omega
    · have hkn : j = n := by omega
      subst hkn
      have hli : ¬ (j : Int) < (j : Int) := by omega
      have HF : Hid (fnd P j = j) := hF
      clear hF
      go_wp2_with fail
      obtain ⟨e1, e2, e3⟩ := H0.out HF.out
      exact bodyPost_ret (v := (.tuple #[.int .i64 0, .int .i64 0, .bool false])) (by simp (maxDischargeDepth := 6) [results, Tryd.results114, go_sem, *]) rfl ⟨by rw [e1, e2, e3], B⟩

set_option maxRecDepth 100000 in
set_option maxHeartbeats 8000000 in
theorem implInSlot_any (s g : Int) (a : Option Addr) (n c : Nat) (M : Nat → SlT) (o f t : Int) (w : World) (hm : n ≤ maxLen) (hs : SrcC w a (n * 2) (MFSlot M)) :
    Calls Tryd.prog 105 #[.agg #[.int .i64 s, .int .i64 g, .slice a n c], .int .i64 o, .int .i64 f, .int .i64 t] w fun e w' => e = .returned (.tuple #[.int .i64 (isI s g M n o f t), .int .i64 (isK s g M n o f t), .bool (isB s g M n o f t)]) ∧ Below w.heap.size w w' := by
  have B := Below.nw w (.cells #[.int .i64 s, .int .i64 g, .slice a n c] 30)
  have N := Tx3.new w (.int .i64 s) (.int .i64 g) (.slice a n c) 30
  have HS : Hid (SrcC w a (n * 2) (MFSlot M)) := hs
  clear hs
  have C1 := fun w' h => implSlotAt_any s g a n c M f w' hm h
  cases h1 : saB s g M n f
  · have hB : isB s g M n o f t = false := by unfold isB; rw [h1]; rfl
    rw [(is_no hB).1, (is_no hB).2, hB]
    rw [h1, (sa_no h1).1, (sa_no h1).2] at C1
    clear hB
    go_enter Tryd.func105, Tryd.ntmps105
    go_upto_region 1 with fail
    generalize w.alloc (.cells #[.int .i64 s, .int .i64 g, .slice a n c] 30) = v at *
    obtain ⟨n0, n1, n2, n3, n4, n5, n6⟩ := id N
    go_wp2_with fail
    refine (C1 _ (HS.out.below B)).mono ?_
    rintro e v1 ⟨rfl, hb⟩
    clear n0 n1 n2 n3 n4 n5 n6
    replace B := B.trans (hb.mono B.size)
    replace N := N.below hb
    clear hb
    obtain ⟨n0, n1, n2, n3, n4, n5, n6⟩ := id N
    go_wp2_with fail
    exact bodyPost_ret (v := (.tuple #[.int .i64 0, .int .i64 0, .bool false])) (by simp (maxDischargeDepth := 6) [results, Tryd.results105, go_sem, *]) rfl ⟨rfl, B⟩
  obtain ⟨y1, y2, y3, y4⟩ := sa_yes h1
  have CO := fun w' h => implOccurrence_any s g a n c M (saI s g M n f) (saK s g M n f) w' hm h
  have hiN : (saI s g M n f).toNat < n := by rw [y1]; omega
  have hiE : saI s g M n f = ((saI s g M n f).toNat : Int) := by rw [y1]; omega
  have LK : Hid (∀ w', SrcC w' a (n * 2) (MFSlot M) → ∃ b off, a = some ⟨b, off, none⟩ ∧ w'.cell? ⟨b, off + (saI s g M n f).toNat * 2, none⟩ = some (.int .i64 (M (saI s g M n f).toNat).1) ∧ w'.cell? ⟨b, off + (saI s g M n f).toNat * 2 + 1, none⟩ = some (.int .i64 (M (saI s g M n f).toNat).2)) := fun w' h => by
    rcases h with q | ⟨b, off, e, hc⟩
    · exact absurd q (by omega)
    · exact ⟨b, off, e, hc.elSlot hiN rfl⟩
  have HB : isB s g M n o f t = (((M (saI s g M n f).toNat).1 == o) && (!decide (t < f) && !decide (ocH s g M n (saI s g M n f) (saK s g M n f) < t))) := by unfold isB; rw [h1]; rfl
  rw [h1] at C1
  have HI : Hid (((saI s g M n f).toNat : Int) < (n : Int)) := by rw [Hid]; omega
  have H0 : Hid (isB s g M n o f t = false → isI s g M n o f t = 0 ∧ isK s g M n o f t = 0) := is_no
  have H1 : Hid (isB s g M n o f t = true → isI s g M n o f t = saI s g M n f ∧ isK s g M n o f t = saK s g M n f) := is_yes
  clear y1 y2 y3 y4 h1 hiN
  generalize isI s g M n o f t = AI at *
  generalize isK s g M n o f t = AK at *
  generalize isB s g M n o f t = AB at *
  generalize ocL s g M n (saI s g M n f) (saK s g M n f) = X at *
  generalize ocH s g M n (saI s g M n f) (saK s g M n f) = Y at *
  generalize ocB s g M n (saI s g M n f) (saK s g M n f) = Q at *
  generalize saK s g M n f = K at *
  generalize hS : saI s g M n f = I at *
  clear hS
  generalize I.toNat = iN at *
  subst hiE
  generalize (M iN).1 = ow at *
  generalize (M iN).2 = lg at *
  have hli := HI.out
  cases ho : (ow == o)
  · have hne : (ow != o) = true := by rw [bne, ho]; rfl
    have e0 : AB = false := by rw [HB, ho]; rfl
    subst e0
    obtain ⟨rfl, rfl⟩ := H0.out rfl
    clear HB H0 H1 ho
    go_enter Tryd.func105, Tryd.ntmps105
    go_upto_region 1 with fail
    generalize w.alloc (.cells #[.int .i64 s, .int .i64 g, .slice a n c] 30) = v at *
    obtain ⟨n0, n1, n2, n3, n4, n5, n6⟩ := id N
    go_wp2_with fail
    refine (C1 _ (HS.out.below B)).mono ?_
    rintro e v1 ⟨rfl, hb⟩
    clear n0 n1 n2 n3 n4 n5 n6
    replace B := B.trans (hb.mono B.size)
    replace N := N.below hb
    clear hb
    obtain ⟨b, off, rfl, c1, c2⟩ := LK.out v1 (HS.out.below B)
    clear LK HS
    obtain ⟨n0, n1, n2, n3, n4, n5, n6⟩ := id N
    go_wp2_with fail
    exact bodyPost_ret (v := (.tuple #[.int .i64 0, .int .i64 0, .bool false])) (by simp (maxDischargeDepth := 6) [results, Tryd.results105, go_sem, *]) rfl ⟨rfl, B⟩
  have hne : (ow != o) = false := by rw [bne, ho]; rfl
  by_cases h3 : t < f
  · have e0 : AB = false := by rw [HB, decide_eq_true h3]; simp
    subst e0
    obtain ⟨rfl, rfl⟩ := H0.out rfl
    clear HB H0 H1 ho
    go_enter Tryd.func105, Tryd.ntmps105
    go_upto_region 1 with fail
    generalize w.alloc (.cells #[.int .i64 s, .int .i64 g, .slice a n c] 30) = v at *
    obtain ⟨n0, n1, n2, n3, n4, n5, n6⟩ := id N
    go_wp2_with fail
    refine (C1 _ (HS.out.below B)).mono ?_
    rintro e v1 ⟨rfl, hb⟩
    clear n0 n1 n2 n3 n4 n5 n6
    replace B := B.trans (hb.mono B.size)
    replace N := N.below hb
    clear hb
    obtain ⟨b, off, rfl, c1, c2⟩ := LK.out v1 (HS.out.below B)
    clear LK HS
    obtain ⟨n0, n1, n2, n3, n4, n5, n6⟩ := id N
    go_wp2_with fail
    exact bodyPost_ret (v := (.tuple #[.int .i64 0, .int .i64 0, .bool false])) (by simp (maxDischargeDepth := 6) [results, Tryd.results105, go_sem, *]) rfl ⟨rfl, B⟩
  by_cases h4 : Y < t
  · have e0 : AB = false := by rw [HB, decide_eq_true h4]; simp
    subst e0
    obtain ⟨rfl, rfl⟩ := H0.out rfl
    clear HB H0 H1 ho
    go_enter Tryd.func105, Tryd.ntmps105
    go_upto_region 1 with fail
    generalize w.alloc (.cells #[.int .i64 s, .int .i64 g, .slice a n c] 30) = v at *
    obtain ⟨n0, n1, n2, n3, n4, n5, n6⟩ := id N
    go_wp2_with fail
    refine (C1 _ (HS.out.below B)).mono ?_
    rintro e v1 ⟨rfl, hb⟩
    clear n0 n1 n2 n3 n4 n5 n6
    replace B := B.trans (hb.mono B.size)
    replace N := N.below hb
    clear hb
    obtain ⟨b, off, rfl, c1, c2⟩ := LK.out v1 (HS.out.below B)
    clear LK
    obtain ⟨n0, n1, n2, n3, n4, n5, n6⟩ := id N
    go_wp2_with fail
    refine (CO _ (HS.out.below B)).mono ?_
    rintro e v2 ⟨rfl, hb⟩
    clear n0 n1 n2 n3 n4 n5 n6
    replace B := B.trans (hb.mono B.size)
    replace N := N.below hb
    clear hb
    clear c1 c2
    have NL := Below.nw v2 (.cells #[.int .i64 X, .int .i64 Y] 25)
    have Z := Bx2.new v2 (.int .i64 X) (.int .i64 Y) 25
    go_upto_region 5 with fail
    replace B := B.trans (NL.mono B.size)
    clear NL
    generalize v2.alloc (.cells #[.int .i64 X, .int .i64 Y] 25) = v3 at *
    generalize v2.heap.size = jz at *
    obtain ⟨z0, z1, z2, z3, z4⟩ := id Z
    go_wp2_with fail
    exact bodyPost_ret (v := (.tuple #[.int .i64 0, .int .i64 0, .bool false])) (by simp (maxDischargeDepth := 6) [results, Tryd.results105, go_sem, *]) rfl ⟨rfl, B⟩
  have e0 : AB = true := by rw [HB, ho, decide_eq_false h3, decide_eq_false h4]; rfl
  subst e0
  obtain ⟨rfl, rfl⟩ := H1.out rfl
  clear HB H0 H1 ho
  go_enter Tryd.func105, Tryd.ntmps105
  go_upto_region 1 with fail
  generalize w.alloc (.cells #[.int .i64 s, .int .i64 g, .slice a n c] 30) = v at *
  obtain ⟨n0, n1, n2, n3, n4, n5, n6⟩ := id N
  go_wp2_with fail
  refine (C1 _ (HS.out.below B)).mono ?_
  rintro e v1 ⟨rfl, hb⟩
  clear n0 n1 n2 n3 n4 n5 n6
  replace B := B.trans (hb.mono B.size)
  replace N := N.below hb
  clear hb
  obtain ⟨b, off, rfl, c1, c2⟩ := LK.out v1 (HS.out.below B)
  clear LK
  obtain ⟨n0, n1, n2, n3, n4, n5, n6⟩ := id N
  go_wp2_with fail
  refine (CO _ (HS.out.below B)).mono ?_
  rintro e v2 ⟨rfl, hb⟩
  clear n0 n1 n2 n3 n4 n5 n6
  replace B := B.trans (hb.mono B.size)
  replace N := N.below hb
  clear hb
  clear c1 c2
  have NL := Below.nw v2 (.cells #[.int .i64 X, .int .i64 Y] 25)
  have Z := Bx2.new v2 (.int .i64 X) (.int .i64 Y) 25
  go_upto_region 5 with fail
  replace B := B.trans (NL.mono B.size)
  clear NL
  generalize v2.alloc (.cells #[.int .i64 X, .int .i64 Y] 25) = v3 at *
  generalize v2.heap.size = jz at *
  obtain ⟨z0, z1, z2, z3, z4⟩ := id Z
  go_wp2_with fail
  exact bodyPost_ret (v := (.tuple #[.int .i64 (iN : Int), .int .i64 AK, .bool true])) (by simp (maxDischargeDepth := 6) [results, Tryd.results105, go_sem, *]) rfl ⟨rfl, B⟩
end Go.Proofs.YtcakhfobkbgfoaaDoor
namespace Go.Proofs.YtcakhfobkbgfoaaDoor
open Go.RowKit
set_option linter.unusedVariables false
set_option maxHeartbeats 4000000 in
theorem mayCarry_any (k : Nat) (kn : Bool) (lo hi a n d c : Int) (w : World) (H : BoxL w k kn lo hi a) :
    Calls Tryd.prog 115 #[.pointer (some ⟨k, 0, none⟩), .agg #[.int .i64 n, .int .i64 d], .int .i64 c] w fun e w' => e = .returned (.bool (crP kn lo hi a n d c)) ∧ Below w.heap.size w w' := by
  have B0 : Below w.heap.size w (w.alloc (.cells #[.int .i64 n, .int .i64 d] 27)) := Below.alc _ _
  have Q0 := Bx.new w n d 27
  have H0 := H.below B0
  cases h1 : okL kn lo hi a <;> cases h2 : okD n d <;> cases h3 : okT c
  all_goals
    go_enter Tryd.func115, Tryd.ntmps115
    go_wp2_with fail
    refine (ptrOk_any _ _ _ _ _ _ H0).mono ?_
    rintro e v ⟨rfl, hb⟩
    have B := B0.trans (hb.mono B0.size)
    obtain ⟨q0, q1, q2, q3, q4⟩ := Q0.below hb
    clear hb
    go_wp2_with (first | (go_at_call 110; refine (okd_any _ _ _).mono ?_; rintro e w' ⟨rfl, hb⟩; obtain ⟨hc, hf⟩ := bcell hb; (first | have hB := Below.trans (Below.trans hB (by repeat (first | exact Below.refl _ _ | refine Below.drew ?_ | refine Below.alloc ?_ (by first | (simp; done) | (simp; omega) | omega) _ | refine Below.setCell ?_ (by first | (simp; done) | (simp; omega) | omega) _ | refine Below.trans ?_ (Below.mono (by assumption) (by first | (simp; done) | (simp; omega) | omega))))) (Below.mono hb (by first | (simp; done) | (simp; omega) | omega)) | have hB := hb); obtain ⟨hC, hF⟩ := bcell hB; have hz := hb.size; (try simp at hz); (try (have hz0 : w.heap.size < w'.heap.size := by omega)); (try (have hz1 : w.heap.size + 1 < w'.heap.size := by omega)); (try (have hz2 : w.heap.size + 1 + 1 < w'.heap.size := by omega)); (try (have hz3 : w.heap.size + 1 + 1 + 1 < w'.heap.size := by omega))) | (go_at_call 72; refine (isTime_any _ _).mono ?_; rintro e w' ⟨rfl, rfl⟩))
    go_ret
    exact ⟨ret_bool (by simp [crP, *]), by repeat (first | exact Below.refl _ _ | refine Below.drew ?_ | refine Below.alloc ?_ (by first | (simp; done) | (simp; omega) | omega) _ | refine Below.setCell ?_ (by first | (simp; done) | (simp; omega) | omega) _ | refine Below.trans ?_ (Below.mono (by assumption) (by first | (simp; done) | (simp; omega) | omega)))⟩
set_option maxRecDepth 100000 in
set_option maxHeartbeats 4000000 in
theorem carry_any (k : Nat) (kn : Bool) (lo hi a n d c : Int) (w : World) (H : BoxL w k kn lo hi a) :
    Calls Tryd.prog 113 #[.pointer (some ⟨k, 0, none⟩), .agg #[.int .i64 n, .int .i64 d], .int .i64 c] w fun e w' => e = .returned (.tuple #[.agg #[.int .i64 (crL kn lo hi a n d c), .int .i64 (crH kn lo hi a n d c)], .int .i64 (crC kn lo hi a n d c)]) ∧ Below w.heap.size w w' := by
  have B : Below w.heap.size w ((w.alloc (.cells #[.int .i64 n, .int .i64 d] 27)).alloc (.cells #[.int .i64 0, .int .i64 0] 25)) := (Below.alc _ _).alloc (by simp) _
  have Q := (Bx.new w n d 27).alloc (.cells #[.int .i64 0, .int .i64 0] 25)
  have R := Bx.new (w.alloc (.cells #[.int .i64 n, .int .i64 d] 27)) 0 0 25
  simp only [World.size_alloc] at R
  have hk : k < w.heap.size := H.1
  replace H := H.below B
  cases hp : crP kn lo hi a n d c
  · obtain ⟨e1, e2, e3⟩ := crC_1 hp
    rw [e1, e2, e3]
    clear e1 e2 e3
    have CM := fun v H' => mayCarry_any k kn lo hi a n d c v H'
    rw [hp] at CM
    go_enter Tryd.func113, Tryd.ntmps113
    go_wp2_with fail
    refine (CM _ H).mono ?_
    rintro e v ⟨rfl, hb⟩
    replace B := B.trans (hb.mono B.size)
    obtain ⟨r0, r1, r2, r3, r4⟩ := R.below hb
    clear hb H Q R CM
    go_wp2
    exact bodyPost_ret (v := .tuple #[.agg #[.int .i64 0, .int .i64 0], .int .i64 1]) (by simp (maxDischargeDepth := 6) [results, Tryd.results113, go_sem, *]) rfl ⟨rfl, by repeat (first | exact Below.refl _ _ | refine Below.drew ?_ | refine Below.alloc ?_ (by first | (simp; done) | (simp; omega) | omega) _ | refine Below.setCell ?_ (by first | (simp; done) | (simp; omega) | omega) _ | refine Below.trans ?_ (Below.mono (by assumption) (by first | (simp; done) | (simp; omega) | omega)))⟩
  cases kn
  · obtain ⟨e1, e2, e3⟩ := crC_2 hp
    rw [e1, e2, e3]
    clear e1 e2 e3
    have CM := fun v H' => mayCarry_any k false lo hi a n d c v H'
    rw [hp] at CM
    go_enter Tryd.func113, Tryd.ntmps113
    go_wp2_with fail
    refine (CM _ H).mono ?_
    rintro e v ⟨rfl, hb⟩
    replace B := B.trans (hb.mono B.size)
    obtain ⟨r0, r1, r2, r3, r4⟩ := R.below hb
    obtain ⟨a0, a1, a2, a3, a4, a5, a6, a7, a8⟩ := H.below hb
    clear hb H Q R CM
    go_wp2
    exact bodyPost_ret (v := .tuple #[.agg #[.int .i64 0, .int .i64 0], .int .i64 2]) (by simp (maxDischargeDepth := 6) [results, Tryd.results113, go_sem, *]) rfl ⟨rfl, by repeat (first | exact Below.refl _ _ | refine Below.drew ?_ | refine Below.alloc ?_ (by first | (simp; done) | (simp; omega) | omega) _ | refine Below.setCell ?_ (by first | (simp; done) | (simp; omega) | omega) _ | refine Below.trans ?_ (Below.mono (by assumption) (by first | (simp; done) | (simp; omega) | omega)))⟩
  have CM := fun v H' => mayCarry_any k true lo hi a n d c v H'
  rw [hp] at CM
  by_cases h4 : c < a
  · obtain ⟨e1, e2, e3⟩ := crC_3 hp h4
    rw [e1, e2, e3]
    clear e1 e2 e3
    go_enter Tryd.func113, Tryd.ntmps113
    go_wp2_with fail
    refine (CM _ H).mono ?_
    rintro e v ⟨rfl, hb⟩
    replace B := B.trans (hb.mono B.size)
    obtain ⟨r0, r1, r2, r3, r4⟩ := R.below hb
    obtain ⟨a0, a1, a2, a3, a4, a5, a6, a7, a8⟩ := H.below hb
    clear hb H Q R CM
    go_wp2
    exact bodyPost_ret (v := .tuple #[.agg #[.int .i64 0, .int .i64 0], .int .i64 3]) (by simp (maxDischargeDepth := 6) [results, Tryd.results113, go_sem, *]) rfl ⟨rfl, by repeat (first | exact Below.refl _ _ | refine Below.drew ?_ | refine Below.alloc ?_ (by first | (simp; done) | (simp; omega) | omega) _ | refine Below.setCell ?_ (by first | (simp; done) | (simp; omega) | omega) _ | refine Below.trans ?_ (Below.mono (by assumption) (by first | (simp; done) | (simp; omega) | omega)))⟩
  obtain ⟨_, p2, _, p4⟩ := crP_p hp
  obtain ⟨g1, g2⟩ := okT_t p2
  obtain ⟨g3, g4⟩ := okT_t p4
  have hwr : IntKind.i64.wrap (c - a) = c - a := Go.IntWalk.i64_in _ ⟨by omega, by omega⟩
  have E : ∃ U D X Y : Int, ∃ bt pl : Bool, (∀ w', Calls Tryd.prog 116 #[.agg #[.int .i64 n, .int .i64 d], .int .i64 (IntKind.i64.wrap (c - a))] w' fun e w'' => e = .returned (.tuple #[.agg #[.int .i64 U, .int .i64 D], .bool bt]) ∧ Below w'.heap.size w' w'') ∧ (bt = true → ∀ w', Calls Tryd.prog 117 #[.agg #[.int .i64 lo, .int .i64 hi], .agg #[.int .i64 U, .int .i64 D]] w' fun e w'' => e = .returned (.tuple #[.agg #[.int .i64 X, .int .i64 Y], .bool pl]) ∧ Below w'.heap.size w' w'') ∧ (bt = false → crC true lo hi a n d c = 4 ∧ crL true lo hi a n d c = 0 ∧ crH true lo hi a n d c = 0) ∧ (bt = true → pl = false → crC true lo hi a n d c = 4 ∧ crL true lo hi a n d c = 0 ∧ crH true lo hi a n d c = 0) ∧ (bt = true → pl = true → crC true lo hi a n d c = 0 ∧ crL true lo hi a n d c = X ∧ crH true lo hi a n d c = Y) := by
    refine ⟨_, _, _, _, _, _, fun w' => by rw [hwr]; exact implBetween_any n d (c - a) w', fun hb w' => implPlusIval_any _ _ _ _ w', fun hb => crC_4 hp h4 hb, fun hb hq => ?_, fun hb hq => ?_⟩
    · rw [hb, sel_t rfl, sel_t rfl] at hq; exact crC_5 hp h4 hb hq
    · rw [hb, sel_t rfl, sel_t rfl] at hq; rw [hb, sel_t rfl, sel_t rfl, hq, sel_t rfl, sel_t rfl]; exact crC_0 hp h4 hb hq
  obtain ⟨U, D, X, Y, bt, pl, CB, CP, F1, F2, F3⟩ := E
  replace F1 : Hid (bt = false → crC true lo hi a n d c = 4 ∧ crL true lo hi a n d c = 0 ∧ crH true lo hi a n d c = 0) := F1
  replace F2 : Hid (bt = true → pl = false → crC true lo hi a n d c = 4 ∧ crL true lo hi a n d c = 0 ∧ crH true lo hi a n d c = 0) := F2
  replace F3 : Hid (bt = true → pl = true → crC true lo hi a n d c = 0 ∧ crL true lo hi a n d c = X ∧ crH true lo hi a n d c = Y) := F3
  replace CP : Hid (bt = true → ∀ w', Calls Tryd.prog 117 #[.agg #[.int .i64 lo, .int .i64 hi], .agg #[.int .i64 U, .int .i64 D]] w' fun e w'' => e = .returned (.tuple #[.agg #[.int .i64 X, .int .i64 Y], .bool pl]) ∧ Below w'.heap.size w' w'') := CP
  clear hp p2 p4 hwr
  go_enter Tryd.func113, Tryd.ntmps113
  go_wp2_with fail
  refine (CM _ H).mono ?_
  rintro e v ⟨rfl, hb⟩
  replace B := B.trans (hb.mono B.size)
  replace H := H.below hb
  replace Q := Q.below hb
  replace R := R.below hb
  clear hb CM
  obtain ⟨a0, a1, a2, a3, a4, a5, a6, a7, a8⟩ := id H
  obtain ⟨b0, b1, b2, b3, b4⟩ := id Q
  obtain ⟨r0, r1, r2, r3, r4⟩ := id R
  go_wp2_with fail
  go_cut [8, 9] (fun s8 s9 wx => ∃ j : Nat, s8 = .pointer (some ⟨j, 0, none⟩) ∧ s9 = .bool bt ∧ Bx wx j U D ∧ w.heap.size + 1 < j ∧ BoxL wx k true lo hi a ∧ Bx wx w.heap.size n d ∧ Bx wx (w.heap.size + 1) 0 0 ∧ Below w.heap.size w wx)
  case first =>
    refine wp_region_held_drew (S := (fun w' => w'.cell? ⟨k, 3, none⟩ = some (.int .i64 a) ∧ w'.cell? ⟨w.heap.size, 0, none⟩ = some (.int .i64 n) ∧ w'.cell? ⟨w.heap.size, 1, none⟩ = some (.int .i64 d))) (by kernel_rfl) ?_ (fun hHeld => ?_)
    · simp (maxDischargeDepth := 6) [go_sem, *]
    clear a0 a1 a2 a3 a4 a5 a6 a7 a8 b0 b1 b2 b3 b4 r0 r1 r2 r3 r4; (try clear n0 n1 n2 n3 n4); (try clear m0 m1 m2 m3 m4)
    replace H := H.drew
    replace Q := Q.drew
    replace R := R.drew
    replace B := B.drew
    (try replace M := M.drew)
    generalize v.drew = v at *
    obtain ⟨a0, a1, a2, a3, a4, a5, a6, a7, a8⟩ := id H; obtain ⟨b0, b1, b2, b3, b4⟩ := id Q; obtain ⟨r0, r1, r2, r3, r4⟩ := id R; (try (obtain ⟨n0, n1, n2, n3, n4⟩ := id N)); (try (obtain ⟨m0, m1, m2, m3, m4⟩ := id M))
    refine wpAnyH_take (i := 0) (v := ?_) (by rw [List.getElem?_toArray]; rfl) (by kernel_rfl) (by kernel_rfl) (by kernel_rfl) (by intro _ _ _ h; exact h) (Or.inl ⟨by rfl, ?_⟩) (by assumption) ?_
    rotate_left
    · (intro w hSw; (try dsimp only at hSw); go_simp; all_goals with_reducible rfl)
    (try simp only [Act.put, List.setIfInBounds_toArray, List.set_cons_zero, List.set_cons_succ])
    refine wpAnyH_take (i := 1) (v := ?_) (by rw [List.getElem?_toArray]; rfl) (by kernel_rfl) (by kernel_rfl) (by kernel_rfl) (by intro _ _ _ h; exact h) (Or.inl ⟨by rfl, ?_⟩) (by assumption) ?_
    rotate_left
    · (intro w hSw; (try dsimp only at hSw); go_simp; all_goals with_reducible rfl)
    (try simp only [Act.put, List.setIfInBounds_toArray, List.set_cons_zero, List.set_cons_succ])
    refine wpAnyH_take (i := 2) (v := ?_) (by rw [List.getElem?_toArray]; rfl) (by kernel_rfl) (by kernel_rfl) (by kernel_rfl) (by intro _ _ _ h; exact h) (Or.inl ⟨by rfl, ?_⟩) (by assumption) ?_
    rotate_left
    · (intro w hSw; (try dsimp only at hSw); go_simp; all_goals with_reducible rfl)
    (try simp only [Act.put, List.setIfInBounds_toArray, List.set_cons_zero, List.set_cons_succ])
    refine wpAnyH_take (i := 3) (v := ?_) (by rw [List.getElem?_toArray]; rfl) (by kernel_rfl) (by kernel_rfl) (by kernel_rfl) (by intro _ _ _ h; exact h) (Or.inl ⟨by rfl, ?_⟩) (by assumption) ?_
    rotate_left
    · (intro w hSw; (try dsimp only at hSw); go_simp; all_goals with_reducible rfl)
    (try simp only [Act.put, List.setIfInBounds_toArray, List.set_cons_zero, List.set_cons_succ])
    refine wpAnyH_take (i := 4) (v := ?_) (by rw [List.getElem?_toArray]; rfl) (by kernel_rfl) (by kernel_rfl) (by kernel_rfl) (by intro _ _ _ h; exact h) (Or.inl ⟨by rfl, ?_⟩) (by assumption) ?_
    rotate_left
    · (intro w hSw; (try dsimp only at hSw); go_simp; all_goals with_reducible rfl)
    (try simp only [Act.put, List.setIfInBounds_toArray, List.set_cons_zero, List.set_cons_succ])
    refine wpAnyH_take (i := 5) (v := ?_) (by rw [List.getElem?_toArray]; rfl) (by kernel_rfl) (by kernel_rfl) (by kernel_rfl) (by intro _ _ _ h; exact h) (Or.inl ⟨by rfl, ?_⟩) (by assumption) ?_
    rotate_left
    · (intro w hSw; (try dsimp only at hSw); go_simp; all_goals with_reducible rfl)
    (try simp only [Act.put, List.setIfInBounds_toArray, List.set_cons_zero, List.set_cons_succ])
    refine wpAnyH_take (i := 6) (v := ?_) (by rw [List.getElem?_toArray]; rfl) (by kernel_rfl) (by kernel_rfl) (by kernel_rfl) (by intro _ _ _ h; exact h) (Or.inl ⟨by rfl, ?_⟩) (by assumption) ?_
    rotate_left
    · (intro w hSw; (try dsimp only at hSw); go_simp; all_goals with_reducible rfl)
    (try simp only [Act.put, List.setIfInBounds_toArray, List.set_cons_zero, List.set_cons_succ])
    refine wpAnyH_ready (rs := [7, 11]) (by kernel_rfl) (by simp) ?_
    refine (AllReadyH.cons (by rw [List.getElem?_toArray]; rfl) (fun K hK => ?_) (AllReadyH.cons (by rw [List.getElem?_toArray]; rfl) (fun K hK => ?_) AllReadyH.nil))
    · go_simp
      refine (CB _).mono ?_; rintro e v ⟨rfl, hb⟩; clear a0 a1 a2 a3 a4 a5 a6 a7 a8 b0 b1 b2 b3 b4 r0 r1 r2 r3 r4; (try clear n0 n1 n2 n3 n4); (try clear m0 m1 m2 m3 m4); (replace H := H.below hb); (replace Q := Q.below hb); (replace R := R.below hb); (try (replace N := N.below hb)); (try (replace M := M.below hb)); (replace B := B.trans (hb.mono B.size)); clear hb; obtain ⟨a0, a1, a2, a3, a4, a5, a6, a7, a8⟩ := id H; obtain ⟨b0, b1, b2, b3, b4⟩ := id Q; obtain ⟨r0, r1, r2, r3, r4⟩ := id R; (try (obtain ⟨n0, n1, n2, n3, n4⟩ := id N)); (try (obtain ⟨m0, m1, m2, m3, m4⟩ := id M))
      (try go_wp2_with fail)
      refine hK.out _ _ ?_ (fun hHeld => ?_)
      · simp (maxDischargeDepth := 6) [go_sem, *]
      clear hK K
      (try simp only [Act.put, List.setIfInBounds_toArray, List.set_cons_zero, List.set_cons_succ])
      refine wpAnyH_take (i := 8) (v := ?_) (by rw [List.getElem?_toArray]; rfl) (by kernel_rfl) (by kernel_rfl) (by kernel_rfl) (by intro _ _ _ h; exact h) (Or.inl ⟨by rfl, ?_⟩) (by assumption) ?_
      rotate_left
      · (intro w hSw; (try dsimp only at hSw); go_simp; all_goals with_reducible rfl)
      (try simp only [Act.put, List.setIfInBounds_toArray, List.set_cons_zero, List.set_cons_succ])
      refine wpAnyH_take (i := 9) (v := ?_) (by rw [List.getElem?_toArray]; rfl) (by kernel_rfl) (by kernel_rfl) (by kernel_rfl) (by intro _ _ _ h; exact h) (Or.inl ⟨by rfl, ?_⟩) (by assumption) ?_
      rotate_left
      · (intro w hSw; (try dsimp only at hSw); go_simp; all_goals with_reducible rfl)
      (try simp only [Act.put, List.setIfInBounds_toArray, List.set_cons_zero, List.set_cons_succ])
      refine wpAnyH_take (i := 10) (v := ?_) (by rw [List.getElem?_toArray]; rfl) (by kernel_rfl) (by kernel_rfl) (by kernel_rfl) (by intro _ _ _ h; exact h) (Or.inl ⟨by rfl, ?_⟩) (by assumption) ?_
      rotate_left
      · (intro w hSw; (try dsimp only at hSw); go_simp; all_goals with_reducible rfl)
      (try simp only [Act.put, List.setIfInBounds_toArray, List.set_cons_zero, List.set_cons_succ])
      refine wpAnyH_ready (rs := [11]) (by kernel_rfl) (by simp) ?_
      refine (AllReadyH.cons (by rw [List.getElem?_toArray]; rfl) (fun K hK => ?_) AllReadyH.nil)
      go_simp
      (have N := Bx.new v 0 0 25); (have hj : w.heap.size + 1 < v.heap.size := r0); (try (have hjM : jM < v.heap.size := m0)); clear a0 a1 a2 a3 a4 a5 a6 a7 a8 b0 b1 b2 b3 b4 r0 r1 r2 r3 r4; (try clear n0 n1 n2 n3 n4); (try clear m0 m1 m2 m3 m4); (replace H := H.alloc (.cells #[.int .i64 0, .int .i64 0] 25)); (replace Q := Q.alloc (.cells #[.int .i64 0, .int .i64 0] 25)); (replace R := R.alloc (.cells #[.int .i64 0, .int .i64 0] 25)); (try (replace M := M.alloc (.cells #[.int .i64 0, .int .i64 0] 25))); (replace B := B.alloc B.size (.cells #[.int .i64 0, .int .i64 0] 25)); (generalize v.alloc (.cells #[.int .i64 0, .int .i64 0] 25) = v2 at *); obtain ⟨a0, a1, a2, a3, a4, a5, a6, a7, a8⟩ := id H; obtain ⟨b0, b1, b2, b3, b4⟩ := id Q; obtain ⟨r0, r1, r2, r3, r4⟩ := id R; (try (obtain ⟨n0, n1, n2, n3, n4⟩ := id N)); (try (obtain ⟨m0, m1, m2, m3, m4⟩ := id M))
      refine hK.out _ _ ?_ (fun hHeld => ?_)
      · simp (maxDischargeDepth := 6) [go_sem, *]
      clear hK K
      (try simp only [Act.put, List.setIfInBounds_toArray, List.set_cons_zero, List.set_cons_succ])
      refine wpAnyH_ready (rs := [12]) (by kernel_rfl) (by simp) ?_
      refine (AllReadyH.cons (by rw [List.getElem?_toArray]; rfl) (fun K hK => ?_) AllReadyH.nil)
      go_simp
      refine hK.out _ _ ?_ (fun hHeld => ?_)
      · simp (maxDischargeDepth := 6) [go_sem, *]
      clear hK K
      (try simp only [Act.put, List.setIfInBounds_toArray, List.set_cons_zero, List.set_cons_succ])
      refine wpAnyH_take (i := 13) (v := ?_) (by rw [List.getElem?_toArray]; rfl) (by kernel_rfl) (by kernel_rfl) (by kernel_rfl) (by intro _ _ _ h; exact h) (Or.inl ⟨by rfl, ?_⟩) (by assumption) ?_
      rotate_left
      · (intro w hSw; (try dsimp only at hSw); go_simp; all_goals with_reducible rfl)
      (try simp only [Act.put, List.setIfInBounds_toArray, List.set_cons_zero, List.set_cons_succ])
      refine wpAnyH_done (by kernel_rfl) ?_ _
      go_wp2_with fail
      go_meet
      case rel => exact ⟨_, rfl, rfl, N.setI U D, hj, H.setIO (by omega) U D, Q.setIO (by omega) U D, R.setIO (by omega) U D, Below.setI B (by omega) U D⟩
    · go_simp
      (have N := Bx.new v 0 0 25); (have hj : w.heap.size + 1 < v.heap.size := r0); (try (have hjM : jM < v.heap.size := m0)); clear a0 a1 a2 a3 a4 a5 a6 a7 a8 b0 b1 b2 b3 b4 r0 r1 r2 r3 r4; (try clear n0 n1 n2 n3 n4); (try clear m0 m1 m2 m3 m4); (replace H := H.alloc (.cells #[.int .i64 0, .int .i64 0] 25)); (replace Q := Q.alloc (.cells #[.int .i64 0, .int .i64 0] 25)); (replace R := R.alloc (.cells #[.int .i64 0, .int .i64 0] 25)); (try (replace M := M.alloc (.cells #[.int .i64 0, .int .i64 0] 25))); (replace B := B.alloc B.size (.cells #[.int .i64 0, .int .i64 0] 25)); (generalize v.alloc (.cells #[.int .i64 0, .int .i64 0] 25) = v2 at *); obtain ⟨a0, a1, a2, a3, a4, a5, a6, a7, a8⟩ := id H; obtain ⟨b0, b1, b2, b3, b4⟩ := id Q; obtain ⟨r0, r1, r2, r3, r4⟩ := id R; (try (obtain ⟨n0, n1, n2, n3, n4⟩ := id N)); (try (obtain ⟨m0, m1, m2, m3, m4⟩ := id M))
      refine hK.out _ _ ?_ (fun hHeld => ?_)
      · simp (maxDischargeDepth := 6) [go_sem, *]
      clear hK K
      (try simp only [Act.put, List.setIfInBounds_toArray, List.set_cons_zero, List.set_cons_succ])
      refine wpAnyH_ready (rs := [7]) (by kernel_rfl) (by simp) ?_
      refine (AllReadyH.cons (by rw [List.getElem?_toArray]; rfl) (fun K hK => ?_) AllReadyH.nil)
      go_simp
      refine (CB _).mono ?_; rintro e v ⟨rfl, hb⟩; clear a0 a1 a2 a3 a4 a5 a6 a7 a8 b0 b1 b2 b3 b4 r0 r1 r2 r3 r4; (try clear n0 n1 n2 n3 n4); (try clear m0 m1 m2 m3 m4); (replace H := H.below hb); (replace Q := Q.below hb); (replace R := R.below hb); (try (replace N := N.below hb)); (try (replace M := M.below hb)); (replace B := B.trans (hb.mono B.size)); clear hb; obtain ⟨a0, a1, a2, a3, a4, a5, a6, a7, a8⟩ := id H; obtain ⟨b0, b1, b2, b3, b4⟩ := id Q; obtain ⟨r0, r1, r2, r3, r4⟩ := id R; (try (obtain ⟨n0, n1, n2, n3, n4⟩ := id N)); (try (obtain ⟨m0, m1, m2, m3, m4⟩ := id M))
      (try go_wp2_with fail)
      refine hK.out _ _ ?_ (fun hHeld => ?_)
      · simp (maxDischargeDepth := 6) [go_sem, *]
      clear hK K
      (try simp only [Act.put, List.setIfInBounds_toArray, List.set_cons_zero, List.set_cons_succ])
      refine wpAnyH_take (i := 8) (v := ?_) (by rw [List.getElem?_toArray]; rfl) (by kernel_rfl) (by kernel_rfl) (by kernel_rfl) (by intro _ _ _ h; exact h) (Or.inl ⟨by rfl, ?_⟩) (by assumption) ?_
      rotate_left
      · (intro w hSw; (try dsimp only at hSw); go_simp; all_goals with_reducible rfl)
      (try simp only [Act.put, List.setIfInBounds_toArray, List.set_cons_zero, List.set_cons_succ])
      refine wpAnyH_take (i := 9) (v := ?_) (by rw [List.getElem?_toArray]; rfl) (by kernel_rfl) (by kernel_rfl) (by kernel_rfl) (by intro _ _ _ h; exact h) (Or.inl ⟨by rfl, ?_⟩) (by assumption) ?_
      rotate_left
      · (intro w hSw; (try dsimp only at hSw); go_simp; all_goals with_reducible rfl)
      (try simp only [Act.put, List.setIfInBounds_toArray, List.set_cons_zero, List.set_cons_succ])
      refine wpAnyH_take (i := 10) (v := ?_) (by rw [List.getElem?_toArray]; rfl) (by kernel_rfl) (by kernel_rfl) (by kernel_rfl) (by intro _ _ _ h; exact h) (Or.inl ⟨by rfl, ?_⟩) (by assumption) ?_
      rotate_left
      · (intro w hSw; (try dsimp only at hSw); go_simp; all_goals with_reducible rfl)
      (try simp only [Act.put, List.setIfInBounds_toArray, List.set_cons_zero, List.set_cons_succ])
      refine wpAnyH_ready (rs := [12]) (by kernel_rfl) (by simp) ?_
      refine (AllReadyH.cons (by rw [List.getElem?_toArray]; rfl) (fun K hK => ?_) AllReadyH.nil)
      go_simp
      refine hK.out _ _ ?_ (fun hHeld => ?_)
      · simp (maxDischargeDepth := 6) [go_sem, *]
      clear hK K
      (try simp only [Act.put, List.setIfInBounds_toArray, List.set_cons_zero, List.set_cons_succ])
      refine wpAnyH_take (i := 13) (v := ?_) (by rw [List.getElem?_toArray]; rfl) (by kernel_rfl) (by kernel_rfl) (by kernel_rfl) (by intro _ _ _ h; exact h) (Or.inl ⟨by rfl, ?_⟩) (by assumption) ?_
      rotate_left
      · (intro w hSw; (try dsimp only at hSw); go_simp; all_goals with_reducible rfl)
      (try simp only [Act.put, List.setIfInBounds_toArray, List.set_cons_zero, List.set_cons_succ])
      refine wpAnyH_done (by kernel_rfl) ?_ _
      go_wp2_with fail
      go_meet
      case rel => exact ⟨_, rfl, rfl, N.setI U D, hj, H.setIO (by omega) U D, Q.setIO (by omega) U D, R.setIO (by omega) U D, Below.setI B (by omega) U D⟩
  case rest =>
    obtain ⟨jM, rfl, rfl, M, hjm, H', Q', R', B'⟩ := hcut
    clear H Q R B a0 a1 a2 a3 a4 a5 a6 a7 a8 b0 b1 b2 b3 b4 r0 r1 r2 r3 r4
    have H := H'
    have Q := Q'
    have R := R'
    have B := B'
    clear H' Q' R' B'
    generalize wc = v at *
    obtain ⟨a0, a1, a2, a3, a4, a5, a6, a7, a8⟩ := id H
    obtain ⟨b0, b1, b2, b3, b4⟩ := id Q
    obtain ⟨r0, r1, r2, r3, r4⟩ := id R
    obtain ⟨m0, m1, m2, m3, m4⟩ := id M
    cases bt
    · go_wp2
      exact bodyPost_ret (v := .tuple #[.agg #[.int .i64 0, .int .i64 0], .int .i64 4]) (by simp (maxDischargeDepth := 6) [results, Tryd.results113, go_sem, *]) rfl ⟨by obtain ⟨e1, e2, e3⟩ := F1.out (by simp); rw [e1, e2, e3], by repeat (first | exact B | refine Below.drew ?_ | refine Below.setCell ?_ (by first | (simp; done) | (simp; omega) | omega) _)⟩
    replace CP := CP.out rfl
    go_wp2_with fail
    go_cut [10, 9] (fun s8 s9 wx => ∃ j : Nat, s8 = .pointer (some ⟨j, 0, none⟩) ∧ s9 = .bool pl ∧ Bx wx j X Y ∧ w.heap.size + 1 < j ∧ Bx wx (w.heap.size + 1) 0 0 ∧ Below w.heap.size w wx)
    case first =>
      refine wp_region_held_drew (S := (fun w' => w'.cell? ⟨k, 1, none⟩ = some (.int .i64 lo) ∧ w'.cell? ⟨k, 2, none⟩ = some (.int .i64 hi) ∧ w'.cell? ⟨jM, 0, none⟩ = some (.int .i64 U) ∧ w'.cell? ⟨jM, 1, none⟩ = some (.int .i64 D))) (by kernel_rfl) ?_ (fun hHeld => ?_)
      · simp (maxDischargeDepth := 6) [go_sem, *]
      clear a0 a1 a2 a3 a4 a5 a6 a7 a8 b0 b1 b2 b3 b4 r0 r1 r2 r3 r4; (try clear n0 n1 n2 n3 n4); (try clear m0 m1 m2 m3 m4)
      replace H := H.drew
      replace Q := Q.drew
      replace R := R.drew
      replace B := B.drew
      (try replace M := M.drew)
      generalize v.drew = v at *
      obtain ⟨a0, a1, a2, a3, a4, a5, a6, a7, a8⟩ := id H; obtain ⟨b0, b1, b2, b3, b4⟩ := id Q; obtain ⟨r0, r1, r2, r3, r4⟩ := id R; (try (obtain ⟨n0, n1, n2, n3, n4⟩ := id N)); (try (obtain ⟨m0, m1, m2, m3, m4⟩ := id M))
      refine wpAnyH_take (i := 0) (v := ?_) (by rw [List.getElem?_toArray]; rfl) (by kernel_rfl) (by kernel_rfl) (by kernel_rfl) (by intro _ _ _ h; exact h) (Or.inl ⟨by rfl, ?_⟩) (by assumption) ?_
      rotate_left
      · (intro w hSw; (try dsimp only at hSw); go_simp; all_goals with_reducible rfl)
      (try simp only [Act.put, List.setIfInBounds_toArray, List.set_cons_zero, List.set_cons_succ])
      refine wpAnyH_take (i := 1) (v := ?_) (by rw [List.getElem?_toArray]; rfl) (by kernel_rfl) (by kernel_rfl) (by kernel_rfl) (by intro _ _ _ h; exact h) (Or.inl ⟨by rfl, ?_⟩) (by assumption) ?_
      rotate_left
      · (intro w hSw; (try dsimp only at hSw); go_simp; all_goals with_reducible rfl)
      (try simp only [Act.put, List.setIfInBounds_toArray, List.set_cons_zero, List.set_cons_succ])
      refine wpAnyH_take (i := 2) (v := ?_) (by rw [List.getElem?_toArray]; rfl) (by kernel_rfl) (by kernel_rfl) (by kernel_rfl) (by intro _ _ _ h; exact h) (Or.inl ⟨by rfl, ?_⟩) (by assumption) ?_
      rotate_left
      · (intro w hSw; (try dsimp only at hSw); go_simp; all_goals with_reducible rfl)
      (try simp only [Act.put, List.setIfInBounds_toArray, List.set_cons_zero, List.set_cons_succ])
      refine wpAnyH_take (i := 3) (v := ?_) (by rw [List.getElem?_toArray]; rfl) (by kernel_rfl) (by kernel_rfl) (by kernel_rfl) (by intro _ _ _ h; exact h) (Or.inl ⟨by rfl, ?_⟩) (by assumption) ?_
      rotate_left
      · (intro w hSw; (try dsimp only at hSw); go_simp; all_goals with_reducible rfl)
      (try simp only [Act.put, List.setIfInBounds_toArray, List.set_cons_zero, List.set_cons_succ])
      refine wpAnyH_take (i := 4) (v := ?_) (by rw [List.getElem?_toArray]; rfl) (by kernel_rfl) (by kernel_rfl) (by kernel_rfl) (by intro _ _ _ h; exact h) (Or.inl ⟨by rfl, ?_⟩) (by assumption) ?_
      rotate_left
      · (intro w hSw; (try dsimp only at hSw); go_simp; all_goals with_reducible rfl)
      (try simp only [Act.put, List.setIfInBounds_toArray, List.set_cons_zero, List.set_cons_succ])
      refine wpAnyH_ready (rs := [5, 9]) (by kernel_rfl) (by simp) ?_
      refine (AllReadyH.cons (by rw [List.getElem?_toArray]; rfl) (fun K hK => ?_) (AllReadyH.cons (by rw [List.getElem?_toArray]; rfl) (fun K hK => ?_) AllReadyH.nil))
      · go_simp
        refine (CP _).mono ?_; rintro e v ⟨rfl, hb⟩; clear a0 a1 a2 a3 a4 a5 a6 a7 a8 b0 b1 b2 b3 b4 r0 r1 r2 r3 r4; (try clear n0 n1 n2 n3 n4); (try clear m0 m1 m2 m3 m4); (replace H := H.below hb); (replace Q := Q.below hb); (replace R := R.below hb); (try (replace N := N.below hb)); (try (replace M := M.below hb)); (replace B := B.trans (hb.mono B.size)); clear hb; obtain ⟨a0, a1, a2, a3, a4, a5, a6, a7, a8⟩ := id H; obtain ⟨b0, b1, b2, b3, b4⟩ := id Q; obtain ⟨r0, r1, r2, r3, r4⟩ := id R; (try (obtain ⟨n0, n1, n2, n3, n4⟩ := id N)); (try (obtain ⟨m0, m1, m2, m3, m4⟩ := id M))
        (try go_wp2_with fail)
        refine hK.out _ _ ?_ (fun hHeld => ?_)
        · simp (maxDischargeDepth := 6) [go_sem, *]
        clear hK K
        (try simp only [Act.put, List.setIfInBounds_toArray, List.set_cons_zero, List.set_cons_succ])
        refine wpAnyH_take (i := 6) (v := ?_) (by rw [List.getElem?_toArray]; rfl) (by kernel_rfl) (by kernel_rfl) (by kernel_rfl) (by intro _ _ _ h; exact h) (Or.inl ⟨by rfl, ?_⟩) (by assumption) ?_
        rotate_left
        · (intro w hSw; (try dsimp only at hSw); go_simp; all_goals with_reducible rfl)
        (try simp only [Act.put, List.setIfInBounds_toArray, List.set_cons_zero, List.set_cons_succ])
        refine wpAnyH_take (i := 7) (v := ?_) (by rw [List.getElem?_toArray]; rfl) (by kernel_rfl) (by kernel_rfl) (by kernel_rfl) (by intro _ _ _ h; exact h) (Or.inl ⟨by rfl, ?_⟩) (by assumption) ?_
        rotate_left
        · (intro w hSw; (try dsimp only at hSw); go_simp; all_goals with_reducible rfl)
        (try simp only [Act.put, List.setIfInBounds_toArray, List.set_cons_zero, List.set_cons_succ])
        refine wpAnyH_take (i := 8) (v := ?_) (by rw [List.getElem?_toArray]; rfl) (by kernel_rfl) (by kernel_rfl) (by kernel_rfl) (by intro _ _ _ h; exact h) (Or.inl ⟨by rfl, ?_⟩) (by assumption) ?_
        rotate_left
        · (intro w hSw; (try dsimp only at hSw); go_simp; all_goals with_reducible rfl)
        (try simp only [Act.put, List.setIfInBounds_toArray, List.set_cons_zero, List.set_cons_succ])
        refine wpAnyH_ready (rs := [9]) (by kernel_rfl) (by simp) ?_
        refine (AllReadyH.cons (by rw [List.getElem?_toArray]; rfl) (fun K hK => ?_) AllReadyH.nil)
        go_simp
        (have N := Bx.new v 0 0 25); (have hj : w.heap.size + 1 < v.heap.size := r0); (try (have hjM : jM < v.heap.size := m0)); clear a0 a1 a2 a3 a4 a5 a6 a7 a8 b0 b1 b2 b3 b4 r0 r1 r2 r3 r4; (try clear n0 n1 n2 n3 n4); (try clear m0 m1 m2 m3 m4); (replace H := H.alloc (.cells #[.int .i64 0, .int .i64 0] 25)); (replace Q := Q.alloc (.cells #[.int .i64 0, .int .i64 0] 25)); (replace R := R.alloc (.cells #[.int .i64 0, .int .i64 0] 25)); (try (replace M := M.alloc (.cells #[.int .i64 0, .int .i64 0] 25))); (replace B := B.alloc B.size (.cells #[.int .i64 0, .int .i64 0] 25)); (generalize v.alloc (.cells #[.int .i64 0, .int .i64 0] 25) = v2 at *); obtain ⟨a0, a1, a2, a3, a4, a5, a6, a7, a8⟩ := id H; obtain ⟨b0, b1, b2, b3, b4⟩ := id Q; obtain ⟨r0, r1, r2, r3, r4⟩ := id R; (try (obtain ⟨n0, n1, n2, n3, n4⟩ := id N)); (try (obtain ⟨m0, m1, m2, m3, m4⟩ := id M))
        refine hK.out _ _ ?_ (fun hHeld => ?_)
        · simp (maxDischargeDepth := 6) [go_sem, *]
        clear hK K
        (try simp only [Act.put, List.setIfInBounds_toArray, List.set_cons_zero, List.set_cons_succ])
        refine wpAnyH_ready (rs := [10]) (by kernel_rfl) (by simp) ?_
        refine (AllReadyH.cons (by rw [List.getElem?_toArray]; rfl) (fun K hK => ?_) AllReadyH.nil)
        go_simp
        refine hK.out _ _ ?_ (fun hHeld => ?_)
        · simp (maxDischargeDepth := 6) [go_sem, *]
        clear hK K
        (try simp only [Act.put, List.setIfInBounds_toArray, List.set_cons_zero, List.set_cons_succ])
        refine wpAnyH_take (i := 11) (v := ?_) (by rw [List.getElem?_toArray]; rfl) (by kernel_rfl) (by kernel_rfl) (by kernel_rfl) (by intro _ _ _ h; exact h) (Or.inl ⟨by rfl, ?_⟩) (by assumption) ?_
        rotate_left
        · (intro w hSw; (try dsimp only at hSw); go_simp; all_goals with_reducible rfl)
        (try simp only [Act.put, List.setIfInBounds_toArray, List.set_cons_zero, List.set_cons_succ])
        refine wpAnyH_done (by kernel_rfl) ?_ _
        go_wp2_with fail
        go_meet
        case rel => exact ⟨_, rfl, rfl, N.setI X Y, hj, R.setIO (by omega) X Y, Below.setI B (by omega) X Y⟩
      · go_simp
        (have N := Bx.new v 0 0 25); (have hj : w.heap.size + 1 < v.heap.size := r0); (try (have hjM : jM < v.heap.size := m0)); clear a0 a1 a2 a3 a4 a5 a6 a7 a8 b0 b1 b2 b3 b4 r0 r1 r2 r3 r4; (try clear n0 n1 n2 n3 n4); (try clear m0 m1 m2 m3 m4); (replace H := H.alloc (.cells #[.int .i64 0, .int .i64 0] 25)); (replace Q := Q.alloc (.cells #[.int .i64 0, .int .i64 0] 25)); (replace R := R.alloc (.cells #[.int .i64 0, .int .i64 0] 25)); (try (replace M := M.alloc (.cells #[.int .i64 0, .int .i64 0] 25))); (replace B := B.alloc B.size (.cells #[.int .i64 0, .int .i64 0] 25)); (generalize v.alloc (.cells #[.int .i64 0, .int .i64 0] 25) = v2 at *); obtain ⟨a0, a1, a2, a3, a4, a5, a6, a7, a8⟩ := id H; obtain ⟨b0, b1, b2, b3, b4⟩ := id Q; obtain ⟨r0, r1, r2, r3, r4⟩ := id R; (try (obtain ⟨n0, n1, n2, n3, n4⟩ := id N)); (try (obtain ⟨m0, m1, m2, m3, m4⟩ := id M))
        refine hK.out _ _ ?_ (fun hHeld => ?_)
        · simp (maxDischargeDepth := 6) [go_sem, *]
        clear hK K
        (try simp only [Act.put, List.setIfInBounds_toArray, List.set_cons_zero, List.set_cons_succ])
        refine wpAnyH_ready (rs := [5]) (by kernel_rfl) (by simp) ?_
        refine (AllReadyH.cons (by rw [List.getElem?_toArray]; rfl) (fun K hK => ?_) AllReadyH.nil)
        go_simp
        refine (CP _).mono ?_; rintro e v ⟨rfl, hb⟩; clear a0 a1 a2 a3 a4 a5 a6 a7 a8 b0 b1 b2 b3 b4 r0 r1 r2 r3 r4; (try clear n0 n1 n2 n3 n4); (try clear m0 m1 m2 m3 m4); (replace H := H.below hb); (replace Q := Q.below hb); (replace R := R.below hb); (try (replace N := N.below hb)); (try (replace M := M.below hb)); (replace B := B.trans (hb.mono B.size)); clear hb; obtain ⟨a0, a1, a2, a3, a4, a5, a6, a7, a8⟩ := id H; obtain ⟨b0, b1, b2, b3, b4⟩ := id Q; obtain ⟨r0, r1, r2, r3, r4⟩ := id R; (try (obtain ⟨n0, n1, n2, n3, n4⟩ := id N)); (try (obtain ⟨m0, m1, m2, m3, m4⟩ := id M))
        (try go_wp2_with fail)
        refine hK.out _ _ ?_ (fun hHeld => ?_)
        · simp (maxDischargeDepth := 6) [go_sem, *]
        clear hK K
        (try simp only [Act.put, List.setIfInBounds_toArray, List.set_cons_zero, List.set_cons_succ])
        refine wpAnyH_take (i := 6) (v := ?_) (by rw [List.getElem?_toArray]; rfl) (by kernel_rfl) (by kernel_rfl) (by kernel_rfl) (by intro _ _ _ h; exact h) (Or.inl ⟨by rfl, ?_⟩) (by assumption) ?_
        rotate_left
        · (intro w hSw; (try dsimp only at hSw); go_simp; all_goals with_reducible rfl)
        (try simp only [Act.put, List.setIfInBounds_toArray, List.set_cons_zero, List.set_cons_succ])
        refine wpAnyH_take (i := 7) (v := ?_) (by rw [List.getElem?_toArray]; rfl) (by kernel_rfl) (by kernel_rfl) (by kernel_rfl) (by intro _ _ _ h; exact h) (Or.inl ⟨by rfl, ?_⟩) (by assumption) ?_
        rotate_left
        · (intro w hSw; (try dsimp only at hSw); go_simp; all_goals with_reducible rfl)
        (try simp only [Act.put, List.setIfInBounds_toArray, List.set_cons_zero, List.set_cons_succ])
        refine wpAnyH_take (i := 8) (v := ?_) (by rw [List.getElem?_toArray]; rfl) (by kernel_rfl) (by kernel_rfl) (by kernel_rfl) (by intro _ _ _ h; exact h) (Or.inl ⟨by rfl, ?_⟩) (by assumption) ?_
        rotate_left
        · (intro w hSw; (try dsimp only at hSw); go_simp; all_goals with_reducible rfl)
        (try simp only [Act.put, List.setIfInBounds_toArray, List.set_cons_zero, List.set_cons_succ])
        refine wpAnyH_ready (rs := [10]) (by kernel_rfl) (by simp) ?_
        refine (AllReadyH.cons (by rw [List.getElem?_toArray]; rfl) (fun K hK => ?_) AllReadyH.nil)
        go_simp
        refine hK.out _ _ ?_ (fun hHeld => ?_)
        · simp (maxDischargeDepth := 6) [go_sem, *]
        clear hK K
        (try simp only [Act.put, List.setIfInBounds_toArray, List.set_cons_zero, List.set_cons_succ])
        refine wpAnyH_take (i := 11) (v := ?_) (by rw [List.getElem?_toArray]; rfl) (by kernel_rfl) (by kernel_rfl) (by kernel_rfl) (by intro _ _ _ h; exact h) (Or.inl ⟨by rfl, ?_⟩) (by assumption) ?_
        rotate_left
        · (intro w hSw; (try dsimp only at hSw); go_simp; all_goals with_reducible rfl)
        (try simp only [Act.put, List.setIfInBounds_toArray, List.set_cons_zero, List.set_cons_succ])
        refine wpAnyH_done (by kernel_rfl) ?_ _
        go_wp2_with fail
        go_meet
        case rel => exact ⟨_, rfl, rfl, N.setI X Y, hj, R.setIO (by omega) X Y, Below.setI B (by omega) X Y⟩
    case rest =>
      obtain ⟨jN, rfl, rfl, N, hjn, R', B'⟩ := hcut
      clear H Q R B M a0 a1 a2 a3 a4 a5 a6 a7 a8 b0 b1 b2 b3 b4 r0 r1 r2 r3 r4 m0 m1 m2 m3 m4 hjm CP CB
      obtain ⟨r0, r1, r2, r3, r4⟩ := id R'
      obtain ⟨n0, n1, n2, n3, n4⟩ := id N
      cases pl
      · go_wp2
        exact bodyPost_ret (v := .tuple #[.agg #[.int .i64 0, .int .i64 0], .int .i64 4]) (by simp (maxDischargeDepth := 6) [results, Tryd.results113, go_sem, *]) rfl ⟨by obtain ⟨e1, e2, e3⟩ := F2.out (by simp) (by simp); rw [e1, e2, e3], by repeat (first | exact B' | refine Below.drew ?_ | refine Below.setCell ?_ (by first | (simp; done) | (simp; omega) | omega) _)⟩
      go_wp2
      exact bodyPost_ret (v := .tuple #[.agg #[.int .i64 X, .int .i64 Y], .int .i64 0]) (by simp (maxDischargeDepth := 6) [results, Tryd.results113, go_sem, *]) rfl ⟨by obtain ⟨e1, e2, e3⟩ := F3.out (by simp) (by simp); rw [e1, e2, e3], by repeat (first | exact B' | refine Below.drew ?_ | refine Below.setCell ?_ (by first | (simp; done) | (simp; omega) | omega) _)⟩
set_option maxHeartbeats 2000000 in
theorem implCarryOn_any (kn : Bool) (lo hi a n d c : Int) (w : World) :
    Calls Tryd.prog 103 #[.agg #[.bool kn, .int .i64 lo, .int .i64 hi, .int .i64 a], .agg #[.int .i64 n, .int .i64 d], .int .i64 c] w fun e w' => e = .returned (.tuple #[.agg #[.int .i64 (crL kn lo hi a n d c), .int .i64 (crH kn lo hi a n d c)], .int .i64 (crC kn lo hi a n d c)]) ∧ Below w.heap.size w w' := by
  have B : Below w.heap.size w (((w.alloc (.cells #[.bool kn, .int .i64 lo, .int .i64 hi, .int .i64 a] 64)).alloc (.cells #[.int .i64 n, .int .i64 d] 27)).alloc (.cells #[.int .i64 0, .int .i64 0] 25)) := ((Below.alc _ _).alloc (by first | (simp; done) | (simp; omega) | omega) _).alloc (by first | (simp; done) | (simp; omega) | omega) _
  have H := ((BoxL.new w kn lo hi a 64).alloc (.cells #[.int .i64 n, .int .i64 d] 27)).alloc (.cells #[.int .i64 0, .int .i64 0] 25)
  have R := Bx.new ((w.alloc (.cells #[.bool kn, .int .i64 lo, .int .i64 hi, .int .i64 a] 64)).alloc (.cells #[.int .i64 n, .int .i64 d] 27)) 0 0 25
  simp only [World.size_alloc] at R
  have CC := fun v H' => carry_any w.heap.size kn lo hi a n d c v H'
  generalize crL kn lo hi a n d c = X at *
  generalize crH kn lo hi a n d c = Y at *
  generalize crC kn lo hi a n d c = Z at *
  go_enter Tryd.func103, Tryd.ntmps103
  go_wp2_with fail
  refine (CC _ H).mono ?_
  rintro e v ⟨rfl, hb⟩
  replace B := B.trans (hb.mono B.size)
  obtain ⟨r0, r1, r2, r3, r4⟩ := R.below hb
  clear hb H R CC
  go_wp2
  exact bodyPost_ret (v := .tuple #[.agg #[.int .i64 X, .int .i64 Y], .int .i64 Z]) (by simp (maxDischargeDepth := 6) [results, Tryd.results103, go_sem, *]) rfl ⟨rfl, by repeat (first | exact B | refine Below.drew ?_ | refine Below.setCell ?_ (by first | (simp; done) | (simp; omega) | omega) _)⟩
end Go.Proofs.YtcakhfobkbgfoaaDoor
