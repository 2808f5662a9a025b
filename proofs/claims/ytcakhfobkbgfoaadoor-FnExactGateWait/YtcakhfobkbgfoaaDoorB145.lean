/- SlotFrom and Occurrence in the program. -/
import Derived.Test.YtcakhfobkbgfoaaDoorB144
import Derived.Deep.RegionHeld3
import Derived.WalkKit
import Derived.WalkSpells
import Derived.WalkLawsBesides
import Derived.Deep.RegionHeld
namespace Go.Proofs.YtcakhfobkbgfoaaDoor
open Go.RowKit
set_option linter.unusedVariables false
/- When a slot begins in a round, in the program. -/
theorem oc_all {s g : Int} {M : Nat → SlT} {n : Nat} {i k : Int} (e : ocB s g M n i k = false) : ocB s g M n i k = false ∧ ocL s g M n i k = 0 ∧ ocH s g M n i k = 0 := ⟨e, oc_no e⟩
theorem oc_sel2 {s g : Int} {M : Nat → SlT} {n : Nat} {i : Nat} {k : Int} (hp : plB s g M n = true) (hi : i < n) (h0 : 0 ≤ k) : ocB s g M n i k = okI (ocF s g M n i k) (ocF s g M n i k + (M i).2) ∧ ocL s g M n i k = sel (okI (ocF s g M n i k) (ocF s g M n i k + (M i).2)) (ocF s g M n i k) ∧ ocH s g M n i k = sel (okI (ocF s g M n i k) (ocF s g M n i k + (M i).2)) (ocF s g M n i k + (M i).2) := by
  have e := oc_ok hp hi h0
  refine ⟨e, ?_, ?_⟩
  · unfold ocL; rw [e]; cases okI (ocF s g M n i k) (ocF s g M n i k + (M i).2) <;> rfl
  · unfold ocH; rw [e, Int.toNat_natCast]; cases okI (ocF s g M n i k) (ocF s g M n i k + (M i).2) <;> rfl
set_option maxRecDepth 100000 in
set_option maxHeartbeats 8000000 in
theorem implOccurrence_any (s g : Int) (a : Option Addr) (n c : Nat) (M : Nat → SlT) (i k : Int) (w : World) (hm : n ≤ maxLen) (hs : SrcC w a (n * 2) (MFSlot M)) :
    Calls Tryd.prog 14 #[.agg #[.int .i64 s, .int .i64 g, .slice a n c], .int .i64 i, .int .i64 k] w fun e w' => e = .returned (.tuple #[.agg #[.int .i64 (ocL s g M n i k), .int .i64 (ocH s g M n i k)], .bool (ocB s g M n i k)]) ∧ Below w.heap.size w w' := by
  have A0 := Below.nw w (.cells #[.int .i64 s, .int .i64 g, .slice a n c] 30)
  have A1 := Below.nw (w.alloc (.cells #[.int .i64 s, .int .i64 g, .slice a n c] 30)) (.cells #[.int .i64 0, .int .i64 0] 25)
  have N := (Tx3.new w (.int .i64 s) (.int .i64 g) (.slice a n c) 30).below A1
  have R := Bx2.new (w.alloc (.cells #[.int .i64 s, .int .i64 g, .slice a n c] 30)) (.int .i64 0) (.int .i64 0) 25
  have B := A0.trans (A1.mono A0.size)
  simp only [World.size_alloc] at R
  clear A0 A1
  have hj : w.heap.size ≤ w.heap.size + 1 := by omega
  have HS : Hid (SrcC w a (n * 2) (MFSlot M)) := hs
  clear hs
  have C1 := fun w' h => planHas_any s g a n c M i w' hm h
  cases h1 : sfB s g M n i
  · obtain ⟨e1, e2, e3⟩ := oc_all (s := s) (g := g) (M := M) (n := n) (i := i) (k := k) (by unfold ocB ocG; rw [h1]; rfl)
    rw [e1, e2, e3]
    rw [h1] at C1
    clear e1 e2 e3
    go_enter Tryd.func14, Tryd.ntmps14
    go_upto_region 1 with fail
    generalize (w.alloc (.cells #[.int .i64 s, .int .i64 g, .slice a n c] 30)).alloc (.cells #[.int .i64 0, .int .i64 0] 25) = v at *
    generalize w.heap.size + 1 = jr at *
    obtain ⟨n0, n1, n2, n3, n4, n5, n6⟩ := id N
    go_wp2_with fail
    refine (C1 _ (HS.out.below B)).mono ?_
    rintro e v1 ⟨rfl, hb⟩
    clear n0 n1 n2 n3 n4 n5 n6
    replace B := B.trans (hb.mono B.size)
    replace N := N.below hb
    replace R := R.below hb
    clear hb
    have RR := (R.set0 (.int .i64 0)).set1 (.int .i64 0)
    have BB := (B.setCell (p := ⟨jr, 0, none⟩) hj (.int .i64 0)).setCell (p := ⟨jr, 1, none⟩) hj (.int .i64 0)
    obtain ⟨r0, r1, r2, r3, r4⟩ := id R
    go_wp2_with fail
    clear r0 r1 r2 r3 r4
    generalize (v1.setCell ⟨jr, 0, none⟩ (.int .i64 0)).setCell ⟨jr, 1, none⟩ (.int .i64 0) = vz at *
    obtain ⟨r0, r1, r2, r3, r4⟩ := id RR
    exact bodyPost_ret (v := (.tuple #[.agg #[.int .i64 0, .int .i64 0], .bool false])) (by simp (maxDischargeDepth := 6) [results, Tryd.results14, go_sem, *]) rfl ⟨rfl, BB⟩
  rw [h1] at C1
  obtain ⟨q1, q2, q3, q4⟩ := sfB_t h1
  by_cases h2 : k < 0
  · obtain ⟨e1, e2, e3⟩ := oc_all (s := s) (g := g) (M := M) (n := n) (i := i) (k := k) (by unfold ocB ocG okK; rw [decide_eq_false (show ¬ (0 ≤ k ∧ k ≤ 1000000000000) by omega)]; simp)
    rw [e1, e2, e3]
    clear e1 e2 e3 q1 q2 q3 q4
    go_enter Tryd.func14, Tryd.ntmps14
    go_upto_region 1 with fail
    generalize (w.alloc (.cells #[.int .i64 s, .int .i64 g, .slice a n c] 30)).alloc (.cells #[.int .i64 0, .int .i64 0] 25) = v at *
    generalize w.heap.size + 1 = jr at *
    obtain ⟨n0, n1, n2, n3, n4, n5, n6⟩ := id N
    go_wp2_with fail
    refine (C1 _ (HS.out.below B)).mono ?_
    rintro e v1 ⟨rfl, hb⟩
    clear n0 n1 n2 n3 n4 n5 n6
    replace B := B.trans (hb.mono B.size)
    replace N := N.below hb
    replace R := R.below hb
    clear hb
    have RR := (R.set0 (.int .i64 0)).set1 (.int .i64 0)
    have BB := (B.setCell (p := ⟨jr, 0, none⟩) hj (.int .i64 0)).setCell (p := ⟨jr, 1, none⟩) hj (.int .i64 0)
    obtain ⟨r0, r1, r2, r3, r4⟩ := id R
    go_wp2_with fail
    clear r0 r1 r2 r3 r4
    generalize (v1.setCell ⟨jr, 0, none⟩ (.int .i64 0)).setCell ⟨jr, 1, none⟩ (.int .i64 0) = vz at *
    obtain ⟨r0, r1, r2, r3, r4⟩ := id RR
    exact bodyPost_ret (v := (.tuple #[.agg #[.int .i64 0, .int .i64 0], .bool false])) (by simp (maxDischargeDepth := 6) [results, Tryd.results14, go_sem, *]) rfl ⟨rfl, BB⟩
  have CA := fun w' h => roundAt_any s g a n c M 1000000000000 w' q1 (by decide) h
  by_cases h3 : raI s g M n 1000000000000 < k
  · obtain ⟨e1, e2, e3⟩ := oc_all (oc_late (i := i) q1 h3)
    rw [e1, e2, e3]
    clear e1 e2 e3 q1 q2 q3 q4
    generalize raI s g M n 1000000000000 = rr at *
    go_enter Tryd.func14, Tryd.ntmps14
    go_upto_region 1 with fail
    generalize (w.alloc (.cells #[.int .i64 s, .int .i64 g, .slice a n c] 30)).alloc (.cells #[.int .i64 0, .int .i64 0] 25) = v at *
    generalize w.heap.size + 1 = jr at *
    obtain ⟨n0, n1, n2, n3, n4, n5, n6⟩ := id N
    go_wp2_with fail
    refine (C1 _ (HS.out.below B)).mono ?_
    rintro e v1 ⟨rfl, hb⟩
    clear n0 n1 n2 n3 n4 n5 n6
    replace B := B.trans (hb.mono B.size)
    replace N := N.below hb
    replace R := R.below hb
    clear hb
    obtain ⟨n0, n1, n2, n3, n4, n5, n6⟩ := id N
    go_wp2_with fail
    refine (CA _ (HS.out.below B)).mono ?_
    rintro e v2 ⟨rfl, hb⟩
    clear n0 n1 n2 n3 n4 n5 n6
    replace B := B.trans (hb.mono B.size)
    replace N := N.below hb
    replace R := R.below hb
    clear hb
    have RR := (R.set0 (.int .i64 0)).set1 (.int .i64 0)
    have BB := (B.setCell (p := ⟨jr, 0, none⟩) hj (.int .i64 0)).setCell (p := ⟨jr, 1, none⟩) hj (.int .i64 0)
    obtain ⟨r0, r1, r2, r3, r4⟩ := id R
    go_wp2_with fail
    clear r0 r1 r2 r3 r4
    generalize (v2.setCell ⟨jr, 0, none⟩ (.int .i64 0)).setCell ⟨jr, 1, none⟩ (.int .i64 0) = vz at *
    obtain ⟨r0, r1, r2, r3, r4⟩ := id RR
    exact bodyPost_ret (v := (.tuple #[.agg #[.int .i64 0, .int .i64 0], .bool false])) (by simp (maxDischargeDepth := 6) [results, Tryd.results14, go_sem, *]) rfl ⟨rfl, BB⟩
  have CD := fun w' h => rounds1_any s g a n c M k w' q1 (ra_kOk q1 (t := 1000000000000) (by decide) (by omega) (by omega)) h
  have HI : Hid (i.toNat < n) := q3
  have hiN : i = ((i.toNat : Nat) : Int) := q4.symm
  have hli : (i.toNat : Int) < (n : Int) := by omega
  obtain ⟨e1, e2, e3⟩ := oc_sel2 (i := i.toNat) (k := k) q1 q3 (by omega)
  have CT := fun w' => told_any (ocF s g M n (i.toNat : Int) k) (ocF s g M n (i.toNat : Int) k + (M i.toNat).2) w'
  clear q1 q2 q3 q4 h1
  generalize i.toNat = iN at *
  subst hiN
  rw [e1, e2, e3]
  clear e1 e2 e3
  generalize raI s g M n 1000000000000 = rr at *
  generalize sel (okI (ocF s g M n (iN : Int) k) (ocF s g M n (iN : Int) k + (M iN).2)) (ocF s g M n (iN : Int) k) = X at *
  generalize sel (okI (ocF s g M n (iN : Int) k) (ocF s g M n (iN : Int) k + (M iN).2)) (ocF s g M n (iN : Int) k + (M iN).2) = Y at *
  generalize okI (ocF s g M n (iN : Int) k) (ocF s g M n (iN : Int) k + (M iN).2) = Q at *
  go_enter Tryd.func14, Tryd.ntmps14
  go_upto_region 1 with fail
  generalize (w.alloc (.cells #[.int .i64 s, .int .i64 g, .slice a n c] 30)).alloc (.cells #[.int .i64 0, .int .i64 0] 25) = v at *
  generalize w.heap.size + 1 = jr at *
  obtain ⟨n0, n1, n2, n3, n4, n5, n6⟩ := id N
  go_wp2_with fail
  refine (C1 _ (HS.out.below B)).mono ?_
  rintro e v1 ⟨rfl, hb⟩
  clear n0 n1 n2 n3 n4 n5 n6
  replace B := B.trans (hb.mono B.size)
  replace N := N.below hb
  replace R := R.below hb
  clear hb
  obtain ⟨n0, n1, n2, n3, n4, n5, n6⟩ := id N
  go_wp2_with fail
  refine (CA _ (HS.out.below B)).mono ?_
  rintro e v2 ⟨rfl, hb⟩
  clear n0 n1 n2 n3 n4 n5 n6
  replace B := B.trans (hb.mono B.size)
  replace N := N.below hb
  replace R := R.below hb
  clear hb
  obtain ⟨n0, n1, n2, n3, n4, n5, n6⟩ := id N
  go_wp2_with fail
  refine (CD _ (HS.out.below B)).mono ?_
  rintro e v3 ⟨b1, b2, rfl, y1, RO, hb⟩
  clear n0 n1 n2 n3 n4 n5 n6
  replace B := B.trans (hb.mono B.size)
  replace N := N.below hb
  replace R := R.below hb
  clear hb
  obtain ⟨y2, y3⟩ := RO.2 iN HI.out
  rw [Nat.zero_add] at y2 y3
  clear RO CD CA C1
  go_wp2_with fail
  refine (CT _).mono ?_
  rintro e v5 ⟨rfl, hb⟩
  clear y1 y2 y3
  replace B := B.trans (hb.mono B.size)
  replace N := N.below hb
  replace R := R.below hb
  clear hb
  have RR := (R.set0 (.int .i64 X)).set1 (.int .i64 Y)
  have BB := (B.setCell (p := ⟨jr, 0, none⟩) hj (.int .i64 X)).setCell (p := ⟨jr, 1, none⟩) hj (.int .i64 Y)
  obtain ⟨r0, r1, r2, r3, r4⟩ := id R
  go_wp2_with fail
  clear r0 r1 r2 r3 r4
  generalize (v5.setCell ⟨jr, 0, none⟩ (.int .i64 X)).setCell ⟨jr, 1, none⟩ (.int .i64 Y) = vz at *
  obtain ⟨r0, r1, r2, r3, r4⟩ := id RR
  exact bodyPost_ret (v := (.tuple #[.agg #[.int .i64 X, .int .i64 Y], .bool Q])) (by simp (maxDischargeDepth := 6) [results, Tryd.results14, go_sem, *]) rfl ⟨rfl, BB⟩
end Go.Proofs.YtcakhfobkbgfoaaDoor
