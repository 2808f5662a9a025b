/- RateCarry of the program. -/
import Derived.Test.YtjefbjjhdpidiaaDoorF118
import Derived.Test.YtjefbjjhdpidiaaDoorF128
import Derived.Deep.RegionHeld3
import Derived.WalkKit
import Derived.WalkSpells
import Derived.WalkLawsBesides
import Derived.Deep.RegionHeld
namespace Go.Proofs.YtjefbjjhdpidiaaDoor
open Go.RowKit
set_option linter.unusedVariables false
theorem up_rest {x b : Int} (hb : 0 < b) : (0 < x % b → upI x b = x / b + 1) ∧ (¬ 0 < x % b → upI x b = x / b) := by
  have h1 := Int.emod_nonneg x (b := b) (by omega)
  have h2 := Int.emod_lt_of_pos x hb
  have h3 := Int.mul_ediv_add_emod x b
  have hz : b ≠ 0 := by omega
  refine ⟨fun h => ?_, fun h => ?_⟩
  · unfold upI
    have e : x + b - 1 = (x % b - 1) + b * (x / b + 1) := by rw [Int.mul_add]; omega
    rw [e, Int.add_mul_ediv_left _ _ hz, Int.ediv_eq_zero_of_lt (by omega) (by omega)]
    omega
  · unfold upI
    have e : x + b - 1 = (x % b + b - 1) + b * (x / b) := by omega
    rw [e, Int.add_mul_ediv_left _ _ hz, Int.ediv_eq_zero_of_lt (by omega) (by omega)]
    omega
set_option maxHeartbeats 8000000 in
theorem carry_any (a b c d n : Int) (w : World) (h1 : okF a b = true) (h2 : okF c d = true) (g1 : 0 ≤ a) (g2 : 0 ≤ n) (g3 : n ≤ 1000000) : Calls Tryd.prog 53 #[.agg #[.int .i64 a, .int .i64 b, .int .i64 c, .int .i64 d], .int .i64 n] w fun e w' => e = .returned (.agg #[.int .i64 (upI (n * a) b), .int .i64 (n * c / d)]) ∧ Below w.heap.size w w' := by
  have A0 := Below.nw w (.cells #[.int .i64 a, .int .i64 b, .int .i64 c, .int .i64 d] 71)
  have A1 := Below.nw (w.alloc (.cells #[.int .i64 a, .int .i64 b, .int .i64 c, .int .i64 d] 71)) (.cells #[.int .i64 0, .int .i64 0] 38)
  have N := (Rx4.new w a b c d 71).below A1
  have R := Bx2.new (w.alloc (.cells #[.int .i64 a, .int .i64 b, .int .i64 c, .int .i64 d] 71)) (.int .i64 0) (.int .i64 0) 38
  have B := A0.trans (A1.mono A0.size)
  simp only [World.size_alloc] at R
  clear A0 A1
  have hj : w.heap.size ≤ w.heap.size + 1 := by omega
  have k1 := okF_t h1
  have k2 := okF_t h2
  have b1 := mulc_bd g2 g3 k1.1.1 k1.1.2
  have b2 := mulc_bd g2 g3 k2.1.1 k2.1.2
  have b3 : 0 ≤ n * a := Int.mul_nonneg g2 g1
  have hw1 : wrap64 (n * a) = n * a := Go.IntWalk.wrap64_in _ ⟨by omega, by omega⟩
  have hw2 : wrap64 (n * c) = n * c := Go.IntWalk.wrap64_in _ ⟨by omega, by omega⟩
  have hw3 : IntKind.i64.wrap (n * a) = n * a := Go.IntWalk.i64_in _ ⟨by omega, by omega⟩
  have hw4 : IntKind.i64.wrap (n * c) = n * c := Go.IntWalk.i64_in _ ⟨by omega, by omega⟩
  have CU := fun w' => divided_any (n * a) b w' (by omega) (by omega) (by omega) (by omega)
  have CD := fun w' => divided_any (n * c) d w' (by omega) (by omega) (by omega) (by omega)
  have q1 : 0 ≤ n * a / b ∧ n * a / b ≤ n * a := dnI_bd b3 (by omega)
  obtain ⟨u1, u2⟩ := up_rest (x := n * a) (b := b) (by omega)
  by_cases hr : 0 < n * a % b
  · rw [u1 hr]
    clear u1 u2
    have hw5 : wrap64 (n * a / b + 1) = n * a / b + 1 := Go.IntWalk.wrap64_in _ ⟨by omega, by omega⟩
    generalize n * a / b = xa at *
    generalize n * a % b = ra at *
    generalize n * c / d = xc at *
    generalize n * c % d = rc at *
    clear q1 b1 b2 b3 k1 k2
    go_enter Tryd.func53, Tryd.ntmps53; go_upto_region 1 with fail; generalize (w.alloc (.cells #[.int .i64 a, .int .i64 b, .int .i64 c, .int .i64 d] 71)).alloc (.cells #[.int .i64 0, .int .i64 0] 38) = v at *; generalize w.heap.size + 1 = jr at *
    obtain ⟨n0, n1, n2, n3, n4, f1, f2, f3, f4⟩ := id N
    go_wp2_with fail
    refine (CU _).mono ?_
    rintro e v2 ⟨rfl, hbl⟩
    clear n0 n1 n2 n3 n4 f1 f2 f3 f4
    replace N := N.below hbl; replace R := R.below hbl; replace B := B.trans (hbl.mono B.size); clear hbl
    obtain ⟨n0, n1, n2, n3, n4, f1, f2, f3, f4⟩ := id N
    go_wp2_with fail
    refine (CD _).mono ?_
    rintro e v3 ⟨rfl, hbl⟩
    clear n0 n1 n2 n3 n4 f1 f2 f3 f4
    replace N := N.below hbl; replace R := R.below hbl; replace B := B.trans (hbl.mono B.size); clear hbl
    obtain ⟨r0, r1, r2, r3, r4⟩ := id R
    go_wp2_with fail
    exact bodyPost_ret (v := (.agg #[.int .i64 (xa + 1), .int .i64 xc])) (by simp (maxDischargeDepth := 6) [results, Tryd.results53, go_sem, *]) rfl ⟨rfl, (B.setCell (p := ⟨jr, 0, none⟩) hj _).setCell (p := ⟨jr, 1, none⟩) hj _⟩
  · rw [u2 hr]
    clear u1 u2
    have hr' : decide (0 < n * a % b) = false := decide_eq_false hr
    generalize n * a / b = xa at *
    generalize n * a % b = ra at *
    generalize n * c / d = xc at *
    generalize n * c % d = rc at *
    clear q1 b1 b2 b3 k1 k2
    go_enter Tryd.func53, Tryd.ntmps53; go_upto_region 1 with fail; generalize (w.alloc (.cells #[.int .i64 a, .int .i64 b, .int .i64 c, .int .i64 d] 71)).alloc (.cells #[.int .i64 0, .int .i64 0] 38) = v at *; generalize w.heap.size + 1 = jr at *
    obtain ⟨n0, n1, n2, n3, n4, f1, f2, f3, f4⟩ := id N
    go_wp2_with fail
    refine (CU _).mono ?_
    rintro e v2 ⟨rfl, hbl⟩
    clear n0 n1 n2 n3 n4 f1 f2 f3 f4
    replace N := N.below hbl; replace R := R.below hbl; replace B := B.trans (hbl.mono B.size); clear hbl
    obtain ⟨n0, n1, n2, n3, n4, f1, f2, f3, f4⟩ := id N
    go_wp2_with fail
    refine (CD _).mono ?_
    rintro e v3 ⟨rfl, hbl⟩
    clear n0 n1 n2 n3 n4 f1 f2 f3 f4
    replace N := N.below hbl; replace R := R.below hbl; replace B := B.trans (hbl.mono B.size); clear hbl
    obtain ⟨r0, r1, r2, r3, r4⟩ := id R
    go_wp2_with fail
    exact bodyPost_ret (v := (.agg #[.int .i64 xa, .int .i64 xc])) (by simp (maxDischargeDepth := 6) [results, Tryd.results53, go_sem, *]) rfl ⟨rfl, (B.setCell (p := ⟨jr, 0, none⟩) hj _).setCell (p := ⟨jr, 1, none⟩) hj _⟩
set_option maxRecDepth 100000 in
set_option maxHeartbeats 8000000 in
theorem implRateCarry_any (a b c d n : Int) (u : Addr) (w : World) (E : Er w 0 u) : Calls Tryd.prog 28 #[.agg #[.int .i64 a, .int .i64 b], .agg #[.int .i64 c, .int .i64 d], .int .i64 n] w fun e w' => e = .returned (.tuple #[.agg #[.int .i64 (rcL a b c d n), .int .i64 (rcH a b c d n)], .bool (rcB a b c d n)]) ∧ Below w.heap.size w w' := by
  have A0 := Below.nw w (.cells #[.int .i64 a, .int .i64 b] 25)
  have A1 := Below.nw (w.alloc (.cells #[.int .i64 a, .int .i64 b] 25)) (.cells #[.int .i64 c, .int .i64 d] 25)
  have A2 := Below.nw ((w.alloc (.cells #[.int .i64 a, .int .i64 b] 25)).alloc (.cells #[.int .i64 c, .int .i64 d] 25)) (.cells #[.int .i64 0, .int .i64 0] 38)
  have P := ((Bx2.new w (.int .i64 a) (.int .i64 b) 25).below A1).below A2
  have Q := (Bx2.new (w.alloc (.cells #[.int .i64 a, .int .i64 b] 25)) (.int .i64 c) (.int .i64 d) 25).below A2
  have R := Bx2.new ((w.alloc (.cells #[.int .i64 a, .int .i64 b] 25)).alloc (.cells #[.int .i64 c, .int .i64 d] 25)) (.int .i64 0) (.int .i64 0) 38
  have B := (A0.trans (A1.mono A0.size)).trans (A2.mono (A0.trans (A1.mono A0.size)).size)
  simp only [World.size_alloc] at Q R
  clear A0 A1 A2
  have hj : w.heap.size ≤ w.heap.size + 1 + 1 := by omega
  have d1 : w.heap.size ≠ w.heap.size + 1 + 1 := by omega
  have d2 : w.heap.size + 1 ≠ w.heap.size + 1 + 1 := by omega
  have A3 := Below.nw (((w.alloc (.cells #[.int .i64 a, .int .i64 b] 25)).alloc (.cells #[.int .i64 c, .int .i64 d] 25)).alloc (.cells #[.int .i64 0, .int .i64 0] 38)) (.cells #[.int .i64 a, .int .i64 b, .int .i64 c, .int .i64 d] 71)
  have N := Rx4.new (((w.alloc (.cells #[.int .i64 a, .int .i64 b] 25)).alloc (.cells #[.int .i64 c, .int .i64 d] 25)).alloc (.cells #[.int .i64 0, .int .i64 0] 38)) a b c d 71
  simp only [World.size_alloc] at N
  replace P := P.below A3
  replace R := R.below A3
  replace B := B.trans (A3.mono B.size)
  clear A3 d1 d2 Q
  replace E := E.below B
  cases hP : rcP a b c d n
  · obtain ⟨e1, e2, e3⟩ := rc_no hP
    rw [e1, e2, e3]
    clear e1 e2 e3
    cases hk : (okF a b && okF c d)
    · go_enter Tryd.func28, Tryd.ntmps28; go_upto_region 2 with fail; generalize (((w.alloc (.cells #[.int .i64 a, .int .i64 b] 25)).alloc (.cells #[.int .i64 c, .int .i64 d] 25)).alloc (.cells #[.int .i64 0, .int .i64 0] 38)).alloc (.cells #[.int .i64 a, .int .i64 b, .int .i64 c, .int .i64 d] 71) = v at *; generalize w.heap.size + 1 + 1 + 1 = jn at *; generalize w.heap.size + 1 + 1 = jr at *; generalize w.heap.size + 1 = jb at *; obtain ⟨m0, m1, m2, m3, m4⟩ := id P; obtain ⟨n0, n1, n2, n3, n4, f1, f2, f3, f4⟩ := id N; obtain ⟨r0, r1, r2, r3, r4⟩ := id R; go_wp2_with fail; refine (ratesOk_any a b c d u v E).mono ?_; rintro e v2 ⟨rfl, hbl⟩; rw [hk]; clear m0 m1 m2 m3 m4 n0 n1 n2 n3 n4 f1 f2 f3 f4 r0 r1 r2 r3 r4; replace P := P.below hbl; replace N := N.below hbl; replace R := R.below hbl; replace E := E.below hbl; replace B := B.trans (hbl.mono B.size); clear hbl; obtain ⟨m0, m1, m2, m3, m4⟩ := id P; obtain ⟨n0, n1, n2, n3, n4, f1, f2, f3, f4⟩ := id N; obtain ⟨r0, r1, r2, r3, r4⟩ := id R
      go_wp2_with fail; exact bodyPost_ret (v := (.tuple #[.agg #[.int .i64 0, .int .i64 0], .bool false])) (by simp (maxDischargeDepth := 6) [results, Tryd.results28, go_sem, *]) rfl ⟨rfl, (B.setCell (p := ⟨jr, 0, none⟩) hj _).setCell (p := ⟨jr, 1, none⟩) hj _⟩
    have hk' := hk
    simp only [Bool.and_eq_true] at hk'
    have hB := rc_f hP hk'.1 hk'.2
    clear hP hk'
    by_cases c1 : a < 0
    · clear hB
      go_enter Tryd.func28, Tryd.ntmps28; go_upto_region 2 with fail; generalize (((w.alloc (.cells #[.int .i64 a, .int .i64 b] 25)).alloc (.cells #[.int .i64 c, .int .i64 d] 25)).alloc (.cells #[.int .i64 0, .int .i64 0] 38)).alloc (.cells #[.int .i64 a, .int .i64 b, .int .i64 c, .int .i64 d] 71) = v at *; generalize w.heap.size + 1 + 1 + 1 = jn at *; generalize w.heap.size + 1 + 1 = jr at *; generalize w.heap.size + 1 = jb at *; obtain ⟨m0, m1, m2, m3, m4⟩ := id P; obtain ⟨n0, n1, n2, n3, n4, f1, f2, f3, f4⟩ := id N; obtain ⟨r0, r1, r2, r3, r4⟩ := id R; go_wp2_with fail; refine (ratesOk_any a b c d u v E).mono ?_; rintro e v2 ⟨rfl, hbl⟩; rw [hk]; clear m0 m1 m2 m3 m4 n0 n1 n2 n3 n4 f1 f2 f3 f4 r0 r1 r2 r3 r4; replace P := P.below hbl; replace N := N.below hbl; replace R := R.below hbl; replace E := E.below hbl; replace B := B.trans (hbl.mono B.size); clear hbl; obtain ⟨m0, m1, m2, m3, m4⟩ := id P; obtain ⟨n0, n1, n2, n3, n4, f1, f2, f3, f4⟩ := id N; obtain ⟨r0, r1, r2, r3, r4⟩ := id R
      go_wp2_with fail; exact bodyPost_ret (v := (.tuple #[.agg #[.int .i64 0, .int .i64 0], .bool false])) (by simp (maxDischargeDepth := 6) [results, Tryd.results28, go_sem, *]) rfl ⟨rfl, (B.setCell (p := ⟨jr, 0, none⟩) hj _).setCell (p := ⟨jr, 1, none⟩) hj _⟩
    have c1' : decide (a < 0) = false := decide_eq_false c1
    by_cases c2 : n < 0
    · clear hB c1
      go_enter Tryd.func28, Tryd.ntmps28; go_upto_region 2 with fail; generalize (((w.alloc (.cells #[.int .i64 a, .int .i64 b] 25)).alloc (.cells #[.int .i64 c, .int .i64 d] 25)).alloc (.cells #[.int .i64 0, .int .i64 0] 38)).alloc (.cells #[.int .i64 a, .int .i64 b, .int .i64 c, .int .i64 d] 71) = v at *; generalize w.heap.size + 1 + 1 + 1 = jn at *; generalize w.heap.size + 1 + 1 = jr at *; generalize w.heap.size + 1 = jb at *; obtain ⟨m0, m1, m2, m3, m4⟩ := id P; obtain ⟨n0, n1, n2, n3, n4, f1, f2, f3, f4⟩ := id N; obtain ⟨r0, r1, r2, r3, r4⟩ := id R; go_wp2_with fail; refine (ratesOk_any a b c d u v E).mono ?_; rintro e v2 ⟨rfl, hbl⟩; rw [hk]; clear m0 m1 m2 m3 m4 n0 n1 n2 n3 n4 f1 f2 f3 f4 r0 r1 r2 r3 r4; replace P := P.below hbl; replace N := N.below hbl; replace R := R.below hbl; replace E := E.below hbl; replace B := B.trans (hbl.mono B.size); clear hbl; obtain ⟨m0, m1, m2, m3, m4⟩ := id P; obtain ⟨n0, n1, n2, n3, n4, f1, f2, f3, f4⟩ := id N; obtain ⟨r0, r1, r2, r3, r4⟩ := id R
      go_wp2_with fail; exact bodyPost_ret (v := (.tuple #[.agg #[.int .i64 0, .int .i64 0], .bool false])) (by simp (maxDischargeDepth := 6) [results, Tryd.results28, go_sem, *]) rfl ⟨rfl, (B.setCell (p := ⟨jr, 0, none⟩) hj _).setCell (p := ⟨jr, 1, none⟩) hj _⟩
    have c2' : decide (n < 0) = false := decide_eq_false c2
    have c3 : 1000000 < n := by omega
    clear hB c1 c2
    go_enter Tryd.func28, Tryd.ntmps28; go_upto_region 2 with fail; generalize (((w.alloc (.cells #[.int .i64 a, .int .i64 b] 25)).alloc (.cells #[.int .i64 c, .int .i64 d] 25)).alloc (.cells #[.int .i64 0, .int .i64 0] 38)).alloc (.cells #[.int .i64 a, .int .i64 b, .int .i64 c, .int .i64 d] 71) = v at *; generalize w.heap.size + 1 + 1 + 1 = jn at *; generalize w.heap.size + 1 + 1 = jr at *; generalize w.heap.size + 1 = jb at *; obtain ⟨m0, m1, m2, m3, m4⟩ := id P; obtain ⟨n0, n1, n2, n3, n4, f1, f2, f3, f4⟩ := id N; obtain ⟨r0, r1, r2, r3, r4⟩ := id R; go_wp2_with fail; refine (ratesOk_any a b c d u v E).mono ?_; rintro e v2 ⟨rfl, hbl⟩; rw [hk]; clear m0 m1 m2 m3 m4 n0 n1 n2 n3 n4 f1 f2 f3 f4 r0 r1 r2 r3 r4; replace P := P.below hbl; replace N := N.below hbl; replace R := R.below hbl; replace E := E.below hbl; replace B := B.trans (hbl.mono B.size); clear hbl; obtain ⟨m0, m1, m2, m3, m4⟩ := id P; obtain ⟨n0, n1, n2, n3, n4, f1, f2, f3, f4⟩ := id N; obtain ⟨r0, r1, r2, r3, r4⟩ := id R
    go_wp2_with fail; exact bodyPost_ret (v := (.tuple #[.agg #[.int .i64 0, .int .i64 0], .bool false])) (by simp (maxDischargeDepth := 6) [results, Tryd.results28, go_sem, *]) rfl ⟨rfl, (B.setCell (p := ⟨jr, 0, none⟩) hj _).setCell (p := ⟨jr, 1, none⟩) hj _⟩
  obtain ⟨e1, e2, e3⟩ := rc_yes hP
  rw [e1, e2, e3]
  obtain ⟨h1, h2, g1, g2, g3⟩ := rc_t hP
  clear e1 e2 e3 hP
  have hk : (okF a b && okF c d) = true := by rw [h1, h2]; rfl
  have c1' : decide (a < 0) = false := decide_eq_false (by omega)
  have c2' : decide (n < 0) = false := decide_eq_false (by omega)
  have c3' : decide (1000000 < n) = false := decide_eq_false (by omega)
  have CA := fun w' => carry_any a b c d n w' h1 h2 g1 g2 g3
  generalize upI (n * a) b = ul at *
  generalize n * c / d = dl at *
  have CT := fun w' => told_any ul dl w'
  generalize sel (okI ul dl) ul = sl at *
  generalize sel (okI ul dl) dl = sh at *
  generalize okI ul dl = ok at *
  clear h1 h2 g1 g2 g3
  go_enter Tryd.func28, Tryd.ntmps28; go_upto_region 2 with fail; generalize (((w.alloc (.cells #[.int .i64 a, .int .i64 b] 25)).alloc (.cells #[.int .i64 c, .int .i64 d] 25)).alloc (.cells #[.int .i64 0, .int .i64 0] 38)).alloc (.cells #[.int .i64 a, .int .i64 b, .int .i64 c, .int .i64 d] 71) = v at *; generalize w.heap.size + 1 + 1 + 1 = jn at *; generalize w.heap.size + 1 + 1 = jr at *; generalize w.heap.size + 1 = jb at *; obtain ⟨m0, m1, m2, m3, m4⟩ := id P; obtain ⟨n0, n1, n2, n3, n4, f1, f2, f3, f4⟩ := id N; obtain ⟨r0, r1, r2, r3, r4⟩ := id R; go_wp2_with fail; refine (ratesOk_any a b c d u v E).mono ?_; rintro e v2 ⟨rfl, hbl⟩; rw [hk]; clear m0 m1 m2 m3 m4 n0 n1 n2 n3 n4 f1 f2 f3 f4 r0 r1 r2 r3 r4; replace P := P.below hbl; replace N := N.below hbl; replace R := R.below hbl; replace E := E.below hbl; replace B := B.trans (hbl.mono B.size); clear hbl; obtain ⟨m0, m1, m2, m3, m4⟩ := id P; obtain ⟨n0, n1, n2, n3, n4, f1, f2, f3, f4⟩ := id N; obtain ⟨r0, r1, r2, r3, r4⟩ := id R
  go_wp2_with fail
  refine (CA _).mono ?_
  rintro e v3 ⟨rfl, hbl⟩
  clear m0 m1 m2 m3 m4 n0 n1 n2 n3 n4 f1 f2 f3 f4 r0 r1 r2 r3 r4
  replace P := P.below hbl; replace N := N.below hbl; replace R := R.below hbl; replace E := E.below hbl; replace B := B.trans (hbl.mono B.size); clear hbl
  go_wp2_with fail
  refine (CT _).mono ?_
  rintro e v4 ⟨rfl, hbl⟩
  replace P := P.below hbl; replace N := N.below hbl; replace R := R.below hbl; replace E := E.below hbl; replace B := B.trans (hbl.mono B.size); clear hbl
  obtain ⟨r0, r1, r2, r3, r4⟩ := id R
  go_wp2_with fail
  exact bodyPost_ret (v := .tuple #[.agg #[.int .i64 sl, .int .i64 sh], .bool ok]) (by simp (maxDischargeDepth := 6) [results, Tryd.results28, go_sem, *]) rfl ⟨rfl, (B.setCell (p := ⟨jr, 0, none⟩) hj _).setCell (p := ⟨jr, 1, none⟩) hj _⟩
end Go.Proofs.YtjefbjjhdpidiaaDoor
