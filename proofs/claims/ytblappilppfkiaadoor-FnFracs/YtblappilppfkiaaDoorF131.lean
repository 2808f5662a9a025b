/- The rates of two intervals, in the program. -/
import Derived.Test.YtblappilppfkiaaDoorF124
import Derived.Test.YtblappilppfkiaaDoorF116
import Derived.Deep.RegionHeld3
import Derived.Deep.DeepCutAuto
import Derived.WalkKit
import Derived.WalkSpells
import Derived.WalkLawsBesides
import Derived.Deep.RegionHeld
namespace Go.Proofs.YtblappilppfkiaaDoor
open Go.RowKit
set_option linter.unusedVariables false
set_option maxRecDepth 100000 in
set_option maxHeartbeats 16000000 in
theorem implRateOf_any (al ah ca bl bh cb : Int) (u : Addr) (w : World) (E : Er w 0 u) : Calls Tryd.prog 42 #[.agg #[.int .i64 al, .int .i64 ah], .int .i64 ca, .agg #[.int .i64 bl, .int .i64 bh], .int .i64 cb] w fun e w' => e = .returned (.tuple #[.agg #[.int .i64 (roX al ah ca bl bh cb), .int .i64 (roY al ah ca bl bh cb)], .agg #[.int .i64 (roZ al ah ca bl bh cb), .int .i64 (roU al ah ca bl bh cb)], .bool (roB al ah ca bl bh cb)]) ∧ Below w.heap.size w w' := by
  have A0 := Below.nw w (.cells #[.int .i64 al, .int .i64 ah] 49)
  have A1 := Below.nw (w.alloc (.cells #[.int .i64 al, .int .i64 ah] 49)) (.cells #[.int .i64 bl, .int .i64 bh] 49)
  have A2 := Below.nw ((w.alloc (.cells #[.int .i64 al, .int .i64 ah] 49)).alloc (.cells #[.int .i64 bl, .int .i64 bh] 49)) (.cells #[.int .i64 0, .int .i64 0] 27)
  have A3 := Below.nw (((w.alloc (.cells #[.int .i64 al, .int .i64 ah] 49)).alloc (.cells #[.int .i64 bl, .int .i64 bh] 49)).alloc (.cells #[.int .i64 0, .int .i64 0] 27)) (.cells #[.int .i64 0, .int .i64 0] 27)
  have P := (((Bx2.new w (.int .i64 al) (.int .i64 ah) 49).below A1).below A2).below A3
  have Q := ((Bx2.new (w.alloc (.cells #[.int .i64 al, .int .i64 ah] 49)) (.int .i64 bl) (.int .i64 bh) 49).below A2).below A3
  have R := (Bx2.new ((w.alloc (.cells #[.int .i64 al, .int .i64 ah] 49)).alloc (.cells #[.int .i64 bl, .int .i64 bh] 49)) (.int .i64 0) (.int .i64 0) 27).below A3
  have T := Bx2.new (((w.alloc (.cells #[.int .i64 al, .int .i64 ah] 49)).alloc (.cells #[.int .i64 bl, .int .i64 bh] 49)).alloc (.cells #[.int .i64 0, .int .i64 0] 27)) (.int .i64 0) (.int .i64 0) 27
  have B := ((A0.trans (A1.mono A0.size)).trans (A2.mono (A0.trans (A1.mono A0.size)).size)).trans (A3.mono ((A0.trans (A1.mono A0.size)).trans (A2.mono (A0.trans (A1.mono A0.size)).size)).size)
  simp only [World.size_alloc] at Q R T
  clear A0 A1 A2 A3
  have hj1 : w.heap.size ≤ w.heap.size + 1 + 1 := by omega
  have hj2 : w.heap.size ≤ w.heap.size + 1 + 1 + 1 := by omega
  have hne : w.heap.size + 1 + 1 ≠ w.heap.size + 1 + 1 + 1 := by omega
  have hne' := Ne.symm hne
  replace E := E.below B
  cases hB : roB al ah ca bl bh cb
  · obtain ⟨e1, e2, e3, e4⟩ := ro_f hB
    rw [e1, e2, e3, e4]
    clear e1 e2 e3 e4
    cases hII : okII al ah bl bh
    · go_enter Tryd.func42, Tryd.ntmps42; go_upto_region 1 with fail; generalize ((((w.alloc (.cells #[.int .i64 al, .int .i64 ah] 49)).alloc (.cells #[.int .i64 bl, .int .i64 bh] 49)).alloc (.cells #[.int .i64 0, .int .i64 0] 27)).alloc (.cells #[.int .i64 0, .int .i64 0] 27)) = v at *; generalize w.heap.size + 1 + 1 + 1 = j2 at *; generalize w.heap.size + 1 + 1 = j1 at *; generalize w.heap.size + 1 = jb at *; obtain ⟨n0, n1, n2, n3, n4⟩ := id P; obtain ⟨m0, m1, m2, m3, m4⟩ := id Q; go_wp2_with fail; refine (bothOk_any al ah bl bh v).mono ?_; rintro e v2 ⟨rfl, hbl⟩; rw [hII]; clear n0 n1 n2 n3 n4 m0 m1 m2 m3 m4; replace P := P.below hbl; replace Q := Q.below hbl; replace R := R.below hbl; replace T := T.below hbl; replace E := E.below hbl; replace B := B.trans (hbl.mono B.size); clear hbl; obtain ⟨n0, n1, n2, n3, n4⟩ := id P; obtain ⟨m0, m1, m2, m3, m4⟩ := id Q; obtain ⟨r0, r1, r2, r3, r4⟩ := id R; obtain ⟨t0, t1, t2, t3, t4⟩ := id T; go_wp2_with fail; exact bodyPost_ret (v := (.tuple #[.agg #[.int .i64 0, .int .i64 0], .agg #[.int .i64 0, .int .i64 0], .bool false])) (by simp (maxDischargeDepth := 6) [results, Tryd.results42, go_sem, *]) rfl ⟨rfl, two_in B hj1 hj2 _ _ _ _⟩
    have hB' : ¬ (0 ≤ ca ∧ ca < cb ∧ cb ≤ 1000000000000 ∧ al ≤ bh) := by
      obtain ⟨k1, k2⟩ := okII_t hII
      rw [roB, k1, k2] at hB
      exact of_decide_eq_false hB
    clear hB
    by_cases c1 : ca < 0
    · clear hB'
      go_enter Tryd.func42, Tryd.ntmps42; go_upto_region 1 with fail; generalize ((((w.alloc (.cells #[.int .i64 al, .int .i64 ah] 49)).alloc (.cells #[.int .i64 bl, .int .i64 bh] 49)).alloc (.cells #[.int .i64 0, .int .i64 0] 27)).alloc (.cells #[.int .i64 0, .int .i64 0] 27)) = v at *; generalize w.heap.size + 1 + 1 + 1 = j2 at *; generalize w.heap.size + 1 + 1 = j1 at *; generalize w.heap.size + 1 = jb at *; obtain ⟨n0, n1, n2, n3, n4⟩ := id P; obtain ⟨m0, m1, m2, m3, m4⟩ := id Q; go_wp2_with fail; refine (bothOk_any al ah bl bh v).mono ?_; rintro e v2 ⟨rfl, hbl⟩; rw [hII]; clear n0 n1 n2 n3 n4 m0 m1 m2 m3 m4; replace P := P.below hbl; replace Q := Q.below hbl; replace R := R.below hbl; replace T := T.below hbl; replace E := E.below hbl; replace B := B.trans (hbl.mono B.size); clear hbl; obtain ⟨n0, n1, n2, n3, n4⟩ := id P; obtain ⟨m0, m1, m2, m3, m4⟩ := id Q; obtain ⟨r0, r1, r2, r3, r4⟩ := id R; obtain ⟨t0, t1, t2, t3, t4⟩ := id T; go_wp2_with fail; exact bodyPost_ret (v := (.tuple #[.agg #[.int .i64 0, .int .i64 0], .agg #[.int .i64 0, .int .i64 0], .bool false])) (by simp (maxDischargeDepth := 6) [results, Tryd.results42, go_sem, *]) rfl ⟨rfl, two_in B hj1 hj2 _ _ _ _⟩
    have c1' : decide (ca < 0) = false := decide_eq_false c1
    by_cases c2 : cb ≤ ca
    · clear hB' c1
      go_enter Tryd.func42, Tryd.ntmps42; go_upto_region 1 with fail; generalize ((((w.alloc (.cells #[.int .i64 al, .int .i64 ah] 49)).alloc (.cells #[.int .i64 bl, .int .i64 bh] 49)).alloc (.cells #[.int .i64 0, .int .i64 0] 27)).alloc (.cells #[.int .i64 0, .int .i64 0] 27)) = v at *; generalize w.heap.size + 1 + 1 + 1 = j2 at *; generalize w.heap.size + 1 + 1 = j1 at *; generalize w.heap.size + 1 = jb at *; obtain ⟨n0, n1, n2, n3, n4⟩ := id P; obtain ⟨m0, m1, m2, m3, m4⟩ := id Q; go_wp2_with fail; refine (bothOk_any al ah bl bh v).mono ?_; rintro e v2 ⟨rfl, hbl⟩; rw [hII]; clear n0 n1 n2 n3 n4 m0 m1 m2 m3 m4; replace P := P.below hbl; replace Q := Q.below hbl; replace R := R.below hbl; replace T := T.below hbl; replace E := E.below hbl; replace B := B.trans (hbl.mono B.size); clear hbl; obtain ⟨n0, n1, n2, n3, n4⟩ := id P; obtain ⟨m0, m1, m2, m3, m4⟩ := id Q; obtain ⟨r0, r1, r2, r3, r4⟩ := id R; obtain ⟨t0, t1, t2, t3, t4⟩ := id T; go_wp2_with fail; exact bodyPost_ret (v := (.tuple #[.agg #[.int .i64 0, .int .i64 0], .agg #[.int .i64 0, .int .i64 0], .bool false])) (by simp (maxDischargeDepth := 6) [results, Tryd.results42, go_sem, *]) rfl ⟨rfl, two_in B hj1 hj2 _ _ _ _⟩
    have c2' : decide (cb ≤ ca) = false := decide_eq_false c2
    by_cases c3 : 1000000000000 < cb
    · clear hB' c1 c2
      go_enter Tryd.func42, Tryd.ntmps42; go_upto_region 1 with fail; generalize ((((w.alloc (.cells #[.int .i64 al, .int .i64 ah] 49)).alloc (.cells #[.int .i64 bl, .int .i64 bh] 49)).alloc (.cells #[.int .i64 0, .int .i64 0] 27)).alloc (.cells #[.int .i64 0, .int .i64 0] 27)) = v at *; generalize w.heap.size + 1 + 1 + 1 = j2 at *; generalize w.heap.size + 1 + 1 = j1 at *; generalize w.heap.size + 1 = jb at *; obtain ⟨n0, n1, n2, n3, n4⟩ := id P; obtain ⟨m0, m1, m2, m3, m4⟩ := id Q; go_wp2_with fail; refine (bothOk_any al ah bl bh v).mono ?_; rintro e v2 ⟨rfl, hbl⟩; rw [hII]; clear n0 n1 n2 n3 n4 m0 m1 m2 m3 m4; replace P := P.below hbl; replace Q := Q.below hbl; replace R := R.below hbl; replace T := T.below hbl; replace E := E.below hbl; replace B := B.trans (hbl.mono B.size); clear hbl; obtain ⟨n0, n1, n2, n3, n4⟩ := id P; obtain ⟨m0, m1, m2, m3, m4⟩ := id Q; obtain ⟨r0, r1, r2, r3, r4⟩ := id R; obtain ⟨t0, t1, t2, t3, t4⟩ := id T; go_wp2_with fail; exact bodyPost_ret (v := (.tuple #[.agg #[.int .i64 0, .int .i64 0], .agg #[.int .i64 0, .int .i64 0], .bool false])) (by simp (maxDischargeDepth := 6) [results, Tryd.results42, go_sem, *]) rfl ⟨rfl, two_in B hj1 hj2 _ _ _ _⟩
    have c3' : decide (1000000000000 < cb) = false := decide_eq_false c3
    have c4 : bh < al := by omega
    clear hB' c1 c2 c3
    go_enter Tryd.func42, Tryd.ntmps42; go_upto_region 1 with fail; generalize ((((w.alloc (.cells #[.int .i64 al, .int .i64 ah] 49)).alloc (.cells #[.int .i64 bl, .int .i64 bh] 49)).alloc (.cells #[.int .i64 0, .int .i64 0] 27)).alloc (.cells #[.int .i64 0, .int .i64 0] 27)) = v at *; generalize w.heap.size + 1 + 1 + 1 = j2 at *; generalize w.heap.size + 1 + 1 = j1 at *; generalize w.heap.size + 1 = jb at *; obtain ⟨n0, n1, n2, n3, n4⟩ := id P; obtain ⟨m0, m1, m2, m3, m4⟩ := id Q; go_wp2_with fail; refine (bothOk_any al ah bl bh v).mono ?_; rintro e v2 ⟨rfl, hbl⟩; rw [hII]; clear n0 n1 n2 n3 n4 m0 m1 m2 m3 m4; replace P := P.below hbl; replace Q := Q.below hbl; replace R := R.below hbl; replace T := T.below hbl; replace E := E.below hbl; replace B := B.trans (hbl.mono B.size); clear hbl; obtain ⟨n0, n1, n2, n3, n4⟩ := id P; obtain ⟨m0, m1, m2, m3, m4⟩ := id Q; obtain ⟨r0, r1, r2, r3, r4⟩ := id R; obtain ⟨t0, t1, t2, t3, t4⟩ := id T; go_wp2_with fail; exact bodyPost_ret (v := (.tuple #[.agg #[.int .i64 0, .int .i64 0], .agg #[.int .i64 0, .int .i64 0], .bool false])) (by simp (maxDischargeDepth := 6) [results, Tryd.results42, go_sem, *]) rfl ⟨rfl, two_in B hj1 hj2 _ _ _ _⟩
  obtain ⟨e1, e2, e3, e4⟩ := ro_t hB
  rw [e1, e2, e3, e4]
  clear e1 e2 e3 e4
  have hB' := hB
  unfold roB at hB'
  simp only [Bool.and_eq_true, decide_eq_true_eq] at hB'
  obtain ⟨⟨k1, k2⟩, c1, c2, c3, c4⟩ := hB'
  clear hB
  have hII : okII al ah bl bh = true := by rw [okII, k1, k2]; rfl
  have ⟨a1, a2, a3⟩ := okI_t k1
  have ⟨b1, b2, b3⟩ := okI_t k2
  clear k1 k2
  have c1' : decide (ca < 0) = false := decide_eq_false (by omega)
  have c2' : decide (cb ≤ ca) = false := decide_eq_false (by omega)
  have c3' : decide (1000000000000 < cb) = false := decide_eq_false (by omega)
  have c4' : decide (bh < al) = false := decide_eq_false (by omega)
  have CR := fun w' => ranked_any 0 (bl - ah) w'
  generalize imn 0 (bl - ah) = mn at *
  generalize imx 0 (bl - ah) = mx at *
  have C1 := fun w' E' => lowest_any mx (cb - ca) u w' E'
  have C2 := fun w' E' => lowest_any (bh - al) (cb - ca) u w' E'
  generalize foX mx (cb - ca) = x1 at *
  generalize foY mx (cb - ca) = y1 at *
  generalize nfV u (foB mx (cb - ca)) = b1' at *
  generalize foX (bh - al) (cb - ca) = x2 at *
  generalize foY (bh - al) (cb - ca) = y2 at *
  generalize nfV u (foB (bh - al) (cb - ca)) = b2' at *
  go_enter Tryd.func42, Tryd.ntmps42; go_upto_region 1 with fail; generalize ((((w.alloc (.cells #[.int .i64 al, .int .i64 ah] 49)).alloc (.cells #[.int .i64 bl, .int .i64 bh] 49)).alloc (.cells #[.int .i64 0, .int .i64 0] 27)).alloc (.cells #[.int .i64 0, .int .i64 0] 27)) = v at *; generalize w.heap.size + 1 + 1 + 1 = j2 at *; generalize w.heap.size + 1 + 1 = j1 at *; generalize w.heap.size + 1 = jb at *
  obtain ⟨n0, n1, n2, n3, n4⟩ := id P; obtain ⟨m0, m1, m2, m3, m4⟩ := id Q
  go_wp2_with fail
  refine (bothOk_any al ah bl bh v).mono ?_
  rintro e v2 ⟨rfl, hbl⟩
  rw [hII]
  clear n0 n1 n2 n3 n4 m0 m1 m2 m3 m4
  replace P := P.below hbl; replace Q := Q.below hbl; replace R := R.below hbl; replace T := T.below hbl; replace E := E.below hbl; replace B := B.trans (hbl.mono B.size); clear hbl
  obtain ⟨n0, n1, n2, n3, n4⟩ := id P; obtain ⟨m0, m1, m2, m3, m4⟩ := id Q
  go_wp2_with fail
  refine (CR _).mono ?_
  rintro e w' ⟨rfl, rfl⟩
  go_wp2_with fail
  refine (C1 _ E).mono ?_
  rintro e v3 ⟨rfl, hbl⟩
  clear n0 n1 n2 n3 n4 m0 m1 m2 m3 m4
  replace P := P.below hbl; replace Q := Q.below hbl; replace R := R.below hbl; replace T := T.below hbl; replace E := E.below hbl; replace B := B.trans (hbl.mono B.size); clear hbl
  have K1 := Bx2.new v3 (.int .i64 x1) (.int .i64 y1) 27
  have d11 : v3.heap.size ≠ j1 := by have := R.1; omega
  have d12 : v3.heap.size ≠ j2 := by have := T.1; omega
  have hbl := Below.nw v3 (.cells #[.int .i64 x1, .int .i64 y1] 27)
  replace P := P.below hbl; replace Q := Q.below hbl; replace R := R.below hbl; replace T := T.below hbl; replace E := E.below hbl; replace B := B.trans (hbl.mono B.size); clear hbl
  go_upto_region 5 with fail
  generalize v3.alloc (.cells #[.int .i64 x1, .int .i64 y1] 27) = v5 at *
  generalize v3.heap.size = k1 at *
  obtain ⟨n0, n1, n2, n3, n4⟩ := id P; obtain ⟨m0, m1, m2, m3, m4⟩ := id Q
  go_wp2_with fail
  refine (C2 _ E).mono ?_
  rintro e v6 ⟨rfl, hbl⟩
  clear n0 n1 n2 n3 n4 m0 m1 m2 m3 m4
  replace K1 := K1.below hbl
  replace P := P.below hbl; replace Q := Q.below hbl; replace R := R.below hbl; replace T := T.below hbl; replace E := E.below hbl; replace B := B.trans (hbl.mono B.size); clear hbl
  have K2 := Bx2.new v6 (.int .i64 x2) (.int .i64 y2) 27
  have d21 : v6.heap.size ≠ j1 := by have := R.1; omega
  have d22 : v6.heap.size ≠ j2 := by have := T.1; omega
  have hbl := Below.nw v6 (.cells #[.int .i64 x2, .int .i64 y2] 27)
  replace K1 := K1.below hbl
  replace P := P.below hbl; replace Q := Q.below hbl; replace R := R.below hbl; replace T := T.below hbl; replace E := E.below hbl; replace B := B.trans (hbl.mono B.size); clear hbl
  clear CR C1 C2
  go_upto_region 6 with fail
  generalize v6.alloc (.cells #[.int .i64 x2, .int .i64 y2] 27) = v9 at *
  generalize v6.heap.size = k2 at *

  -- d11 .. : the two boxes lie elsewhere than the results
  obtain ⟨p0, p1, p2, p3, p4⟩ := id K1
  obtain ⟨q0, q1, q2, q3, q4⟩ := id K2
  have RR := (R.set0 (.int .i64 x1)).set1 (.int .i64 y1)
  have TT := ((T.setO hne 0 (.int .i64 x1)).setO hne 1 (.int .i64 y1))
  have RR2 := ((RR.setO (Ne.symm hne) 0 (.int .i64 x2)).setO (Ne.symm hne) 1 (.int .i64 y2))
  have TT2 := (TT.set0 (.int .i64 x2)).set1 (.int .i64 y2)
  have BB := two_in B hj1 hj2 (.int .i64 x1) (.int .i64 y1) (.int .i64 x2) (.int .i64 y2)
  obtain ⟨r0, r1, r2, r3, r4⟩ := id R
  obtain ⟨t0, t1, t2, t3, t4⟩ := id T
  refine wp_region_held_drew (S := (fun w' => w'.cell? ⟨k1, 0, none⟩ = some (.int .i64 x1) ∧ w'.cell? ⟨k1, 1, none⟩ = some (.int .i64 y1) ∧ w'.cell? ⟨k2, 0, none⟩ = some (.int .i64 x2) ∧ w'.cell? ⟨k2, 1, none⟩ = some (.int .i64 y2))) (by kernel_rfl) ?_ (fun hHeld => ?_)
  · first | exact ⟨p1, p2, q1, q2⟩ | exact ⟨(keepC (keepC p1 d11) d11), (keepC (keepC p2 d11) d11), (keepC (keepC q1 d21) d21), (keepC (keepC q2 d21) d21)⟩ | exact ⟨(keepC (keepC (keepC (keepC p1 d11) d11) d12) d12), (keepC (keepC (keepC (keepC p2 d11) d11) d12) d12), (keepC (keepC (keepC (keepC q1 d21) d21) d22) d22), (keepC (keepC (keepC (keepC q2 d21) d21) d22) d22)⟩
  refine wpAnyH_take (i := 0) (v := ?_) (by rw [List.getElem?_toArray]; rfl) (by kernel_rfl) (by kernel_rfl) (by kernel_rfl) (by intro _ _ _ h; exact h) (Or.inl ⟨by rfl, ?_⟩) (by assumption) ?_
  rotate_left
  · (intro w hSw; (try dsimp only at hSw); go_simp; all_goals with_reducible rfl)
  (try simp only [Act.put, List.setIfInBounds_toArray, List.set_cons_zero, List.set_cons_succ])
  refine wpAnyH_take (i := 1) (v := ?_) (by rw [List.getElem?_toArray]; rfl) (by kernel_rfl) (by kernel_rfl) (by kernel_rfl) (by intro _ _ _ h; exact h) (Or.inl ⟨by rfl, ?_⟩) (by assumption) ?_
  rotate_left
  · (intro w hSw; (try dsimp only at hSw); go_simp; all_goals with_reducible rfl)
  (try simp only [Act.put, List.setIfInBounds_toArray, List.set_cons_zero, List.set_cons_succ])
  refine wpAnyH_ready (rs := [2]) (by kernel_rfl) (by simp) ?_
  refine AllReadyH.cons (by rw [List.getElem?_toArray]; rfl) (fun K hK => ?_) AllReadyH.nil
  go_simp
  refine hK.out _ _ ?_ (fun hHeld => ?_)
  · first | exact ⟨p1, p2, q1, q2⟩ | exact ⟨(keepC (keepC p1 d11) d11), (keepC (keepC p2 d11) d11), (keepC (keepC q1 d21) d21), (keepC (keepC q2 d21) d21)⟩ | exact ⟨(keepC (keepC (keepC (keepC p1 d11) d11) d12) d12), (keepC (keepC (keepC (keepC p2 d11) d11) d12) d12), (keepC (keepC (keepC (keepC q1 d21) d21) d22) d22), (keepC (keepC (keepC (keepC q2 d21) d21) d22) d22)⟩
  clear hK K
  (try simp only [Act.put, List.setIfInBounds_toArray, List.set_cons_zero, List.set_cons_succ])
  refine wpAnyH_ready (rs := [3]) (by kernel_rfl) (by simp) ?_
  refine AllReadyH.cons (by rw [List.getElem?_toArray]; rfl) (fun K hK => ?_) AllReadyH.nil
  go_simp
  refine hK.out _ _ ?_ (fun hHeld => ?_)
  · first | exact ⟨p1, p2, q1, q2⟩ | exact ⟨(keepC (keepC p1 d11) d11), (keepC (keepC p2 d11) d11), (keepC (keepC q1 d21) d21), (keepC (keepC q2 d21) d21)⟩ | exact ⟨(keepC (keepC (keepC (keepC p1 d11) d11) d12) d12), (keepC (keepC (keepC (keepC p2 d11) d11) d12) d12), (keepC (keepC (keepC (keepC q1 d21) d21) d22) d22), (keepC (keepC (keepC (keepC q2 d21) d21) d22) d22)⟩
  clear hK K
  (try simp only [Act.put, List.setIfInBounds_toArray, List.set_cons_zero, List.set_cons_succ])
  refine wpAnyH_take (i := 4) (v := ?_) (by rw [List.getElem?_toArray]; rfl) (by kernel_rfl) (by kernel_rfl) (by kernel_rfl) (by intro _ _ _ h; exact h) (Or.inl ⟨by rfl, ?_⟩) (by assumption) ?_
  rotate_left
  · (intro w hSw; (try dsimp only at hSw); go_simp; all_goals with_reducible rfl)
  (try simp only [Act.put, List.setIfInBounds_toArray, List.set_cons_zero, List.set_cons_succ])
  refine wpAnyH_done (by kernel_rfl) ?_ _
  go_wp2_with fail
  clear r0 r1 r2 r3 r4 t0 t1 t2 t3 t4 p0 p1 p2 p3 p4 q0 q1 q2 q3 q4 R T RR TT K1 K2 B
  generalize (((v9.setCell ⟨j1, 0, none⟩ (.int .i64 x1)).setCell ⟨j1, 1, none⟩ (.int .i64 y1)).setCell ⟨j2, 0, none⟩ (.int .i64 x2)).setCell ⟨j2, 1, none⟩ (.int .i64 y2) = v10 at *
  obtain ⟨r0, r1, r2, r3, r4⟩ := id RR2
  obtain ⟨t0, t1, t2, t3, t4⟩ := id TT2
  exact bodyPost_ret (v := (.tuple #[.agg #[.int .i64 x1, .int .i64 y1], .agg #[.int .i64 x2, .int .i64 y2], .bool true])) (by simp (maxDischargeDepth := 6) [results, Tryd.results42, go_sem, *]) rfl ⟨rfl, Below.drew BB⟩end Go.Proofs.YtblappilppfkiaaDoor
