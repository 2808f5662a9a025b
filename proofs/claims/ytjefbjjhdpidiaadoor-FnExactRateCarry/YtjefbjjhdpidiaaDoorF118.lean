/- RateCarry in the specification. -/
import Derived.Test.YtjefbjjhdpidiaaDoorF115
import Derived.Test.YtjefbjjhdpidiaaDoorW2
import Derived.Test.YtjefbjjhdpidiaaDoorW6
import Derived.Deep.RegionHeld3
import Derived.WalkKit
import Derived.WalkSpells
import Derived.WalkLawsBesides
import Derived.Deep.RegionHeld
namespace Go.Proofs.YtjefbjjhdpidiaaDoor
open Go.RowKit
set_option linter.unusedVariables false
theorem keepC' {w : World} {g i j k : Nat} {x u : Value} (h : w.cell? ⟨g, i, none⟩ = some x) (hj : g ≠ j) : (w.setCell ⟨j, k, none⟩ u).cell? ⟨g, i, none⟩ = some x := by
  rw [World.cell?_of_block (w := w) (Below.heap_setCell _ _ _ _ hj)]
  exact h
/- What a count is carried to by two rates. -/
def rcP (a b c d n : Int) : Bool := okF a b && okF c d && decide (0 ≤ a ∧ 0 ≤ n ∧ n ≤ 1000000)
def rcB (a b c d n : Int) : Bool := rcP a b c d n && okI (upI (n * a) b) (n * c / d)
def rcL (a b c d n : Int) : Int := sel (rcB a b c d n) (upI (n * a) b)
def rcH (a b c d n : Int) : Int := sel (rcB a b c d n) (n * c / d)
theorem rc_no {a b c d n : Int} (h : rcP a b c d n = false) : rcB a b c d n = false ∧ rcL a b c d n = 0 ∧ rcH a b c d n = 0 := by
  have e : rcB a b c d n = false := by rw [rcB, h]; rfl
  exact ⟨e, by rw [rcL, e]; rfl, by rw [rcH, e]; rfl⟩
theorem rc_yes {a b c d n : Int} (h : rcP a b c d n = true) : rcB a b c d n = okI (upI (n * a) b) (n * c / d) ∧ rcL a b c d n = sel (okI (upI (n * a) b) (n * c / d)) (upI (n * a) b) ∧ rcH a b c d n = sel (okI (upI (n * a) b) (n * c / d)) (n * c / d) := by
  have e : rcB a b c d n = okI (upI (n * a) b) (n * c / d) := by rw [rcB, h]; rfl
  exact ⟨e, by rw [rcL, e], by rw [rcH, e]⟩
theorem mulc_bd {n a : Int} (h0 : 0 ≤ n) (h1 : n ≤ 1000000) (h2 : -4000000000000 ≤ a) (h3 : a ≤ 4000000000000) : -4000000000000000000 ≤ n * a ∧ n * a ≤ 4000000000000000000 := by
  have e1 := Int.mul_le_mul_of_nonneg_left h2 h0
  have e2 := Int.mul_le_mul_of_nonneg_left h3 h0
  omega
theorem rc_t {a b c d n : Int} (h : rcP a b c d n = true) : okF a b = true ∧ okF c d = true ∧ 0 ≤ a ∧ 0 ≤ n ∧ n ≤ 1000000 := by
  unfold rcP at h
  simp only [Bool.and_eq_true, decide_eq_true_eq] at h
  exact ⟨h.1.1, h.1.2, h.2⟩
theorem rc_f {a b c d n : Int} (h : rcP a b c d n = false) (h1 : okF a b = true) (h2 : okF c d = true) : ¬ (0 ≤ a ∧ 0 ≤ n ∧ n ≤ 1000000) := by
  rw [rcP, h1, h2] at h
  exact of_decide_eq_false h
set_option maxRecDepth 100000 in
set_option maxHeartbeats 8000000 in
theorem specRateCarry_any (a b c d n : Int) (w : World) : Calls Tryd.prog 27 #[.agg #[.int .i64 a, .int .i64 b], .agg #[.int .i64 c, .int .i64 d], .int .i64 n] w fun e w' => e = .returned (.tuple #[.agg #[.int .i64 (rcL a b c d n), .int .i64 (rcH a b c d n)], .bool (rcB a b c d n)]) ∧ Below w.heap.size w w' := by
  have A0 := Below.nw w (.cells #[.int .i64 a, .int .i64 b] 25)
  have A1 := Below.nw (w.alloc (.cells #[.int .i64 a, .int .i64 b] 25)) (.cells #[.int .i64 c, .int .i64 d] 25)
  have A2 := Below.nw ((w.alloc (.cells #[.int .i64 a, .int .i64 b] 25)).alloc (.cells #[.int .i64 c, .int .i64 d] 25)) (.cells #[.int .i64 0, .int .i64 0] 38)
  have P := ((Bx2.new w (.int .i64 a) (.int .i64 b) 25).below A1).below A2
  have Q := (Bx2.new (w.alloc (.cells #[.int .i64 a, .int .i64 b] 25)) (.int .i64 c) (.int .i64 d) 25).below A2
  have R := Bx2.new ((w.alloc (.cells #[.int .i64 a, .int .i64 b] 25)).alloc (.cells #[.int .i64 c, .int .i64 d] 25)) (.int .i64 0) (.int .i64 0) 38
  have B := (A0.trans (A1.mono A0.size)).trans (A2.mono (A0.trans (A1.mono A0.size)).size)
  simp only [World.size_alloc] at Q R
  clear A0 A1 A2
  have hj : w.heap.size ≤ w.heap.size + 1 + 1 := by omega
  have d1 : w.heap.size ≠ w.heap.size + 1 + 1 := by omega
  have d2 : w.heap.size + 1 ≠ w.heap.size + 1 + 1 := by omega
  cases hP : rcP a b c d n
  · obtain ⟨e1, e2, e3⟩ := rc_no hP
    rw [e1, e2, e3]
    clear e1 e2 e3
    cases h1 : okF a b
    · go_enter Tryd.func27, Tryd.ntmps27; go_upto_region 1 with fail; generalize (((w.alloc (.cells #[.int .i64 a, .int .i64 b] 25)).alloc (.cells #[.int .i64 c, .int .i64 d] 25)).alloc (.cells #[.int .i64 0, .int .i64 0] 38)) = v at *; generalize w.heap.size + 1 + 1 = jr at *; generalize w.heap.size + 1 = jb at *; obtain ⟨n0, n1, n2, n3, n4⟩ := id P; obtain ⟨m0, m1, m2, m3, m4⟩ := id Q; obtain ⟨r0, r1, r2, r3, r4⟩ := id R; go_wp2_with fail; refine (specFracOk_any a b v).mono ?_; rintro e v2 ⟨rfl, hbl⟩; rw [h1]; clear n0 n1 n2 n3 n4 m0 m1 m2 m3 m4 r0 r1 r2 r3 r4; replace P := P.below hbl; replace Q := Q.below hbl; replace R := R.below hbl; replace B := B.trans (hbl.mono B.size); clear hbl; obtain ⟨n0, n1, n2, n3, n4⟩ := id P; obtain ⟨m0, m1, m2, m3, m4⟩ := id Q; obtain ⟨r0, r1, r2, r3, r4⟩ := id R
      go_wp2_with fail; exact bodyPost_ret (v := (.tuple #[.agg #[.int .i64 0, .int .i64 0], .bool false])) (by simp (maxDischargeDepth := 6) [results, Tryd.results27, go_sem, *]) rfl ⟨rfl, (B.setCell (p := ⟨jr, 0, none⟩) hj _).setCell (p := ⟨jr, 1, none⟩) hj _⟩
    cases h2 : okF c d
    · go_enter Tryd.func27, Tryd.ntmps27; go_upto_region 1 with fail; generalize (((w.alloc (.cells #[.int .i64 a, .int .i64 b] 25)).alloc (.cells #[.int .i64 c, .int .i64 d] 25)).alloc (.cells #[.int .i64 0, .int .i64 0] 38)) = v at *; generalize w.heap.size + 1 + 1 = jr at *; generalize w.heap.size + 1 = jb at *; obtain ⟨n0, n1, n2, n3, n4⟩ := id P; obtain ⟨m0, m1, m2, m3, m4⟩ := id Q; obtain ⟨r0, r1, r2, r3, r4⟩ := id R; go_wp2_with fail; refine (specFracOk_any a b v).mono ?_; rintro e v2 ⟨rfl, hbl⟩; rw [h1]; clear n0 n1 n2 n3 n4 m0 m1 m2 m3 m4 r0 r1 r2 r3 r4; replace P := P.below hbl; replace Q := Q.below hbl; replace R := R.below hbl; replace B := B.trans (hbl.mono B.size); clear hbl; obtain ⟨n0, n1, n2, n3, n4⟩ := id P; obtain ⟨m0, m1, m2, m3, m4⟩ := id Q; obtain ⟨r0, r1, r2, r3, r4⟩ := id R; go_wp2_with fail; refine (specFracOk_any c d v2).mono ?_; rintro e v3 ⟨rfl, hbl⟩; rw [h2]; clear n0 n1 n2 n3 n4 m0 m1 m2 m3 m4 r0 r1 r2 r3 r4; replace P := P.below hbl; replace Q := Q.below hbl; replace R := R.below hbl; replace B := B.trans (hbl.mono B.size); clear hbl; obtain ⟨n0, n1, n2, n3, n4⟩ := id P; obtain ⟨m0, m1, m2, m3, m4⟩ := id Q; obtain ⟨r0, r1, r2, r3, r4⟩ := id R
      go_wp2_with fail; exact bodyPost_ret (v := (.tuple #[.agg #[.int .i64 0, .int .i64 0], .bool false])) (by simp (maxDischargeDepth := 6) [results, Tryd.results27, go_sem, *]) rfl ⟨rfl, (B.setCell (p := ⟨jr, 0, none⟩) hj _).setCell (p := ⟨jr, 1, none⟩) hj _⟩
    have hB := rc_f hP h1 h2
    clear hP
    by_cases c1 : a < 0
    · clear hB
      go_enter Tryd.func27, Tryd.ntmps27; go_upto_region 1 with fail; generalize (((w.alloc (.cells #[.int .i64 a, .int .i64 b] 25)).alloc (.cells #[.int .i64 c, .int .i64 d] 25)).alloc (.cells #[.int .i64 0, .int .i64 0] 38)) = v at *; generalize w.heap.size + 1 + 1 = jr at *; generalize w.heap.size + 1 = jb at *; obtain ⟨n0, n1, n2, n3, n4⟩ := id P; obtain ⟨m0, m1, m2, m3, m4⟩ := id Q; obtain ⟨r0, r1, r2, r3, r4⟩ := id R; go_wp2_with fail; refine (specFracOk_any a b v).mono ?_; rintro e v2 ⟨rfl, hbl⟩; rw [h1]; clear n0 n1 n2 n3 n4 m0 m1 m2 m3 m4 r0 r1 r2 r3 r4; replace P := P.below hbl; replace Q := Q.below hbl; replace R := R.below hbl; replace B := B.trans (hbl.mono B.size); clear hbl; obtain ⟨n0, n1, n2, n3, n4⟩ := id P; obtain ⟨m0, m1, m2, m3, m4⟩ := id Q; obtain ⟨r0, r1, r2, r3, r4⟩ := id R; go_wp2_with fail; refine (specFracOk_any c d v2).mono ?_; rintro e v3 ⟨rfl, hbl⟩; rw [h2]; clear n0 n1 n2 n3 n4 m0 m1 m2 m3 m4 r0 r1 r2 r3 r4; replace P := P.below hbl; replace Q := Q.below hbl; replace R := R.below hbl; replace B := B.trans (hbl.mono B.size); clear hbl; obtain ⟨n0, n1, n2, n3, n4⟩ := id P; obtain ⟨m0, m1, m2, m3, m4⟩ := id Q; obtain ⟨r0, r1, r2, r3, r4⟩ := id R
      go_wp2_with fail; exact bodyPost_ret (v := (.tuple #[.agg #[.int .i64 0, .int .i64 0], .bool false])) (by simp (maxDischargeDepth := 6) [results, Tryd.results27, go_sem, *]) rfl ⟨rfl, (B.setCell (p := ⟨jr, 0, none⟩) hj _).setCell (p := ⟨jr, 1, none⟩) hj _⟩
    have c1' : decide (a < 0) = false := decide_eq_false c1
    have c2 : decide (0 ≤ n ∧ n ≤ 1000000) = false := decide_eq_false (by omega)
    clear hB c1
    go_enter Tryd.func27, Tryd.ntmps27; go_upto_region 1 with fail; generalize (((w.alloc (.cells #[.int .i64 a, .int .i64 b] 25)).alloc (.cells #[.int .i64 c, .int .i64 d] 25)).alloc (.cells #[.int .i64 0, .int .i64 0] 38)) = v at *; generalize w.heap.size + 1 + 1 = jr at *; generalize w.heap.size + 1 = jb at *; obtain ⟨n0, n1, n2, n3, n4⟩ := id P; obtain ⟨m0, m1, m2, m3, m4⟩ := id Q; obtain ⟨r0, r1, r2, r3, r4⟩ := id R; go_wp2_with fail; refine (specFracOk_any a b v).mono ?_; rintro e v2 ⟨rfl, hbl⟩; rw [h1]; clear n0 n1 n2 n3 n4 m0 m1 m2 m3 m4 r0 r1 r2 r3 r4; replace P := P.below hbl; replace Q := Q.below hbl; replace R := R.below hbl; replace B := B.trans (hbl.mono B.size); clear hbl; obtain ⟨n0, n1, n2, n3, n4⟩ := id P; obtain ⟨m0, m1, m2, m3, m4⟩ := id Q; obtain ⟨r0, r1, r2, r3, r4⟩ := id R; go_wp2_with fail; refine (specFracOk_any c d v2).mono ?_; rintro e v3 ⟨rfl, hbl⟩; rw [h2]; clear n0 n1 n2 n3 n4 m0 m1 m2 m3 m4 r0 r1 r2 r3 r4; replace P := P.below hbl; replace Q := Q.below hbl; replace R := R.below hbl; replace B := B.trans (hbl.mono B.size); clear hbl; obtain ⟨n0, n1, n2, n3, n4⟩ := id P; obtain ⟨m0, m1, m2, m3, m4⟩ := id Q; obtain ⟨r0, r1, r2, r3, r4⟩ := id R
    go_wp2_with fail
    refine (l1In_any _ _ _ _).mono ?_
    rintro e w' ⟨rfl, rfl⟩
    rw [c2]
    go_wp2_with fail; exact bodyPost_ret (v := (.tuple #[.agg #[.int .i64 0, .int .i64 0], .bool false])) (by simp (maxDischargeDepth := 6) [results, Tryd.results27, go_sem, *]) rfl ⟨rfl, (B.setCell (p := ⟨jr, 0, none⟩) hj _).setCell (p := ⟨jr, 1, none⟩) hj _⟩
  obtain ⟨e1, e2, e3⟩ := rc_yes hP
  rw [e1, e2, e3]
  obtain ⟨h1, h2, g1, g2, g3⟩ := rc_t hP
  clear e1 e2 e3 hP
  have k1 := okF_t h1
  have k2 := okF_t h2
  have c1' : decide (a < 0) = false := decide_eq_false (by omega)
  have c2 : decide (0 ≤ n ∧ n ≤ 1000000) = true := decide_eq_true ⟨g2, g3⟩
  have b1 := mulc_bd g2 g3 k1.1.1 k1.1.2
  have b2 := mulc_bd g2 g3 k2.1.1 k2.1.2
  have b3 : 0 ≤ n * a := Int.mul_nonneg g2 g1
  have hw1 : wrap64 (n * a) = n * a := Go.IntWalk.wrap64_in _ ⟨by omega, by omega⟩
  have hw2 : wrap64 (n * c) = n * c := Go.IntWalk.wrap64_in _ ⟨by omega, by omega⟩
  have hw3 : IntKind.i64.wrap (n * a) = n * a := Go.IntWalk.i64_in _ ⟨by omega, by omega⟩
  have hw4 : IntKind.i64.wrap (n * c) = n * c := Go.IntWalk.i64_in _ ⟨by omega, by omega⟩
  have CU := fun w' => l1Up_any (n * a) b w' b3 b1.2 (by omega) (by omega)
  have CD := fun w' => l1Down_any (n * c) d w' (by omega) (by omega) (by omega) (by omega)
  generalize hua : upI (n * a) b = ul at *
  generalize hub : n * c / d = dl at *
  have CT := fun w' => l1Told_any ul dl w'
  generalize sel (okI ul dl) ul = sl at *
  generalize sel (okI ul dl) dl = sh at *
  generalize okI ul dl = ok at *
  clear hua hub g1 g2 g3 k1 k2 b1 b2 b3
  go_enter Tryd.func27, Tryd.ntmps27; go_upto_region 1 with fail; generalize (((w.alloc (.cells #[.int .i64 a, .int .i64 b] 25)).alloc (.cells #[.int .i64 c, .int .i64 d] 25)).alloc (.cells #[.int .i64 0, .int .i64 0] 38)) = v at *; generalize w.heap.size + 1 + 1 = jr at *; generalize w.heap.size + 1 = jb at *; obtain ⟨n0, n1, n2, n3, n4⟩ := id P; obtain ⟨m0, m1, m2, m3, m4⟩ := id Q; obtain ⟨r0, r1, r2, r3, r4⟩ := id R; go_wp2_with fail; refine (specFracOk_any a b v).mono ?_; rintro e v2 ⟨rfl, hbl⟩; rw [h1]; clear n0 n1 n2 n3 n4 m0 m1 m2 m3 m4 r0 r1 r2 r3 r4; replace P := P.below hbl; replace Q := Q.below hbl; replace R := R.below hbl; replace B := B.trans (hbl.mono B.size); clear hbl; obtain ⟨n0, n1, n2, n3, n4⟩ := id P; obtain ⟨m0, m1, m2, m3, m4⟩ := id Q; obtain ⟨r0, r1, r2, r3, r4⟩ := id R; go_wp2_with fail; refine (specFracOk_any c d v2).mono ?_; rintro e v3 ⟨rfl, hbl⟩; rw [h2]; clear n0 n1 n2 n3 n4 m0 m1 m2 m3 m4 r0 r1 r2 r3 r4; replace P := P.below hbl; replace Q := Q.below hbl; replace R := R.below hbl; replace B := B.trans (hbl.mono B.size); clear hbl; obtain ⟨n0, n1, n2, n3, n4⟩ := id P; obtain ⟨m0, m1, m2, m3, m4⟩ := id Q; obtain ⟨r0, r1, r2, r3, r4⟩ := id R
  go_wp2_with fail
  refine (l1In_any _ _ _ _).mono ?_
  rintro e w' ⟨rfl, rfl⟩
  rw [c2]
  clear n0 n1 n2 n3 n4 m0 m1 m2 m3 m4 r0 r1 r2 r3 r4
  have SK : Hid (∀ w', Below v3.heap.size v3 w' → (w'.cell? ⟨w.heap.size, 0, none⟩ = some (.int .i64 a) ∧ w'.cell? ⟨w.heap.size, 1, none⟩ = some (.int .i64 b) ∧ w'.cell? ⟨jb, 0, none⟩ = some (.int .i64 c) ∧ w'.cell? ⟨jb, 1, none⟩ = some (.int .i64 d))) := fun w' hw => ⟨(P.below hw).2.1, (P.below hw).2.2.1, (Q.below hw).2.1, (Q.below hw).2.2.1⟩
  go_upto_region 3 with fail
  refine wp_region_held_drew (S := (fun w' => w'.cell? ⟨w.heap.size, 0, none⟩ = some (.int .i64 a) ∧ w'.cell? ⟨w.heap.size, 1, none⟩ = some (.int .i64 b) ∧ w'.cell? ⟨jb, 0, none⟩ = some (.int .i64 c) ∧ w'.cell? ⟨jb, 1, none⟩ = some (.int .i64 d))) (by kernel_rfl) ?_ (fun hHeld => ?_)
  · first | exact SK.out _ XB | exact SK.out _ (Below.drew (Below.refl _ _)) | exact ⟨keepC' (keepC' (SK.out _ XB).1 d1) d1, keepC' (keepC' (SK.out _ XB).2.1 d1) d1, keepC' (keepC' (SK.out _ XB).2.2.1 d2) d2, keepC' (keepC' (SK.out _ XB).2.2.2 d2) d2⟩
  have XB : Below v3.heap.size v3 v3.drew := Below.drew (Below.refl _ _)
  replace R := R.drew
  generalize v3.drew = vx at *
  refine wpAnyH_take (i := 0) (v := ?_) (by rw [List.getElem?_toArray]; rfl) (by kernel_rfl) (by kernel_rfl) (by kernel_rfl) (by intro _ _ _ h; exact h) (Or.inl ⟨by rfl, ?_⟩) (by assumption) ?_
  rotate_left
  · (intro w hSw; (try dsimp only at hSw); go_simp; all_goals with_reducible rfl)
  (try simp only [Act.put, List.setIfInBounds_toArray, List.set_cons_zero, List.set_cons_succ])
  refine wpAnyH_take (i := 1) (v := ?_) (by rw [List.getElem?_toArray]; rfl) (by kernel_rfl) (by kernel_rfl) (by kernel_rfl) (by intro _ _ _ h; exact h) (Or.inl ⟨by rfl, ?_⟩) (by assumption) ?_
  rotate_left
  · (intro w hSw; (try dsimp only at hSw); go_simp; all_goals with_reducible rfl)
  (try simp only [Act.put, List.setIfInBounds_toArray, List.set_cons_zero, List.set_cons_succ])
  refine wpAnyH_take (i := 2) (v := ?_) (by rw [List.getElem?_toArray]; rfl) (by kernel_rfl) (by kernel_rfl) (by kernel_rfl) (by intro _ _ _ h; exact h) (Or.inl ⟨by rfl, ?_⟩) (by assumption) ?_
  rotate_left
  · (intro w hSw; (try dsimp only at hSw); go_simp; all_goals with_reducible rfl)
  (try simp only [Act.put, List.setIfInBounds_toArray, List.set_cons_zero, List.set_cons_succ])
  refine wpAnyH_take (i := 3) (v := ?_) (by rw [List.getElem?_toArray]; rfl) (by kernel_rfl) (by kernel_rfl) (by kernel_rfl) (by intro _ _ _ h; exact h) (Or.inl ⟨by rfl, ?_⟩) (by assumption) ?_
  rotate_left
  · (intro w hSw; (try dsimp only at hSw); go_simp; all_goals with_reducible rfl)
  (try simp only [Act.put, List.setIfInBounds_toArray, List.set_cons_zero, List.set_cons_succ])
  refine wpAnyH_take (i := 4) (v := ?_) (by rw [List.getElem?_toArray]; rfl) (by kernel_rfl) (by kernel_rfl) (by kernel_rfl) (by intro _ _ _ h; exact h) (Or.inl ⟨by rfl, ?_⟩) (by assumption) ?_
  rotate_left
  · (intro w hSw; (try dsimp only at hSw); go_simp; all_goals with_reducible rfl)
  (try simp only [Act.put, List.setIfInBounds_toArray, List.set_cons_zero, List.set_cons_succ])
  refine wpAnyH_take (i := 5) (v := ?_) (by rw [List.getElem?_toArray]; rfl) (by kernel_rfl) (by kernel_rfl) (by kernel_rfl) (by intro _ _ _ h; exact h) (Or.inl ⟨by rfl, ?_⟩) (by assumption) ?_
  rotate_left
  · (intro w hSw; (try dsimp only at hSw); go_simp; all_goals with_reducible rfl)
  (try simp only [Act.put, List.setIfInBounds_toArray, List.set_cons_zero, List.set_cons_succ])
  refine wpAnyH_take (i := 7) (v := ?_) (by rw [List.getElem?_toArray]; rfl) (by kernel_rfl) (by kernel_rfl) (by kernel_rfl) (by intro _ _ _ h; exact h) (Or.inl ⟨by rfl, ?_⟩) (by assumption) ?_
  rotate_left
  · (intro w hSw; (try dsimp only at hSw); go_simp; all_goals with_reducible rfl)
  (try simp only [Act.put, List.setIfInBounds_toArray, List.set_cons_zero, List.set_cons_succ])
  refine wpAnyH_take (i := 8) (v := ?_) (by rw [List.getElem?_toArray]; rfl) (by kernel_rfl) (by kernel_rfl) (by kernel_rfl) (by intro _ _ _ h; exact h) (Or.inl ⟨by rfl, ?_⟩) (by assumption) ?_
  rotate_left
  · (intro w hSw; (try dsimp only at hSw); go_simp; all_goals with_reducible rfl)
  (try simp only [Act.put, List.setIfInBounds_toArray, List.set_cons_zero, List.set_cons_succ])
  refine wpAnyH_take (i := 9) (v := ?_) (by rw [List.getElem?_toArray]; rfl) (by kernel_rfl) (by kernel_rfl) (by kernel_rfl) (by intro _ _ _ h; exact h) (Or.inl ⟨by rfl, ?_⟩) (by assumption) ?_
  rotate_left
  · (intro w hSw; (try dsimp only at hSw); go_simp; all_goals with_reducible rfl)
  (try simp only [Act.put, List.setIfInBounds_toArray, List.set_cons_zero, List.set_cons_succ])
  refine wpAnyH_take (i := 10) (v := ?_) (by rw [List.getElem?_toArray]; rfl) (by kernel_rfl) (by kernel_rfl) (by kernel_rfl) (by intro _ _ _ h; exact h) (Or.inl ⟨by rfl, ?_⟩) (by assumption) ?_
  rotate_left
  · (intro w hSw; (try dsimp only at hSw); go_simp; all_goals with_reducible rfl)
  (try simp only [Act.put, List.setIfInBounds_toArray, List.set_cons_zero, List.set_cons_succ])
  refine wpAnyH_take (i := 11) (v := ?_) (by rw [List.getElem?_toArray]; rfl) (by kernel_rfl) (by kernel_rfl) (by kernel_rfl) (by intro _ _ _ h; exact h) (Or.inl ⟨by rfl, ?_⟩) (by assumption) ?_
  rotate_left
  · (intro w hSw; (try dsimp only at hSw); go_simp; all_goals with_reducible rfl)
  (try simp only [Act.put, List.setIfInBounds_toArray, List.set_cons_zero, List.set_cons_succ])
  refine wpAnyH_take (i := 12) (v := ?_) (by rw [List.getElem?_toArray]; rfl) (by kernel_rfl) (by kernel_rfl) (by kernel_rfl) (by intro _ _ _ h; exact h) (Or.inl ⟨by rfl, ?_⟩) (by assumption) ?_
  rotate_left
  · (intro w hSw; (try dsimp only at hSw); go_simp; all_goals with_reducible rfl)
  (try simp only [Act.put, List.setIfInBounds_toArray, List.set_cons_zero, List.set_cons_succ])
  refine wpAnyH_ready (rs := [6]) (by kernel_rfl) (by simp) ?_
  refine (AllReadyH.cons (by rw [List.getElem?_toArray]; rfl) (fun K hK => ?_) AllReadyH.nil)
  go_simp
  refine (CU _).mono ?_; rintro ee w' ⟨rfl, rfl⟩
  (try go_wp2_with fail)
  refine hK.out _ _ ?_ (fun hHeld => ?_)
  · first | exact SK.out _ XB | exact SK.out _ (Below.drew (Below.refl _ _)) | exact ⟨keepC' (keepC' (SK.out _ XB).1 d1) d1, keepC' (keepC' (SK.out _ XB).2.1 d1) d1, keepC' (keepC' (SK.out _ XB).2.2.1 d2) d2, keepC' (keepC' (SK.out _ XB).2.2.2 d2) d2⟩
  clear hK K
  (try simp only [Act.put, List.setIfInBounds_toArray, List.set_cons_zero, List.set_cons_succ])
  refine wpAnyH_ready (rs := [13]) (by kernel_rfl) (by simp) ?_
  refine (AllReadyH.cons (by rw [List.getElem?_toArray]; rfl) (fun K hK => ?_) AllReadyH.nil)
  go_simp
  refine (CD _).mono ?_; rintro ee w' ⟨rfl, rfl⟩
  (try go_wp2_with fail)
  refine hK.out _ _ ?_ (fun hHeld => ?_)
  · first | exact SK.out _ XB | exact SK.out _ (Below.drew (Below.refl _ _)) | exact ⟨keepC' (keepC' (SK.out _ XB).1 d1) d1, keepC' (keepC' (SK.out _ XB).2.1 d1) d1, keepC' (keepC' (SK.out _ XB).2.2.1 d2) d2, keepC' (keepC' (SK.out _ XB).2.2.2 d2) d2⟩
  clear hK K
  (try simp only [Act.put, List.setIfInBounds_toArray, List.set_cons_zero, List.set_cons_succ])
  refine wpAnyH_ready (rs := [14]) (by kernel_rfl) (by simp) ?_
  refine (AllReadyH.cons (by rw [List.getElem?_toArray]; rfl) (fun K hK => ?_) AllReadyH.nil)
  go_simp
  refine (CT _).mono ?_; rintro ee vx ⟨rfl, hbl⟩; (replace XB := XB.trans (hbl.mono XB.size)); (replace R := R.below hbl); clear hbl; (obtain ⟨r0, r1, r2, r3, r4⟩ := id R)
  (try go_wp2_with fail)
  refine hK.out _ _ ?_ (fun hHeld => ?_)
  · first | exact SK.out _ XB | exact SK.out _ (Below.drew (Below.refl _ _)) | exact ⟨keepC' (keepC' (SK.out _ XB).1 d1) d1, keepC' (keepC' (SK.out _ XB).2.1 d1) d1, keepC' (keepC' (SK.out _ XB).2.2.1 d2) d2, keepC' (keepC' (SK.out _ XB).2.2.2 d2) d2⟩
  clear hK K
  (try simp only [Act.put, List.setIfInBounds_toArray, List.set_cons_zero, List.set_cons_succ])
  refine wpAnyH_take (i := 15) (v := ?_) (by rw [List.getElem?_toArray]; rfl) (by kernel_rfl) (by kernel_rfl) (by kernel_rfl) (by intro _ _ _ h; exact h) (Or.inl ⟨by rfl, ?_⟩) (by assumption) ?_
  rotate_left
  · (intro w hSw; (try dsimp only at hSw); go_simp; all_goals with_reducible rfl)
  (try simp only [Act.put, List.setIfInBounds_toArray, List.set_cons_zero, List.set_cons_succ])
  refine wpAnyH_take (i := 16) (v := ?_) (by rw [List.getElem?_toArray]; rfl) (by kernel_rfl) (by kernel_rfl) (by kernel_rfl) (by intro _ _ _ h; exact h) (Or.inl ⟨by rfl, ?_⟩) (by assumption) ?_
  rotate_left
  · (intro w hSw; (try dsimp only at hSw); go_simp; all_goals with_reducible rfl)
  (try simp only [Act.put, List.setIfInBounds_toArray, List.set_cons_zero, List.set_cons_succ])
  refine wpAnyH_ready (rs := [17]) (by kernel_rfl) (by simp) ?_
  refine (AllReadyH.cons (by rw [List.getElem?_toArray]; rfl) (fun K hK => ?_) AllReadyH.nil)
  go_simp
  refine hK.out _ _ ?_ (fun hHeld => ?_)
  · first | exact SK.out _ XB | exact SK.out _ (Below.drew (Below.refl _ _)) | exact ⟨keepC' (keepC' (SK.out _ XB).1 d1) d1, keepC' (keepC' (SK.out _ XB).2.1 d1) d1, keepC' (keepC' (SK.out _ XB).2.2.1 d2) d2, keepC' (keepC' (SK.out _ XB).2.2.2 d2) d2⟩
  clear hK K
  (try simp only [Act.put, List.setIfInBounds_toArray, List.set_cons_zero, List.set_cons_succ])
  refine wpAnyH_take (i := 18) (v := ?_) (by rw [List.getElem?_toArray]; rfl) (by kernel_rfl) (by kernel_rfl) (by kernel_rfl) (by intro _ _ _ h; exact h) (Or.inl ⟨by rfl, ?_⟩) (by assumption) ?_
  rotate_left
  · (intro w hSw; (try dsimp only at hSw); go_simp; all_goals with_reducible rfl)
  (try simp only [Act.put, List.setIfInBounds_toArray, List.set_cons_zero, List.set_cons_succ])
  refine wpAnyH_done (by kernel_rfl) ?_ _
  have RR := (R.set0 (.int .i64 sl)).set1 (.int .i64 sh)
  have BB := ((B.trans (XB.mono B.size)).setCell (p := ⟨jr, 0, none⟩) hj (.int .i64 sl)).setCell (p := ⟨jr, 1, none⟩) hj (.int .i64 sh)
  clear r0 r1 r2 r3 r4
  generalize (vx.setCell ⟨jr, 0, none⟩ (.int .i64 sl)).setCell ⟨jr, 1, none⟩ (.int .i64 sh) = vz at *
  go_wp2_with fail
  obtain ⟨r0, r1, r2, r3, r4⟩ := id RR
  exact bodyPost_ret (v := .tuple #[.agg #[.int .i64 sl, .int .i64 sh], .bool ok]) (by simp (maxDischargeDepth := 6) [results, Tryd.results27, go_sem, *]) rfl ⟨rfl, BB⟩
end Go.Proofs.YtjefbjjhdpidiaaDoor
