/- RateOf in the specification. -/
import Derived.Test.YtjefbjjhdpidiaaDoorF115
import Derived.Test.YtjefbjjhdpidiaaDoorW2
import Derived.WalkKit
import Derived.WalkSpells
import Derived.WalkLawsBesides
import Derived.Deep.RegionHeld
namespace Go.Proofs.YtjefbjjhdpidiaaDoor
open Go.RowKit
set_option linter.unusedVariables false
def roB (al ah ca bl bh cb : Int) : Bool := okI al ah && okI bl bh && decide (0 ≤ ca ∧ ca < cb ∧ cb ≤ 1000000000000 ∧ al ≤ bh)
def roX (al ah ca bl bh cb : Int) : Int := if roB al ah ca bl bh cb = true then foX (imx 0 (bl - ah)) (cb - ca) else 0
def roY (al ah ca bl bh cb : Int) : Int := if roB al ah ca bl bh cb = true then foY (imx 0 (bl - ah)) (cb - ca) else 0
def roZ (al ah ca bl bh cb : Int) : Int := if roB al ah ca bl bh cb = true then foX (bh - al) (cb - ca) else 0
def roU (al ah ca bl bh cb : Int) : Int := if roB al ah ca bl bh cb = true then foY (bh - al) (cb - ca) else 0
theorem ro_t {al ah ca bl bh cb : Int} (h : roB al ah ca bl bh cb = true) : roX al ah ca bl bh cb = foX (imx 0 (bl - ah)) (cb - ca) ∧ roY al ah ca bl bh cb = foY (imx 0 (bl - ah)) (cb - ca) ∧ roZ al ah ca bl bh cb = foX (bh - al) (cb - ca) ∧ roU al ah ca bl bh cb = foY (bh - al) (cb - ca) := ⟨if_pos h, if_pos h, if_pos h, if_pos h⟩
theorem ro_f {al ah ca bl bh cb : Int} (h : roB al ah ca bl bh cb = false) : roX al ah ca bl bh cb = 0 ∧ roY al ah ca bl bh cb = 0 ∧ roZ al ah ca bl bh cb = 0 ∧ roU al ah ca bl bh cb = 0 := by
  have h' : ¬ roB al ah ca bl bh cb = true := by rw [h]; decide
  exact ⟨if_neg h', if_neg h', if_neg h', if_neg h'⟩
set_option maxRecDepth 100000 in
set_option maxHeartbeats 16000000 in
theorem specRateOf_any (al ah ca bl bh cb : Int) (w : World) : Calls Tryd.prog 19 #[.agg #[.int .i64 al, .int .i64 ah], .int .i64 ca, .agg #[.int .i64 bl, .int .i64 bh], .int .i64 cb] w fun e w' => e = .returned (.tuple #[.agg #[.int .i64 (roX al ah ca bl bh cb), .int .i64 (roY al ah ca bl bh cb)], .agg #[.int .i64 (roZ al ah ca bl bh cb), .int .i64 (roU al ah ca bl bh cb)], .bool (roB al ah ca bl bh cb)]) ∧ Below w.heap.size w w' := by
  have A0 := Below.nw w (.cells #[.int .i64 al, .int .i64 ah] 38)
  have A1 := Below.nw (w.alloc (.cells #[.int .i64 al, .int .i64 ah] 38)) (.cells #[.int .i64 bl, .int .i64 bh] 38)
  have A2 := Below.nw ((w.alloc (.cells #[.int .i64 al, .int .i64 ah] 38)).alloc (.cells #[.int .i64 bl, .int .i64 bh] 38)) (.cells #[.int .i64 0, .int .i64 0] 25)
  have A3 := Below.nw (((w.alloc (.cells #[.int .i64 al, .int .i64 ah] 38)).alloc (.cells #[.int .i64 bl, .int .i64 bh] 38)).alloc (.cells #[.int .i64 0, .int .i64 0] 25)) (.cells #[.int .i64 0, .int .i64 0] 25)
  have P := (((Bx2.new w (.int .i64 al) (.int .i64 ah) 38).below A1).below A2).below A3
  have Q := ((Bx2.new (w.alloc (.cells #[.int .i64 al, .int .i64 ah] 38)) (.int .i64 bl) (.int .i64 bh) 38).below A2).below A3
  have R := (Bx2.new ((w.alloc (.cells #[.int .i64 al, .int .i64 ah] 38)).alloc (.cells #[.int .i64 bl, .int .i64 bh] 38)) (.int .i64 0) (.int .i64 0) 25).below A3
  have T := Bx2.new (((w.alloc (.cells #[.int .i64 al, .int .i64 ah] 38)).alloc (.cells #[.int .i64 bl, .int .i64 bh] 38)).alloc (.cells #[.int .i64 0, .int .i64 0] 25)) (.int .i64 0) (.int .i64 0) 25
  have B := ((A0.trans (A1.mono A0.size)).trans (A2.mono (A0.trans (A1.mono A0.size)).size)).trans (A3.mono ((A0.trans (A1.mono A0.size)).trans (A2.mono (A0.trans (A1.mono A0.size)).size)).size)
  simp only [World.size_alloc] at Q R T
  clear A0 A1 A2 A3
  have hj1 : w.heap.size ≤ w.heap.size + 1 + 1 := by omega
  have hj2 : w.heap.size ≤ w.heap.size + 1 + 1 + 1 := by omega
  have hne : w.heap.size + 1 + 1 ≠ w.heap.size + 1 + 1 + 1 := by omega
  cases h1 : okI al ah
  · have e : roB al ah ca bl bh cb = false := by rw [roB, h1]; rfl
    obtain ⟨e1, e2, e3, e4⟩ := ro_f e
    rw [e1, e2, e3, e4, e]
    clear e1 e2 e3 e4 e
    go_enter Tryd.func19, Tryd.ntmps19
    go_upto_region 1 with fail
    generalize (((w.alloc (.cells #[.int .i64 al, .int .i64 ah] 38)).alloc (.cells #[.int .i64 bl, .int .i64 bh] 38)).alloc (.cells #[.int .i64 0, .int .i64 0] 25)).alloc (.cells #[.int .i64 0, .int .i64 0] 25) = v at *
    generalize w.heap.size + 1 + 1 + 1 = jt at *
    generalize w.heap.size + 1 + 1 = jr at *
    generalize w.heap.size + 1 = jb at *
    have hne' := Ne.symm hne
    have A4 := Below.nw v (.cells #[.int .i64 0, .int .i64 0] 25)
    have O := Bx2.new v (.int .i64 0) (.int .i64 0) 25
    have k1 : jr ≠ v.heap.size := Nat.ne_of_lt R.1
    have k2 : jt ≠ v.heap.size := Nat.ne_of_lt T.1
    have k1' := Ne.symm k1
    have k2' := Ne.symm k2
    go_upto_region 2 with fail
    replace P := P.below A4
    replace Q := Q.below A4
    replace R := R.below A4
    replace T := T.below A4
    replace B := B.trans (A4.mono B.size)
    clear A4
    generalize v.heap.size = j5 at *
    generalize v.alloc (.cells #[.int .i64 0, .int .i64 0] 25) = v1 at *
    obtain ⟨n0, n1, n2, n3, n4⟩ := id P
    go_wp2_with fail
    refine (specIvalOk_any _ _ _).mono ?_
    rintro e v2 ⟨rfl, hb⟩
    rw [h1]
    clear n0 n1 n2 n3 n4
    replace P := P.below hb
    replace Q := Q.below hb
    replace R := R.below hb
    replace T := T.below hb
    replace O := O.below hb
    replace B := B.trans (hb.mono B.size)
    clear hb
    obtain ⟨p0, pa, pb, pc, pd⟩ := id P
    obtain ⟨q0, qa, qb, qc, qd⟩ := id Q
    obtain ⟨o0, oa, ob, oc, od⟩ := id O
    obtain ⟨r0, r1, r2, r3, r4⟩ := id R
    obtain ⟨t0, t1, t2, t3, t4⟩ := id T
    go_upto_region 3 with fail
    refine wp_region_held_drew (S := (fun w' => w'.cell? ⟨j5, 0, none⟩ = some (.int .i64 0) ∧ w'.cell? ⟨j5, 1, none⟩ = some (.int .i64 0))) (by kernel_rfl) ?_ (fun hHeld => ?_)
    · first | exact ⟨oa, ob⟩ | (simp (maxDischargeDepth := 6) [go_sem, *]; done)
    refine wpAnyH_take (i := 0) (v := ?_) (by rw [List.getElem?_toArray]; rfl) (by kernel_rfl) (by kernel_rfl) (by kernel_rfl) (by intro _ _ _ h; exact h) (Or.inl ⟨by rfl, ?_⟩) (by assumption) ?_
    rotate_left
    · (intro w hSw; (try dsimp only at hSw); go_simp; all_goals with_reducible rfl)
    (try simp only [Act.put, List.setIfInBounds_toArray, List.set_cons_zero, List.set_cons_succ])
    refine wpAnyH_take (i := 1) (v := ?_) (by rw [List.getElem?_toArray]; rfl) (by kernel_rfl) (by kernel_rfl) (by kernel_rfl) (by intro _ _ _ h; exact h) (Or.inl ⟨by rfl, ?_⟩) (by assumption) ?_
    rotate_left
    · (intro w hSw; (try dsimp only at hSw); go_simp; all_goals with_reducible rfl)
    (try simp only [Act.put, List.setIfInBounds_toArray, List.set_cons_zero, List.set_cons_succ])
    refine wpAnyH_ready (rs := [2]) (by kernel_rfl) (by simp) ?_
    refine AllReadyH.cons (by rw [List.getElem?_toArray]; rfl) (fun K hK => ?_) AllReadyH.nil
    go_simp
    refine hK.out _ _ ?_ (fun hHeld => ?_)
    · first | exact ⟨oa, ob⟩ | (simp (maxDischargeDepth := 6) [go_sem, *]; done)
    clear hK K
    (try simp only [Act.put, List.setIfInBounds_toArray, List.set_cons_zero, List.set_cons_succ])
    refine wpAnyH_ready (rs := [3]) (by kernel_rfl) (by simp) ?_
    refine AllReadyH.cons (by rw [List.getElem?_toArray]; rfl) (fun K hK => ?_) AllReadyH.nil
    go_simp
    refine hK.out _ _ ?_ (fun hHeld => ?_)
    · first | exact ⟨oa, ob⟩ | (simp (maxDischargeDepth := 6) [go_sem, *]; done)
    clear hK K
    (try simp only [Act.put, List.setIfInBounds_toArray, List.set_cons_zero, List.set_cons_succ])
    refine wpAnyH_take (i := 4) (v := ?_) (by rw [List.getElem?_toArray]; rfl) (by kernel_rfl) (by kernel_rfl) (by kernel_rfl) (by intro _ _ _ h; exact h) (Or.inl ⟨by rfl, ?_⟩) (by assumption) ?_
    rotate_left
    · (intro w hSw; (try dsimp only at hSw); go_simp; all_goals with_reducible rfl)
    (try simp only [Act.put, List.setIfInBounds_toArray, List.set_cons_zero, List.set_cons_succ])
    refine wpAnyH_done (by kernel_rfl) ?_ _
    go_wp2_with fail
    exact bodyPost_ret (v := (.tuple #[.agg #[.int .i64 0, .int .i64 0], .agg #[.int .i64 0, .int .i64 0], .bool false])) (by simp (maxDischargeDepth := 6) [results, Tryd.results19, go_sem, *]) rfl ⟨rfl, by first | exact two_in (Below.drew B) hj1 hj2 _ _ _ _ | exact Below.drew (two_in B hj1 hj2 _ _ _ _)⟩
  cases h2 : okI bl bh
  · have e : roB al ah ca bl bh cb = false := by rw [roB, h1, h2]; rfl
    obtain ⟨e1, e2, e3, e4⟩ := ro_f e
    rw [e1, e2, e3, e4, e]
    clear e1 e2 e3 e4 e
    go_enter Tryd.func19, Tryd.ntmps19
    go_upto_region 1 with fail
    generalize (((w.alloc (.cells #[.int .i64 al, .int .i64 ah] 38)).alloc (.cells #[.int .i64 bl, .int .i64 bh] 38)).alloc (.cells #[.int .i64 0, .int .i64 0] 25)).alloc (.cells #[.int .i64 0, .int .i64 0] 25) = v at *
    generalize w.heap.size + 1 + 1 + 1 = jt at *
    generalize w.heap.size + 1 + 1 = jr at *
    generalize w.heap.size + 1 = jb at *
    have hne' := Ne.symm hne
    have A4 := Below.nw v (.cells #[.int .i64 0, .int .i64 0] 25)
    have O := Bx2.new v (.int .i64 0) (.int .i64 0) 25
    have k1 : jr ≠ v.heap.size := Nat.ne_of_lt R.1
    have k2 : jt ≠ v.heap.size := Nat.ne_of_lt T.1
    have k1' := Ne.symm k1
    have k2' := Ne.symm k2
    go_upto_region 2 with fail
    replace P := P.below A4
    replace Q := Q.below A4
    replace R := R.below A4
    replace T := T.below A4
    replace B := B.trans (A4.mono B.size)
    clear A4
    generalize v.heap.size = j5 at *
    generalize v.alloc (.cells #[.int .i64 0, .int .i64 0] 25) = v1 at *
    obtain ⟨n0, n1, n2, n3, n4⟩ := id P
    go_wp2_with fail
    refine (specIvalOk_any _ _ _).mono ?_
    rintro e v2 ⟨rfl, hb⟩
    rw [h1]
    clear n0 n1 n2 n3 n4
    replace P := P.below hb
    replace Q := Q.below hb
    replace R := R.below hb
    replace T := T.below hb
    replace O := O.below hb
    replace B := B.trans (hb.mono B.size)
    clear hb
    obtain ⟨n0, n1, n2, n3, n4⟩ := id Q
    go_wp2_with fail
    refine (specIvalOk_any _ _ _).mono ?_
    rintro e v3 ⟨rfl, hb⟩
    rw [h2]
    clear n0 n1 n2 n3 n4
    replace P := P.below hb
    replace Q := Q.below hb
    replace R := R.below hb
    replace T := T.below hb
    replace O := O.below hb
    replace B := B.trans (hb.mono B.size)
    clear hb
    obtain ⟨p0, pa, pb, pc, pd⟩ := id P
    obtain ⟨q0, qa, qb, qc, qd⟩ := id Q
    obtain ⟨o0, oa, ob, oc, od⟩ := id O
    obtain ⟨r0, r1, r2, r3, r4⟩ := id R
    obtain ⟨t0, t1, t2, t3, t4⟩ := id T
    go_upto_region 3 with fail
    refine wp_region_held_drew (S := (fun w' => w'.cell? ⟨j5, 0, none⟩ = some (.int .i64 0) ∧ w'.cell? ⟨j5, 1, none⟩ = some (.int .i64 0))) (by kernel_rfl) ?_ (fun hHeld => ?_)
    · first | exact ⟨oa, ob⟩ | (simp (maxDischargeDepth := 6) [go_sem, *]; done)
    refine wpAnyH_take (i := 0) (v := ?_) (by rw [List.getElem?_toArray]; rfl) (by kernel_rfl) (by kernel_rfl) (by kernel_rfl) (by intro _ _ _ h; exact h) (Or.inl ⟨by rfl, ?_⟩) (by assumption) ?_
    rotate_left
    · (intro w hSw; (try dsimp only at hSw); go_simp; all_goals with_reducible rfl)
    (try simp only [Act.put, List.setIfInBounds_toArray, List.set_cons_zero, List.set_cons_succ])
    refine wpAnyH_take (i := 1) (v := ?_) (by rw [List.getElem?_toArray]; rfl) (by kernel_rfl) (by kernel_rfl) (by kernel_rfl) (by intro _ _ _ h; exact h) (Or.inl ⟨by rfl, ?_⟩) (by assumption) ?_
    rotate_left
    · (intro w hSw; (try dsimp only at hSw); go_simp; all_goals with_reducible rfl)
    (try simp only [Act.put, List.setIfInBounds_toArray, List.set_cons_zero, List.set_cons_succ])
    refine wpAnyH_ready (rs := [2]) (by kernel_rfl) (by simp) ?_
    refine AllReadyH.cons (by rw [List.getElem?_toArray]; rfl) (fun K hK => ?_) AllReadyH.nil
    go_simp
    refine hK.out _ _ ?_ (fun hHeld => ?_)
    · first | exact ⟨oa, ob⟩ | (simp (maxDischargeDepth := 6) [go_sem, *]; done)
    clear hK K
    (try simp only [Act.put, List.setIfInBounds_toArray, List.set_cons_zero, List.set_cons_succ])
    refine wpAnyH_ready (rs := [3]) (by kernel_rfl) (by simp) ?_
    refine AllReadyH.cons (by rw [List.getElem?_toArray]; rfl) (fun K hK => ?_) AllReadyH.nil
    go_simp
    refine hK.out _ _ ?_ (fun hHeld => ?_)
    · first | exact ⟨oa, ob⟩ | (simp (maxDischargeDepth := 6) [go_sem, *]; done)
    clear hK K
    (try simp only [Act.put, List.setIfInBounds_toArray, List.set_cons_zero, List.set_cons_succ])
    refine wpAnyH_take (i := 4) (v := ?_) (by rw [List.getElem?_toArray]; rfl) (by kernel_rfl) (by kernel_rfl) (by kernel_rfl) (by intro _ _ _ h; exact h) (Or.inl ⟨by rfl, ?_⟩) (by assumption) ?_
    rotate_left
    · (intro w hSw; (try dsimp only at hSw); go_simp; all_goals with_reducible rfl)
    (try simp only [Act.put, List.setIfInBounds_toArray, List.set_cons_zero, List.set_cons_succ])
    refine wpAnyH_done (by kernel_rfl) ?_ _
    go_wp2_with fail
    exact bodyPost_ret (v := (.tuple #[.agg #[.int .i64 0, .int .i64 0], .agg #[.int .i64 0, .int .i64 0], .bool false])) (by simp (maxDischargeDepth := 6) [results, Tryd.results19, go_sem, *]) rfl ⟨rfl, by first | exact two_in (Below.drew B) hj1 hj2 _ _ _ _ | exact Below.drew (two_in B hj1 hj2 _ _ _ _)⟩
  by_cases c0 : ca < 0
  · have d0 : decide (ca < 0) = true := decide_eq_true c0
    have e : roB al ah ca bl bh cb = false := by rw [roB, h1, h2, decide_eq_false (by omega)]; rfl
    obtain ⟨e1, e2, e3, e4⟩ := ro_f e
    rw [e1, e2, e3, e4, e]
    clear e1 e2 e3 e4 e
    go_enter Tryd.func19, Tryd.ntmps19
    go_upto_region 1 with fail
    generalize (((w.alloc (.cells #[.int .i64 al, .int .i64 ah] 38)).alloc (.cells #[.int .i64 bl, .int .i64 bh] 38)).alloc (.cells #[.int .i64 0, .int .i64 0] 25)).alloc (.cells #[.int .i64 0, .int .i64 0] 25) = v at *
    generalize w.heap.size + 1 + 1 + 1 = jt at *
    generalize w.heap.size + 1 + 1 = jr at *
    generalize w.heap.size + 1 = jb at *
    have hne' := Ne.symm hne
    have A4 := Below.nw v (.cells #[.int .i64 0, .int .i64 0] 25)
    have O := Bx2.new v (.int .i64 0) (.int .i64 0) 25
    have k1 : jr ≠ v.heap.size := Nat.ne_of_lt R.1
    have k2 : jt ≠ v.heap.size := Nat.ne_of_lt T.1
    have k1' := Ne.symm k1
    have k2' := Ne.symm k2
    go_upto_region 2 with fail
    replace P := P.below A4
    replace Q := Q.below A4
    replace R := R.below A4
    replace T := T.below A4
    replace B := B.trans (A4.mono B.size)
    clear A4
    generalize v.heap.size = j5 at *
    generalize v.alloc (.cells #[.int .i64 0, .int .i64 0] 25) = v1 at *
    obtain ⟨n0, n1, n2, n3, n4⟩ := id P
    go_wp2_with fail
    refine (specIvalOk_any _ _ _).mono ?_
    rintro e v2 ⟨rfl, hb⟩
    rw [h1]
    clear n0 n1 n2 n3 n4
    replace P := P.below hb
    replace Q := Q.below hb
    replace R := R.below hb
    replace T := T.below hb
    replace O := O.below hb
    replace B := B.trans (hb.mono B.size)
    clear hb
    obtain ⟨n0, n1, n2, n3, n4⟩ := id Q
    go_wp2_with fail
    refine (specIvalOk_any _ _ _).mono ?_
    rintro e v3 ⟨rfl, hb⟩
    rw [h2]
    clear n0 n1 n2 n3 n4
    replace P := P.below hb
    replace Q := Q.below hb
    replace R := R.below hb
    replace T := T.below hb
    replace O := O.below hb
    replace B := B.trans (hb.mono B.size)
    clear hb
    obtain ⟨p0, pa, pb, pc, pd⟩ := id P
    obtain ⟨q0, qa, qb, qc, qd⟩ := id Q
    obtain ⟨o0, oa, ob, oc, od⟩ := id O
    obtain ⟨r0, r1, r2, r3, r4⟩ := id R
    obtain ⟨t0, t1, t2, t3, t4⟩ := id T
    go_upto_region 3 with fail
    refine wp_region_held_drew (S := (fun w' => w'.cell? ⟨j5, 0, none⟩ = some (.int .i64 0) ∧ w'.cell? ⟨j5, 1, none⟩ = some (.int .i64 0))) (by kernel_rfl) ?_ (fun hHeld => ?_)
    · first | exact ⟨oa, ob⟩ | (simp (maxDischargeDepth := 6) [go_sem, *]; done)
    refine wpAnyH_take (i := 0) (v := ?_) (by rw [List.getElem?_toArray]; rfl) (by kernel_rfl) (by kernel_rfl) (by kernel_rfl) (by intro _ _ _ h; exact h) (Or.inl ⟨by rfl, ?_⟩) (by assumption) ?_
    rotate_left
    · (intro w hSw; (try dsimp only at hSw); go_simp; all_goals with_reducible rfl)
    (try simp only [Act.put, List.setIfInBounds_toArray, List.set_cons_zero, List.set_cons_succ])
    refine wpAnyH_take (i := 1) (v := ?_) (by rw [List.getElem?_toArray]; rfl) (by kernel_rfl) (by kernel_rfl) (by kernel_rfl) (by intro _ _ _ h; exact h) (Or.inl ⟨by rfl, ?_⟩) (by assumption) ?_
    rotate_left
    · (intro w hSw; (try dsimp only at hSw); go_simp; all_goals with_reducible rfl)
    (try simp only [Act.put, List.setIfInBounds_toArray, List.set_cons_zero, List.set_cons_succ])
    refine wpAnyH_ready (rs := [2]) (by kernel_rfl) (by simp) ?_
    refine AllReadyH.cons (by rw [List.getElem?_toArray]; rfl) (fun K hK => ?_) AllReadyH.nil
    go_simp
    refine hK.out _ _ ?_ (fun hHeld => ?_)
    · first | exact ⟨oa, ob⟩ | (simp (maxDischargeDepth := 6) [go_sem, *]; done)
    clear hK K
    (try simp only [Act.put, List.setIfInBounds_toArray, List.set_cons_zero, List.set_cons_succ])
    refine wpAnyH_ready (rs := [3]) (by kernel_rfl) (by simp) ?_
    refine AllReadyH.cons (by rw [List.getElem?_toArray]; rfl) (fun K hK => ?_) AllReadyH.nil
    go_simp
    refine hK.out _ _ ?_ (fun hHeld => ?_)
    · first | exact ⟨oa, ob⟩ | (simp (maxDischargeDepth := 6) [go_sem, *]; done)
    clear hK K
    (try simp only [Act.put, List.setIfInBounds_toArray, List.set_cons_zero, List.set_cons_succ])
    refine wpAnyH_take (i := 4) (v := ?_) (by rw [List.getElem?_toArray]; rfl) (by kernel_rfl) (by kernel_rfl) (by kernel_rfl) (by intro _ _ _ h; exact h) (Or.inl ⟨by rfl, ?_⟩) (by assumption) ?_
    rotate_left
    · (intro w hSw; (try dsimp only at hSw); go_simp; all_goals with_reducible rfl)
    (try simp only [Act.put, List.setIfInBounds_toArray, List.set_cons_zero, List.set_cons_succ])
    refine wpAnyH_done (by kernel_rfl) ?_ _
    go_wp2_with fail
    exact bodyPost_ret (v := (.tuple #[.agg #[.int .i64 0, .int .i64 0], .agg #[.int .i64 0, .int .i64 0], .bool false])) (by simp (maxDischargeDepth := 6) [results, Tryd.results19, go_sem, *]) rfl ⟨rfl, by first | exact two_in (Below.drew B) hj1 hj2 _ _ _ _ | exact Below.drew (two_in B hj1 hj2 _ _ _ _)⟩
  have d0 : decide (ca < 0) = false := decide_eq_false c0
  by_cases c1 : cb ≤ ca
  · have d1 : decide (cb ≤ ca) = true := decide_eq_true c1
    have e : roB al ah ca bl bh cb = false := by rw [roB, h1, h2, decide_eq_false (by omega)]; rfl
    obtain ⟨e1, e2, e3, e4⟩ := ro_f e
    rw [e1, e2, e3, e4, e]
    clear e1 e2 e3 e4 e
    go_enter Tryd.func19, Tryd.ntmps19
    go_upto_region 1 with fail
    generalize (((w.alloc (.cells #[.int .i64 al, .int .i64 ah] 38)).alloc (.cells #[.int .i64 bl, .int .i64 bh] 38)).alloc (.cells #[.int .i64 0, .int .i64 0] 25)).alloc (.cells #[.int .i64 0, .int .i64 0] 25) = v at *
    generalize w.heap.size + 1 + 1 + 1 = jt at *
    generalize w.heap.size + 1 + 1 = jr at *
    generalize w.heap.size + 1 = jb at *
    have hne' := Ne.symm hne
    have A4 := Below.nw v (.cells #[.int .i64 0, .int .i64 0] 25)
    have O := Bx2.new v (.int .i64 0) (.int .i64 0) 25
    have k1 : jr ≠ v.heap.size := Nat.ne_of_lt R.1
    have k2 : jt ≠ v.heap.size := Nat.ne_of_lt T.1
    have k1' := Ne.symm k1
    have k2' := Ne.symm k2
    go_upto_region 2 with fail
    replace P := P.below A4
    replace Q := Q.below A4
    replace R := R.below A4
    replace T := T.below A4
    replace B := B.trans (A4.mono B.size)
    clear A4
    generalize v.heap.size = j5 at *
    generalize v.alloc (.cells #[.int .i64 0, .int .i64 0] 25) = v1 at *
    obtain ⟨n0, n1, n2, n3, n4⟩ := id P
    go_wp2_with fail
    refine (specIvalOk_any _ _ _).mono ?_
    rintro e v2 ⟨rfl, hb⟩
    rw [h1]
    clear n0 n1 n2 n3 n4
    replace P := P.below hb
    replace Q := Q.below hb
    replace R := R.below hb
    replace T := T.below hb
    replace O := O.below hb
    replace B := B.trans (hb.mono B.size)
    clear hb
    obtain ⟨n0, n1, n2, n3, n4⟩ := id Q
    go_wp2_with fail
    refine (specIvalOk_any _ _ _).mono ?_
    rintro e v3 ⟨rfl, hb⟩
    rw [h2]
    clear n0 n1 n2 n3 n4
    replace P := P.below hb
    replace Q := Q.below hb
    replace R := R.below hb
    replace T := T.below hb
    replace O := O.below hb
    replace B := B.trans (hb.mono B.size)
    clear hb
    obtain ⟨p0, pa, pb, pc, pd⟩ := id P
    obtain ⟨q0, qa, qb, qc, qd⟩ := id Q
    obtain ⟨o0, oa, ob, oc, od⟩ := id O
    obtain ⟨r0, r1, r2, r3, r4⟩ := id R
    obtain ⟨t0, t1, t2, t3, t4⟩ := id T
    go_upto_region 3 with fail
    refine wp_region_held_drew (S := (fun w' => w'.cell? ⟨j5, 0, none⟩ = some (.int .i64 0) ∧ w'.cell? ⟨j5, 1, none⟩ = some (.int .i64 0))) (by kernel_rfl) ?_ (fun hHeld => ?_)
    · first | exact ⟨oa, ob⟩ | (simp (maxDischargeDepth := 6) [go_sem, *]; done)
    refine wpAnyH_take (i := 0) (v := ?_) (by rw [List.getElem?_toArray]; rfl) (by kernel_rfl) (by kernel_rfl) (by kernel_rfl) (by intro _ _ _ h; exact h) (Or.inl ⟨by rfl, ?_⟩) (by assumption) ?_
    rotate_left
    · (intro w hSw; (try dsimp only at hSw); go_simp; all_goals with_reducible rfl)
    (try simp only [Act.put, List.setIfInBounds_toArray, List.set_cons_zero, List.set_cons_succ])
    refine wpAnyH_take (i := 1) (v := ?_) (by rw [List.getElem?_toArray]; rfl) (by kernel_rfl) (by kernel_rfl) (by kernel_rfl) (by intro _ _ _ h; exact h) (Or.inl ⟨by rfl, ?_⟩) (by assumption) ?_
    rotate_left
    · (intro w hSw; (try dsimp only at hSw); go_simp; all_goals with_reducible rfl)
    (try simp only [Act.put, List.setIfInBounds_toArray, List.set_cons_zero, List.set_cons_succ])
    refine wpAnyH_ready (rs := [2]) (by kernel_rfl) (by simp) ?_
    refine AllReadyH.cons (by rw [List.getElem?_toArray]; rfl) (fun K hK => ?_) AllReadyH.nil
    go_simp
    refine hK.out _ _ ?_ (fun hHeld => ?_)
    · first | exact ⟨oa, ob⟩ | (simp (maxDischargeDepth := 6) [go_sem, *]; done)
    clear hK K
    (try simp only [Act.put, List.setIfInBounds_toArray, List.set_cons_zero, List.set_cons_succ])
    refine wpAnyH_ready (rs := [3]) (by kernel_rfl) (by simp) ?_
    refine AllReadyH.cons (by rw [List.getElem?_toArray]; rfl) (fun K hK => ?_) AllReadyH.nil
    go_simp
    refine hK.out _ _ ?_ (fun hHeld => ?_)
    · first | exact ⟨oa, ob⟩ | (simp (maxDischargeDepth := 6) [go_sem, *]; done)
    clear hK K
    (try simp only [Act.put, List.setIfInBounds_toArray, List.set_cons_zero, List.set_cons_succ])
    refine wpAnyH_take (i := 4) (v := ?_) (by rw [List.getElem?_toArray]; rfl) (by kernel_rfl) (by kernel_rfl) (by kernel_rfl) (by intro _ _ _ h; exact h) (Or.inl ⟨by rfl, ?_⟩) (by assumption) ?_
    rotate_left
    · (intro w hSw; (try dsimp only at hSw); go_simp; all_goals with_reducible rfl)
    (try simp only [Act.put, List.setIfInBounds_toArray, List.set_cons_zero, List.set_cons_succ])
    refine wpAnyH_done (by kernel_rfl) ?_ _
    go_wp2_with fail
    exact bodyPost_ret (v := (.tuple #[.agg #[.int .i64 0, .int .i64 0], .agg #[.int .i64 0, .int .i64 0], .bool false])) (by simp (maxDischargeDepth := 6) [results, Tryd.results19, go_sem, *]) rfl ⟨rfl, by first | exact two_in (Below.drew B) hj1 hj2 _ _ _ _ | exact Below.drew (two_in B hj1 hj2 _ _ _ _)⟩
  have d1 : decide (cb ≤ ca) = false := decide_eq_false c1
  by_cases c2 : 1000000000000 < cb
  · have d2 : decide (1000000000000 < cb) = true := decide_eq_true c2
    have e : roB al ah ca bl bh cb = false := by rw [roB, h1, h2, decide_eq_false (by omega)]; rfl
    obtain ⟨e1, e2, e3, e4⟩ := ro_f e
    rw [e1, e2, e3, e4, e]
    clear e1 e2 e3 e4 e
    go_enter Tryd.func19, Tryd.ntmps19
    go_upto_region 1 with fail
    generalize (((w.alloc (.cells #[.int .i64 al, .int .i64 ah] 38)).alloc (.cells #[.int .i64 bl, .int .i64 bh] 38)).alloc (.cells #[.int .i64 0, .int .i64 0] 25)).alloc (.cells #[.int .i64 0, .int .i64 0] 25) = v at *
    generalize w.heap.size + 1 + 1 + 1 = jt at *
    generalize w.heap.size + 1 + 1 = jr at *
    generalize w.heap.size + 1 = jb at *
    have hne' := Ne.symm hne
    have A4 := Below.nw v (.cells #[.int .i64 0, .int .i64 0] 25)
    have O := Bx2.new v (.int .i64 0) (.int .i64 0) 25
    have k1 : jr ≠ v.heap.size := Nat.ne_of_lt R.1
    have k2 : jt ≠ v.heap.size := Nat.ne_of_lt T.1
    have k1' := Ne.symm k1
    have k2' := Ne.symm k2
    go_upto_region 2 with fail
    replace P := P.below A4
    replace Q := Q.below A4
    replace R := R.below A4
    replace T := T.below A4
    replace B := B.trans (A4.mono B.size)
    clear A4
    generalize v.heap.size = j5 at *
    generalize v.alloc (.cells #[.int .i64 0, .int .i64 0] 25) = v1 at *
    obtain ⟨n0, n1, n2, n3, n4⟩ := id P
    go_wp2_with fail
    refine (specIvalOk_any _ _ _).mono ?_
    rintro e v2 ⟨rfl, hb⟩
    rw [h1]
    clear n0 n1 n2 n3 n4
    replace P := P.below hb
    replace Q := Q.below hb
    replace R := R.below hb
    replace T := T.below hb
    replace O := O.below hb
    replace B := B.trans (hb.mono B.size)
    clear hb
    obtain ⟨n0, n1, n2, n3, n4⟩ := id Q
    go_wp2_with fail
    refine (specIvalOk_any _ _ _).mono ?_
    rintro e v3 ⟨rfl, hb⟩
    rw [h2]
    clear n0 n1 n2 n3 n4
    replace P := P.below hb
    replace Q := Q.below hb
    replace R := R.below hb
    replace T := T.below hb
    replace O := O.below hb
    replace B := B.trans (hb.mono B.size)
    clear hb
    obtain ⟨p0, pa, pb, pc, pd⟩ := id P
    obtain ⟨q0, qa, qb, qc, qd⟩ := id Q
    obtain ⟨o0, oa, ob, oc, od⟩ := id O
    obtain ⟨r0, r1, r2, r3, r4⟩ := id R
    obtain ⟨t0, t1, t2, t3, t4⟩ := id T
    go_upto_region 3 with fail
    refine wp_region_held_drew (S := (fun w' => w'.cell? ⟨j5, 0, none⟩ = some (.int .i64 0) ∧ w'.cell? ⟨j5, 1, none⟩ = some (.int .i64 0))) (by kernel_rfl) ?_ (fun hHeld => ?_)
    · first | exact ⟨oa, ob⟩ | (simp (maxDischargeDepth := 6) [go_sem, *]; done)
    refine wpAnyH_take (i := 0) (v := ?_) (by rw [List.getElem?_toArray]; rfl) (by kernel_rfl) (by kernel_rfl) (by kernel_rfl) (by intro _ _ _ h; exact h) (Or.inl ⟨by rfl, ?_⟩) (by assumption) ?_
    rotate_left
    · (intro w hSw; (try dsimp only at hSw); go_simp; all_goals with_reducible rfl)
    (try simp only [Act.put, List.setIfInBounds_toArray, List.set_cons_zero, List.set_cons_succ])
    refine wpAnyH_take (i := 1) (v := ?_) (by rw [List.getElem?_toArray]; rfl) (by kernel_rfl) (by kernel_rfl) (by kernel_rfl) (by intro _ _ _ h; exact h) (Or.inl ⟨by rfl, ?_⟩) (by assumption) ?_
    rotate_left
    · (intro w hSw; (try dsimp only at hSw); go_simp; all_goals with_reducible rfl)
    (try simp only [Act.put, List.setIfInBounds_toArray, List.set_cons_zero, List.set_cons_succ])
    refine wpAnyH_ready (rs := [2]) (by kernel_rfl) (by simp) ?_
    refine AllReadyH.cons (by rw [List.getElem?_toArray]; rfl) (fun K hK => ?_) AllReadyH.nil
    go_simp
    refine hK.out _ _ ?_ (fun hHeld => ?_)
    · first | exact ⟨oa, ob⟩ | (simp (maxDischargeDepth := 6) [go_sem, *]; done)
    clear hK K
    (try simp only [Act.put, List.setIfInBounds_toArray, List.set_cons_zero, List.set_cons_succ])
    refine wpAnyH_ready (rs := [3]) (by kernel_rfl) (by simp) ?_
    refine AllReadyH.cons (by rw [List.getElem?_toArray]; rfl) (fun K hK => ?_) AllReadyH.nil
    go_simp
    refine hK.out _ _ ?_ (fun hHeld => ?_)
    · first | exact ⟨oa, ob⟩ | (simp (maxDischargeDepth := 6) [go_sem, *]; done)
    clear hK K
    (try simp only [Act.put, List.setIfInBounds_toArray, List.set_cons_zero, List.set_cons_succ])
    refine wpAnyH_take (i := 4) (v := ?_) (by rw [List.getElem?_toArray]; rfl) (by kernel_rfl) (by kernel_rfl) (by kernel_rfl) (by intro _ _ _ h; exact h) (Or.inl ⟨by rfl, ?_⟩) (by assumption) ?_
    rotate_left
    · (intro w hSw; (try dsimp only at hSw); go_simp; all_goals with_reducible rfl)
    (try simp only [Act.put, List.setIfInBounds_toArray, List.set_cons_zero, List.set_cons_succ])
    refine wpAnyH_done (by kernel_rfl) ?_ _
    go_wp2_with fail
    exact bodyPost_ret (v := (.tuple #[.agg #[.int .i64 0, .int .i64 0], .agg #[.int .i64 0, .int .i64 0], .bool false])) (by simp (maxDischargeDepth := 6) [results, Tryd.results19, go_sem, *]) rfl ⟨rfl, by first | exact two_in (Below.drew B) hj1 hj2 _ _ _ _ | exact Below.drew (two_in B hj1 hj2 _ _ _ _)⟩
  have d2 : decide (1000000000000 < cb) = false := decide_eq_false c2
  by_cases c3 : bh < al
  · have d3 : decide (bh < al) = true := decide_eq_true c3
    have e : roB al ah ca bl bh cb = false := by rw [roB, h1, h2, decide_eq_false (by omega)]; rfl
    obtain ⟨e1, e2, e3, e4⟩ := ro_f e
    rw [e1, e2, e3, e4, e]
    clear e1 e2 e3 e4 e
    go_enter Tryd.func19, Tryd.ntmps19
    go_upto_region 1 with fail
    generalize (((w.alloc (.cells #[.int .i64 al, .int .i64 ah] 38)).alloc (.cells #[.int .i64 bl, .int .i64 bh] 38)).alloc (.cells #[.int .i64 0, .int .i64 0] 25)).alloc (.cells #[.int .i64 0, .int .i64 0] 25) = v at *
    generalize w.heap.size + 1 + 1 + 1 = jt at *
    generalize w.heap.size + 1 + 1 = jr at *
    generalize w.heap.size + 1 = jb at *
    have hne' := Ne.symm hne
    have A4 := Below.nw v (.cells #[.int .i64 0, .int .i64 0] 25)
    have O := Bx2.new v (.int .i64 0) (.int .i64 0) 25
    have k1 : jr ≠ v.heap.size := Nat.ne_of_lt R.1
    have k2 : jt ≠ v.heap.size := Nat.ne_of_lt T.1
    have k1' := Ne.symm k1
    have k2' := Ne.symm k2
    go_upto_region 2 with fail
    replace P := P.below A4
    replace Q := Q.below A4
    replace R := R.below A4
    replace T := T.below A4
    replace B := B.trans (A4.mono B.size)
    clear A4
    generalize v.heap.size = j5 at *
    generalize v.alloc (.cells #[.int .i64 0, .int .i64 0] 25) = v1 at *
    obtain ⟨n0, n1, n2, n3, n4⟩ := id P
    go_wp2_with fail
    refine (specIvalOk_any _ _ _).mono ?_
    rintro e v2 ⟨rfl, hb⟩
    rw [h1]
    clear n0 n1 n2 n3 n4
    replace P := P.below hb
    replace Q := Q.below hb
    replace R := R.below hb
    replace T := T.below hb
    replace O := O.below hb
    replace B := B.trans (hb.mono B.size)
    clear hb
    obtain ⟨n0, n1, n2, n3, n4⟩ := id Q
    go_wp2_with fail
    refine (specIvalOk_any _ _ _).mono ?_
    rintro e v3 ⟨rfl, hb⟩
    rw [h2]
    clear n0 n1 n2 n3 n4
    replace P := P.below hb
    replace Q := Q.below hb
    replace R := R.below hb
    replace T := T.below hb
    replace O := O.below hb
    replace B := B.trans (hb.mono B.size)
    clear hb
    obtain ⟨p0, pa, pb, pc, pd⟩ := id P
    obtain ⟨q0, qa, qb, qc, qd⟩ := id Q
    obtain ⟨o0, oa, ob, oc, od⟩ := id O
    obtain ⟨r0, r1, r2, r3, r4⟩ := id R
    obtain ⟨t0, t1, t2, t3, t4⟩ := id T
    go_upto_region 3 with fail
    refine wp_region_held_drew (S := (fun w' => w'.cell? ⟨j5, 0, none⟩ = some (.int .i64 0) ∧ w'.cell? ⟨j5, 1, none⟩ = some (.int .i64 0))) (by kernel_rfl) ?_ (fun hHeld => ?_)
    · first | exact ⟨oa, ob⟩ | (simp (maxDischargeDepth := 6) [go_sem, *]; done)
    refine wpAnyH_take (i := 0) (v := ?_) (by rw [List.getElem?_toArray]; rfl) (by kernel_rfl) (by kernel_rfl) (by kernel_rfl) (by intro _ _ _ h; exact h) (Or.inl ⟨by rfl, ?_⟩) (by assumption) ?_
    rotate_left
    · (intro w hSw; (try dsimp only at hSw); go_simp; all_goals with_reducible rfl)
    (try simp only [Act.put, List.setIfInBounds_toArray, List.set_cons_zero, List.set_cons_succ])
    refine wpAnyH_take (i := 1) (v := ?_) (by rw [List.getElem?_toArray]; rfl) (by kernel_rfl) (by kernel_rfl) (by kernel_rfl) (by intro _ _ _ h; exact h) (Or.inl ⟨by rfl, ?_⟩) (by assumption) ?_
    rotate_left
    · (intro w hSw; (try dsimp only at hSw); go_simp; all_goals with_reducible rfl)
    (try simp only [Act.put, List.setIfInBounds_toArray, List.set_cons_zero, List.set_cons_succ])
    refine wpAnyH_ready (rs := [2]) (by kernel_rfl) (by simp) ?_
    refine AllReadyH.cons (by rw [List.getElem?_toArray]; rfl) (fun K hK => ?_) AllReadyH.nil
    go_simp
    refine hK.out _ _ ?_ (fun hHeld => ?_)
    · first | exact ⟨oa, ob⟩ | (simp (maxDischargeDepth := 6) [go_sem, *]; done)
    clear hK K
    (try simp only [Act.put, List.setIfInBounds_toArray, List.set_cons_zero, List.set_cons_succ])
    refine wpAnyH_ready (rs := [3]) (by kernel_rfl) (by simp) ?_
    refine AllReadyH.cons (by rw [List.getElem?_toArray]; rfl) (fun K hK => ?_) AllReadyH.nil
    go_simp
    refine hK.out _ _ ?_ (fun hHeld => ?_)
    · first | exact ⟨oa, ob⟩ | (simp (maxDischargeDepth := 6) [go_sem, *]; done)
    clear hK K
    (try simp only [Act.put, List.setIfInBounds_toArray, List.set_cons_zero, List.set_cons_succ])
    refine wpAnyH_take (i := 4) (v := ?_) (by rw [List.getElem?_toArray]; rfl) (by kernel_rfl) (by kernel_rfl) (by kernel_rfl) (by intro _ _ _ h; exact h) (Or.inl ⟨by rfl, ?_⟩) (by assumption) ?_
    rotate_left
    · (intro w hSw; (try dsimp only at hSw); go_simp; all_goals with_reducible rfl)
    (try simp only [Act.put, List.setIfInBounds_toArray, List.set_cons_zero, List.set_cons_succ])
    refine wpAnyH_done (by kernel_rfl) ?_ _
    go_wp2_with fail
    exact bodyPost_ret (v := (.tuple #[.agg #[.int .i64 0, .int .i64 0], .agg #[.int .i64 0, .int .i64 0], .bool false])) (by simp (maxDischargeDepth := 6) [results, Tryd.results19, go_sem, *]) rfl ⟨rfl, by first | exact two_in (Below.drew B) hj1 hj2 _ _ _ _ | exact Below.drew (two_in B hj1 hj2 _ _ _ _)⟩
  have d3 : decide (bh < al) = false := decide_eq_false c3
  have e : roB al ah ca bl bh cb = true := by rw [roB, h1, h2, decide_eq_true (by omega)]; rfl
  obtain ⟨e1, e2, e3, e4⟩ := ro_t e
  rw [e1, e2, e3, e4, e]
  clear e1 e2 e3 e4 e
  have ⟨g1, g2, g3⟩ := okI_t h1
  have ⟨g4, g5, g6⟩ := okI_t h2
  have C1 := fun w' => specFracOf_any (imx 0 (bl - ah)) (cb - ca) w'
  have C2 := fun w' => specFracOf_any (bh - al) (cb - ca) w'
  generalize foX (imx 0 (bl - ah)) (cb - ca) = x1 at *
  generalize foY (imx 0 (bl - ah)) (cb - ca) = y1 at *
  generalize foB (imx 0 (bl - ah)) (cb - ca) = b1 at *
  generalize foX (bh - al) (cb - ca) = x2 at *
  generalize foY (bh - al) (cb - ca) = y2 at *
  generalize foB (bh - al) (cb - ca) = b2 at *
  go_enter Tryd.func19, Tryd.ntmps19
  go_upto_region 1 with fail
  generalize (((w.alloc (.cells #[.int .i64 al, .int .i64 ah] 38)).alloc (.cells #[.int .i64 bl, .int .i64 bh] 38)).alloc (.cells #[.int .i64 0, .int .i64 0] 25)).alloc (.cells #[.int .i64 0, .int .i64 0] 25) = v at *
  generalize w.heap.size + 1 + 1 + 1 = jt at *
  generalize w.heap.size + 1 + 1 = jr at *
  generalize w.heap.size + 1 = jb at *
  have hne' := Ne.symm hne
  have A4 := Below.nw v (.cells #[.int .i64 0, .int .i64 0] 25)
  have O := Bx2.new v (.int .i64 0) (.int .i64 0) 25
  have k1 : jr ≠ v.heap.size := Nat.ne_of_lt R.1
  have k2 : jt ≠ v.heap.size := Nat.ne_of_lt T.1
  have k1' := Ne.symm k1
  have k2' := Ne.symm k2
  go_upto_region 2 with fail
  replace P := P.below A4
  replace Q := Q.below A4
  replace R := R.below A4
  replace T := T.below A4
  replace B := B.trans (A4.mono B.size)
  clear A4
  generalize v.heap.size = j5 at *
  generalize v.alloc (.cells #[.int .i64 0, .int .i64 0] 25) = v1 at *
  obtain ⟨n0, n1, n2, n3, n4⟩ := id P
  go_wp2_with fail
  refine (specIvalOk_any _ _ _).mono ?_
  rintro e v2 ⟨rfl, hb⟩
  rw [h1]
  clear n0 n1 n2 n3 n4
  replace P := P.below hb
  replace Q := Q.below hb
  replace R := R.below hb
  replace T := T.below hb
  replace O := O.below hb
  replace B := B.trans (hb.mono B.size)
  clear hb
  obtain ⟨n0, n1, n2, n3, n4⟩ := id Q
  go_wp2_with fail
  refine (specIvalOk_any _ _ _).mono ?_
  rintro e v3 ⟨rfl, hb⟩
  rw [h2]
  clear n0 n1 n2 n3 n4
  replace P := P.below hb
  replace Q := Q.below hb
  replace R := R.below hb
  replace T := T.below hb
  replace O := O.below hb
  replace B := B.trans (hb.mono B.size)
  clear hb
  clear O
  obtain ⟨p0, pa, pb, pc, pd⟩ := id P
  obtain ⟨q0, qa, qb, qc, qd⟩ := id Q
  go_wp2_with fail
  refine (l1Max_any _ _ _).mono ?_
  rintro e w' ⟨rfl, rfl⟩
  go_wp2_with fail
  refine (C1 _).mono ?_
  rintro e v4 ⟨rfl, hb⟩
  clear p0 pa pb pc pd q0 qa qb qc qd C1
  replace P := P.below hb
  replace Q := Q.below hb
  replace R := R.below hb
  replace T := T.below hb
  replace B := B.trans (hb.mono B.size)
  clear hb
  have A3 := Below.nw v4 (.cells #[.int .i64 x1, .int .i64 y1] 25)
  have X := Bx2.new v4 (.int .i64 x1) (.int .i64 y1) 25
  have hk1 : jr < v4.heap.size := R.1
  have hk2 : jt < v4.heap.size := T.1
  go_upto_region 5 with fail
  replace P := P.below A3
  replace Q := Q.below A3
  replace R := R.below A3
  replace T := T.below A3
  replace B := B.trans (A3.mono B.size)
  clear A3
  generalize v4.heap.size = j12 at *
  generalize v4.alloc (.cells #[.int .i64 x1, .int .i64 y1] 25) = v5 at *
  obtain ⟨p0, pa, pb, pc, pd⟩ := id P
  obtain ⟨q0, qa, qb, qc, qd⟩ := id Q
  go_wp2_with fail
  refine (C2 _).mono ?_
  rintro e v6 ⟨rfl, hb⟩
  clear p0 pa pb pc pd q0 qa qb qc qd C2 P Q
  replace X := X.below hb
  replace R := R.below hb
  replace T := T.below hb
  replace B := B.trans (hb.mono B.size)
  clear hb
  have A3 := Below.nw v6 (.cells #[.int .i64 x2, .int .i64 y2] 25)
  have Z := Bx2.new v6 (.int .i64 x2) (.int .i64 y2) 25
  have hk3 : jr < v6.heap.size := R.1
  have hk4 : jt < v6.heap.size := T.1
  go_upto_region 6 with fail
  replace X := X.below A3
  replace R := R.below A3
  replace T := T.below A3
  replace B := B.trans (A3.mono B.size)
  clear A3
  generalize v6.heap.size = j14 at *
  generalize v6.alloc (.cells #[.int .i64 x2, .int .i64 y2] 25) = v7 at *
  have a1 : jr ≠ j12 := by omega
  have a2 : jt ≠ j12 := by omega
  have a3 : jr ≠ j14 := by omega
  have a4 : jt ≠ j14 := by omega
  have a1' := Ne.symm a1
  have a2' := Ne.symm a2
  have a3' := Ne.symm a3
  have a4' := Ne.symm a4
  obtain ⟨x0', xa, xb, xc, xd⟩ := id X
  obtain ⟨z0', za, zb, zc, zd⟩ := id Z
  obtain ⟨r0, r1, r2, r3, r4⟩ := id R
  obtain ⟨t0, t1, t2, t3, t4⟩ := id T
  refine wp_region_held_drew (S := (fun w' => w'.cell? ⟨j12, 0, none⟩ = some (.int .i64 x1) ∧ w'.cell? ⟨j12, 1, none⟩ = some (.int .i64 y1) ∧ w'.cell? ⟨j14, 0, none⟩ = some (.int .i64 x2) ∧ w'.cell? ⟨j14, 1, none⟩ = some (.int .i64 y2))) (by kernel_rfl) ?_ (fun hHeld => ?_)
  · first | exact ⟨xa, xb, za, zb⟩ | (simp (maxDischargeDepth := 6) [go_sem, *]; done)
  refine wpAnyH_take (i := 0) (v := ?_) (by rw [List.getElem?_toArray]; rfl) (by kernel_rfl) (by kernel_rfl) (by kernel_rfl) (by intro _ _ _ h; exact h) (Or.inl ⟨by rfl, ?_⟩) (by assumption) ?_
  rotate_left
  · (intro w hSw; (try dsimp only at hSw); go_simp; all_goals with_reducible rfl)
  (try simp only [Act.put, List.setIfInBounds_toArray, List.set_cons_zero, List.set_cons_succ])
  refine wpAnyH_take (i := 1) (v := ?_) (by rw [List.getElem?_toArray]; rfl) (by kernel_rfl) (by kernel_rfl) (by kernel_rfl) (by intro _ _ _ h; exact h) (Or.inl ⟨by rfl, ?_⟩) (by assumption) ?_
  rotate_left
  · (intro w hSw; (try dsimp only at hSw); go_simp; all_goals with_reducible rfl)
  (try simp only [Act.put, List.setIfInBounds_toArray, List.set_cons_zero, List.set_cons_succ])
  refine wpAnyH_ready (rs := [2]) (by kernel_rfl) (by simp) ?_
  refine AllReadyH.cons (by rw [List.getElem?_toArray]; rfl) (fun K hK => ?_) AllReadyH.nil
  go_simp
  refine hK.out _ _ ?_ (fun hHeld => ?_)
  · first | exact ⟨xa, xb, za, zb⟩ | (simp (maxDischargeDepth := 6) [go_sem, *]; done)
  clear hK K
  (try simp only [Act.put, List.setIfInBounds_toArray, List.set_cons_zero, List.set_cons_succ])
  refine wpAnyH_ready (rs := [3]) (by kernel_rfl) (by simp) ?_
  refine AllReadyH.cons (by rw [List.getElem?_toArray]; rfl) (fun K hK => ?_) AllReadyH.nil
  go_simp
  refine hK.out _ _ ?_ (fun hHeld => ?_)
  · first | exact ⟨xa, xb, za, zb⟩ | (simp (maxDischargeDepth := 6) [go_sem, *]; done)
  clear hK K
  (try simp only [Act.put, List.setIfInBounds_toArray, List.set_cons_zero, List.set_cons_succ])
  refine wpAnyH_take (i := 4) (v := ?_) (by rw [List.getElem?_toArray]; rfl) (by kernel_rfl) (by kernel_rfl) (by kernel_rfl) (by intro _ _ _ h; exact h) (Or.inl ⟨by rfl, ?_⟩) (by assumption) ?_
  rotate_left
  · (intro w hSw; (try dsimp only at hSw); go_simp; all_goals with_reducible rfl)
  (try simp only [Act.put, List.setIfInBounds_toArray, List.set_cons_zero, List.set_cons_succ])
  refine wpAnyH_done (by kernel_rfl) ?_ _
  go_wp2_with fail
  exact bodyPost_ret (v := (.tuple #[.agg #[.int .i64 x1, .int .i64 y1], .agg #[.int .i64 x2, .int .i64 y2], .bool true])) (by simp (maxDischargeDepth := 6) [results, Tryd.results19, go_sem, *]) rfl ⟨rfl, by first | exact two_in (Below.drew B) hj1 hj2 _ _ _ _ | exact Below.drew (two_in B hj1 hj2 _ _ _ _)⟩
end Go.Proofs.YtjefbjjhdpidiaaDoor
