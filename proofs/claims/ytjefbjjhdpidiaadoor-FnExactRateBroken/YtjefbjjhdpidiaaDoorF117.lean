/- RatesMeet in the specification. -/
import Derived.Test.YtjefbjjhdpidiaaDoorF115
import Derived.Deep.DeepCutAuto
import Derived.WalkKit
import Derived.WalkSpells
import Derived.WalkLawsBesides
import Derived.Deep.RegionHeld
namespace Go.Proofs.YtjefbjjhdpidiaaDoor
open Go.RowKit
set_option linter.unusedVariables false
theorem two_but (w : World) (j : Nat) (a b : Value) : But j w ((w.setCell ⟨j, 0, none⟩ a).setCell ⟨j, 1, none⟩ b) := ((But.refl j w).setCell 0 a).setCell 1 b
theorem Bx2.two {w : World} {j : Nat} {u v : Value} (h : Bx2 w j u v) (a b : Value) : Bx2 ((w.setCell ⟨j, 0, none⟩ a).setCell ⟨j, 1, none⟩ b) j a b := (h.set0 a).set1 b
/- What two rates have in common: the greater of the first ones, the lesser of the others. -/
def mtP (a b c d e f g h : Int) : Bool := okF a b && okF c d && okF e f && okF g h
def mlX (a b e f : Int) : Int := if 0 < fcI e f a b then e else a
def mlY (a b e f : Int) : Int := if 0 < fcI e f a b then f else b
def mhX (c d g h : Int) : Int := if fcI g h c d < 0 then g else c
def mhY (c d g h : Int) : Int := if fcI g h c d < 0 then h else d
def mtB (a b c d e f g h : Int) : Bool := mtP a b c d e f g h && !decide (0 < fcI (mlX a b e f) (mlY a b e f) (mhX c d g h) (mhY c d g h))
def mtV (t : Bool) (x : Int) : Int := if t = true then x else 0
set_option maxRecDepth 100000 in
set_option maxHeartbeats 16000000 in
theorem specRatesMeet_any (a b c d e f g h : Int) (w : World) : Calls Tryd.prog 25 #[.agg #[.int .i64 a, .int .i64 b], .agg #[.int .i64 c, .int .i64 d], .agg #[.int .i64 e, .int .i64 f], .agg #[.int .i64 g, .int .i64 h]] w fun ee w' => ee = .returned (.tuple #[.agg #[.int .i64 (mtV (mtB a b c d e f g h) (mlX a b e f)), .int .i64 (mtV (mtB a b c d e f g h) (mlY a b e f))], .agg #[.int .i64 (mtV (mtB a b c d e f g h) (mhX c d g h)), .int .i64 (mtV (mtB a b c d e f g h) (mhY c d g h))], .bool (mtB a b c d e f g h)]) ∧ Below w.heap.size w w' := by
  have A0 := Below.nw w (.cells #[.int .i64 a, .int .i64 b] 25)
  have A1 := Below.nw (w.alloc (.cells #[.int .i64 a, .int .i64 b] 25)) (.cells #[.int .i64 c, .int .i64 d] 25)
  have A2 := Below.nw ((w.alloc (.cells #[.int .i64 a, .int .i64 b] 25)).alloc (.cells #[.int .i64 c, .int .i64 d] 25)) (.cells #[.int .i64 e, .int .i64 f] 25)
  have A3 := Below.nw (((w.alloc (.cells #[.int .i64 a, .int .i64 b] 25)).alloc (.cells #[.int .i64 c, .int .i64 d] 25)).alloc (.cells #[.int .i64 e, .int .i64 f] 25)) (.cells #[.int .i64 g, .int .i64 h] 25)
  have A4 := Below.nw ((((w.alloc (.cells #[.int .i64 a, .int .i64 b] 25)).alloc (.cells #[.int .i64 c, .int .i64 d] 25)).alloc (.cells #[.int .i64 e, .int .i64 f] 25)).alloc (.cells #[.int .i64 g, .int .i64 h] 25)) (.cells #[.int .i64 0, .int .i64 0] 25)
  have A5 := Below.nw (((((w.alloc (.cells #[.int .i64 a, .int .i64 b] 25)).alloc (.cells #[.int .i64 c, .int .i64 d] 25)).alloc (.cells #[.int .i64 e, .int .i64 f] 25)).alloc (.cells #[.int .i64 g, .int .i64 h] 25)).alloc (.cells #[.int .i64 0, .int .i64 0] 25)) (.cells #[.int .i64 0, .int .i64 0] 25)
  have P := ((((((Bx2.new w (.int .i64 a) (.int .i64 b) 25).below A1).below A2).below A3).below A4).below A5)
  have Q := (((((Bx2.new (w.alloc (.cells #[.int .i64 a, .int .i64 b] 25)) (.int .i64 c) (.int .i64 d) 25).below A2).below A3).below A4).below A5)
  have U := ((((Bx2.new ((w.alloc (.cells #[.int .i64 a, .int .i64 b] 25)).alloc (.cells #[.int .i64 c, .int .i64 d] 25)) (.int .i64 e) (.int .i64 f) 25).below A3).below A4).below A5)
  have V := (((Bx2.new (((w.alloc (.cells #[.int .i64 a, .int .i64 b] 25)).alloc (.cells #[.int .i64 c, .int .i64 d] 25)).alloc (.cells #[.int .i64 e, .int .i64 f] 25)) (.int .i64 g) (.int .i64 h) 25).below A4).below A5)
  have R := ((Bx2.new ((((w.alloc (.cells #[.int .i64 a, .int .i64 b] 25)).alloc (.cells #[.int .i64 c, .int .i64 d] 25)).alloc (.cells #[.int .i64 e, .int .i64 f] 25)).alloc (.cells #[.int .i64 g, .int .i64 h] 25)) (.int .i64 0) (.int .i64 0) 25).below A5)
  have T := (Bx2.new (((((w.alloc (.cells #[.int .i64 a, .int .i64 b] 25)).alloc (.cells #[.int .i64 c, .int .i64 d] 25)).alloc (.cells #[.int .i64 e, .int .i64 f] 25)).alloc (.cells #[.int .i64 g, .int .i64 h] 25)).alloc (.cells #[.int .i64 0, .int .i64 0] 25)) (.int .i64 0) (.int .i64 0) 25)
  have B := (((((A0.trans (A1.mono (A0).size)).trans (A2.mono ((A0.trans (A1.mono (A0).size))).size)).trans (A3.mono (((A0.trans (A1.mono (A0).size)).trans (A2.mono ((A0.trans (A1.mono (A0).size))).size))).size)).trans (A4.mono ((((A0.trans (A1.mono (A0).size)).trans (A2.mono ((A0.trans (A1.mono (A0).size))).size)).trans (A3.mono (((A0.trans (A1.mono (A0).size)).trans (A2.mono ((A0.trans (A1.mono (A0).size))).size))).size))).size)).trans (A5.mono (((((A0.trans (A1.mono (A0).size)).trans (A2.mono ((A0.trans (A1.mono (A0).size))).size)).trans (A3.mono (((A0.trans (A1.mono (A0).size)).trans (A2.mono ((A0.trans (A1.mono (A0).size))).size))).size)).trans (A4.mono ((((A0.trans (A1.mono (A0).size)).trans (A2.mono ((A0.trans (A1.mono (A0).size))).size)).trans (A3.mono (((A0.trans (A1.mono (A0).size)).trans (A2.mono ((A0.trans (A1.mono (A0).size))).size))).size))).size))).size))
  simp only [World.size_alloc] at Q U V R T
  clear A0 A1 A2 A3 A4 A5
  have hj1 : w.heap.size ≤ w.heap.size + 1 + 1 + 1 + 1 := by omega
  have hj2 : w.heap.size ≤ w.heap.size + 1 + 1 + 1 + 1 + 1 := by omega
  have hne : w.heap.size + 1 + 1 + 1 + 1 ≠ w.heap.size + 1 + 1 + 1 + 1 + 1 := by omega
  have hpq : w.heap.size ≠ w.heap.size + 1 := by omega
  have hlr : (w.heap.size + 1 < w.heap.size + 1 + 1 + 1 + 1 ∧ w.heap.size < w.heap.size + 1 + 1 + 1 + 1) ∧ (w.heap.size + 1 < w.heap.size + 1 + 1 + 1 + 1 + 1 ∧ w.heap.size < w.heap.size + 1 + 1 + 1 + 1 + 1) := by omega
  have hlu : w.heap.size < w.heap.size + 1 + 1 ∧ w.heap.size + 1 < w.heap.size + 1 + 1 ∧ w.heap.size < w.heap.size + 1 + 1 + 1 ∧ w.heap.size + 1 < w.heap.size + 1 + 1 + 1 := by omega
  have hlq : w.heap.size ≤ w.heap.size + 1 := by omega
  cases h1 : okF a b
  · have e0 : mtB a b c d e f g h = false := by rw [mtB, mtP, h1]; simp
    rw [e0]
    simp only [mtV, Bool.false_eq_true, if_false]
    clear e0
    go_enter Tryd.func25, Tryd.ntmps25
    go_upto_region 1 with fail
    generalize ((((((w.alloc (.cells #[.int .i64 a, .int .i64 b] 25)).alloc (.cells #[.int .i64 c, .int .i64 d] 25)).alloc (.cells #[.int .i64 e, .int .i64 f] 25)).alloc (.cells #[.int .i64 g, .int .i64 h] 25)).alloc (.cells #[.int .i64 0, .int .i64 0] 25)).alloc (.cells #[.int .i64 0, .int .i64 0] 25)) = v at *
    generalize w.heap.size + 1 + 1 + 1 + 1 + 1 = jt at *
    generalize w.heap.size + 1 + 1 + 1 + 1 = jr at *
    generalize w.heap.size + 1 + 1 + 1 = jv at *
    generalize w.heap.size + 1 + 1 = ju at *
    generalize w.heap.size + 1 = jq at *
    have hne' := Ne.symm hne
    have A4 := Below.nw v (.cells #[.int .i64 0, .int .i64 0] 25)
    have O := Bx2.new v (.int .i64 0) (.int .i64 0) 25
    have k1 : jr ≠ v.heap.size := Nat.ne_of_lt R.1
    have k2 : jt ≠ v.heap.size := Nat.ne_of_lt T.1
    have k3 : w.heap.size ≠ v.heap.size := Nat.ne_of_lt P.1
    have k4 : jq ≠ v.heap.size := Nat.ne_of_lt Q.1
    have k1' := Ne.symm k1
    have k2' := Ne.symm k2
    go_upto_region 2 with fail
    replace P := P.below A4
    replace Q := Q.below A4
    replace U := U.below A4
    replace V := V.below A4
    replace R := R.below A4
    replace T := T.below A4
    replace B := B.trans (A4.mono B.size)
    clear A4
    generalize v.heap.size = j5 at *
    generalize v.alloc (.cells #[.int .i64 0, .int .i64 0] 25) = v1 at *
    obtain ⟨n0, n1, n2, n3, n4⟩ := id P
    go_wp2_with fail
    refine (specFracOk_any _ _ _).mono ?_
    rintro ee w0 ⟨rfl, hb⟩
    rw [h1]
    clear n0 n1 n2 n3 n4
    replace P := P.below hb
    replace Q := Q.below hb
    replace U := U.below hb
    replace V := V.below hb
    replace R := R.below hb
    replace T := T.below hb
    replace O := O.below hb
    replace B := B.trans (hb.mono B.size)
    clear hb
    obtain ⟨o0, oa, ob, oc, od⟩ := id O
    obtain ⟨r0, r1, r2, r3, r4⟩ := id R
    obtain ⟨t0, t1, t2, t3, t4⟩ := id T
    go_upto_region 3 with fail
    refine wp_region_held_drew (S := (fun w' => w'.cell? ⟨j5, 0, none⟩ = some (.int .i64 0) ∧ w'.cell? ⟨j5, 1, none⟩ = some (.int .i64 0))) (by kernel_rfl) ?_ (fun hHeld => ?_)
    · first | exact ⟨oa, ob⟩ | (simp (maxDischargeDepth := 6) [go_sem, *]; done)
    refine wpAnyH_take (i := 0) (v := ?_) (by rw [List.getElem?_toArray]; rfl) (by kernel_rfl) (by kernel_rfl) (by kernel_rfl) (by intro _ _ _ h; exact h) (Or.inl ⟨by rfl, ?_⟩) (by assumption) ?_
    rotate_left
    · (intro w hSw; (try dsimp only at hSw); go_simp; all_goals with_reducible rfl)
    (try simp only [Act.put, List.setIfInBounds_toArray, List.set_cons_zero, List.set_cons_succ])
    refine wpAnyH_take (i := 1) (v := ?_) (by rw [List.getElem?_toArray]; rfl) (by kernel_rfl) (by kernel_rfl) (by kernel_rfl) (by intro _ _ _ h; exact h) (Or.inl ⟨by rfl, ?_⟩) (by assumption) ?_
    rotate_left
    · (intro w hSw; (try dsimp only at hSw); go_simp; all_goals with_reducible rfl)
    (try simp only [Act.put, List.setIfInBounds_toArray, List.set_cons_zero, List.set_cons_succ])
    refine wpAnyH_ready (rs := [2]) (by kernel_rfl) (by simp) ?_
    refine AllReadyH.cons (by rw [List.getElem?_toArray]; rfl) (fun K hK => ?_) AllReadyH.nil
    go_simp
    refine hK.out _ _ ?_ (fun hHeld => ?_)
    · first | exact ⟨oa, ob⟩ | (simp (maxDischargeDepth := 6) [go_sem, *]; done)
    clear hK K
    (try simp only [Act.put, List.setIfInBounds_toArray, List.set_cons_zero, List.set_cons_succ])
    refine wpAnyH_ready (rs := [3]) (by kernel_rfl) (by simp) ?_
    refine AllReadyH.cons (by rw [List.getElem?_toArray]; rfl) (fun K hK => ?_) AllReadyH.nil
    go_simp
    refine hK.out _ _ ?_ (fun hHeld => ?_)
    · first | exact ⟨oa, ob⟩ | (simp (maxDischargeDepth := 6) [go_sem, *]; done)
    clear hK K
    (try simp only [Act.put, List.setIfInBounds_toArray, List.set_cons_zero, List.set_cons_succ])
    refine wpAnyH_take (i := 4) (v := ?_) (by rw [List.getElem?_toArray]; rfl) (by kernel_rfl) (by kernel_rfl) (by kernel_rfl) (by intro _ _ _ h; exact h) (Or.inl ⟨by rfl, ?_⟩) (by assumption) ?_
    rotate_left
    · (intro w hSw; (try dsimp only at hSw); go_simp; all_goals with_reducible rfl)
    (try simp only [Act.put, List.setIfInBounds_toArray, List.set_cons_zero, List.set_cons_succ])
    refine wpAnyH_done (by kernel_rfl) ?_ _
    go_wp2_with fail
    exact bodyPost_ret (v := (.tuple #[.agg #[.int .i64 0, .int .i64 0], .agg #[.int .i64 0, .int .i64 0], .bool false])) (by simp (maxDischargeDepth := 6) [results, Tryd.results25, go_sem, *]) rfl ⟨rfl, by first | exact two_in (Below.drew B) hj1 hj2 _ _ _ _ | exact Below.drew (two_in B hj1 hj2 _ _ _ _)⟩
  cases h2 : okF c d
  · have e0 : mtB a b c d e f g h = false := by rw [mtB, mtP, h1, h2]; simp
    rw [e0]
    simp only [mtV, Bool.false_eq_true, if_false]
    clear e0
    go_enter Tryd.func25, Tryd.ntmps25
    go_upto_region 1 with fail
    generalize ((((((w.alloc (.cells #[.int .i64 a, .int .i64 b] 25)).alloc (.cells #[.int .i64 c, .int .i64 d] 25)).alloc (.cells #[.int .i64 e, .int .i64 f] 25)).alloc (.cells #[.int .i64 g, .int .i64 h] 25)).alloc (.cells #[.int .i64 0, .int .i64 0] 25)).alloc (.cells #[.int .i64 0, .int .i64 0] 25)) = v at *
    generalize w.heap.size + 1 + 1 + 1 + 1 + 1 = jt at *
    generalize w.heap.size + 1 + 1 + 1 + 1 = jr at *
    generalize w.heap.size + 1 + 1 + 1 = jv at *
    generalize w.heap.size + 1 + 1 = ju at *
    generalize w.heap.size + 1 = jq at *
    have hne' := Ne.symm hne
    have A4 := Below.nw v (.cells #[.int .i64 0, .int .i64 0] 25)
    have O := Bx2.new v (.int .i64 0) (.int .i64 0) 25
    have k1 : jr ≠ v.heap.size := Nat.ne_of_lt R.1
    have k2 : jt ≠ v.heap.size := Nat.ne_of_lt T.1
    have k3 : w.heap.size ≠ v.heap.size := Nat.ne_of_lt P.1
    have k4 : jq ≠ v.heap.size := Nat.ne_of_lt Q.1
    have k1' := Ne.symm k1
    have k2' := Ne.symm k2
    go_upto_region 2 with fail
    replace P := P.below A4
    replace Q := Q.below A4
    replace U := U.below A4
    replace V := V.below A4
    replace R := R.below A4
    replace T := T.below A4
    replace B := B.trans (A4.mono B.size)
    clear A4
    generalize v.heap.size = j5 at *
    generalize v.alloc (.cells #[.int .i64 0, .int .i64 0] 25) = v1 at *
    obtain ⟨n0, n1, n2, n3, n4⟩ := id P
    go_wp2_with fail
    refine (specFracOk_any _ _ _).mono ?_
    rintro ee w0 ⟨rfl, hb⟩
    rw [h1]
    clear n0 n1 n2 n3 n4
    replace P := P.below hb
    replace Q := Q.below hb
    replace U := U.below hb
    replace V := V.below hb
    replace R := R.below hb
    replace T := T.below hb
    replace O := O.below hb
    replace B := B.trans (hb.mono B.size)
    clear hb
    obtain ⟨n0, n1, n2, n3, n4⟩ := id Q
    go_wp2_with fail
    refine (specFracOk_any _ _ _).mono ?_
    rintro ee w1 ⟨rfl, hb⟩
    rw [h2]
    clear n0 n1 n2 n3 n4
    replace P := P.below hb
    replace Q := Q.below hb
    replace U := U.below hb
    replace V := V.below hb
    replace R := R.below hb
    replace T := T.below hb
    replace O := O.below hb
    replace B := B.trans (hb.mono B.size)
    clear hb
    obtain ⟨o0, oa, ob, oc, od⟩ := id O
    obtain ⟨r0, r1, r2, r3, r4⟩ := id R
    obtain ⟨t0, t1, t2, t3, t4⟩ := id T
    go_upto_region 3 with fail
    refine wp_region_held_drew (S := (fun w' => w'.cell? ⟨j5, 0, none⟩ = some (.int .i64 0) ∧ w'.cell? ⟨j5, 1, none⟩ = some (.int .i64 0))) (by kernel_rfl) ?_ (fun hHeld => ?_)
    · first | exact ⟨oa, ob⟩ | (simp (maxDischargeDepth := 6) [go_sem, *]; done)
    refine wpAnyH_take (i := 0) (v := ?_) (by rw [List.getElem?_toArray]; rfl) (by kernel_rfl) (by kernel_rfl) (by kernel_rfl) (by intro _ _ _ h; exact h) (Or.inl ⟨by rfl, ?_⟩) (by assumption) ?_
    rotate_left
    · (intro w hSw; (try dsimp only at hSw); go_simp; all_goals with_reducible rfl)
    (try simp only [Act.put, List.setIfInBounds_toArray, List.set_cons_zero, List.set_cons_succ])
    refine wpAnyH_take (i := 1) (v := ?_) (by rw [List.getElem?_toArray]; rfl) (by kernel_rfl) (by kernel_rfl) (by kernel_rfl) (by intro _ _ _ h; exact h) (Or.inl ⟨by rfl, ?_⟩) (by assumption) ?_
    rotate_left
    · (intro w hSw; (try dsimp only at hSw); go_simp; all_goals with_reducible rfl)
    (try simp only [Act.put, List.setIfInBounds_toArray, List.set_cons_zero, List.set_cons_succ])
    refine wpAnyH_ready (rs := [2]) (by kernel_rfl) (by simp) ?_
    refine AllReadyH.cons (by rw [List.getElem?_toArray]; rfl) (fun K hK => ?_) AllReadyH.nil
    go_simp
    refine hK.out _ _ ?_ (fun hHeld => ?_)
    · first | exact ⟨oa, ob⟩ | (simp (maxDischargeDepth := 6) [go_sem, *]; done)
    clear hK K
    (try simp only [Act.put, List.setIfInBounds_toArray, List.set_cons_zero, List.set_cons_succ])
    refine wpAnyH_ready (rs := [3]) (by kernel_rfl) (by simp) ?_
    refine AllReadyH.cons (by rw [List.getElem?_toArray]; rfl) (fun K hK => ?_) AllReadyH.nil
    go_simp
    refine hK.out _ _ ?_ (fun hHeld => ?_)
    · first | exact ⟨oa, ob⟩ | (simp (maxDischargeDepth := 6) [go_sem, *]; done)
    clear hK K
    (try simp only [Act.put, List.setIfInBounds_toArray, List.set_cons_zero, List.set_cons_succ])
    refine wpAnyH_take (i := 4) (v := ?_) (by rw [List.getElem?_toArray]; rfl) (by kernel_rfl) (by kernel_rfl) (by kernel_rfl) (by intro _ _ _ h; exact h) (Or.inl ⟨by rfl, ?_⟩) (by assumption) ?_
    rotate_left
    · (intro w hSw; (try dsimp only at hSw); go_simp; all_goals with_reducible rfl)
    (try simp only [Act.put, List.setIfInBounds_toArray, List.set_cons_zero, List.set_cons_succ])
    refine wpAnyH_done (by kernel_rfl) ?_ _
    go_wp2_with fail
    exact bodyPost_ret (v := (.tuple #[.agg #[.int .i64 0, .int .i64 0], .agg #[.int .i64 0, .int .i64 0], .bool false])) (by simp (maxDischargeDepth := 6) [results, Tryd.results25, go_sem, *]) rfl ⟨rfl, by first | exact two_in (Below.drew B) hj1 hj2 _ _ _ _ | exact Below.drew (two_in B hj1 hj2 _ _ _ _)⟩
  cases h3 : okF e f
  · have e0 : mtB a b c d e f g h = false := by rw [mtB, mtP, h1, h2, h3]; simp
    rw [e0]
    simp only [mtV, Bool.false_eq_true, if_false]
    clear e0
    go_enter Tryd.func25, Tryd.ntmps25
    go_upto_region 1 with fail
    generalize ((((((w.alloc (.cells #[.int .i64 a, .int .i64 b] 25)).alloc (.cells #[.int .i64 c, .int .i64 d] 25)).alloc (.cells #[.int .i64 e, .int .i64 f] 25)).alloc (.cells #[.int .i64 g, .int .i64 h] 25)).alloc (.cells #[.int .i64 0, .int .i64 0] 25)).alloc (.cells #[.int .i64 0, .int .i64 0] 25)) = v at *
    generalize w.heap.size + 1 + 1 + 1 + 1 + 1 = jt at *
    generalize w.heap.size + 1 + 1 + 1 + 1 = jr at *
    generalize w.heap.size + 1 + 1 + 1 = jv at *
    generalize w.heap.size + 1 + 1 = ju at *
    generalize w.heap.size + 1 = jq at *
    have hne' := Ne.symm hne
    have A4 := Below.nw v (.cells #[.int .i64 0, .int .i64 0] 25)
    have O := Bx2.new v (.int .i64 0) (.int .i64 0) 25
    have k1 : jr ≠ v.heap.size := Nat.ne_of_lt R.1
    have k2 : jt ≠ v.heap.size := Nat.ne_of_lt T.1
    have k3 : w.heap.size ≠ v.heap.size := Nat.ne_of_lt P.1
    have k4 : jq ≠ v.heap.size := Nat.ne_of_lt Q.1
    have k1' := Ne.symm k1
    have k2' := Ne.symm k2
    go_upto_region 2 with fail
    replace P := P.below A4
    replace Q := Q.below A4
    replace U := U.below A4
    replace V := V.below A4
    replace R := R.below A4
    replace T := T.below A4
    replace B := B.trans (A4.mono B.size)
    clear A4
    generalize v.heap.size = j5 at *
    generalize v.alloc (.cells #[.int .i64 0, .int .i64 0] 25) = v1 at *
    obtain ⟨n0, n1, n2, n3, n4⟩ := id P
    go_wp2_with fail
    refine (specFracOk_any _ _ _).mono ?_
    rintro ee w0 ⟨rfl, hb⟩
    rw [h1]
    clear n0 n1 n2 n3 n4
    replace P := P.below hb
    replace Q := Q.below hb
    replace U := U.below hb
    replace V := V.below hb
    replace R := R.below hb
    replace T := T.below hb
    replace O := O.below hb
    replace B := B.trans (hb.mono B.size)
    clear hb
    obtain ⟨n0, n1, n2, n3, n4⟩ := id Q
    go_wp2_with fail
    refine (specFracOk_any _ _ _).mono ?_
    rintro ee w1 ⟨rfl, hb⟩
    rw [h2]
    clear n0 n1 n2 n3 n4
    replace P := P.below hb
    replace Q := Q.below hb
    replace U := U.below hb
    replace V := V.below hb
    replace R := R.below hb
    replace T := T.below hb
    replace O := O.below hb
    replace B := B.trans (hb.mono B.size)
    clear hb
    obtain ⟨n0, n1, n2, n3, n4⟩ := id U
    go_wp2_with fail
    refine (specFracOk_any _ _ _).mono ?_
    rintro ee w2 ⟨rfl, hb⟩
    rw [h3]
    clear n0 n1 n2 n3 n4
    replace P := P.below hb
    replace Q := Q.below hb
    replace U := U.below hb
    replace V := V.below hb
    replace R := R.below hb
    replace T := T.below hb
    replace O := O.below hb
    replace B := B.trans (hb.mono B.size)
    clear hb
    obtain ⟨o0, oa, ob, oc, od⟩ := id O
    obtain ⟨r0, r1, r2, r3, r4⟩ := id R
    obtain ⟨t0, t1, t2, t3, t4⟩ := id T
    go_upto_region 3 with fail
    refine wp_region_held_drew (S := (fun w' => w'.cell? ⟨j5, 0, none⟩ = some (.int .i64 0) ∧ w'.cell? ⟨j5, 1, none⟩ = some (.int .i64 0))) (by kernel_rfl) ?_ (fun hHeld => ?_)
    · first | exact ⟨oa, ob⟩ | (simp (maxDischargeDepth := 6) [go_sem, *]; done)
    refine wpAnyH_take (i := 0) (v := ?_) (by rw [List.getElem?_toArray]; rfl) (by kernel_rfl) (by kernel_rfl) (by kernel_rfl) (by intro _ _ _ h; exact h) (Or.inl ⟨by rfl, ?_⟩) (by assumption) ?_
    rotate_left
    · (intro w hSw; (try dsimp only at hSw); go_simp; all_goals with_reducible rfl)
    (try simp only [Act.put, List.setIfInBounds_toArray, List.set_cons_zero, List.set_cons_succ])
    refine wpAnyH_take (i := 1) (v := ?_) (by rw [List.getElem?_toArray]; rfl) (by kernel_rfl) (by kernel_rfl) (by kernel_rfl) (by intro _ _ _ h; exact h) (Or.inl ⟨by rfl, ?_⟩) (by assumption) ?_
    rotate_left
    · (intro w hSw; (try dsimp only at hSw); go_simp; all_goals with_reducible rfl)
    (try simp only [Act.put, List.setIfInBounds_toArray, List.set_cons_zero, List.set_cons_succ])
    refine wpAnyH_ready (rs := [2]) (by kernel_rfl) (by simp) ?_
    refine AllReadyH.cons (by rw [List.getElem?_toArray]; rfl) (fun K hK => ?_) AllReadyH.nil
    go_simp
    refine hK.out _ _ ?_ (fun hHeld => ?_)
    · first | exact ⟨oa, ob⟩ | (simp (maxDischargeDepth := 6) [go_sem, *]; done)
    clear hK K
    (try simp only [Act.put, List.setIfInBounds_toArray, List.set_cons_zero, List.set_cons_succ])
    refine wpAnyH_ready (rs := [3]) (by kernel_rfl) (by simp) ?_
    refine AllReadyH.cons (by rw [List.getElem?_toArray]; rfl) (fun K hK => ?_) AllReadyH.nil
    go_simp
    refine hK.out _ _ ?_ (fun hHeld => ?_)
    · first | exact ⟨oa, ob⟩ | (simp (maxDischargeDepth := 6) [go_sem, *]; done)
    clear hK K
    (try simp only [Act.put, List.setIfInBounds_toArray, List.set_cons_zero, List.set_cons_succ])
    refine wpAnyH_take (i := 4) (v := ?_) (by rw [List.getElem?_toArray]; rfl) (by kernel_rfl) (by kernel_rfl) (by kernel_rfl) (by intro _ _ _ h; exact h) (Or.inl ⟨by rfl, ?_⟩) (by assumption) ?_
    rotate_left
    · (intro w hSw; (try dsimp only at hSw); go_simp; all_goals with_reducible rfl)
    (try simp only [Act.put, List.setIfInBounds_toArray, List.set_cons_zero, List.set_cons_succ])
    refine wpAnyH_done (by kernel_rfl) ?_ _
    go_wp2_with fail
    exact bodyPost_ret (v := (.tuple #[.agg #[.int .i64 0, .int .i64 0], .agg #[.int .i64 0, .int .i64 0], .bool false])) (by simp (maxDischargeDepth := 6) [results, Tryd.results25, go_sem, *]) rfl ⟨rfl, by first | exact two_in (Below.drew B) hj1 hj2 _ _ _ _ | exact Below.drew (two_in B hj1 hj2 _ _ _ _)⟩
  cases h4 : okF g h
  · have e0 : mtB a b c d e f g h = false := by rw [mtB, mtP, h1, h2, h3, h4]; simp
    rw [e0]
    simp only [mtV, Bool.false_eq_true, if_false]
    clear e0
    go_enter Tryd.func25, Tryd.ntmps25
    go_upto_region 1 with fail
    generalize ((((((w.alloc (.cells #[.int .i64 a, .int .i64 b] 25)).alloc (.cells #[.int .i64 c, .int .i64 d] 25)).alloc (.cells #[.int .i64 e, .int .i64 f] 25)).alloc (.cells #[.int .i64 g, .int .i64 h] 25)).alloc (.cells #[.int .i64 0, .int .i64 0] 25)).alloc (.cells #[.int .i64 0, .int .i64 0] 25)) = v at *
    generalize w.heap.size + 1 + 1 + 1 + 1 + 1 = jt at *
    generalize w.heap.size + 1 + 1 + 1 + 1 = jr at *
    generalize w.heap.size + 1 + 1 + 1 = jv at *
    generalize w.heap.size + 1 + 1 = ju at *
    generalize w.heap.size + 1 = jq at *
    have hne' := Ne.symm hne
    have A4 := Below.nw v (.cells #[.int .i64 0, .int .i64 0] 25)
    have O := Bx2.new v (.int .i64 0) (.int .i64 0) 25
    have k1 : jr ≠ v.heap.size := Nat.ne_of_lt R.1
    have k2 : jt ≠ v.heap.size := Nat.ne_of_lt T.1
    have k3 : w.heap.size ≠ v.heap.size := Nat.ne_of_lt P.1
    have k4 : jq ≠ v.heap.size := Nat.ne_of_lt Q.1
    have k1' := Ne.symm k1
    have k2' := Ne.symm k2
    go_upto_region 2 with fail
    replace P := P.below A4
    replace Q := Q.below A4
    replace U := U.below A4
    replace V := V.below A4
    replace R := R.below A4
    replace T := T.below A4
    replace B := B.trans (A4.mono B.size)
    clear A4
    generalize v.heap.size = j5 at *
    generalize v.alloc (.cells #[.int .i64 0, .int .i64 0] 25) = v1 at *
    obtain ⟨n0, n1, n2, n3, n4⟩ := id P
    go_wp2_with fail
    refine (specFracOk_any _ _ _).mono ?_
    rintro ee w0 ⟨rfl, hb⟩
    rw [h1]
    clear n0 n1 n2 n3 n4
    replace P := P.below hb
    replace Q := Q.below hb
    replace U := U.below hb
    replace V := V.below hb
    replace R := R.below hb
    replace T := T.below hb
    replace O := O.below hb
    replace B := B.trans (hb.mono B.size)
    clear hb
    obtain ⟨n0, n1, n2, n3, n4⟩ := id Q
    go_wp2_with fail
    refine (specFracOk_any _ _ _).mono ?_
    rintro ee w1 ⟨rfl, hb⟩
    rw [h2]
    clear n0 n1 n2 n3 n4
    replace P := P.below hb
    replace Q := Q.below hb
    replace U := U.below hb
    replace V := V.below hb
    replace R := R.below hb
    replace T := T.below hb
    replace O := O.below hb
    replace B := B.trans (hb.mono B.size)
    clear hb
    obtain ⟨n0, n1, n2, n3, n4⟩ := id U
    go_wp2_with fail
    refine (specFracOk_any _ _ _).mono ?_
    rintro ee w2 ⟨rfl, hb⟩
    rw [h3]
    clear n0 n1 n2 n3 n4
    replace P := P.below hb
    replace Q := Q.below hb
    replace U := U.below hb
    replace V := V.below hb
    replace R := R.below hb
    replace T := T.below hb
    replace O := O.below hb
    replace B := B.trans (hb.mono B.size)
    clear hb
    obtain ⟨n0, n1, n2, n3, n4⟩ := id V
    go_wp2_with fail
    refine (specFracOk_any _ _ _).mono ?_
    rintro ee w3 ⟨rfl, hb⟩
    rw [h4]
    clear n0 n1 n2 n3 n4
    replace P := P.below hb
    replace Q := Q.below hb
    replace U := U.below hb
    replace V := V.below hb
    replace R := R.below hb
    replace T := T.below hb
    replace O := O.below hb
    replace B := B.trans (hb.mono B.size)
    clear hb
    obtain ⟨o0, oa, ob, oc, od⟩ := id O
    obtain ⟨r0, r1, r2, r3, r4⟩ := id R
    obtain ⟨t0, t1, t2, t3, t4⟩ := id T
    go_upto_region 3 with fail
    refine wp_region_held_drew (S := (fun w' => w'.cell? ⟨j5, 0, none⟩ = some (.int .i64 0) ∧ w'.cell? ⟨j5, 1, none⟩ = some (.int .i64 0))) (by kernel_rfl) ?_ (fun hHeld => ?_)
    · first | exact ⟨oa, ob⟩ | (simp (maxDischargeDepth := 6) [go_sem, *]; done)
    refine wpAnyH_take (i := 0) (v := ?_) (by rw [List.getElem?_toArray]; rfl) (by kernel_rfl) (by kernel_rfl) (by kernel_rfl) (by intro _ _ _ h; exact h) (Or.inl ⟨by rfl, ?_⟩) (by assumption) ?_
    rotate_left
    · (intro w hSw; (try dsimp only at hSw); go_simp; all_goals with_reducible rfl)
    (try simp only [Act.put, List.setIfInBounds_toArray, List.set_cons_zero, List.set_cons_succ])
    refine wpAnyH_take (i := 1) (v := ?_) (by rw [List.getElem?_toArray]; rfl) (by kernel_rfl) (by kernel_rfl) (by kernel_rfl) (by intro _ _ _ h; exact h) (Or.inl ⟨by rfl, ?_⟩) (by assumption) ?_
    rotate_left
    · (intro w hSw; (try dsimp only at hSw); go_simp; all_goals with_reducible rfl)
    (try simp only [Act.put, List.setIfInBounds_toArray, List.set_cons_zero, List.set_cons_succ])
    refine wpAnyH_ready (rs := [2]) (by kernel_rfl) (by simp) ?_
    refine AllReadyH.cons (by rw [List.getElem?_toArray]; rfl) (fun K hK => ?_) AllReadyH.nil
    go_simp
    refine hK.out _ _ ?_ (fun hHeld => ?_)
    · first | exact ⟨oa, ob⟩ | (simp (maxDischargeDepth := 6) [go_sem, *]; done)
    clear hK K
    (try simp only [Act.put, List.setIfInBounds_toArray, List.set_cons_zero, List.set_cons_succ])
    refine wpAnyH_ready (rs := [3]) (by kernel_rfl) (by simp) ?_
    refine AllReadyH.cons (by rw [List.getElem?_toArray]; rfl) (fun K hK => ?_) AllReadyH.nil
    go_simp
    refine hK.out _ _ ?_ (fun hHeld => ?_)
    · first | exact ⟨oa, ob⟩ | (simp (maxDischargeDepth := 6) [go_sem, *]; done)
    clear hK K
    (try simp only [Act.put, List.setIfInBounds_toArray, List.set_cons_zero, List.set_cons_succ])
    refine wpAnyH_take (i := 4) (v := ?_) (by rw [List.getElem?_toArray]; rfl) (by kernel_rfl) (by kernel_rfl) (by kernel_rfl) (by intro _ _ _ h; exact h) (Or.inl ⟨by rfl, ?_⟩) (by assumption) ?_
    rotate_left
    · (intro w hSw; (try dsimp only at hSw); go_simp; all_goals with_reducible rfl)
    (try simp only [Act.put, List.setIfInBounds_toArray, List.set_cons_zero, List.set_cons_succ])
    refine wpAnyH_done (by kernel_rfl) ?_ _
    go_wp2_with fail
    exact bodyPost_ret (v := (.tuple #[.agg #[.int .i64 0, .int .i64 0], .agg #[.int .i64 0, .int .i64 0], .bool false])) (by simp (maxDischargeDepth := 6) [results, Tryd.results25, go_sem, *]) rfl ⟨rfl, by first | exact two_in (Below.drew B) hj1 hj2 _ _ _ _ | exact Below.drew (two_in B hj1 hj2 _ _ _ _)⟩
  have e0 : mtB a b c d e f g h = !decide (0 < fcI (mlX a b e f) (mlY a b e f) (mhX c d g h) (mhY c d g h)) := by rw [mtB, mtP, h1, h2, h3, h4]; rfl
  rw [e0]
  clear e0
  have HX : Hid (mlX a b e f = (if 0 < fcI e f a b then e else a) ∧ mlY a b e f = if 0 < fcI e f a b then f else b) := ⟨rfl, rfl⟩
  have HY : Hid (mhX c d g h = (if fcI g h c d < 0 then g else c) ∧ mhY c d g h = if fcI g h c d < 0 then h else d) := ⟨rfl, rfl⟩
  have C1 := fun w' => specFracCmp_any e f a b w'
  have C2 := fun w' => specFracCmp_any g h c d w'
  have C3 := fun w' => specFracCmp_any (mlX a b e f) (mlY a b e f) (mhX c d g h) (mhY c d g h) w'
  generalize fcI (mlX a b e f) (mlY a b e f) (mhX c d g h) (mhY c d g h) = z3 at *
  generalize mlX a b e f = mx at *
  generalize mlY a b e f = my at *
  generalize mhX c d g h = nx at *
  generalize mhY c d g h = ny at *
  generalize fcI e f a b = z1 at *
  generalize fcI g h c d = z2 at *
  go_enter Tryd.func25, Tryd.ntmps25
  go_upto_region 1 with fail
  generalize ((((((w.alloc (.cells #[.int .i64 a, .int .i64 b] 25)).alloc (.cells #[.int .i64 c, .int .i64 d] 25)).alloc (.cells #[.int .i64 e, .int .i64 f] 25)).alloc (.cells #[.int .i64 g, .int .i64 h] 25)).alloc (.cells #[.int .i64 0, .int .i64 0] 25)).alloc (.cells #[.int .i64 0, .int .i64 0] 25)) = v at *
  generalize w.heap.size + 1 + 1 + 1 + 1 + 1 = jt at *
  generalize w.heap.size + 1 + 1 + 1 + 1 = jr at *
  generalize w.heap.size + 1 + 1 + 1 = jv at *
  generalize w.heap.size + 1 + 1 = ju at *
  generalize w.heap.size + 1 = jq at *
  have hne' := Ne.symm hne
  have A4 := Below.nw v (.cells #[.int .i64 0, .int .i64 0] 25)
  have O := Bx2.new v (.int .i64 0) (.int .i64 0) 25
  have k1 : jr ≠ v.heap.size := Nat.ne_of_lt R.1
  have k2 : jt ≠ v.heap.size := Nat.ne_of_lt T.1
  have k3 : w.heap.size ≠ v.heap.size := Nat.ne_of_lt P.1
  have k4 : jq ≠ v.heap.size := Nat.ne_of_lt Q.1
  have k1' := Ne.symm k1
  have k2' := Ne.symm k2
  go_upto_region 2 with fail
  replace P := P.below A4
  replace Q := Q.below A4
  replace U := U.below A4
  replace V := V.below A4
  replace R := R.below A4
  replace T := T.below A4
  replace B := B.trans (A4.mono B.size)
  clear A4
  generalize v.heap.size = j5 at *
  generalize v.alloc (.cells #[.int .i64 0, .int .i64 0] 25) = v1 at *
  obtain ⟨n0, n1, n2, n3, n4⟩ := id P
  go_wp2_with fail
  refine (specFracOk_any _ _ _).mono ?_
  rintro ee w0 ⟨rfl, hb⟩
  rw [h1]
  clear n0 n1 n2 n3 n4
  replace P := P.below hb
  replace Q := Q.below hb
  replace U := U.below hb
  replace V := V.below hb
  replace R := R.below hb
  replace T := T.below hb
  replace O := O.below hb
  replace B := B.trans (hb.mono B.size)
  clear hb
  obtain ⟨n0, n1, n2, n3, n4⟩ := id Q
  go_wp2_with fail
  refine (specFracOk_any _ _ _).mono ?_
  rintro ee w1 ⟨rfl, hb⟩
  rw [h2]
  clear n0 n1 n2 n3 n4
  replace P := P.below hb
  replace Q := Q.below hb
  replace U := U.below hb
  replace V := V.below hb
  replace R := R.below hb
  replace T := T.below hb
  replace O := O.below hb
  replace B := B.trans (hb.mono B.size)
  clear hb
  obtain ⟨n0, n1, n2, n3, n4⟩ := id U
  go_wp2_with fail
  refine (specFracOk_any _ _ _).mono ?_
  rintro ee w2 ⟨rfl, hb⟩
  rw [h3]
  clear n0 n1 n2 n3 n4
  replace P := P.below hb
  replace Q := Q.below hb
  replace U := U.below hb
  replace V := V.below hb
  replace R := R.below hb
  replace T := T.below hb
  replace O := O.below hb
  replace B := B.trans (hb.mono B.size)
  clear hb
  obtain ⟨n0, n1, n2, n3, n4⟩ := id V
  go_wp2_with fail
  refine (specFracOk_any _ _ _).mono ?_
  rintro ee w3 ⟨rfl, hb⟩
  rw [h4]
  clear n0 n1 n2 n3 n4
  replace P := P.below hb
  replace Q := Q.below hb
  replace U := U.below hb
  replace V := V.below hb
  replace R := R.below hb
  replace T := T.below hb
  replace O := O.below hb
  replace B := B.trans (hb.mono B.size)
  clear hb
  obtain ⟨p0, pa, pb, pc, pd⟩ := id P
  obtain ⟨u0, ua, ub, uc, ud⟩ := id U
  go_wp2_with fail
  refine (C1 _).mono ?_
  rintro ee v4 ⟨rfl, hb⟩
  clear p0 pa pb pc pd u0 ua ub uc ud C1
  replace P := P.below hb
  replace Q := Q.below hb
  replace U := U.below hb
  replace V := V.below hb
  replace R := R.below hb
  replace T := T.below hb
  replace O := O.below hb
  replace B := B.trans (hb.mono B.size)
  clear hb
  go_upto_if 36 with fail
  go_cut [] (fun wx => Bx2 wx w.heap.size (.int .i64 mx) (.int .i64 my) ∧ Bx2 wx jq (.int .i64 c) (.int .i64 d) ∧ Bx2 wx jv (.int .i64 g) (.int .i64 h) ∧ Bx2 wx jr (.int .i64 0) (.int .i64 0) ∧ Bx2 wx jt (.int .i64 0) (.int .i64 0) ∧ Bx2 wx j5 (.int .i64 0) (.int .i64 0) ∧ Below w.heap.size w wx)
  case first =>
    by_cases c1 : 0 < z1
    · have d1 : decide (0 < z1) = true := decide_eq_true c1
      obtain ⟨e1, e2⟩ := HX.out
      rw [if_pos c1] at e1 e2
      subst e1 e2
      obtain ⟨p0, pa, pb, pc, pd⟩ := id P
      obtain ⟨u0, ua, ub, uc, ud⟩ := id U
      have PB := two_but v4 w.heap.size (.int .i64 mx) (.int .i64 my)
      go_wp2_with fail
      go_meet
      case rel => exact ⟨P.two _ _, Q.but PB (by omega), V.but PB (by omega), R.but PB (by omega), T.but PB (by omega), O.but PB (by omega), B.trans (PB.below (Nat.le_refl _) B.size)⟩
    · have d1 : decide (0 < z1) = false := decide_eq_false c1
      obtain ⟨e1, e2⟩ := HX.out
      rw [if_neg c1] at e1 e2
      subst e1 e2
      go_wp2_with fail
      go_meet
      case rel => exact ⟨P, Q, V, R, T, O, B⟩
  case rest =>
    clear P Q U V R T O B HX
    obtain ⟨P, Q, V, R, T, O, B⟩ := hcut
    generalize wc = u4 at *
    obtain ⟨p0, pa, pb, pc, pd⟩ := id Q
    obtain ⟨u0, ua, ub, uc, ud⟩ := id V
    go_wp2_with fail
    refine (C2 _).mono ?_
    rintro ee v5 ⟨rfl, hb⟩
    clear p0 pa pb pc pd u0 ua ub uc ud C2
    replace P := P.below hb
    replace Q := Q.below hb
    replace V := V.below hb
    replace R := R.below hb
    replace T := T.below hb
    replace O := O.below hb
    replace B := B.trans (hb.mono B.size)
    clear hb
    go_upto_if 41 with fail
    go_cut [] (fun wx => Bx2 wx w.heap.size (.int .i64 mx) (.int .i64 my) ∧ Bx2 wx jq (.int .i64 nx) (.int .i64 ny) ∧ Bx2 wx jr (.int .i64 0) (.int .i64 0) ∧ Bx2 wx jt (.int .i64 0) (.int .i64 0) ∧ Bx2 wx j5 (.int .i64 0) (.int .i64 0) ∧ Below w.heap.size w wx)
    case first =>
      by_cases c1 : z2 < 0
      · have d1 : decide (z2 < 0) = true := decide_eq_true c1
        obtain ⟨e1, e2⟩ := HY.out
        rw [if_pos c1] at e1 e2
        subst e1 e2
        obtain ⟨p0, pa, pb, pc, pd⟩ := id Q
        obtain ⟨u0, ua, ub, uc, ud⟩ := id V
        have PB := two_but v5 jq (.int .i64 nx) (.int .i64 ny)
        go_wp2_with fail
        go_meet
        case rel => exact ⟨P.but PB (by omega), Q.two _ _, R.but PB (by omega), T.but PB (by omega), O.but PB (by omega), B.trans (PB.below hlq B.size)⟩
      · have d1 : decide (z2 < 0) = false := decide_eq_false c1
        obtain ⟨e1, e2⟩ := HY.out
        rw [if_neg c1] at e1 e2
        subst e1 e2
        go_wp2_with fail
        go_meet
        case rel => exact ⟨P, Q, R, T, O, B⟩
    case rest =>
      clear P Q V R T O B HY
      obtain ⟨P, Q, R, T, O, B⟩ := hcut
      generalize wc = u5 at *
      obtain ⟨p0, pa, pb, pc, pd⟩ := id P
      obtain ⟨u0, ua, ub, uc, ud⟩ := id Q
      go_wp2_with fail
      refine (C3 _).mono ?_
      rintro ee v6 ⟨rfl, hb⟩
      clear p0 pa pb pc pd u0 ua ub uc ud C3
      replace P := P.below hb
      replace Q := Q.below hb
      replace R := R.below hb
      replace T := T.below hb
      replace O := O.below hb
      replace B := B.trans (hb.mono B.size)
      clear hb
      by_cases c3 : 0 < z3
      · have d3 : decide (0 < z3) = true := decide_eq_true c3
        have D3 : Hid (decide (0 < z3) = true) := d3
        obtain ⟨o0, oa, ob, oc, od⟩ := id O
        obtain ⟨r0, r1, r2, r3, r4⟩ := id R
        obtain ⟨t0, t1, t2, t3, t4⟩ := id T
        go_upto_region 9 with fail
        refine wp_region_held_drew (S := (fun w' => w'.cell? ⟨j5, 0, none⟩ = some (.int .i64 0) ∧ w'.cell? ⟨j5, 1, none⟩ = some (.int .i64 0))) (by kernel_rfl) ?_ (fun hHeld => ?_)
        · first | exact ⟨oa, ob⟩ | (simp (maxDischargeDepth := 6) [go_sem, *]; done)
        refine wpAnyH_take (i := 0) (v := ?_) (by rw [List.getElem?_toArray]; rfl) (by kernel_rfl) (by kernel_rfl) (by kernel_rfl) (by intro _ _ _ h; exact h) (Or.inl ⟨by rfl, ?_⟩) (by assumption) ?_
        rotate_left
        · (intro w hSw; (try dsimp only at hSw); go_simp; all_goals with_reducible rfl)
        (try simp only [Act.put, List.setIfInBounds_toArray, List.set_cons_zero, List.set_cons_succ])
        refine wpAnyH_take (i := 1) (v := ?_) (by rw [List.getElem?_toArray]; rfl) (by kernel_rfl) (by kernel_rfl) (by kernel_rfl) (by intro _ _ _ h; exact h) (Or.inl ⟨by rfl, ?_⟩) (by assumption) ?_
        rotate_left
        · (intro w hSw; (try dsimp only at hSw); go_simp; all_goals with_reducible rfl)
        (try simp only [Act.put, List.setIfInBounds_toArray, List.set_cons_zero, List.set_cons_succ])
        refine wpAnyH_ready (rs := [2]) (by kernel_rfl) (by simp) ?_
        refine AllReadyH.cons (by rw [List.getElem?_toArray]; rfl) (fun K hK => ?_) AllReadyH.nil
        go_simp
        refine hK.out _ _ ?_ (fun hHeld => ?_)
        · first | exact ⟨oa, ob⟩ | (simp (maxDischargeDepth := 6) [go_sem, *]; done)
        clear hK K
        (try simp only [Act.put, List.setIfInBounds_toArray, List.set_cons_zero, List.set_cons_succ])
        refine wpAnyH_ready (rs := [3]) (by kernel_rfl) (by simp) ?_
        refine AllReadyH.cons (by rw [List.getElem?_toArray]; rfl) (fun K hK => ?_) AllReadyH.nil
        go_simp
        refine hK.out _ _ ?_ (fun hHeld => ?_)
        · first | exact ⟨oa, ob⟩ | (simp (maxDischargeDepth := 6) [go_sem, *]; done)
        clear hK K
        (try simp only [Act.put, List.setIfInBounds_toArray, List.set_cons_zero, List.set_cons_succ])
        refine wpAnyH_take (i := 4) (v := ?_) (by rw [List.getElem?_toArray]; rfl) (by kernel_rfl) (by kernel_rfl) (by kernel_rfl) (by intro _ _ _ h; exact h) (Or.inl ⟨by rfl, ?_⟩) (by assumption) ?_
        rotate_left
        · (intro w hSw; (try dsimp only at hSw); go_simp; all_goals with_reducible rfl)
        (try simp only [Act.put, List.setIfInBounds_toArray, List.set_cons_zero, List.set_cons_succ])
        refine wpAnyH_done (by kernel_rfl) ?_ _
        go_wp2_with fail
        exact bodyPost_ret (v := (.tuple #[.agg #[.int .i64 0, .int .i64 0], .agg #[.int .i64 0, .int .i64 0], .bool false])) (by simp (maxDischargeDepth := 6) [results, Tryd.results25, go_sem, *]) rfl ⟨by rw [D3.out]; rfl, by first | exact two_in (Below.drew B) hj1 hj2 _ _ _ _ | exact Below.drew (two_in B hj1 hj2 _ _ _ _)⟩
      · have d3 : decide (0 < z3) = false := decide_eq_false c3
        have D3 : Hid (decide (0 < z3) = false) := d3
        obtain ⟨p0, pa, pb, pc, pd⟩ := id P
        obtain ⟨u0, ua, ub, uc, ud⟩ := id Q
        obtain ⟨r0, r1, r2, r3, r4⟩ := id R
        obtain ⟨t0, t1, t2, t3, t4⟩ := id T
        have a1 : w.heap.size ≠ jr := by omega
        have a2 : w.heap.size ≠ jt := by omega
        have a3 : jq ≠ jr := by omega
        have a4 : jq ≠ jt := by omega
        have a1' := Ne.symm a1
        have a2' := Ne.symm a2
        have a3' := Ne.symm a3
        have a4' := Ne.symm a4
        go_upto_region 10 with fail
        refine wp_region_held_drew (S := (fun w' => w'.cell? ⟨w.heap.size, 0, none⟩ = some (.int .i64 mx) ∧ w'.cell? ⟨w.heap.size, 1, none⟩ = some (.int .i64 my) ∧ w'.cell? ⟨jq, 0, none⟩ = some (.int .i64 nx) ∧ w'.cell? ⟨jq, 1, none⟩ = some (.int .i64 ny))) (by kernel_rfl) ?_ (fun hHeld => ?_)
        · first | exact ⟨pa, pb, ua, ub⟩ | (simp (maxDischargeDepth := 6) [go_sem, *]; done)
        refine wpAnyH_take (i := 0) (v := ?_) (by rw [List.getElem?_toArray]; rfl) (by kernel_rfl) (by kernel_rfl) (by kernel_rfl) (by intro _ _ _ h; exact h) (Or.inl ⟨by rfl, ?_⟩) (by assumption) ?_
        rotate_left
        · (intro w hSw; (try dsimp only at hSw); go_simp; all_goals with_reducible rfl)
        (try simp only [Act.put, List.setIfInBounds_toArray, List.set_cons_zero, List.set_cons_succ])
        refine wpAnyH_take (i := 1) (v := ?_) (by rw [List.getElem?_toArray]; rfl) (by kernel_rfl) (by kernel_rfl) (by kernel_rfl) (by intro _ _ _ h; exact h) (Or.inl ⟨by rfl, ?_⟩) (by assumption) ?_
        rotate_left
        · (intro w hSw; (try dsimp only at hSw); go_simp; all_goals with_reducible rfl)
        (try simp only [Act.put, List.setIfInBounds_toArray, List.set_cons_zero, List.set_cons_succ])
        refine wpAnyH_ready (rs := [2]) (by kernel_rfl) (by simp) ?_
        refine AllReadyH.cons (by rw [List.getElem?_toArray]; rfl) (fun K hK => ?_) AllReadyH.nil
        go_simp
        refine hK.out _ _ ?_ (fun hHeld => ?_)
        · first | exact ⟨pa, pb, ua, ub⟩ | (simp (maxDischargeDepth := 6) [go_sem, *]; done)
        clear hK K
        (try simp only [Act.put, List.setIfInBounds_toArray, List.set_cons_zero, List.set_cons_succ])
        refine wpAnyH_ready (rs := [3]) (by kernel_rfl) (by simp) ?_
        refine AllReadyH.cons (by rw [List.getElem?_toArray]; rfl) (fun K hK => ?_) AllReadyH.nil
        go_simp
        refine hK.out _ _ ?_ (fun hHeld => ?_)
        · first | exact ⟨pa, pb, ua, ub⟩ | (simp (maxDischargeDepth := 6) [go_sem, *]; done)
        clear hK K
        (try simp only [Act.put, List.setIfInBounds_toArray, List.set_cons_zero, List.set_cons_succ])
        refine wpAnyH_take (i := 4) (v := ?_) (by rw [List.getElem?_toArray]; rfl) (by kernel_rfl) (by kernel_rfl) (by kernel_rfl) (by intro _ _ _ h; exact h) (Or.inl ⟨by rfl, ?_⟩) (by assumption) ?_
        rotate_left
        · (intro w hSw; (try dsimp only at hSw); go_simp; all_goals with_reducible rfl)
        (try simp only [Act.put, List.setIfInBounds_toArray, List.set_cons_zero, List.set_cons_succ])
        refine wpAnyH_done (by kernel_rfl) ?_ _
        go_wp2_with fail
        exact bodyPost_ret (v := (.tuple #[.agg #[.int .i64 mx, .int .i64 my], .agg #[.int .i64 nx, .int .i64 ny], .bool true])) (by simp (maxDischargeDepth := 6) [results, Tryd.results25, go_sem, *]) rfl ⟨by rw [D3.out]; rfl, by first | exact two_in (Below.drew B) hj1 hj2 _ _ _ _ | exact Below.drew (two_in B hj1 hj2 _ _ _ _)⟩
end Go.Proofs.YtjefbjjhdpidiaaDoor
