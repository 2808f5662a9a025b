/- What two rates have in common, in the program. The rates of a drift, in the program. The rates of two intervals, in the program. RatesMeet and RateBroken of the program. Numbers of FnFracs: fractions that stand alike are the same. Contracts of the four roundings of chapter 2. Contracts of Nearest and Within. Contracts of MayCount, Between and Clamp. Contracts of OscOk, and the walk of its exact law. A local interval in memory; contracts of LocalOk, and the walk of its exact law. Contracts of CarryOn. Contracts of the program's CarryOn. Contracts of Rebase, Learn, Narrow, WidthAt. Marks of an oscillator: what two by two and neighbours come to; which mark is the last up to a time. Contracts of OscStep, and the walk of its exact law. Contracts for lists of intervals: l1All, szIvalS, eqIvalS. Contracts for lists of intervals: what toIvalS makes. -/
import Derived.Test.YtblappilppfkiaaDoorX1
import Derived.Deep.RegionHeld3
import Derived.Deep.DeepCutAuto
import Derived.WalkKit
import Derived.WalkSpells
import Derived.WalkLawsBesides
import Derived.Deep.RegionHeld
import Derived.Deep.OwnRows
namespace Go.Proofs.YtblappilppfkiaaDoor
open Go.RowKit
set_option linter.unusedVariables false
set_option maxHeartbeats 4000000 in
theorem ratesOk_any (a b c d : Int) (u : Addr) (w : World) (E : Er w 0 u) : Calls Tryd.prog 44 #[.agg #[.int .i64 a, .int .i64 b, .int .i64 c, .int .i64 d]] w fun e w' => e = .returned (.bool (okF a b && okF c d)) ∧ Below w.heap.size w w' := by
  have A := Below.nw w (.cells #[.int .i64 a, .int .i64 b, .int .i64 c, .int .i64 d] 83)
  have N := Rx4.new w a b c d 83
  replace E := E.below A
  cases h1 : okF a b
  · rw [Bool.false_and]
    go_enter Tryd.func44, Tryd.ntmps44
    go_upto_region 1 with fail
    generalize w.alloc (.cells #[.int .i64 a, .int .i64 b, .int .i64 c, .int .i64 d] 83) = v at *
    obtain ⟨n0, n1, n2, n3, n4, n5, n6, n7, n8⟩ := id N
    go_wp2_with fail
    refine (fracOk_any a b u v E).mono ?_
    rintro e v2 ⟨rfl, hb⟩
    rw [h1]
    go_wp2_with fail
    go_ret
    exact ⟨rfl, A.trans (hb.mono A.size)⟩
  · rw [Bool.true_and]
    go_enter Tryd.func44, Tryd.ntmps44
    go_upto_region 1 with fail
    generalize w.alloc (.cells #[.int .i64 a, .int .i64 b, .int .i64 c, .int .i64 d] 83) = v at *
    obtain ⟨n0, n1, n2, n3, n4, n5, n6, n7, n8⟩ := id N
    go_wp2_with fail
    refine (fracOk_any a b u v E).mono ?_
    rintro e v2 ⟨rfl, hb⟩
    rw [h1]
    clear n0 n1 n2 n3 n4 n5 n6 n7 n8
    replace N := N.below hb
    replace E := E.below hb
    replace A := A.trans (hb.mono A.size)
    clear hb
    obtain ⟨n0, n1, n2, n3, n4, n5, n6, n7, n8⟩ := id N
    go_wp2_with fail
    refine (fracOk_any c d u v2 E).mono ?_
    rintro e v3 ⟨rfl, hb⟩
    go_wp2_with fail
    go_ret
    exact ⟨rfl, A.trans (hb.mono A.size)⟩
/- The error beside what two rates have in common. -/
def meE (u v : Addr) (P B : Bool) : Value := match B, P with | true, _ => .nilIface | false, true => .iface 124 (.pointer (some v)) | false, false => .iface 124 (.pointer (some u))
theorem pick_lo {a b e f : Int} (h1 : okF a b = true) (h2 : okF e f = true) : mlX a b e f = loP a b e f a e ∧ mlY a b e f = loP a b e f b f ∧ okF (loP a b e f a e) (loP a b e f b f) = true := by
  have e1 : fcI e f a b = -cmpF a b e f := by rw [fcI_t h2 h1, cmp_opp a b e f]
  unfold mlX mlY loP
  rw [e1]
  by_cases h : cmpF a b e f < 0
  · rw [if_pos h, if_pos h, if_pos (show 0 < -cmpF a b e f by omega), if_pos (show 0 < -cmpF a b e f by omega)]
    exact ⟨rfl, rfl, h2⟩
  · rw [if_neg h, if_neg h, if_neg (show ¬ 0 < -cmpF a b e f by omega), if_neg (show ¬ 0 < -cmpF a b e f by omega)]
    exact ⟨rfl, rfl, h1⟩
theorem pick_hi {c d g h : Int} (h1 : okF c d = true) (h2 : okF g h = true) : mhX c d g h = hiP c d g h c g ∧ mhY c d g h = hiP c d g h d h ∧ okF (hiP c d g h c g) (hiP c d g h d h) = true := by
  have e1 : fcI g h c d = -cmpF c d g h := by rw [fcI_t h2 h1, cmp_opp c d g h]
  unfold mhX mhY hiP
  rw [e1]
  by_cases hh : 0 < cmpF c d g h
  · rw [if_pos hh, if_pos hh, if_pos (show -cmpF c d g h < 0 by omega), if_pos (show -cmpF c d g h < 0 by omega)]
    exact ⟨rfl, rfl, h2⟩
  · rw [if_neg hh, if_neg hh, if_neg (show ¬ -cmpF c d g h < 0 by omega), if_neg (show ¬ -cmpF c d g h < 0 by omega)]
    exact ⟨rfl, rfl, h1⟩
theorem mt_no {a b c d e f g h : Int} (hP : mtP a b c d e f g h = false) : mtB a b c d e f g h = false := by rw [mtB, hP]; rfl
theorem mt_yes {a b c d e f g h : Int} (hP : mtP a b c d e f g h = true) : (mlX a b e f = loP a b e f a e ∧ mlY a b e f = loP a b e f b f ∧ okF (loP a b e f a e) (loP a b e f b f) = true) ∧ (mhX c d g h = hiP c d g h c g ∧ mhY c d g h = hiP c d g h d h ∧ okF (hiP c d g h c g) (hiP c d g h d h) = true) ∧ mtB a b c d e f g h = !decide (0 < cmpF (loP a b e f a e) (loP a b e f b f) (hiP c d g h c g) (hiP c d g h d h)) := by
  have hP' := hP
  unfold mtP at hP'
  simp only [Bool.and_eq_true] at hP'
  obtain ⟨⟨⟨k1, k2⟩, k3⟩, k4⟩ := hP'
  have l := pick_lo k1 k3
  have m := pick_hi k2 k4
  refine ⟨l, m, ?_⟩
  rw [mtB, hP, Bool.true_and, l.1, l.2.1, m.1, m.2.1, fcI_t l.2.2 m.2.2]
set_option maxRecDepth 100000 in
set_option maxHeartbeats 16000000 in
theorem meet_any (a b c d e f g h : Int) (u v : Addr) (w : World) (E : Er w 0 u) (E1 : Er w 1 v) :
    Calls Tryd.prog 43 #[.agg #[.int .i64 a, .int .i64 b, .int .i64 c, .int .i64 d], .agg #[.int .i64 e, .int .i64 f, .int .i64 g, .int .i64 h]] w fun ee w' => ee = .returned (.tuple #[.agg #[.int .i64 (mtV (mtB a b c d e f g h) (mlX a b e f)), .int .i64 (mtV (mtB a b c d e f g h) (mlY a b e f)), .int .i64 (mtV (mtB a b c d e f g h) (mhX c d g h)), .int .i64 (mtV (mtB a b c d e f g h) (mhY c d g h))], (meE u v (mtP a b c d e f g h) (mtB a b c d e f g h))]) ∧ Below w.heap.size w w' := by
  have A0 := Below.nw w (.cells #[.int .i64 a, .int .i64 b, .int .i64 c, .int .i64 d] 83)
  have A1 := Below.nw (w.alloc (.cells #[.int .i64 a, .int .i64 b, .int .i64 c, .int .i64 d] 83)) (.cells #[.int .i64 e, .int .i64 f, .int .i64 g, .int .i64 h] 83)
  have A2 := Below.nw ((w.alloc (.cells #[.int .i64 a, .int .i64 b, .int .i64 c, .int .i64 d] 83)).alloc (.cells #[.int .i64 e, .int .i64 f, .int .i64 g, .int .i64 h] 83)) (.cells #[.int .i64 0, .int .i64 0, .int .i64 0, .int .i64 0] 83)
  have N := ((Rx4.new w a b c d 83).below A1).below A2
  have Q := (Rx4.new (w.alloc (.cells #[.int .i64 a, .int .i64 b, .int .i64 c, .int .i64 d] 83)) e f g h 83).below A2
  have R := Rx4.new ((w.alloc (.cells #[.int .i64 a, .int .i64 b, .int .i64 c, .int .i64 d] 83)).alloc (.cells #[.int .i64 e, .int .i64 f, .int .i64 g, .int .i64 h] 83)) 0 0 0 0 83
  have B := (A0.trans (A1.mono A0.size)).trans (A2.mono (A0.trans (A1.mono A0.size)).size)
  simp only [World.size_alloc] at Q R
  clear A0 A1 A2
  have hj : w.heap.size ≤ w.heap.size + 1 + 1 := by omega
  have hg : 0 ≠ w.heap.size + 1 + 1 := by have := E.2.1; omega
  have hg1 : 1 ≠ w.heap.size + 1 + 1 := by have := E1.2.1; omega
  replace E := E.below B
  replace E1 := E1.below B
  cases hP : mtP a b c d e f g h
  · rw [mt_no hP]
    show Calls Tryd.prog 43 #[.agg #[.int .i64 a, .int .i64 b, .int .i64 c, .int .i64 d], .agg #[.int .i64 e, .int .i64 f, .int .i64 g, .int .i64 h]] w fun ee w' => ee = .returned (.tuple #[.agg #[.int .i64 0, .int .i64 0, .int .i64 0, .int .i64 0], (.iface 124 (.pointer (some u)))]) ∧ Below w.heap.size w w'
    clear E1 hg1
    cases k1 : (okF a b && okF c d)
    · go_enter Tryd.func43, Tryd.ntmps43; go_upto_region 1 with fail; generalize (((w.alloc (.cells #[.int .i64 a, .int .i64 b, .int .i64 c, .int .i64 d] 83)).alloc (.cells #[.int .i64 e, .int .i64 f, .int .i64 g, .int .i64 h] 83)).alloc (.cells #[.int .i64 0, .int .i64 0, .int .i64 0, .int .i64 0] 83)) = vv at *; generalize w.heap.size + 1 + 1 = jr at *; generalize w.heap.size + 1 = js at *
      obtain ⟨n0, n1, n2, n3, n4, n5, n6, n7, n8⟩ := id N
      go_wp2_with fail
      refine (ratesOk_any a b c d u vv E).mono ?_
      rintro ee v2 ⟨rfl, hbl⟩
      rw [k1]
      clear n0 n1 n2 n3 n4 n5 n6 n7 n8
      replace N := N.below hbl; replace Q := Q.below hbl; replace R := R.below hbl; replace E := E.below hbl; replace B := B.trans (hbl.mono B.size); clear hbl
      have k0 := E.1
      have RR := R.put 0 0 0 0
      have BB := Below.put4 B hj 0 0 0 0
      unfold put4 at RR BB
      obtain ⟨r0, r1, r2, r3, r4, r5, r6, r7, r8⟩ := id R
      go_wp2_with fail
      refine wp_region_held_drew (S := (fun w' => w'.cell? ⟨0, 0, none⟩ = some (.iface 124 (.pointer (some u))))) (by kernel_rfl) ?_ (fun hHeld => ?_)
      · first | exact k0 | exact (keepC (keepC (keepC (keepC k0 hg) hg) hg) hg)
      refine wpAnyH_take (i := 0) (v := ?_) (by rw [List.getElem?_toArray]; rfl) (by kernel_rfl) (by kernel_rfl) (by kernel_rfl) (by intro _ _ _ h; exact h) (Or.inl ⟨by rfl, ?_⟩) (by assumption) ?_
      rotate_left
      · (intro w hSw; (try dsimp only at hSw); go_simp; all_goals with_reducible rfl)
      (try simp only [Act.put, List.setIfInBounds_toArray, List.set_cons_zero, List.set_cons_succ])
      refine wpAnyH_take (i := 1) (v := ?_) (by rw [List.getElem?_toArray]; rfl) (by kernel_rfl) (by kernel_rfl) (by kernel_rfl) (by intro _ _ _ h; exact h) (Or.inl ⟨by rfl, ?_⟩) (by assumption) ?_
      rotate_left
      · (intro w hSw; (try dsimp only at hSw); go_simp; all_goals with_reducible rfl)
      (try simp only [Act.put, List.setIfInBounds_toArray, List.set_cons_zero, List.set_cons_succ])
      refine wpAnyH_ready (rs := [2]) (by kernel_rfl) (by simp) ?_
      refine AllReadyH.cons (by rw [List.getElem?_toArray]; rfl) (fun K hK => ?_) AllReadyH.nil
      go_simp
      refine hK.out _ _ ?_ (fun hHeld => ?_)
      · first | exact k0 | exact (keepC (keepC (keepC (keepC k0 hg) hg) hg) hg)
      clear hK K
      (try simp only [Act.put, List.setIfInBounds_toArray, List.set_cons_zero, List.set_cons_succ])
      refine wpAnyH_take (i := 3) (v := ?_) (by rw [List.getElem?_toArray]; rfl) (by kernel_rfl) (by kernel_rfl) (by kernel_rfl) (by intro _ _ _ h; exact h) (Or.inl ⟨by rfl, ?_⟩) (by assumption) ?_
      rotate_left
      · (intro w hSw; (try dsimp only at hSw); go_simp; all_goals with_reducible rfl)
      (try simp only [Act.put, List.setIfInBounds_toArray, List.set_cons_zero, List.set_cons_succ])
      refine wpAnyH_done (by kernel_rfl) ?_ _
      go_wp2_with fail
      clear r0 r1 r2 r3 r4 r5 r6 r7 r8 k0
      generalize ((((v2.setCell ⟨jr, 0, none⟩ (.int .i64 0)).setCell ⟨jr, 1, none⟩ (.int .i64 0)).setCell ⟨jr, 2, none⟩ (.int .i64 0)).setCell ⟨jr, 3, none⟩ (.int .i64 0)) = v3 at *
      obtain ⟨r0, r1, r2, r3, r4, r5, r6, r7, r8⟩ := id RR
      exact bodyPost_ret (v := (.tuple #[.agg #[.int .i64 0, .int .i64 0, .int .i64 0, .int .i64 0], (.iface 124 (.pointer (some u)))])) (by simp (maxDischargeDepth := 6) [results, Tryd.results43, go_sem, *]) rfl ⟨rfl, Below.drew BB⟩
    · have k2 : (okF e f && okF g h) = false := by
        rw [mtP, k1, Bool.true_and] at hP
        exact hP
      go_enter Tryd.func43, Tryd.ntmps43; go_upto_region 1 with fail; generalize (((w.alloc (.cells #[.int .i64 a, .int .i64 b, .int .i64 c, .int .i64 d] 83)).alloc (.cells #[.int .i64 e, .int .i64 f, .int .i64 g, .int .i64 h] 83)).alloc (.cells #[.int .i64 0, .int .i64 0, .int .i64 0, .int .i64 0] 83)) = vv at *; generalize w.heap.size + 1 + 1 = jr at *; generalize w.heap.size + 1 = js at *
      obtain ⟨n0, n1, n2, n3, n4, n5, n6, n7, n8⟩ := id N
      go_wp2_with fail
      refine (ratesOk_any a b c d u vv E).mono ?_
      rintro ee v2 ⟨rfl, hbl⟩
      rw [k1]
      clear n0 n1 n2 n3 n4 n5 n6 n7 n8
      replace N := N.below hbl; replace Q := Q.below hbl; replace R := R.below hbl; replace E := E.below hbl; replace B := B.trans (hbl.mono B.size); clear hbl
      obtain ⟨m0, m1, m2, m3, m4, m5, m6, m7, m8⟩ := id Q
      go_wp2_with fail
      refine (ratesOk_any e f g h u v2 E).mono ?_
      rintro ee v4 ⟨rfl, hbl⟩
      rw [k2]
      clear m0 m1 m2 m3 m4 m5 m6 m7 m8
      replace N := N.below hbl; replace Q := Q.below hbl; replace R := R.below hbl; replace E := E.below hbl; replace B := B.trans (hbl.mono B.size); clear hbl
      have k0 := E.1
      have RR := R.put 0 0 0 0
      have BB := Below.put4 B hj 0 0 0 0
      unfold put4 at RR BB
      obtain ⟨r0, r1, r2, r3, r4, r5, r6, r7, r8⟩ := id R
      go_wp2_with fail
      refine wp_region_held_drew (S := (fun w' => w'.cell? ⟨0, 0, none⟩ = some (.iface 124 (.pointer (some u))))) (by kernel_rfl) ?_ (fun hHeld => ?_)
      · first | exact k0 | exact (keepC (keepC (keepC (keepC k0 hg) hg) hg) hg)
      refine wpAnyH_take (i := 0) (v := ?_) (by rw [List.getElem?_toArray]; rfl) (by kernel_rfl) (by kernel_rfl) (by kernel_rfl) (by intro _ _ _ h; exact h) (Or.inl ⟨by rfl, ?_⟩) (by assumption) ?_
      rotate_left
      · (intro w hSw; (try dsimp only at hSw); go_simp; all_goals with_reducible rfl)
      (try simp only [Act.put, List.setIfInBounds_toArray, List.set_cons_zero, List.set_cons_succ])
      refine wpAnyH_take (i := 1) (v := ?_) (by rw [List.getElem?_toArray]; rfl) (by kernel_rfl) (by kernel_rfl) (by kernel_rfl) (by intro _ _ _ h; exact h) (Or.inl ⟨by rfl, ?_⟩) (by assumption) ?_
      rotate_left
      · (intro w hSw; (try dsimp only at hSw); go_simp; all_goals with_reducible rfl)
      (try simp only [Act.put, List.setIfInBounds_toArray, List.set_cons_zero, List.set_cons_succ])
      refine wpAnyH_ready (rs := [2]) (by kernel_rfl) (by simp) ?_
      refine AllReadyH.cons (by rw [List.getElem?_toArray]; rfl) (fun K hK => ?_) AllReadyH.nil
      go_simp
      refine hK.out _ _ ?_ (fun hHeld => ?_)
      · first | exact k0 | exact (keepC (keepC (keepC (keepC k0 hg) hg) hg) hg)
      clear hK K
      (try simp only [Act.put, List.setIfInBounds_toArray, List.set_cons_zero, List.set_cons_succ])
      refine wpAnyH_take (i := 3) (v := ?_) (by rw [List.getElem?_toArray]; rfl) (by kernel_rfl) (by kernel_rfl) (by kernel_rfl) (by intro _ _ _ h; exact h) (Or.inl ⟨by rfl, ?_⟩) (by assumption) ?_
      rotate_left
      · (intro w hSw; (try dsimp only at hSw); go_simp; all_goals with_reducible rfl)
      (try simp only [Act.put, List.setIfInBounds_toArray, List.set_cons_zero, List.set_cons_succ])
      refine wpAnyH_done (by kernel_rfl) ?_ _
      go_wp2_with fail
      clear r0 r1 r2 r3 r4 r5 r6 r7 r8 k0
      generalize ((((v4.setCell ⟨jr, 0, none⟩ (.int .i64 0)).setCell ⟨jr, 1, none⟩ (.int .i64 0)).setCell ⟨jr, 2, none⟩ (.int .i64 0)).setCell ⟨jr, 3, none⟩ (.int .i64 0)) = v3 at *
      obtain ⟨r0, r1, r2, r3, r4, r5, r6, r7, r8⟩ := id RR
      exact bodyPost_ret (v := (.tuple #[.agg #[.int .i64 0, .int .i64 0, .int .i64 0, .int .i64 0], (.iface 124 (.pointer (some u)))])) (by simp (maxDischargeDepth := 6) [results, Tryd.results43, go_sem, *]) rfl ⟨rfl, Below.drew BB⟩
  obtain ⟨⟨l1, l2, l3⟩, ⟨m1', m2', m3'⟩, hBB⟩ := mt_yes hP
  rw [l1, l2, m1', m2', hBB]
  have hP' := hP
  unfold mtP at hP'
  simp only [Bool.and_eq_true] at hP'
  obtain ⟨⟨⟨q1, q2⟩, q3⟩, q4⟩ := hP'
  have k1 : (okF a b && okF c d) = true := by rw [q1, q2]; rfl
  have k2 : (okF e f && okF g h) = true := by rw [q3, q4]; rfl
  have CA := fun w' => chosenL_any a b e f w' (okF_t q1).1 (okF_t q1).2.1 (okF_t q3).1 (okF_t q3).2.1
  have CB := fun w' => chosenH_any c d g h w' (okF_t q2).1 (okF_t q2).2.1 (okF_t q4).1 (okF_t q4).2.1
  clear l1 l2 m1' m2' hBB q1 q2 q3 q4 hP
  generalize loP a b e f a e = lx at *
  generalize loP a b e f b f = ly at *
  generalize hiP c d g h c g = hx at *
  generalize hiP c d g h d h = hy at *
  have CC := fun w' => fabove_any lx ly hx hy w' (okF_t l3).1 (okF_t l3).2.1 (okF_t m3').1 (okF_t m3').2.1
  clear l3 m3'
  have fin : ∀ (t : Bool), (∀ w', Calls Tryd.prog 65 #[.agg #[.int .i64 lx, .int .i64 ly], .agg #[.int .i64 hx, .int .i64 hy]] w' fun e w'' => e = .returned (.bool t) ∧ Below w'.heap.size w' w'') → Calls Tryd.prog 43 #[.agg #[.int .i64 a, .int .i64 b, .int .i64 c, .int .i64 d], .agg #[.int .i64 e, .int .i64 f, .int .i64 g, .int .i64 h]] w fun ee w' => ee = .returned (.tuple #[.agg #[.int .i64 (mtV (!t) lx), .int .i64 (mtV (!t) ly), .int .i64 (mtV (!t) hx), .int .i64 (mtV (!t) hy)], (meE u v true (!t))]) ∧ Below w.heap.size w w' := by
    clear CC
    intro t CC
    have hR : ∃ x1 x2 x3 x4 er, x1 = mtV (!t) lx ∧ x2 = mtV (!t) ly ∧ x3 = mtV (!t) hx ∧ x4 = mtV (!t) hy ∧ er = meE u v true (!t) := ⟨_, _, _, _, _, rfl, rfl, rfl, rfl, rfl⟩
    clear hR
    go_enter Tryd.func43, Tryd.ntmps43; go_upto_region 1 with fail; generalize (((w.alloc (.cells #[.int .i64 a, .int .i64 b, .int .i64 c, .int .i64 d] 83)).alloc (.cells #[.int .i64 e, .int .i64 f, .int .i64 g, .int .i64 h] 83)).alloc (.cells #[.int .i64 0, .int .i64 0, .int .i64 0, .int .i64 0] 83)) = vv at *; generalize w.heap.size + 1 + 1 = jr at *; generalize w.heap.size + 1 = js at *
    obtain ⟨n0, n1, n2, n3, n4, n5, n6, n7, n8⟩ := id N
    go_wp2_with fail
    refine (ratesOk_any a b c d u vv E).mono ?_
    rintro ee v2 ⟨rfl, hbl⟩
    rw [k1]
    clear n0 n1 n2 n3 n4 n5 n6 n7 n8
    replace N := N.below hbl; replace Q := Q.below hbl; replace R := R.below hbl; replace E := E.below hbl; replace E1 := E1.below hbl; replace B := B.trans (hbl.mono B.size); clear hbl
    obtain ⟨m0, m1, m2, m3, m4, m5, m6, m7, m8⟩ := id Q
    go_wp2_with fail
    refine (ratesOk_any e f g h u v2 E).mono ?_
    rintro ee v4 ⟨rfl, hbl⟩
    rw [k2]
    clear m0 m1 m2 m3 m4 m5 m6 m7 m8
    replace N := N.below hbl; replace Q := Q.below hbl; replace R := R.below hbl; replace E := E.below hbl; replace E1 := E1.below hbl; replace B := B.trans (hbl.mono B.size); clear hbl
    obtain ⟨n0, n1, n2, n3, n4, n5, n6, n7, n8⟩ := id N
    obtain ⟨m0, m1, m2, m3, m4, m5, m6, m7, m8⟩ := id Q
    have SK : Hid (∀ w', Below v4.heap.size v4 w' → (w'.cell? ⟨w.heap.size, 0, none⟩ = some (.int .i64 a) ∧ w'.cell? ⟨w.heap.size, 1, none⟩ = some (.int .i64 b) ∧ w'.cell? ⟨js, 0, none⟩ = some (.int .i64 e) ∧ w'.cell? ⟨js, 1, none⟩ = some (.int .i64 f) ∧ w'.cell? ⟨w.heap.size, 2, none⟩ = some (.int .i64 c) ∧ w'.cell? ⟨w.heap.size, 3, none⟩ = some (.int .i64 d) ∧ w'.cell? ⟨js, 2, none⟩ = some (.int .i64 g) ∧ w'.cell? ⟨js, 3, none⟩ = some (.int .i64 h))) := fun w' hw => by
      obtain ⟨x0, x1, x2, x3, x4, x5, x6, x7, x8⟩ := N.below hw
      obtain ⟨y0, y1, y2, y3, y4, y5, y6, y7, y8⟩ := Q.below hw
      exact ⟨x1, x2, y1, y2, x3, x4, y3, y4⟩
    go_upto_region 3 with fail
    go_cut [6] (fun s6 wx => ∃ k : Nat, s6 = .pointer (some ⟨k, 0, none⟩) ∧ v4.heap.size ≤ k ∧ Rx4 wx k lx ly hx hy ∧ Below v4.heap.size v4 wx)
    case first =>
      refine wp_region_held_drew (S := (fun w' => w'.cell? ⟨w.heap.size, 0, none⟩ = some (.int .i64 a) ∧ w'.cell? ⟨w.heap.size, 1, none⟩ = some (.int .i64 b) ∧ w'.cell? ⟨js, 0, none⟩ = some (.int .i64 e) ∧ w'.cell? ⟨js, 1, none⟩ = some (.int .i64 f) ∧ w'.cell? ⟨w.heap.size, 2, none⟩ = some (.int .i64 c) ∧ w'.cell? ⟨w.heap.size, 3, none⟩ = some (.int .i64 d) ∧ w'.cell? ⟨js, 2, none⟩ = some (.int .i64 g) ∧ w'.cell? ⟨js, 3, none⟩ = some (.int .i64 h))) (by kernel_rfl) ?_ (fun hHeld => ?_)
      · first | exact SK.out _ XB | exact SK.out _ (Below.drew (Below.refl _ _))
      have XB : Below v4.heap.size v4 v4.drew := Below.drew (Below.refl _ _)
      generalize v4.drew = vx at *
      refine wpAnyH_take (i := 0) (v := ?_) (by rw [List.getElem?_toArray]; rfl) (by kernel_rfl) (by kernel_rfl) (by kernel_rfl) (by intro _ _ _ h; exact h) (Or.inl ⟨by rfl, ?_⟩) (by assumption) ?_
      rotate_left
      · (intro w hSw; (try dsimp only at hSw); go_simp; all_goals with_reducible rfl)
      (try simp only [Act.put, List.setIfInBounds_toArray, List.set_cons_zero, List.set_cons_succ])
      refine wpAnyH_take (i := 1) (v := ?_) (by rw [List.getElem?_toArray]; rfl) (by kernel_rfl) (by kernel_rfl) (by kernel_rfl) (by intro _ _ _ h; exact h) (Or.inl ⟨by rfl, ?_⟩) (by assumption) ?_
      rotate_left
      · (intro w hSw; (try dsimp only at hSw); go_simp; all_goals with_reducible rfl)
      (try simp only [Act.put, List.setIfInBounds_toArray, List.set_cons_zero, List.set_cons_succ])
      refine wpAnyH_take (i := 2) (v := ?_) (by rw [List.getElem?_toArray]; rfl) (by kernel_rfl) (by kernel_rfl) (by kernel_rfl) (by intro _ _ _ h; exact h) (Or.inl ⟨by rfl, ?_⟩) (by assumption) ?_
      rotate_left
      · (intro w hSw; (try dsimp only at hSw); go_simp; all_goals with_reducible rfl)
      (try simp only [Act.put, List.setIfInBounds_toArray, List.set_cons_zero, List.set_cons_succ])
      refine wpAnyH_take (i := 3) (v := ?_) (by rw [List.getElem?_toArray]; rfl) (by kernel_rfl) (by kernel_rfl) (by kernel_rfl) (by intro _ _ _ h; exact h) (Or.inl ⟨by rfl, ?_⟩) (by assumption) ?_
      rotate_left
      · (intro w hSw; (try dsimp only at hSw); go_simp; all_goals with_reducible rfl)
      (try simp only [Act.put, List.setIfInBounds_toArray, List.set_cons_zero, List.set_cons_succ])
      refine wpAnyH_take (i := 5) (v := ?_) (by rw [List.getElem?_toArray]; rfl) (by kernel_rfl) (by kernel_rfl) (by kernel_rfl) (by intro _ _ _ h; exact h) (Or.inl ⟨by rfl, ?_⟩) (by assumption) ?_
      rotate_left
      · (intro w hSw; (try dsimp only at hSw); go_simp; all_goals with_reducible rfl)
      (try simp only [Act.put, List.setIfInBounds_toArray, List.set_cons_zero, List.set_cons_succ])
      refine wpAnyH_take (i := 6) (v := ?_) (by rw [List.getElem?_toArray]; rfl) (by kernel_rfl) (by kernel_rfl) (by kernel_rfl) (by intro _ _ _ h; exact h) (Or.inl ⟨by rfl, ?_⟩) (by assumption) ?_
      rotate_left
      · (intro w hSw; (try dsimp only at hSw); go_simp; all_goals with_reducible rfl)
      (try simp only [Act.put, List.setIfInBounds_toArray, List.set_cons_zero, List.set_cons_succ])
      refine wpAnyH_take (i := 7) (v := ?_) (by rw [List.getElem?_toArray]; rfl) (by kernel_rfl) (by kernel_rfl) (by kernel_rfl) (by intro _ _ _ h; exact h) (Or.inl ⟨by rfl, ?_⟩) (by assumption) ?_
      rotate_left
      · (intro w hSw; (try dsimp only at hSw); go_simp; all_goals with_reducible rfl)
      (try simp only [Act.put, List.setIfInBounds_toArray, List.set_cons_zero, List.set_cons_succ])
      refine wpAnyH_take (i := 8) (v := ?_) (by rw [List.getElem?_toArray]; rfl) (by kernel_rfl) (by kernel_rfl) (by kernel_rfl) (by intro _ _ _ h; exact h) (Or.inl ⟨by rfl, ?_⟩) (by assumption) ?_
      rotate_left
      · (intro w hSw; (try dsimp only at hSw); go_simp; all_goals with_reducible rfl)
      (try simp only [Act.put, List.setIfInBounds_toArray, List.set_cons_zero, List.set_cons_succ])
      refine wpAnyH_ready (rs := [4, 11]) (by kernel_rfl) (by simp) ?_
      refine (AllReadyH.cons (by rw [List.getElem?_toArray]; rfl) (fun K hK => ?_) (AllReadyH.cons (by rw [List.getElem?_toArray]; rfl) (fun K hK => ?_) AllReadyH.nil))
      · go_simp
        refine (CA _).mono ?_; rintro ee vx ⟨rfl, hbl⟩; (try clear kz0 kz1 kz2 kz3 kz4 kf1 kf2 kf3 kf4); (replace XB := XB.trans (hbl.mono XB.size)); (try (replace K4 := K4.below hbl)); clear hbl; (try (obtain ⟨kz0, kz1, kz2, kz3, kz4, kf1, kf2, kf3, kf4⟩ := id K4))
        (try go_wp2_with fail)
        refine hK.out _ _ ?_ (fun hHeld => ?_)
        · first | exact SK.out _ XB | exact SK.out _ (Below.drew (Below.refl _ _))
        clear hK K
        (try simp only [Act.put, List.setIfInBounds_toArray, List.set_cons_zero, List.set_cons_succ])
        refine wpAnyH_ready (rs := [9, 11]) (by kernel_rfl) (by simp) ?_
        refine (AllReadyH.cons (by rw [List.getElem?_toArray]; rfl) (fun K hK => ?_) (AllReadyH.cons (by rw [List.getElem?_toArray]; rfl) (fun K hK => ?_) AllReadyH.nil))
        · go_simp
          refine (CB _).mono ?_; rintro ee vx ⟨rfl, hbl⟩; (try clear kz0 kz1 kz2 kz3 kz4 kf1 kf2 kf3 kf4); (replace XB := XB.trans (hbl.mono XB.size)); (try (replace K4 := K4.below hbl)); clear hbl; (try (obtain ⟨kz0, kz1, kz2, kz3, kz4, kf1, kf2, kf3, kf4⟩ := id K4))
          (try go_wp2_with fail)
          refine hK.out _ _ ?_ (fun hHeld => ?_)
          · first | exact SK.out _ XB | exact SK.out _ (Below.drew (Below.refl _ _))
          clear hK K
          (try simp only [Act.put, List.setIfInBounds_toArray, List.set_cons_zero, List.set_cons_succ])
          refine wpAnyH_take (i := 10) (v := ?_) (by rw [List.getElem?_toArray]; rfl) (by kernel_rfl) (by kernel_rfl) (by kernel_rfl) (by intro _ _ _ h; exact h) (Or.inl ⟨by rfl, ?_⟩) (by assumption) ?_
          rotate_left
          · (intro w hSw; (try dsimp only at hSw); go_simp; all_goals with_reducible rfl)
          (try simp only [Act.put, List.setIfInBounds_toArray, List.set_cons_zero, List.set_cons_succ])
          refine wpAnyH_ready (rs := [11]) (by kernel_rfl) (by simp) ?_
          refine (AllReadyH.cons (by rw [List.getElem?_toArray]; rfl) (fun K hK => ?_) AllReadyH.nil)
          go_simp
          (have K4 := Rx4.new vx 0 0 0 0 83); (have hkk := XB.size); (replace XB := XB.trans ((Below.nw vx (.cells #[.int .i64 0, .int .i64 0, .int .i64 0, .int .i64 0] 83)).mono XB.size)); (generalize vx.heap.size = kk at *); (generalize vx.alloc (.cells #[.int .i64 0, .int .i64 0, .int .i64 0, .int .i64 0] 83) = vx at *); (try (obtain ⟨kz0, kz1, kz2, kz3, kz4, kf1, kf2, kf3, kf4⟩ := id K4))
          refine hK.out _ _ ?_ (fun hHeld => ?_)
          · first | exact SK.out _ XB | exact SK.out _ (Below.drew (Below.refl _ _))
          clear hK K
          (try simp only [Act.put, List.setIfInBounds_toArray, List.set_cons_zero, List.set_cons_succ])
          refine wpAnyH_ready (rs := [12]) (by kernel_rfl) (by simp) ?_
          refine (AllReadyH.cons (by rw [List.getElem?_toArray]; rfl) (fun K hK => ?_) AllReadyH.nil)
          go_simp
          (have KP := K4.put lx ly hx hy); (replace XB := Below.put4 XB hkk lx ly hx hy); unfold put4 at KP XB
          refine hK.out _ _ ?_ (fun hHeld => ?_)
          · first | exact SK.out _ XB | exact SK.out _ (Below.drew (Below.refl _ _))
          clear hK K
          (try simp only [Act.put, List.setIfInBounds_toArray, List.set_cons_zero, List.set_cons_succ])
          refine wpAnyH_done (by kernel_rfl) ?_ _
          (try clear kz0 kz1 kz2 kz3 kz4 kf1 kf2 kf3 kf4)
          (try clear K4)
          generalize ((((vx.setCell ⟨kk, 0, none⟩ (.int .i64 lx)).setCell ⟨kk, 1, none⟩ (.int .i64 ly)).setCell ⟨kk, 2, none⟩ (.int .i64 hx)).setCell ⟨kk, 3, none⟩ (.int .i64 hy)) = vz at *
          go_wp2_with fail
          go_meet
          case rel => exact ⟨_, rfl, hkk, KP, XB⟩
        · go_simp
          (have K4 := Rx4.new vx 0 0 0 0 83); (have hkk := XB.size); (replace XB := XB.trans ((Below.nw vx (.cells #[.int .i64 0, .int .i64 0, .int .i64 0, .int .i64 0] 83)).mono XB.size)); (generalize vx.heap.size = kk at *); (generalize vx.alloc (.cells #[.int .i64 0, .int .i64 0, .int .i64 0, .int .i64 0] 83) = vx at *); (try (obtain ⟨kz0, kz1, kz2, kz3, kz4, kf1, kf2, kf3, kf4⟩ := id K4))
          refine hK.out _ _ ?_ (fun hHeld => ?_)
          · first | exact SK.out _ XB | exact SK.out _ (Below.drew (Below.refl _ _))
          clear hK K
          (try simp only [Act.put, List.setIfInBounds_toArray, List.set_cons_zero, List.set_cons_succ])
          refine wpAnyH_ready (rs := [9]) (by kernel_rfl) (by simp) ?_
          refine (AllReadyH.cons (by rw [List.getElem?_toArray]; rfl) (fun K hK => ?_) AllReadyH.nil)
          go_simp
          refine (CB _).mono ?_; rintro ee vx ⟨rfl, hbl⟩; (try clear kz0 kz1 kz2 kz3 kz4 kf1 kf2 kf3 kf4); (replace XB := XB.trans (hbl.mono XB.size)); (try (replace K4 := K4.below hbl)); clear hbl; (try (obtain ⟨kz0, kz1, kz2, kz3, kz4, kf1, kf2, kf3, kf4⟩ := id K4))
          (try go_wp2_with fail)
          refine hK.out _ _ ?_ (fun hHeld => ?_)
          · first | exact SK.out _ XB | exact SK.out _ (Below.drew (Below.refl _ _))
          clear hK K
          (try simp only [Act.put, List.setIfInBounds_toArray, List.set_cons_zero, List.set_cons_succ])
          refine wpAnyH_take (i := 10) (v := ?_) (by rw [List.getElem?_toArray]; rfl) (by kernel_rfl) (by kernel_rfl) (by kernel_rfl) (by intro _ _ _ h; exact h) (Or.inl ⟨by rfl, ?_⟩) (by assumption) ?_
          rotate_left
          · (intro w hSw; (try dsimp only at hSw); go_simp; all_goals with_reducible rfl)
          (try simp only [Act.put, List.setIfInBounds_toArray, List.set_cons_zero, List.set_cons_succ])
          refine wpAnyH_ready (rs := [12]) (by kernel_rfl) (by simp) ?_
          refine (AllReadyH.cons (by rw [List.getElem?_toArray]; rfl) (fun K hK => ?_) AllReadyH.nil)
          go_simp
          (have KP := K4.put lx ly hx hy); (replace XB := Below.put4 XB hkk lx ly hx hy); unfold put4 at KP XB
          refine hK.out _ _ ?_ (fun hHeld => ?_)
          · first | exact SK.out _ XB | exact SK.out _ (Below.drew (Below.refl _ _))
          clear hK K
          (try simp only [Act.put, List.setIfInBounds_toArray, List.set_cons_zero, List.set_cons_succ])
          refine wpAnyH_done (by kernel_rfl) ?_ _
          (try clear kz0 kz1 kz2 kz3 kz4 kf1 kf2 kf3 kf4)
          (try clear K4)
          generalize ((((vx.setCell ⟨kk, 0, none⟩ (.int .i64 lx)).setCell ⟨kk, 1, none⟩ (.int .i64 ly)).setCell ⟨kk, 2, none⟩ (.int .i64 hx)).setCell ⟨kk, 3, none⟩ (.int .i64 hy)) = vz at *
          go_wp2_with fail
          go_meet
          case rel => exact ⟨_, rfl, hkk, KP, XB⟩
      · go_simp
        (have K4 := Rx4.new vx 0 0 0 0 83); (have hkk := XB.size); (replace XB := XB.trans ((Below.nw vx (.cells #[.int .i64 0, .int .i64 0, .int .i64 0, .int .i64 0] 83)).mono XB.size)); (generalize vx.heap.size = kk at *); (generalize vx.alloc (.cells #[.int .i64 0, .int .i64 0, .int .i64 0, .int .i64 0] 83) = vx at *); (try (obtain ⟨kz0, kz1, kz2, kz3, kz4, kf1, kf2, kf3, kf4⟩ := id K4))
        refine hK.out _ _ ?_ (fun hHeld => ?_)
        · first | exact SK.out _ XB | exact SK.out _ (Below.drew (Below.refl _ _))
        clear hK K
        (try simp only [Act.put, List.setIfInBounds_toArray, List.set_cons_zero, List.set_cons_succ])
        refine wpAnyH_ready (rs := [4]) (by kernel_rfl) (by simp) ?_
        refine (AllReadyH.cons (by rw [List.getElem?_toArray]; rfl) (fun K hK => ?_) AllReadyH.nil)
        go_simp
        refine (CA _).mono ?_; rintro ee vx ⟨rfl, hbl⟩; (try clear kz0 kz1 kz2 kz3 kz4 kf1 kf2 kf3 kf4); (replace XB := XB.trans (hbl.mono XB.size)); (try (replace K4 := K4.below hbl)); clear hbl; (try (obtain ⟨kz0, kz1, kz2, kz3, kz4, kf1, kf2, kf3, kf4⟩ := id K4))
        (try go_wp2_with fail)
        refine hK.out _ _ ?_ (fun hHeld => ?_)
        · first | exact SK.out _ XB | exact SK.out _ (Below.drew (Below.refl _ _))
        clear hK K
        (try simp only [Act.put, List.setIfInBounds_toArray, List.set_cons_zero, List.set_cons_succ])
        refine wpAnyH_ready (rs := [9]) (by kernel_rfl) (by simp) ?_
        refine (AllReadyH.cons (by rw [List.getElem?_toArray]; rfl) (fun K hK => ?_) AllReadyH.nil)
        go_simp
        refine (CB _).mono ?_; rintro ee vx ⟨rfl, hbl⟩; (try clear kz0 kz1 kz2 kz3 kz4 kf1 kf2 kf3 kf4); (replace XB := XB.trans (hbl.mono XB.size)); (try (replace K4 := K4.below hbl)); clear hbl; (try (obtain ⟨kz0, kz1, kz2, kz3, kz4, kf1, kf2, kf3, kf4⟩ := id K4))
        (try go_wp2_with fail)
        refine hK.out _ _ ?_ (fun hHeld => ?_)
        · first | exact SK.out _ XB | exact SK.out _ (Below.drew (Below.refl _ _))
        clear hK K
        (try simp only [Act.put, List.setIfInBounds_toArray, List.set_cons_zero, List.set_cons_succ])
        refine wpAnyH_take (i := 10) (v := ?_) (by rw [List.getElem?_toArray]; rfl) (by kernel_rfl) (by kernel_rfl) (by kernel_rfl) (by intro _ _ _ h; exact h) (Or.inl ⟨by rfl, ?_⟩) (by assumption) ?_
        rotate_left
        · (intro w hSw; (try dsimp only at hSw); go_simp; all_goals with_reducible rfl)
        (try simp only [Act.put, List.setIfInBounds_toArray, List.set_cons_zero, List.set_cons_succ])
        refine wpAnyH_ready (rs := [12]) (by kernel_rfl) (by simp) ?_
        refine (AllReadyH.cons (by rw [List.getElem?_toArray]; rfl) (fun K hK => ?_) AllReadyH.nil)
        go_simp
        (have KP := K4.put lx ly hx hy); (replace XB := Below.put4 XB hkk lx ly hx hy); unfold put4 at KP XB
        refine hK.out _ _ ?_ (fun hHeld => ?_)
        · first | exact SK.out _ XB | exact SK.out _ (Below.drew (Below.refl _ _))
        clear hK K
        (try simp only [Act.put, List.setIfInBounds_toArray, List.set_cons_zero, List.set_cons_succ])
        refine wpAnyH_done (by kernel_rfl) ?_ _
        (try clear kz0 kz1 kz2 kz3 kz4 kf1 kf2 kf3 kf4)
        (try clear K4)
        generalize ((((vx.setCell ⟨kk, 0, none⟩ (.int .i64 lx)).setCell ⟨kk, 1, none⟩ (.int .i64 ly)).setCell ⟨kk, 2, none⟩ (.int .i64 hx)).setCell ⟨kk, 3, none⟩ (.int .i64 hy)) = vz at *
        go_wp2_with fail
        go_meet
        case rel => exact ⟨_, rfl, hkk, KP, XB⟩
    case rest =>
      obtain ⟨k, rfl, hk, K4, XB⟩ := hcut
      clear n0 n1 n2 n3 n4 n5 n6 n7 n8 m0 m1 m2 m3 m4 m5 m6 m7 m8 SK CA CB N Q E
      have hkr : jr ≠ k := by have := R.1; omega
      replace R := R.below XB
      replace E1 := E1.below XB
      replace B := B.trans (XB.mono B.size)
      clear XB hk
      generalize wc = v5 at *
      obtain ⟨n0, n1, n2, n3, n4, n5, n6, n7, n8⟩ := id K4
      go_wp2_with fail
      refine (CC _).mono ?_
      rintro ee v6 ⟨rfl, hbl⟩
      clear n0 n1 n2 n3 n4 n5 n6 n7 n8
      replace K4 := K4.below hbl; replace R := R.below hbl; replace E1 := E1.below hbl; replace B := B.trans (hbl.mono B.size); clear hbl
      cases t
      · have RR := R.put lx ly hx hy
        have BB := Below.put4 B hj lx ly hx hy
        unfold put4 at RR BB
        obtain ⟨n0, n1, n2, n3, n4, n5, n6, n7, n8⟩ := id K4
        obtain ⟨r0, r1, r2, r3, r4, r5, r6, r7, r8⟩ := id R
        go_wp2_with fail
        clear n0 n1 n2 n3 n4 n5 n6 n7 n8 r0 r1 r2 r3 r4 r5 r6 r7 r8 K4 R B
        generalize ((((v6.setCell ⟨jr, 0, none⟩ (.int .i64 lx)).setCell ⟨jr, 1, none⟩ (.int .i64 ly)).setCell ⟨jr, 2, none⟩ (.int .i64 hx)).setCell ⟨jr, 3, none⟩ (.int .i64 hy)) = v7 at *
        obtain ⟨r0, r1, r2, r3, r4, r5, r6, r7, r8⟩ := id RR
        exact bodyPost_ret (v := (.tuple #[.agg #[.int .i64 lx, .int .i64 ly, .int .i64 hx, .int .i64 hy], .nilIface])) (by simp (maxDischargeDepth := 6) [results, Tryd.results43, go_sem, *]) rfl ⟨rfl, BB⟩
      · have k0 := E1.1
        have hg := hg1
        have RR := R.put 0 0 0 0
        have BB := Below.put4 B hj 0 0 0 0
        unfold put4 at RR BB
        obtain ⟨r0, r1, r2, r3, r4, r5, r6, r7, r8⟩ := id R
        go_wp2_with fail
        refine wp_region_held_drew (S := (fun w' => w'.cell? ⟨1, 0, none⟩ = some (.iface 124 (.pointer (some v))))) (by kernel_rfl) ?_ (fun hHeld => ?_)
        · first | exact k0 | exact (keepC (keepC (keepC (keepC k0 hg) hg) hg) hg)
        refine wpAnyH_take (i := 0) (v := ?_) (by rw [List.getElem?_toArray]; rfl) (by kernel_rfl) (by kernel_rfl) (by kernel_rfl) (by intro _ _ _ h; exact h) (Or.inl ⟨by rfl, ?_⟩) (by assumption) ?_
        rotate_left
        · (intro w hSw; (try dsimp only at hSw); go_simp; all_goals with_reducible rfl)
        (try simp only [Act.put, List.setIfInBounds_toArray, List.set_cons_zero, List.set_cons_succ])
        refine wpAnyH_take (i := 1) (v := ?_) (by rw [List.getElem?_toArray]; rfl) (by kernel_rfl) (by kernel_rfl) (by kernel_rfl) (by intro _ _ _ h; exact h) (Or.inl ⟨by rfl, ?_⟩) (by assumption) ?_
        rotate_left
        · (intro w hSw; (try dsimp only at hSw); go_simp; all_goals with_reducible rfl)
        (try simp only [Act.put, List.setIfInBounds_toArray, List.set_cons_zero, List.set_cons_succ])
        refine wpAnyH_ready (rs := [2]) (by kernel_rfl) (by simp) ?_
        refine AllReadyH.cons (by rw [List.getElem?_toArray]; rfl) (fun K hK => ?_) AllReadyH.nil
        go_simp
        refine hK.out _ _ ?_ (fun hHeld => ?_)
        · first | exact k0 | exact (keepC (keepC (keepC (keepC k0 hg) hg) hg) hg)
        clear hK K
        (try simp only [Act.put, List.setIfInBounds_toArray, List.set_cons_zero, List.set_cons_succ])
        refine wpAnyH_take (i := 3) (v := ?_) (by rw [List.getElem?_toArray]; rfl) (by kernel_rfl) (by kernel_rfl) (by kernel_rfl) (by intro _ _ _ h; exact h) (Or.inl ⟨by rfl, ?_⟩) (by assumption) ?_
        rotate_left
        · (intro w hSw; (try dsimp only at hSw); go_simp; all_goals with_reducible rfl)
        (try simp only [Act.put, List.setIfInBounds_toArray, List.set_cons_zero, List.set_cons_succ])
        refine wpAnyH_done (by kernel_rfl) ?_ _
        go_wp2_with fail
        clear r0 r1 r2 r3 r4 r5 r6 r7 r8 k0 R B
        generalize ((((v6.setCell ⟨jr, 0, none⟩ (.int .i64 0)).setCell ⟨jr, 1, none⟩ (.int .i64 0)).setCell ⟨jr, 2, none⟩ (.int .i64 0)).setCell ⟨jr, 3, none⟩ (.int .i64 0)) = v7 at *
        obtain ⟨r0, r1, r2, r3, r4, r5, r6, r7, r8⟩ := id RR
        exact bodyPost_ret (v := (.tuple #[.agg #[.int .i64 0, .int .i64 0, .int .i64 0, .int .i64 0], (.iface 124 (.pointer (some v)))])) (by simp (maxDischargeDepth := 6) [results, Tryd.results43, go_sem, *]) rfl ⟨rfl, Below.drew BB⟩
  exact fin _ CC
end Go.Proofs.YtblappilppfkiaaDoor
namespace Go.Proofs.YtblappilppfkiaaDoor
open Go.RowKit
set_option linter.unusedVariables false
set_option maxRecDepth 100000 in
set_option maxHeartbeats 8000000 in
theorem implRateOfDrift_any (n d : Int) (u : Addr) (w : World) (E : Er w 0 u) : Calls Tryd.prog 16 #[.agg #[.int .i64 n, .int .i64 d]] w fun e w' => e = .returned (.tuple #[.agg #[.int .i64 (rdX n d), .int .i64 (rdY n d)], .agg #[.int .i64 (rdZ n d), .int .i64 (rdU n d)], .bool (okD n d)]) ∧ Below w.heap.size w w' := by
  have A0 := Below.nw w (.cells #[.int .i64 n, .int .i64 d] 35)
  have A1 := Below.nw (w.alloc (.cells #[.int .i64 n, .int .i64 d] 35)) (.cells #[.int .i64 0, .int .i64 0] 27)
  have A2 := Below.nw ((w.alloc (.cells #[.int .i64 n, .int .i64 d] 35)).alloc (.cells #[.int .i64 0, .int .i64 0] 27)) (.cells #[.int .i64 0, .int .i64 0] 27)
  have D := ((Bx2.new w (.int .i64 n) (.int .i64 d) 35).below A1).below A2
  have R := (Bx2.new (w.alloc (.cells #[.int .i64 n, .int .i64 d] 35)) (.int .i64 0) (.int .i64 0) 27).below A2
  have T := Bx2.new ((w.alloc (.cells #[.int .i64 n, .int .i64 d] 35)).alloc (.cells #[.int .i64 0, .int .i64 0] 27)) (.int .i64 0) (.int .i64 0) 27
  have B := (A0.trans (A1.mono A0.size)).trans (A2.mono (A0.trans (A1.mono A0.size)).size)
  simp only [World.size_alloc] at R T
  clear A0 A1 A2
  have hj1 : w.heap.size ≤ w.heap.size + 1 := by omega
  have hj2 : w.heap.size ≤ w.heap.size + 1 + 1 := by omega
  have hne : w.heap.size + 1 ≠ w.heap.size + 1 + 1 := by omega
  replace E := E.below B
  cases h1 : okD n d
  · obtain ⟨e1, e2, e3, e4⟩ := rd_f h1
    rw [e1, e2, e3, e4]
    clear e1 e2 e3 e4
    go_enter Tryd.func16, Tryd.ntmps16; go_upto_region 1 with fail; generalize (((w.alloc (.cells #[.int .i64 n, .int .i64 d] 35)).alloc (.cells #[.int .i64 0, .int .i64 0] 27)).alloc (.cells #[.int .i64 0, .int .i64 0] 27)) = v at *; generalize w.heap.size + 1 + 1 = j2 at *; generalize w.heap.size + 1 = j1 at *
    have hne' := Ne.symm hne
    obtain ⟨n0, n1, n2, n3, n4⟩ := id D
    go_wp2_with fail
    refine (okd_any _ _ _).mono ?_
    rintro e v2 ⟨rfl, hbl⟩
    rw [h1]
    clear n0 n1 n2 n3 n4
    replace R := R.below hbl
    replace T := T.below hbl
    replace B := B.trans (hbl.mono B.size)
    clear hbl
    obtain ⟨r0, r1, r2, r3, r4⟩ := id R
    obtain ⟨t0, t1, t2, t3, t4⟩ := id T
    go_wp2_with fail
    exact bodyPost_ret (v := (.tuple #[.agg #[.int .i64 0, .int .i64 0], .agg #[.int .i64 0, .int .i64 0], .bool false])) (by simp (maxDischargeDepth := 6) [results, Tryd.results16, go_sem, *]) rfl ⟨rfl, two_in B hj1 hj2 _ _ _ _⟩
  obtain ⟨e1, e2, e3, e4⟩ := rd_t h1
  rw [e1, e2, e3, e4]
  clear e1 e2 e3 e4
  have C1 := fun w' E' => lowest_any d (d + n) u w' E'
  have C2 := fun w' E' => lowest_any d (d - n) u w' E'
  generalize foX d (d + n) = x1 at *
  generalize foY d (d + n) = y1 at *
  generalize nfV u (foB d (d + n)) = b1 at *
  generalize foX d (d - n) = x2 at *
  generalize foY d (d - n) = y2 at *
  generalize nfV u (foB d (d - n)) = b2 at *
  go_enter Tryd.func16, Tryd.ntmps16; go_upto_region 1 with fail; generalize (((w.alloc (.cells #[.int .i64 n, .int .i64 d] 35)).alloc (.cells #[.int .i64 0, .int .i64 0] 27)).alloc (.cells #[.int .i64 0, .int .i64 0] 27)) = v at *; generalize w.heap.size + 1 + 1 = j2 at *; generalize w.heap.size + 1 = j1 at *
  obtain ⟨n0, n1, n2, n3, n4⟩ := id D
  go_wp2_with fail
  refine (okd_any _ _ _).mono ?_
  rintro e v2 ⟨rfl, hbl⟩
  rw [h1]
  clear n0 n1 n2 n3 n4
  replace D := D.below hbl
  replace R := R.below hbl
  replace T := T.below hbl
  replace E := E.below hbl
  replace B := B.trans (hbl.mono B.size)
  clear hbl
  have SK : Hid (∀ w', Below v2.heap.size v2 w' → (w'.cell? ⟨w.heap.size, 0, none⟩ = some (.int .i64 n) ∧ w'.cell? ⟨w.heap.size, 1, none⟩ = some (.int .i64 d))) := fun w' hw => ⟨(D.below hw).2.1, (D.below hw).2.2.1⟩
  go_upto_region 3 with fail
  go_cut [5] (fun s5 wx => ∃ k : Nat, s5 = .pointer (some ⟨k, 0, none⟩) ∧ v2.heap.size ≤ k ∧ Bx2 wx k (.int .i64 x1) (.int .i64 y1) ∧ Below v2.heap.size v2 wx)
  case first =>
    refine wp_region_held_drew (S := (fun w' => w'.cell? ⟨w.heap.size, 0, none⟩ = some (.int .i64 n) ∧ w'.cell? ⟨w.heap.size, 1, none⟩ = some (.int .i64 d))) (by kernel_rfl) ?_ (fun hHeld => ?_)
    · first | exact SK.out _ XB | exact SK.out _ (Below.drew (Below.refl _ _))
    have XB : Below v2.heap.size v2 v2.drew := Below.drew (Below.refl _ _)
    generalize v2.drew = vx at *
    refine wpAnyH_take (i := 0) (v := ?_) (by rw [List.getElem?_toArray]; rfl) (by kernel_rfl) (by kernel_rfl) (by kernel_rfl) (by intro _ _ _ h; exact h) (Or.inl ⟨by rfl, ?_⟩) (by assumption) ?_
    rotate_left
    · (intro w hSw; (try dsimp only at hSw); go_simp; all_goals with_reducible rfl)
    (try simp only [Act.put, List.setIfInBounds_toArray, List.set_cons_zero, List.set_cons_succ])
    refine wpAnyH_take (i := 1) (v := ?_) (by rw [List.getElem?_toArray]; rfl) (by kernel_rfl) (by kernel_rfl) (by kernel_rfl) (by intro _ _ _ h; exact h) (Or.inl ⟨by rfl, ?_⟩) (by assumption) ?_
    rotate_left
    · (intro w hSw; (try dsimp only at hSw); go_simp; all_goals with_reducible rfl)
    (try simp only [Act.put, List.setIfInBounds_toArray, List.set_cons_zero, List.set_cons_succ])
    refine wpAnyH_take (i := 2) (v := ?_) (by rw [List.getElem?_toArray]; rfl) (by kernel_rfl) (by kernel_rfl) (by kernel_rfl) (by intro _ _ _ h; exact h) (Or.inl ⟨by rfl, ?_⟩) (by assumption) ?_
    rotate_left
    · (intro w hSw; (try dsimp only at hSw); go_simp; all_goals with_reducible rfl)
    (try simp only [Act.put, List.setIfInBounds_toArray, List.set_cons_zero, List.set_cons_succ])
    refine wpAnyH_ready (rs := [3, 8]) (by kernel_rfl) (by simp) ?_
    refine (AllReadyH.cons (by rw [List.getElem?_toArray]; rfl) (fun K hK => ?_) (AllReadyH.cons (by rw [List.getElem?_toArray]; rfl) (fun K hK => ?_) AllReadyH.nil))
    · go_simp
      refine (fastest_any n d _ h1).mono ?_; rintro ee vx ⟨rfl, hbl⟩; (try clear kz0 kz1 kz2 kz3 kz4); (replace XB := XB.trans (hbl.mono XB.size)); (try (replace K4 := K4.below hbl)); clear hbl; (try (obtain ⟨kz0, kz1, kz2, kz3, kz4⟩ := id K4))
      (try go_wp2_with fail)
      refine hK.out _ _ ?_ (fun hHeld => ?_)
      · first | exact SK.out _ XB | exact SK.out _ (Below.drew (Below.refl _ _))
      clear hK K
      (try simp only [Act.put, List.setIfInBounds_toArray, List.set_cons_zero, List.set_cons_succ])
      refine wpAnyH_ready (rs := [4, 8]) (by kernel_rfl) (by simp) ?_
      refine (AllReadyH.cons (by rw [List.getElem?_toArray]; rfl) (fun K hK => ?_) (AllReadyH.cons (by rw [List.getElem?_toArray]; rfl) (fun K hK => ?_) AllReadyH.nil))
      · go_simp
        refine (C1 _ (E.below XB)).mono ?_; rintro ee vx ⟨rfl, hbl⟩; (try clear kz0 kz1 kz2 kz3 kz4); (replace XB := XB.trans (hbl.mono XB.size)); (try (replace K4 := K4.below hbl)); clear hbl; (try (obtain ⟨kz0, kz1, kz2, kz3, kz4⟩ := id K4))
        (try go_wp2_with fail)
        refine hK.out _ _ ?_ (fun hHeld => ?_)
        · first | exact SK.out _ XB | exact SK.out _ (Below.drew (Below.refl _ _))
        clear hK K
        (try simp only [Act.put, List.setIfInBounds_toArray, List.set_cons_zero, List.set_cons_succ])
        refine wpAnyH_take (i := 5) (v := ?_) (by rw [List.getElem?_toArray]; rfl) (by kernel_rfl) (by kernel_rfl) (by kernel_rfl) (by intro _ _ _ h; exact h) (Or.inl ⟨by rfl, ?_⟩) (by assumption) ?_
        rotate_left
        · (intro w hSw; (try dsimp only at hSw); go_simp; all_goals with_reducible rfl)
        (try simp only [Act.put, List.setIfInBounds_toArray, List.set_cons_zero, List.set_cons_succ])
        refine wpAnyH_take (i := 6) (v := ?_) (by rw [List.getElem?_toArray]; rfl) (by kernel_rfl) (by kernel_rfl) (by kernel_rfl) (by intro _ _ _ h; exact h) (Or.inl ⟨by rfl, ?_⟩) (by assumption) ?_
        rotate_left
        · (intro w hSw; (try dsimp only at hSw); go_simp; all_goals with_reducible rfl)
        (try simp only [Act.put, List.setIfInBounds_toArray, List.set_cons_zero, List.set_cons_succ])
        refine wpAnyH_take (i := 7) (v := ?_) (by rw [List.getElem?_toArray]; rfl) (by kernel_rfl) (by kernel_rfl) (by kernel_rfl) (by intro _ _ _ h; exact h) (Or.inl ⟨by rfl, ?_⟩) (by assumption) ?_
        rotate_left
        · (intro w hSw; (try dsimp only at hSw); go_simp; all_goals with_reducible rfl)
        (try simp only [Act.put, List.setIfInBounds_toArray, List.set_cons_zero, List.set_cons_succ])
        refine wpAnyH_ready (rs := [8]) (by kernel_rfl) (by simp) ?_
        refine (AllReadyH.cons (by rw [List.getElem?_toArray]; rfl) (fun K hK => ?_) AllReadyH.nil)
        go_simp
        (have K4 := Bx2.new vx (.int .i64 0) (.int .i64 0) 27); (have hkk := XB.size); (replace XB := XB.trans ((Below.nw vx (.cells #[.int .i64 0, .int .i64 0] 27)).mono XB.size)); (generalize vx.heap.size = kk at *); (generalize vx.alloc (.cells #[.int .i64 0, .int .i64 0] 27) = vx at *); (try (obtain ⟨kz0, kz1, kz2, kz3, kz4⟩ := id K4))
        refine hK.out _ _ ?_ (fun hHeld => ?_)
        · first | exact SK.out _ XB | exact SK.out _ (Below.drew (Below.refl _ _))
        clear hK K
        (try simp only [Act.put, List.setIfInBounds_toArray, List.set_cons_zero, List.set_cons_succ])
        refine wpAnyH_ready (rs := [9]) (by kernel_rfl) (by simp) ?_
        refine (AllReadyH.cons (by rw [List.getElem?_toArray]; rfl) (fun K hK => ?_) AllReadyH.nil)
        go_simp
        (have KP := (K4.set0 (.int .i64 x1)).set1 (.int .i64 y1)); (replace XB := (XB.setCell (p := ⟨kk, 0, none⟩) hkk (.int .i64 x1)).setCell (p := ⟨kk, 1, none⟩) hkk (.int .i64 y1))
        refine hK.out _ _ ?_ (fun hHeld => ?_)
        · first | exact SK.out _ XB | exact SK.out _ (Below.drew (Below.refl _ _))
        clear hK K
        (try simp only [Act.put, List.setIfInBounds_toArray, List.set_cons_zero, List.set_cons_succ])
        refine wpAnyH_take (i := 10) (v := ?_) (by rw [List.getElem?_toArray]; rfl) (by kernel_rfl) (by kernel_rfl) (by kernel_rfl) (by intro _ _ _ h; exact h) (Or.inl ⟨by rfl, ?_⟩) (by assumption) ?_
        rotate_left
        · (intro w hSw; (try dsimp only at hSw); go_simp; all_goals with_reducible rfl)
        (try simp only [Act.put, List.setIfInBounds_toArray, List.set_cons_zero, List.set_cons_succ])
        refine wpAnyH_done (by kernel_rfl) ?_ _
        (try clear kz0 kz1 kz2 kz3 kz4)
        (try clear K4)
        generalize (vx.setCell ⟨kk, 0, none⟩ (.int .i64 x1)).setCell ⟨kk, 1, none⟩ (.int .i64 y1) = vz at *
        go_wp2_with fail
        go_meet
        case rel => exact ⟨_, rfl, hkk, KP, XB⟩
      · go_simp
        (have K4 := Bx2.new vx (.int .i64 0) (.int .i64 0) 27); (have hkk := XB.size); (replace XB := XB.trans ((Below.nw vx (.cells #[.int .i64 0, .int .i64 0] 27)).mono XB.size)); (generalize vx.heap.size = kk at *); (generalize vx.alloc (.cells #[.int .i64 0, .int .i64 0] 27) = vx at *); (try (obtain ⟨kz0, kz1, kz2, kz3, kz4⟩ := id K4))
        refine hK.out _ _ ?_ (fun hHeld => ?_)
        · first | exact SK.out _ XB | exact SK.out _ (Below.drew (Below.refl _ _))
        clear hK K
        (try simp only [Act.put, List.setIfInBounds_toArray, List.set_cons_zero, List.set_cons_succ])
        refine wpAnyH_ready (rs := [4]) (by kernel_rfl) (by simp) ?_
        refine (AllReadyH.cons (by rw [List.getElem?_toArray]; rfl) (fun K hK => ?_) AllReadyH.nil)
        go_simp
        refine (C1 _ (E.below XB)).mono ?_; rintro ee vx ⟨rfl, hbl⟩; (try clear kz0 kz1 kz2 kz3 kz4); (replace XB := XB.trans (hbl.mono XB.size)); (try (replace K4 := K4.below hbl)); clear hbl; (try (obtain ⟨kz0, kz1, kz2, kz3, kz4⟩ := id K4))
        (try go_wp2_with fail)
        refine hK.out _ _ ?_ (fun hHeld => ?_)
        · first | exact SK.out _ XB | exact SK.out _ (Below.drew (Below.refl _ _))
        clear hK K
        (try simp only [Act.put, List.setIfInBounds_toArray, List.set_cons_zero, List.set_cons_succ])
        refine wpAnyH_take (i := 5) (v := ?_) (by rw [List.getElem?_toArray]; rfl) (by kernel_rfl) (by kernel_rfl) (by kernel_rfl) (by intro _ _ _ h; exact h) (Or.inl ⟨by rfl, ?_⟩) (by assumption) ?_
        rotate_left
        · (intro w hSw; (try dsimp only at hSw); go_simp; all_goals with_reducible rfl)
        (try simp only [Act.put, List.setIfInBounds_toArray, List.set_cons_zero, List.set_cons_succ])
        refine wpAnyH_take (i := 6) (v := ?_) (by rw [List.getElem?_toArray]; rfl) (by kernel_rfl) (by kernel_rfl) (by kernel_rfl) (by intro _ _ _ h; exact h) (Or.inl ⟨by rfl, ?_⟩) (by assumption) ?_
        rotate_left
        · (intro w hSw; (try dsimp only at hSw); go_simp; all_goals with_reducible rfl)
        (try simp only [Act.put, List.setIfInBounds_toArray, List.set_cons_zero, List.set_cons_succ])
        refine wpAnyH_take (i := 7) (v := ?_) (by rw [List.getElem?_toArray]; rfl) (by kernel_rfl) (by kernel_rfl) (by kernel_rfl) (by intro _ _ _ h; exact h) (Or.inl ⟨by rfl, ?_⟩) (by assumption) ?_
        rotate_left
        · (intro w hSw; (try dsimp only at hSw); go_simp; all_goals with_reducible rfl)
        (try simp only [Act.put, List.setIfInBounds_toArray, List.set_cons_zero, List.set_cons_succ])
        refine wpAnyH_ready (rs := [9]) (by kernel_rfl) (by simp) ?_
        refine (AllReadyH.cons (by rw [List.getElem?_toArray]; rfl) (fun K hK => ?_) AllReadyH.nil)
        go_simp
        (have KP := (K4.set0 (.int .i64 x1)).set1 (.int .i64 y1)); (replace XB := (XB.setCell (p := ⟨kk, 0, none⟩) hkk (.int .i64 x1)).setCell (p := ⟨kk, 1, none⟩) hkk (.int .i64 y1))
        refine hK.out _ _ ?_ (fun hHeld => ?_)
        · first | exact SK.out _ XB | exact SK.out _ (Below.drew (Below.refl _ _))
        clear hK K
        (try simp only [Act.put, List.setIfInBounds_toArray, List.set_cons_zero, List.set_cons_succ])
        refine wpAnyH_take (i := 10) (v := ?_) (by rw [List.getElem?_toArray]; rfl) (by kernel_rfl) (by kernel_rfl) (by kernel_rfl) (by intro _ _ _ h; exact h) (Or.inl ⟨by rfl, ?_⟩) (by assumption) ?_
        rotate_left
        · (intro w hSw; (try dsimp only at hSw); go_simp; all_goals with_reducible rfl)
        (try simp only [Act.put, List.setIfInBounds_toArray, List.set_cons_zero, List.set_cons_succ])
        refine wpAnyH_done (by kernel_rfl) ?_ _
        (try clear kz0 kz1 kz2 kz3 kz4)
        (try clear K4)
        generalize (vx.setCell ⟨kk, 0, none⟩ (.int .i64 x1)).setCell ⟨kk, 1, none⟩ (.int .i64 y1) = vz at *
        go_wp2_with fail
        go_meet
        case rel => exact ⟨_, rfl, hkk, KP, XB⟩
    · go_simp
      (have K4 := Bx2.new vx (.int .i64 0) (.int .i64 0) 27); (have hkk := XB.size); (replace XB := XB.trans ((Below.nw vx (.cells #[.int .i64 0, .int .i64 0] 27)).mono XB.size)); (generalize vx.heap.size = kk at *); (generalize vx.alloc (.cells #[.int .i64 0, .int .i64 0] 27) = vx at *); (try (obtain ⟨kz0, kz1, kz2, kz3, kz4⟩ := id K4))
      refine hK.out _ _ ?_ (fun hHeld => ?_)
      · first | exact SK.out _ XB | exact SK.out _ (Below.drew (Below.refl _ _))
      clear hK K
      (try simp only [Act.put, List.setIfInBounds_toArray, List.set_cons_zero, List.set_cons_succ])
      refine wpAnyH_ready (rs := [3]) (by kernel_rfl) (by simp) ?_
      refine (AllReadyH.cons (by rw [List.getElem?_toArray]; rfl) (fun K hK => ?_) AllReadyH.nil)
      go_simp
      refine (fastest_any n d _ h1).mono ?_; rintro ee vx ⟨rfl, hbl⟩; (try clear kz0 kz1 kz2 kz3 kz4); (replace XB := XB.trans (hbl.mono XB.size)); (try (replace K4 := K4.below hbl)); clear hbl; (try (obtain ⟨kz0, kz1, kz2, kz3, kz4⟩ := id K4))
      (try go_wp2_with fail)
      refine hK.out _ _ ?_ (fun hHeld => ?_)
      · first | exact SK.out _ XB | exact SK.out _ (Below.drew (Below.refl _ _))
      clear hK K
      (try simp only [Act.put, List.setIfInBounds_toArray, List.set_cons_zero, List.set_cons_succ])
      refine wpAnyH_ready (rs := [4]) (by kernel_rfl) (by simp) ?_
      refine (AllReadyH.cons (by rw [List.getElem?_toArray]; rfl) (fun K hK => ?_) AllReadyH.nil)
      go_simp
      refine (C1 _ (E.below XB)).mono ?_; rintro ee vx ⟨rfl, hbl⟩; (try clear kz0 kz1 kz2 kz3 kz4); (replace XB := XB.trans (hbl.mono XB.size)); (try (replace K4 := K4.below hbl)); clear hbl; (try (obtain ⟨kz0, kz1, kz2, kz3, kz4⟩ := id K4))
      (try go_wp2_with fail)
      refine hK.out _ _ ?_ (fun hHeld => ?_)
      · first | exact SK.out _ XB | exact SK.out _ (Below.drew (Below.refl _ _))
      clear hK K
      (try simp only [Act.put, List.setIfInBounds_toArray, List.set_cons_zero, List.set_cons_succ])
      refine wpAnyH_take (i := 5) (v := ?_) (by rw [List.getElem?_toArray]; rfl) (by kernel_rfl) (by kernel_rfl) (by kernel_rfl) (by intro _ _ _ h; exact h) (Or.inl ⟨by rfl, ?_⟩) (by assumption) ?_
      rotate_left
      · (intro w hSw; (try dsimp only at hSw); go_simp; all_goals with_reducible rfl)
      (try simp only [Act.put, List.setIfInBounds_toArray, List.set_cons_zero, List.set_cons_succ])
      refine wpAnyH_take (i := 6) (v := ?_) (by rw [List.getElem?_toArray]; rfl) (by kernel_rfl) (by kernel_rfl) (by kernel_rfl) (by intro _ _ _ h; exact h) (Or.inl ⟨by rfl, ?_⟩) (by assumption) ?_
      rotate_left
      · (intro w hSw; (try dsimp only at hSw); go_simp; all_goals with_reducible rfl)
      (try simp only [Act.put, List.setIfInBounds_toArray, List.set_cons_zero, List.set_cons_succ])
      refine wpAnyH_take (i := 7) (v := ?_) (by rw [List.getElem?_toArray]; rfl) (by kernel_rfl) (by kernel_rfl) (by kernel_rfl) (by intro _ _ _ h; exact h) (Or.inl ⟨by rfl, ?_⟩) (by assumption) ?_
      rotate_left
      · (intro w hSw; (try dsimp only at hSw); go_simp; all_goals with_reducible rfl)
      (try simp only [Act.put, List.setIfInBounds_toArray, List.set_cons_zero, List.set_cons_succ])
      refine wpAnyH_ready (rs := [9]) (by kernel_rfl) (by simp) ?_
      refine (AllReadyH.cons (by rw [List.getElem?_toArray]; rfl) (fun K hK => ?_) AllReadyH.nil)
      go_simp
      (have KP := (K4.set0 (.int .i64 x1)).set1 (.int .i64 y1)); (replace XB := (XB.setCell (p := ⟨kk, 0, none⟩) hkk (.int .i64 x1)).setCell (p := ⟨kk, 1, none⟩) hkk (.int .i64 y1))
      refine hK.out _ _ ?_ (fun hHeld => ?_)
      · first | exact SK.out _ XB | exact SK.out _ (Below.drew (Below.refl _ _))
      clear hK K
      (try simp only [Act.put, List.setIfInBounds_toArray, List.set_cons_zero, List.set_cons_succ])
      refine wpAnyH_take (i := 10) (v := ?_) (by rw [List.getElem?_toArray]; rfl) (by kernel_rfl) (by kernel_rfl) (by kernel_rfl) (by intro _ _ _ h; exact h) (Or.inl ⟨by rfl, ?_⟩) (by assumption) ?_
      rotate_left
      · (intro w hSw; (try dsimp only at hSw); go_simp; all_goals with_reducible rfl)
      (try simp only [Act.put, List.setIfInBounds_toArray, List.set_cons_zero, List.set_cons_succ])
      refine wpAnyH_done (by kernel_rfl) ?_ _
      (try clear kz0 kz1 kz2 kz3 kz4)
      (try clear K4)
      generalize (vx.setCell ⟨kk, 0, none⟩ (.int .i64 x1)).setCell ⟨kk, 1, none⟩ (.int .i64 y1) = vz at *
      go_wp2_with fail
      go_meet
      case rel => exact ⟨_, rfl, hkk, KP, XB⟩
  case rest =>
    obtain ⟨k1, rfl, hk1, K1, XB⟩ := hcut
    clear SK C1
    have d11 : k1 ≠ j1 := by have := R.1; omega
    have d12 : k1 ≠ j2 := by have := T.1; omega
    replace D := D.below XB
    replace R := R.below XB
    replace T := T.below XB
    replace E := E.below XB
    replace B := B.trans (XB.mono B.size)
    clear XB hk1
    generalize wc = v4 at *
    have SK : Hid (∀ w', Below v4.heap.size v4 w' → (w'.cell? ⟨w.heap.size, 0, none⟩ = some (.int .i64 n) ∧ w'.cell? ⟨w.heap.size, 1, none⟩ = some (.int .i64 d))) := fun w' hw => ⟨(D.below hw).2.1, (D.below hw).2.2.1⟩
    go_upto_region 4 with fail
    go_cut [7] (fun s5 wx => ∃ k : Nat, s5 = .pointer (some ⟨k, 0, none⟩) ∧ v4.heap.size ≤ k ∧ Bx2 wx k (.int .i64 x2) (.int .i64 y2) ∧ Below v4.heap.size v4 wx)
    case first =>
      refine wp_region_held_drew (S := (fun w' => w'.cell? ⟨w.heap.size, 0, none⟩ = some (.int .i64 n) ∧ w'.cell? ⟨w.heap.size, 1, none⟩ = some (.int .i64 d))) (by kernel_rfl) ?_ (fun hHeld => ?_)
      · first | exact SK.out _ XB | exact SK.out _ (Below.drew (Below.refl _ _))
      have XB : Below v4.heap.size v4 v4.drew := Below.drew (Below.refl _ _)
      generalize v4.drew = vx at *
      refine wpAnyH_take (i := 0) (v := ?_) (by rw [List.getElem?_toArray]; rfl) (by kernel_rfl) (by kernel_rfl) (by kernel_rfl) (by intro _ _ _ h; exact h) (Or.inl ⟨by rfl, ?_⟩) (by assumption) ?_
      rotate_left
      · (intro w hSw; (try dsimp only at hSw); go_simp; all_goals with_reducible rfl)
      (try simp only [Act.put, List.setIfInBounds_toArray, List.set_cons_zero, List.set_cons_succ])
      refine wpAnyH_take (i := 1) (v := ?_) (by rw [List.getElem?_toArray]; rfl) (by kernel_rfl) (by kernel_rfl) (by kernel_rfl) (by intro _ _ _ h; exact h) (Or.inl ⟨by rfl, ?_⟩) (by assumption) ?_
      rotate_left
      · (intro w hSw; (try dsimp only at hSw); go_simp; all_goals with_reducible rfl)
      (try simp only [Act.put, List.setIfInBounds_toArray, List.set_cons_zero, List.set_cons_succ])
      refine wpAnyH_take (i := 2) (v := ?_) (by rw [List.getElem?_toArray]; rfl) (by kernel_rfl) (by kernel_rfl) (by kernel_rfl) (by intro _ _ _ h; exact h) (Or.inl ⟨by rfl, ?_⟩) (by assumption) ?_
      rotate_left
      · (intro w hSw; (try dsimp only at hSw); go_simp; all_goals with_reducible rfl)
      (try simp only [Act.put, List.setIfInBounds_toArray, List.set_cons_zero, List.set_cons_succ])
      refine wpAnyH_ready (rs := [3, 8]) (by kernel_rfl) (by simp) ?_
      refine (AllReadyH.cons (by rw [List.getElem?_toArray]; rfl) (fun K hK => ?_) (AllReadyH.cons (by rw [List.getElem?_toArray]; rfl) (fun K hK => ?_) AllReadyH.nil))
      · go_simp
        refine (slowest_any n d _ h1).mono ?_; rintro ee vx ⟨rfl, hbl⟩; (try clear kz0 kz1 kz2 kz3 kz4); (replace XB := XB.trans (hbl.mono XB.size)); (try (replace K4 := K4.below hbl)); clear hbl; (try (obtain ⟨kz0, kz1, kz2, kz3, kz4⟩ := id K4))
        (try go_wp2_with fail)
        refine hK.out _ _ ?_ (fun hHeld => ?_)
        · first | exact SK.out _ XB | exact SK.out _ (Below.drew (Below.refl _ _))
        clear hK K
        (try simp only [Act.put, List.setIfInBounds_toArray, List.set_cons_zero, List.set_cons_succ])
        refine wpAnyH_ready (rs := [4, 8]) (by kernel_rfl) (by simp) ?_
        refine (AllReadyH.cons (by rw [List.getElem?_toArray]; rfl) (fun K hK => ?_) (AllReadyH.cons (by rw [List.getElem?_toArray]; rfl) (fun K hK => ?_) AllReadyH.nil))
        · go_simp
          refine (C2 _ (E.below XB)).mono ?_; rintro ee vx ⟨rfl, hbl⟩; (try clear kz0 kz1 kz2 kz3 kz4); (replace XB := XB.trans (hbl.mono XB.size)); (try (replace K4 := K4.below hbl)); clear hbl; (try (obtain ⟨kz0, kz1, kz2, kz3, kz4⟩ := id K4))
          (try go_wp2_with fail)
          refine hK.out _ _ ?_ (fun hHeld => ?_)
          · first | exact SK.out _ XB | exact SK.out _ (Below.drew (Below.refl _ _))
          clear hK K
          (try simp only [Act.put, List.setIfInBounds_toArray, List.set_cons_zero, List.set_cons_succ])
          refine wpAnyH_take (i := 5) (v := ?_) (by rw [List.getElem?_toArray]; rfl) (by kernel_rfl) (by kernel_rfl) (by kernel_rfl) (by intro _ _ _ h; exact h) (Or.inl ⟨by rfl, ?_⟩) (by assumption) ?_
          rotate_left
          · (intro w hSw; (try dsimp only at hSw); go_simp; all_goals with_reducible rfl)
          (try simp only [Act.put, List.setIfInBounds_toArray, List.set_cons_zero, List.set_cons_succ])
          refine wpAnyH_take (i := 6) (v := ?_) (by rw [List.getElem?_toArray]; rfl) (by kernel_rfl) (by kernel_rfl) (by kernel_rfl) (by intro _ _ _ h; exact h) (Or.inl ⟨by rfl, ?_⟩) (by assumption) ?_
          rotate_left
          · (intro w hSw; (try dsimp only at hSw); go_simp; all_goals with_reducible rfl)
          (try simp only [Act.put, List.setIfInBounds_toArray, List.set_cons_zero, List.set_cons_succ])
          refine wpAnyH_take (i := 7) (v := ?_) (by rw [List.getElem?_toArray]; rfl) (by kernel_rfl) (by kernel_rfl) (by kernel_rfl) (by intro _ _ _ h; exact h) (Or.inl ⟨by rfl, ?_⟩) (by assumption) ?_
          rotate_left
          · (intro w hSw; (try dsimp only at hSw); go_simp; all_goals with_reducible rfl)
          (try simp only [Act.put, List.setIfInBounds_toArray, List.set_cons_zero, List.set_cons_succ])
          refine wpAnyH_ready (rs := [8]) (by kernel_rfl) (by simp) ?_
          refine (AllReadyH.cons (by rw [List.getElem?_toArray]; rfl) (fun K hK => ?_) AllReadyH.nil)
          go_simp
          (have K4 := Bx2.new vx (.int .i64 0) (.int .i64 0) 27); (have hkk := XB.size); (replace XB := XB.trans ((Below.nw vx (.cells #[.int .i64 0, .int .i64 0] 27)).mono XB.size)); (generalize vx.heap.size = kk at *); (generalize vx.alloc (.cells #[.int .i64 0, .int .i64 0] 27) = vx at *); (try (obtain ⟨kz0, kz1, kz2, kz3, kz4⟩ := id K4))
          refine hK.out _ _ ?_ (fun hHeld => ?_)
          · first | exact SK.out _ XB | exact SK.out _ (Below.drew (Below.refl _ _))
          clear hK K
          (try simp only [Act.put, List.setIfInBounds_toArray, List.set_cons_zero, List.set_cons_succ])
          refine wpAnyH_ready (rs := [9]) (by kernel_rfl) (by simp) ?_
          refine (AllReadyH.cons (by rw [List.getElem?_toArray]; rfl) (fun K hK => ?_) AllReadyH.nil)
          go_simp
          (have KP := (K4.set0 (.int .i64 x2)).set1 (.int .i64 y2)); (replace XB := (XB.setCell (p := ⟨kk, 0, none⟩) hkk (.int .i64 x2)).setCell (p := ⟨kk, 1, none⟩) hkk (.int .i64 y2))
          refine hK.out _ _ ?_ (fun hHeld => ?_)
          · first | exact SK.out _ XB | exact SK.out _ (Below.drew (Below.refl _ _))
          clear hK K
          (try simp only [Act.put, List.setIfInBounds_toArray, List.set_cons_zero, List.set_cons_succ])
          refine wpAnyH_take (i := 10) (v := ?_) (by rw [List.getElem?_toArray]; rfl) (by kernel_rfl) (by kernel_rfl) (by kernel_rfl) (by intro _ _ _ h; exact h) (Or.inl ⟨by rfl, ?_⟩) (by assumption) ?_
          rotate_left
          · (intro w hSw; (try dsimp only at hSw); go_simp; all_goals with_reducible rfl)
          (try simp only [Act.put, List.setIfInBounds_toArray, List.set_cons_zero, List.set_cons_succ])
          refine wpAnyH_done (by kernel_rfl) ?_ _
          (try clear kz0 kz1 kz2 kz3 kz4)
          (try clear K4)
          generalize (vx.setCell ⟨kk, 0, none⟩ (.int .i64 x2)).setCell ⟨kk, 1, none⟩ (.int .i64 y2) = vz at *
          go_wp2_with fail
          go_meet
          case rel => exact ⟨_, rfl, hkk, KP, XB⟩
        · go_simp
          (have K4 := Bx2.new vx (.int .i64 0) (.int .i64 0) 27); (have hkk := XB.size); (replace XB := XB.trans ((Below.nw vx (.cells #[.int .i64 0, .int .i64 0] 27)).mono XB.size)); (generalize vx.heap.size = kk at *); (generalize vx.alloc (.cells #[.int .i64 0, .int .i64 0] 27) = vx at *); (try (obtain ⟨kz0, kz1, kz2, kz3, kz4⟩ := id K4))
          refine hK.out _ _ ?_ (fun hHeld => ?_)
          · first | exact SK.out _ XB | exact SK.out _ (Below.drew (Below.refl _ _))
          clear hK K
          (try simp only [Act.put, List.setIfInBounds_toArray, List.set_cons_zero, List.set_cons_succ])
          refine wpAnyH_ready (rs := [4]) (by kernel_rfl) (by simp) ?_
          refine (AllReadyH.cons (by rw [List.getElem?_toArray]; rfl) (fun K hK => ?_) AllReadyH.nil)
          go_simp
          refine (C2 _ (E.below XB)).mono ?_; rintro ee vx ⟨rfl, hbl⟩; (try clear kz0 kz1 kz2 kz3 kz4); (replace XB := XB.trans (hbl.mono XB.size)); (try (replace K4 := K4.below hbl)); clear hbl; (try (obtain ⟨kz0, kz1, kz2, kz3, kz4⟩ := id K4))
          (try go_wp2_with fail)
          refine hK.out _ _ ?_ (fun hHeld => ?_)
          · first | exact SK.out _ XB | exact SK.out _ (Below.drew (Below.refl _ _))
          clear hK K
          (try simp only [Act.put, List.setIfInBounds_toArray, List.set_cons_zero, List.set_cons_succ])
          refine wpAnyH_take (i := 5) (v := ?_) (by rw [List.getElem?_toArray]; rfl) (by kernel_rfl) (by kernel_rfl) (by kernel_rfl) (by intro _ _ _ h; exact h) (Or.inl ⟨by rfl, ?_⟩) (by assumption) ?_
          rotate_left
          · (intro w hSw; (try dsimp only at hSw); go_simp; all_goals with_reducible rfl)
          (try simp only [Act.put, List.setIfInBounds_toArray, List.set_cons_zero, List.set_cons_succ])
          refine wpAnyH_take (i := 6) (v := ?_) (by rw [List.getElem?_toArray]; rfl) (by kernel_rfl) (by kernel_rfl) (by kernel_rfl) (by intro _ _ _ h; exact h) (Or.inl ⟨by rfl, ?_⟩) (by assumption) ?_
          rotate_left
          · (intro w hSw; (try dsimp only at hSw); go_simp; all_goals with_reducible rfl)
          (try simp only [Act.put, List.setIfInBounds_toArray, List.set_cons_zero, List.set_cons_succ])
          refine wpAnyH_take (i := 7) (v := ?_) (by rw [List.getElem?_toArray]; rfl) (by kernel_rfl) (by kernel_rfl) (by kernel_rfl) (by intro _ _ _ h; exact h) (Or.inl ⟨by rfl, ?_⟩) (by assumption) ?_
          rotate_left
          · (intro w hSw; (try dsimp only at hSw); go_simp; all_goals with_reducible rfl)
          (try simp only [Act.put, List.setIfInBounds_toArray, List.set_cons_zero, List.set_cons_succ])
          refine wpAnyH_ready (rs := [9]) (by kernel_rfl) (by simp) ?_
          refine (AllReadyH.cons (by rw [List.getElem?_toArray]; rfl) (fun K hK => ?_) AllReadyH.nil)
          go_simp
          (have KP := (K4.set0 (.int .i64 x2)).set1 (.int .i64 y2)); (replace XB := (XB.setCell (p := ⟨kk, 0, none⟩) hkk (.int .i64 x2)).setCell (p := ⟨kk, 1, none⟩) hkk (.int .i64 y2))
          refine hK.out _ _ ?_ (fun hHeld => ?_)
          · first | exact SK.out _ XB | exact SK.out _ (Below.drew (Below.refl _ _))
          clear hK K
          (try simp only [Act.put, List.setIfInBounds_toArray, List.set_cons_zero, List.set_cons_succ])
          refine wpAnyH_take (i := 10) (v := ?_) (by rw [List.getElem?_toArray]; rfl) (by kernel_rfl) (by kernel_rfl) (by kernel_rfl) (by intro _ _ _ h; exact h) (Or.inl ⟨by rfl, ?_⟩) (by assumption) ?_
          rotate_left
          · (intro w hSw; (try dsimp only at hSw); go_simp; all_goals with_reducible rfl)
          (try simp only [Act.put, List.setIfInBounds_toArray, List.set_cons_zero, List.set_cons_succ])
          refine wpAnyH_done (by kernel_rfl) ?_ _
          (try clear kz0 kz1 kz2 kz3 kz4)
          (try clear K4)
          generalize (vx.setCell ⟨kk, 0, none⟩ (.int .i64 x2)).setCell ⟨kk, 1, none⟩ (.int .i64 y2) = vz at *
          go_wp2_with fail
          go_meet
          case rel => exact ⟨_, rfl, hkk, KP, XB⟩
      · go_simp
        (have K4 := Bx2.new vx (.int .i64 0) (.int .i64 0) 27); (have hkk := XB.size); (replace XB := XB.trans ((Below.nw vx (.cells #[.int .i64 0, .int .i64 0] 27)).mono XB.size)); (generalize vx.heap.size = kk at *); (generalize vx.alloc (.cells #[.int .i64 0, .int .i64 0] 27) = vx at *); (try (obtain ⟨kz0, kz1, kz2, kz3, kz4⟩ := id K4))
        refine hK.out _ _ ?_ (fun hHeld => ?_)
        · first | exact SK.out _ XB | exact SK.out _ (Below.drew (Below.refl _ _))
        clear hK K
        (try simp only [Act.put, List.setIfInBounds_toArray, List.set_cons_zero, List.set_cons_succ])
        refine wpAnyH_ready (rs := [3]) (by kernel_rfl) (by simp) ?_
        refine (AllReadyH.cons (by rw [List.getElem?_toArray]; rfl) (fun K hK => ?_) AllReadyH.nil)
        go_simp
        refine (slowest_any n d _ h1).mono ?_; rintro ee vx ⟨rfl, hbl⟩; (try clear kz0 kz1 kz2 kz3 kz4); (replace XB := XB.trans (hbl.mono XB.size)); (try (replace K4 := K4.below hbl)); clear hbl; (try (obtain ⟨kz0, kz1, kz2, kz3, kz4⟩ := id K4))
        (try go_wp2_with fail)
        refine hK.out _ _ ?_ (fun hHeld => ?_)
        · first | exact SK.out _ XB | exact SK.out _ (Below.drew (Below.refl _ _))
        clear hK K
        (try simp only [Act.put, List.setIfInBounds_toArray, List.set_cons_zero, List.set_cons_succ])
        refine wpAnyH_ready (rs := [4]) (by kernel_rfl) (by simp) ?_
        refine (AllReadyH.cons (by rw [List.getElem?_toArray]; rfl) (fun K hK => ?_) AllReadyH.nil)
        go_simp
        refine (C2 _ (E.below XB)).mono ?_; rintro ee vx ⟨rfl, hbl⟩; (try clear kz0 kz1 kz2 kz3 kz4); (replace XB := XB.trans (hbl.mono XB.size)); (try (replace K4 := K4.below hbl)); clear hbl; (try (obtain ⟨kz0, kz1, kz2, kz3, kz4⟩ := id K4))
        (try go_wp2_with fail)
        refine hK.out _ _ ?_ (fun hHeld => ?_)
        · first | exact SK.out _ XB | exact SK.out _ (Below.drew (Below.refl _ _))
        clear hK K
        (try simp only [Act.put, List.setIfInBounds_toArray, List.set_cons_zero, List.set_cons_succ])
        refine wpAnyH_take (i := 5) (v := ?_) (by rw [List.getElem?_toArray]; rfl) (by kernel_rfl) (by kernel_rfl) (by kernel_rfl) (by intro _ _ _ h; exact h) (Or.inl ⟨by rfl, ?_⟩) (by assumption) ?_
        rotate_left
        · (intro w hSw; (try dsimp only at hSw); go_simp; all_goals with_reducible rfl)
        (try simp only [Act.put, List.setIfInBounds_toArray, List.set_cons_zero, List.set_cons_succ])
        refine wpAnyH_take (i := 6) (v := ?_) (by rw [List.getElem?_toArray]; rfl) (by kernel_rfl) (by kernel_rfl) (by kernel_rfl) (by intro _ _ _ h; exact h) (Or.inl ⟨by rfl, ?_⟩) (by assumption) ?_
        rotate_left
        · (intro w hSw; (try dsimp only at hSw); go_simp; all_goals with_reducible rfl)
        (try simp only [Act.put, List.setIfInBounds_toArray, List.set_cons_zero, List.set_cons_succ])
        refine wpAnyH_take (i := 7) (v := ?_) (by rw [List.getElem?_toArray]; rfl) (by kernel_rfl) (by kernel_rfl) (by kernel_rfl) (by intro _ _ _ h; exact h) (Or.inl ⟨by rfl, ?_⟩) (by assumption) ?_
        rotate_left
        · (intro w hSw; (try dsimp only at hSw); go_simp; all_goals with_reducible rfl)
        (try simp only [Act.put, List.setIfInBounds_toArray, List.set_cons_zero, List.set_cons_succ])
        refine wpAnyH_ready (rs := [9]) (by kernel_rfl) (by simp) ?_
        refine (AllReadyH.cons (by rw [List.getElem?_toArray]; rfl) (fun K hK => ?_) AllReadyH.nil)
        go_simp
        (have KP := (K4.set0 (.int .i64 x2)).set1 (.int .i64 y2)); (replace XB := (XB.setCell (p := ⟨kk, 0, none⟩) hkk (.int .i64 x2)).setCell (p := ⟨kk, 1, none⟩) hkk (.int .i64 y2))
        refine hK.out _ _ ?_ (fun hHeld => ?_)
        · first | exact SK.out _ XB | exact SK.out _ (Below.drew (Below.refl _ _))
        clear hK K
        (try simp only [Act.put, List.setIfInBounds_toArray, List.set_cons_zero, List.set_cons_succ])
        refine wpAnyH_take (i := 10) (v := ?_) (by rw [List.getElem?_toArray]; rfl) (by kernel_rfl) (by kernel_rfl) (by kernel_rfl) (by intro _ _ _ h; exact h) (Or.inl ⟨by rfl, ?_⟩) (by assumption) ?_
        rotate_left
        · (intro w hSw; (try dsimp only at hSw); go_simp; all_goals with_reducible rfl)
        (try simp only [Act.put, List.setIfInBounds_toArray, List.set_cons_zero, List.set_cons_succ])
        refine wpAnyH_done (by kernel_rfl) ?_ _
        (try clear kz0 kz1 kz2 kz3 kz4)
        (try clear K4)
        generalize (vx.setCell ⟨kk, 0, none⟩ (.int .i64 x2)).setCell ⟨kk, 1, none⟩ (.int .i64 y2) = vz at *
        go_wp2_with fail
        go_meet
        case rel => exact ⟨_, rfl, hkk, KP, XB⟩
    case rest =>
      obtain ⟨k2, rfl, hk2, K2, XB⟩ := hcut
      clear SK C2
      have d21 : k2 ≠ j1 := by have := R.1; omega
      have d22 : k2 ≠ j2 := by have := T.1; omega
      replace K1 := K1.below XB
      replace R := R.below XB
      replace T := T.below XB
      replace B := B.trans (XB.mono B.size)
      clear XB hk2 D E
      generalize wc = v9 at *
      -- d11 .. : the two boxes lie elsewhere than the results
      obtain ⟨p0, p1, p2, p3, p4⟩ := id K1
      obtain ⟨q0, q1, q2, q3, q4⟩ := id K2
      have RR := (R.set0 (.int .i64 x1)).set1 (.int .i64 y1)
      have TT := ((T.setO hne 0 (.int .i64 x1)).setO hne 1 (.int .i64 y1))
      have RR2 := ((RR.setO (Ne.symm hne) 0 (.int .i64 x2)).setO (Ne.symm hne) 1 (.int .i64 y2))
      have TT2 := (TT.set0 (.int .i64 x2)).set1 (.int .i64 y2)
      have BB := two_in B hj1 hj2 (.int .i64 x1) (.int .i64 y1) (.int .i64 x2) (.int .i64 y2)
      obtain ⟨r0, r1, r2, r3, r4⟩ := id R
      obtain ⟨t0, t1, t2, t3, t4⟩ := id T
      go_upto_region 5 with fail
      refine wp_region_held_drew (S := (fun w' => w'.cell? ⟨k1, 0, none⟩ = some (.int .i64 x1) ∧ w'.cell? ⟨k1, 1, none⟩ = some (.int .i64 y1) ∧ w'.cell? ⟨k2, 0, none⟩ = some (.int .i64 x2) ∧ w'.cell? ⟨k2, 1, none⟩ = some (.int .i64 y2))) (by kernel_rfl) ?_ (fun hHeld => ?_)
      · first | exact ⟨p1, p2, q1, q2⟩ | exact ⟨(keepC (keepC p1 d11) d11), (keepC (keepC p2 d11) d11), (keepC (keepC q1 d21) d21), (keepC (keepC q2 d21) d21)⟩ | exact ⟨(keepC (keepC (keepC (keepC p1 d11) d11) d12) d12), (keepC (keepC (keepC (keepC p2 d11) d11) d12) d12), (keepC (keepC (keepC (keepC q1 d21) d21) d22) d22), (keepC (keepC (keepC (keepC q2 d21) d21) d22) d22)⟩
      refine wpAnyH_take (i := 0) (v := ?_) (by rw [List.getElem?_toArray]; rfl) (by kernel_rfl) (by kernel_rfl) (by kernel_rfl) (by intro _ _ _ h; exact h) (Or.inl ⟨by rfl, ?_⟩) (by assumption) ?_
      rotate_left
      · (intro w hSw; (try dsimp only at hSw); go_simp; all_goals with_reducible rfl)
      (try simp only [Act.put, List.setIfInBounds_toArray, List.set_cons_zero, List.set_cons_succ])
      refine wpAnyH_take (i := 1) (v := ?_) (by rw [List.getElem?_toArray]; rfl) (by kernel_rfl) (by kernel_rfl) (by kernel_rfl) (by intro _ _ _ h; exact h) (Or.inl ⟨by rfl, ?_⟩) (by assumption) ?_
      rotate_left
      · (intro w hSw; (try dsimp only at hSw); go_simp; all_goals with_reducible rfl)
      (try simp only [Act.put, List.setIfInBounds_toArray, List.set_cons_zero, List.set_cons_succ])
      refine wpAnyH_ready (rs := [2]) (by kernel_rfl) (by simp) ?_
      refine AllReadyH.cons (by rw [List.getElem?_toArray]; rfl) (fun K hK => ?_) AllReadyH.nil
      go_simp
      refine hK.out _ _ ?_ (fun hHeld => ?_)
      · first | exact ⟨p1, p2, q1, q2⟩ | exact ⟨(keepC (keepC p1 d11) d11), (keepC (keepC p2 d11) d11), (keepC (keepC q1 d21) d21), (keepC (keepC q2 d21) d21)⟩ | exact ⟨(keepC (keepC (keepC (keepC p1 d11) d11) d12) d12), (keepC (keepC (keepC (keepC p2 d11) d11) d12) d12), (keepC (keepC (keepC (keepC q1 d21) d21) d22) d22), (keepC (keepC (keepC (keepC q2 d21) d21) d22) d22)⟩
      clear hK K
      (try simp only [Act.put, List.setIfInBounds_toArray, List.set_cons_zero, List.set_cons_succ])
      refine wpAnyH_ready (rs := [3]) (by kernel_rfl) (by simp) ?_
      refine AllReadyH.cons (by rw [List.getElem?_toArray]; rfl) (fun K hK => ?_) AllReadyH.nil
      go_simp
      refine hK.out _ _ ?_ (fun hHeld => ?_)
      · first | exact ⟨p1, p2, q1, q2⟩ | exact ⟨(keepC (keepC p1 d11) d11), (keepC (keepC p2 d11) d11), (keepC (keepC q1 d21) d21), (keepC (keepC q2 d21) d21)⟩ | exact ⟨(keepC (keepC (keepC (keepC p1 d11) d11) d12) d12), (keepC (keepC (keepC (keepC p2 d11) d11) d12) d12), (keepC (keepC (keepC (keepC q1 d21) d21) d22) d22), (keepC (keepC (keepC (keepC q2 d21) d21) d22) d22)⟩
      clear hK K
      (try simp only [Act.put, List.setIfInBounds_toArray, List.set_cons_zero, List.set_cons_succ])
      refine wpAnyH_take (i := 4) (v := ?_) (by rw [List.getElem?_toArray]; rfl) (by kernel_rfl) (by kernel_rfl) (by kernel_rfl) (by intro _ _ _ h; exact h) (Or.inl ⟨by rfl, ?_⟩) (by assumption) ?_
      rotate_left
      · (intro w hSw; (try dsimp only at hSw); go_simp; all_goals with_reducible rfl)
      (try simp only [Act.put, List.setIfInBounds_toArray, List.set_cons_zero, List.set_cons_succ])
      refine wpAnyH_done (by kernel_rfl) ?_ _
      go_wp2_with fail
      clear r0 r1 r2 r3 r4 t0 t1 t2 t3 t4 p0 p1 p2 p3 p4 q0 q1 q2 q3 q4 R T RR TT K1 K2 B
      generalize (((v9.setCell ⟨j1, 0, none⟩ (.int .i64 x1)).setCell ⟨j1, 1, none⟩ (.int .i64 y1)).setCell ⟨j2, 0, none⟩ (.int .i64 x2)).setCell ⟨j2, 1, none⟩ (.int .i64 y2) = v10 at *
      obtain ⟨r0, r1, r2, r3, r4⟩ := id RR2
      obtain ⟨t0, t1, t2, t3, t4⟩ := id TT2
      exact bodyPost_ret (v := (.tuple #[.agg #[.int .i64 x1, .int .i64 y1], .agg #[.int .i64 x2, .int .i64 y2], .bool true])) (by simp (maxDischargeDepth := 6) [results, Tryd.results16, go_sem, *]) rfl ⟨rfl, Below.drew BB⟩
end Go.Proofs.YtblappilppfkiaaDoor
namespace Go.Proofs.YtblappilppfkiaaDoor
open Go.RowKit
set_option linter.unusedVariables false
set_option maxRecDepth 100000 in
set_option maxHeartbeats 16000000 in
theorem implRateOf_any (al ah ca bl bh cb : Int) (u : Addr) (w : World) (E : Er w 0 u) : Calls Tryd.prog 42 #[.agg #[.int .i64 al, .int .i64 ah], .int .i64 ca, .agg #[.int .i64 bl, .int .i64 bh], .int .i64 cb] w fun e w' => e = .returned (.tuple #[.agg #[.int .i64 (roX al ah ca bl bh cb), .int .i64 (roY al ah ca bl bh cb)], .agg #[.int .i64 (roZ al ah ca bl bh cb), .int .i64 (roU al ah ca bl bh cb)], .bool (roB al ah ca bl bh cb)]) ∧ Below w.heap.size w w' := by
  have A0 := Below.nw w (.cells #[.int .i64 al, .int .i64 ah] 49)
  have A1 := Below.nw (w.alloc (.cells #[.int .i64 al, .int .i64 ah] 49)) (.cells #[.int .i64 bl, .int .i64 bh] 49)
  have A2 := Below.nw ((w.alloc (.cells #[.int .i64 al, .int .i64 ah] 49)).alloc (.cells #[.int .i64 bl, .int .i64 bh] 49)) (.cells #[.int .i64 0, .int .i64 0] 27)
  have A3 := Below.nw (((w.alloc (.cells #[.int .i64 al, .int .i64 ah] 49)).alloc (.cells #[.int .i64 bl, .int .i64 bh] 49)).alloc (.cells #[.int .i64 0, .int .i64 0] 27)) (.cells #[.int .i64 0, .int .i64 0] 27)
  have P := (((Bx2.new w (.int .i64 al) (.int .i64 ah) 49).below A1).below A2).below A3
  have Q := ((Bx2.new (w.alloc (.cells #[.int .i64 al, .int .i64 ah] 49)) (.int .i64 bl) (.int .i64 bh) 49).below A2).below A3
  have R := (Bx2.new ((w.alloc (.cells #[.int .i64 al, .int .i64 ah] 49)).alloc (.cells #[.int .i64 bl, .int .i64 bh] 49)) (.int .i64 0) (.int .i64 0) 27).below A3
  have T := Bx2.new (((w.alloc (.cells #[.int .i64 al, .int .i64 ah] 49)).alloc (.cells #[.int .i64 bl, .int .i64 bh] 49)).alloc (.cells #[.int .i64 0, .int .i64 0] 27)) (.int .i64 0) (.int .i64 0) 27
  have B := ((A0.trans (A1.mono A0.size)).trans (A2.mono (A0.trans (A1.mono A0.size)).size)).trans (A3.mono ((A0.trans (A1.mono A0.size)).trans (A2.mono (A0.trans (A1.mono A0.size)).size)).size)
  simp only [World.size_alloc] at Q R T
  clear A0 A1 A2 A3
  have hj1 : w.heap.size ≤ w.heap.size + 1 + 1 := by omega
  have hj2 : w.heap.size ≤ w.heap.size + 1 + 1 + 1 := by omega
  have hne : w.heap.size + 1 + 1 ≠ w.heap.size + 1 + 1 + 1 := by omega
  have hne' := Ne.symm hne
  replace E := E.below B
  cases hB : roB al ah ca bl bh cb
  · obtain ⟨e1, e2, e3, e4⟩ := ro_f hB
    rw [e1, e2, e3, e4]
    clear e1 e2 e3 e4
    cases hII : okII al ah bl bh
    · go_enter Tryd.func42, Tryd.ntmps42; go_upto_region 1 with fail; generalize ((((w.alloc (.cells #[.int .i64 al, .int .i64 ah] 49)).alloc (.cells #[.int .i64 bl, .int .i64 bh] 49)).alloc (.cells #[.int .i64 0, .int .i64 0] 27)).alloc (.cells #[.int .i64 0, .int .i64 0] 27)) = v at *; generalize w.heap.size + 1 + 1 + 1 = j2 at *; generalize w.heap.size + 1 + 1 = j1 at *; generalize w.heap.size + 1 = jb at *; obtain ⟨n0, n1, n2, n3, n4⟩ := id P; obtain ⟨m0, m1, m2, m3, m4⟩ := id Q; go_wp2_with fail; refine (bothOk_any al ah bl bh v).mono ?_; rintro e v2 ⟨rfl, hbl⟩; rw [hII]; clear n0 n1 n2 n3 n4 m0 m1 m2 m3 m4; replace P := P.below hbl; replace Q := Q.below hbl; replace R := R.below hbl; replace T := T.below hbl; replace E := E.below hbl; replace B := B.trans (hbl.mono B.size); clear hbl; obtain ⟨n0, n1, n2, n3, n4⟩ := id P; obtain ⟨m0, m1, m2, m3, m4⟩ := id Q; obtain ⟨r0, r1, r2, r3, r4⟩ := id R; obtain ⟨t0, t1, t2, t3, t4⟩ := id T; go_wp2_with fail; exact bodyPost_ret (v := (.tuple #[.agg #[.int .i64 0, .int .i64 0], .agg #[.int .i64 0, .int .i64 0], .bool false])) (by simp (maxDischargeDepth := 6) [results, Tryd.results42, go_sem, *]) rfl ⟨rfl, two_in B hj1 hj2 _ _ _ _⟩
    have hB' : ¬ (0 ≤ ca ∧ ca < cb ∧ cb ≤ 1000000000000 ∧ al ≤ bh) := by
      obtain ⟨k1, k2⟩ := okII_t hII
      rw [roB, k1, k2] at hB
      exact of_decide_eq_false hB
    clear hB
    by_cases c1 : ca < 0
    · clear hB'
      go_enter Tryd.func42, Tryd.ntmps42; go_upto_region 1 with fail; generalize ((((w.alloc (.cells #[.int .i64 al, .int .i64 ah] 49)).alloc (.cells #[.int .i64 bl, .int .i64 bh] 49)).alloc (.cells #[.int .i64 0, .int .i64 0] 27)).alloc (.cells #[.int .i64 0, .int .i64 0] 27)) = v at *; generalize w.heap.size + 1 + 1 + 1 = j2 at *; generalize w.heap.size + 1 + 1 = j1 at *; generalize w.heap.size + 1 = jb at *; obtain ⟨n0, n1, n2, n3, n4⟩ := id P; obtain ⟨m0, m1, m2, m3, m4⟩ := id Q; go_wp2_with fail; refine (bothOk_any al ah bl bh v).mono ?_; rintro e v2 ⟨rfl, hbl⟩; rw [hII]; clear n0 n1 n2 n3 n4 m0 m1 m2 m3 m4; replace P := P.below hbl; replace Q := Q.below hbl; replace R := R.below hbl; replace T := T.below hbl; replace E := E.below hbl; replace B := B.trans (hbl.mono B.size); clear hbl; obtain ⟨n0, n1, n2, n3, n4⟩ := id P; obtain ⟨m0, m1, m2, m3, m4⟩ := id Q; obtain ⟨r0, r1, r2, r3, r4⟩ := id R; obtain ⟨t0, t1, t2, t3, t4⟩ := id T; go_wp2_with fail; exact bodyPost_ret (v := (.tuple #[.agg #[.int .i64 0, .int .i64 0], .agg #[.int .i64 0, .int .i64 0], .bool false])) (by simp (maxDischargeDepth := 6) [results, Tryd.results42, go_sem, *]) rfl ⟨rfl, two_in B hj1 hj2 _ _ _ _⟩
    have c1' : decide (ca < 0) = false := decide_eq_false c1
    by_cases c2 : cb ≤ ca
    · clear hB' c1
      go_enter Tryd.func42, Tryd.ntmps42; go_upto_region 1 with fail; generalize ((((w.alloc (.cells #[.int .i64 al, .int .i64 ah] 49)).alloc (.cells #[.int .i64 bl, .int .i64 bh] 49)).alloc (.cells #[.int .i64 0, .int .i64 0] 27)).alloc (.cells #[.int .i64 0, .int .i64 0] 27)) = v at *; generalize w.heap.size + 1 + 1 + 1 = j2 at *; generalize w.heap.size + 1 + 1 = j1 at *; generalize w.heap.size + 1 = jb at *; obtain ⟨n0, n1, n2, n3, n4⟩ := id P; obtain ⟨m0, m1, m2, m3, m4⟩ := id Q; go_wp2_with fail; refine (bothOk_any al ah bl bh v).mono ?_; rintro e v2 ⟨rfl, hbl⟩; rw [hII]; clear n0 n1 n2 n3 n4 m0 m1 m2 m3 m4; replace P := P.below hbl; replace Q := Q.below hbl; replace R := R.below hbl; replace T := T.below hbl; replace E := E.below hbl; replace B := B.trans (hbl.mono B.size); clear hbl; obtain ⟨n0, n1, n2, n3, n4⟩ := id P; obtain ⟨m0, m1, m2, m3, m4⟩ := id Q; obtain ⟨r0, r1, r2, r3, r4⟩ := id R; obtain ⟨t0, t1, t2, t3, t4⟩ := id T; go_wp2_with fail; exact bodyPost_ret (v := (.tuple #[.agg #[.int .i64 0, .int .i64 0], .agg #[.int .i64 0, .int .i64 0], .bool false])) (by simp (maxDischargeDepth := 6) [results, Tryd.results42, go_sem, *]) rfl ⟨rfl, two_in B hj1 hj2 _ _ _ _⟩
    have c2' : decide (cb ≤ ca) = false := decide_eq_false c2
    by_cases c3 : 1000000000000 < cb
    · clear hB' c1 c2
      go_enter Tryd.func42, Tryd.ntmps42; go_upto_region 1 with fail; generalize ((((w.alloc (.cells #[.int .i64 al, .int .i64 ah] 49)).alloc (.cells #[.int .i64 bl, .int .i64 bh] 49)).alloc (.cells #[.int .i64 0, .int .i64 0] 27)).alloc (.cells #[.int .i64 0, .int .i64 0] 27)) = v at *; generalize w.heap.size + 1 + 1 + 1 = j2 at *; generalize w.heap.size + 1 + 1 = j1 at *; generalize w.heap.size + 1 = jb at *; obtain ⟨n0, n1, n2, n3, n4⟩ := id P; obtain ⟨m0, m1, m2, m3, m4⟩ := id Q; go_wp2_with fail; refine (bothOk_any al ah bl bh v).mono ?_; rintro e v2 ⟨rfl, hbl⟩; rw [hII]; clear n0 n1 n2 n3 n4 m0 m1 m2 m3 m4; replace P := P.below hbl; replace Q := Q.below hbl; replace R := R.below hbl; replace T := T.below hbl; replace E := E.below hbl; replace B := B.trans (hbl.mono B.size); clear hbl; obtain ⟨n0, n1, n2, n3, n4⟩ := id P; obtain ⟨m0, m1, m2, m3, m4⟩ := id Q; obtain ⟨r0, r1, r2, r3, r4⟩ := id R; obtain ⟨t0, t1, t2, t3, t4⟩ := id T; go_wp2_with fail; exact bodyPost_ret (v := (.tuple #[.agg #[.int .i64 0, .int .i64 0], .agg #[.int .i64 0, .int .i64 0], .bool false])) (by simp (maxDischargeDepth := 6) [results, Tryd.results42, go_sem, *]) rfl ⟨rfl, two_in B hj1 hj2 _ _ _ _⟩
    have c3' : decide (1000000000000 < cb) = false := decide_eq_false c3
    have c4 : bh < al := by omega
    clear hB' c1 c2 c3
    go_enter Tryd.func42, Tryd.ntmps42; go_upto_region 1 with fail; generalize ((((w.alloc (.cells #[.int .i64 al, .int .i64 ah] 49)).alloc (.cells #[.int .i64 bl, .int .i64 bh] 49)).alloc (.cells #[.int .i64 0, .int .i64 0] 27)).alloc (.cells #[.int .i64 0, .int .i64 0] 27)) = v at *; generalize w.heap.size + 1 + 1 + 1 = j2 at *; generalize w.heap.size + 1 + 1 = j1 at *; generalize w.heap.size + 1 = jb at *; obtain ⟨n0, n1, n2, n3, n4⟩ := id P; obtain ⟨m0, m1, m2, m3, m4⟩ := id Q; go_wp2_with fail; refine (bothOk_any al ah bl bh v).mono ?_; rintro e v2 ⟨rfl, hbl⟩; rw [hII]; clear n0 n1 n2 n3 n4 m0 m1 m2 m3 m4; replace P := P.below hbl; replace Q := Q.below hbl; replace R := R.below hbl; replace T := T.below hbl; replace E := E.below hbl; replace B := B.trans (hbl.mono B.size); clear hbl; obtain ⟨n0, n1, n2, n3, n4⟩ := id P; obtain ⟨m0, m1, m2, m3, m4⟩ := id Q; obtain ⟨r0, r1, r2, r3, r4⟩ := id R; obtain ⟨t0, t1, t2, t3, t4⟩ := id T; go_wp2_with fail; exact bodyPost_ret (v := (.tuple #[.agg #[.int .i64 0, .int .i64 0], .agg #[.int .i64 0, .int .i64 0], .bool false])) (by simp (maxDischargeDepth := 6) [results, Tryd.results42, go_sem, *]) rfl ⟨rfl, two_in B hj1 hj2 _ _ _ _⟩
  obtain ⟨e1, e2, e3, e4⟩ := ro_t hB
  rw [e1, e2, e3, e4]
  clear e1 e2 e3 e4
  have hB' := hB
  unfold roB at hB'
  simp only [Bool.and_eq_true, decide_eq_true_eq] at hB'
  obtain ⟨⟨k1, k2⟩, c1, c2, c3, c4⟩ := hB'
  clear hB
  have hII : okII al ah bl bh = true := by rw [okII, k1, k2]; rfl
  have ⟨a1, a2, a3⟩ := okI_t k1
  have ⟨b1, b2, b3⟩ := okI_t k2
  clear k1 k2
  have c1' : decide (ca < 0) = false := decide_eq_false (by omega)
  have c2' : decide (cb ≤ ca) = false := decide_eq_false (by omega)
  have c3' : decide (1000000000000 < cb) = false := decide_eq_false (by omega)
  have c4' : decide (bh < al) = false := decide_eq_false (by omega)
  have CR := fun w' => ranked_any 0 (bl - ah) w'
  generalize imn 0 (bl - ah) = mn at *
  generalize imx 0 (bl - ah) = mx at *
  have C1 := fun w' E' => lowest_any mx (cb - ca) u w' E'
  have C2 := fun w' E' => lowest_any (bh - al) (cb - ca) u w' E'
  generalize foX mx (cb - ca) = x1 at *
  generalize foY mx (cb - ca) = y1 at *
  generalize nfV u (foB mx (cb - ca)) = b1' at *
  generalize foX (bh - al) (cb - ca) = x2 at *
  generalize foY (bh - al) (cb - ca) = y2 at *
  generalize nfV u (foB (bh - al) (cb - ca)) = b2' at *
  go_enter Tryd.func42, Tryd.ntmps42; go_upto_region 1 with fail; generalize ((((w.alloc (.cells #[.int .i64 al, .int .i64 ah] 49)).alloc (.cells #[.int .i64 bl, .int .i64 bh] 49)).alloc (.cells #[.int .i64 0, .int .i64 0] 27)).alloc (.cells #[.int .i64 0, .int .i64 0] 27)) = v at *; generalize w.heap.size + 1 + 1 + 1 = j2 at *; generalize w.heap.size + 1 + 1 = j1 at *; generalize w.heap.size + 1 = jb at *
  obtain ⟨n0, n1, n2, n3, n4⟩ := id P; obtain ⟨m0, m1, m2, m3, m4⟩ := id Q
  go_wp2_with fail
  refine (bothOk_any al ah bl bh v).mono ?_
  rintro e v2 ⟨rfl, hbl⟩
  rw [hII]
  clear n0 n1 n2 n3 n4 m0 m1 m2 m3 m4
  replace P := P.below hbl; replace Q := Q.below hbl; replace R := R.below hbl; replace T := T.below hbl; replace E := E.below hbl; replace B := B.trans (hbl.mono B.size); clear hbl
  obtain ⟨n0, n1, n2, n3, n4⟩ := id P; obtain ⟨m0, m1, m2, m3, m4⟩ := id Q
  go_wp2_with fail
  refine (CR _).mono ?_
  rintro e w' ⟨rfl, rfl⟩
  go_wp2_with fail
  refine (C1 _ E).mono ?_
  rintro e v3 ⟨rfl, hbl⟩
  clear n0 n1 n2 n3 n4 m0 m1 m2 m3 m4
  replace P := P.below hbl; replace Q := Q.below hbl; replace R := R.below hbl; replace T := T.below hbl; replace E := E.below hbl; replace B := B.trans (hbl.mono B.size); clear hbl
  have K1 := Bx2.new v3 (.int .i64 x1) (.int .i64 y1) 27
  have d11 : v3.heap.size ≠ j1 := by have := R.1; omega
  have d12 : v3.heap.size ≠ j2 := by have := T.1; omega
  have hbl := Below.nw v3 (.cells #[.int .i64 x1, .int .i64 y1] 27)
  replace P := P.below hbl; replace Q := Q.below hbl; replace R := R.below hbl; replace T := T.below hbl; replace E := E.below hbl; replace B := B.trans (hbl.mono B.size); clear hbl
  go_upto_region 5 with fail
  generalize v3.alloc (.cells #[.int .i64 x1, .int .i64 y1] 27) = v5 at *
  generalize v3.heap.size = k1 at *
  obtain ⟨n0, n1, n2, n3, n4⟩ := id P; obtain ⟨m0, m1, m2, m3, m4⟩ := id Q
  go_wp2_with fail
  refine (C2 _ E).mono ?_
  rintro e v6 ⟨rfl, hbl⟩
  clear n0 n1 n2 n3 n4 m0 m1 m2 m3 m4
  replace K1 := K1.below hbl
  replace P := P.below hbl; replace Q := Q.below hbl; replace R := R.below hbl; replace T := T.below hbl; replace E := E.below hbl; replace B := B.trans (hbl.mono B.size); clear hbl
  have K2 := Bx2.new v6 (.int .i64 x2) (.int .i64 y2) 27
  have d21 : v6.heap.size ≠ j1 := by have := R.1; omega
  have d22 : v6.heap.size ≠ j2 := by have := T.1; omega
  have hbl := Below.nw v6 (.cells #[.int .i64 x2, .int .i64 y2] 27)
  replace K1 := K1.below hbl
  replace P := P.below hbl; replace Q := Q.below hbl; replace R := R.below hbl; replace T := T.below hbl; replace E := E.below hbl; replace B := B.trans (hbl.mono B.size); clear hbl
  clear CR C1 C2
  go_upto_region 6 with fail
  generalize v6.alloc (.cells #[.int .i64 x2, .int .i64 y2] 27) = v9 at *
  generalize v6.heap.size = k2 at *

  -- d11 .. : the two boxes lie elsewhere than the results
  obtain ⟨p0, p1, p2, p3, p4⟩ := id K1
  obtain ⟨q0, q1, q2, q3, q4⟩ := id K2
  have RR := (R.set0 (.int .i64 x1)).set1 (.int .i64 y1)
  have TT := ((T.setO hne 0 (.int .i64 x1)).setO hne 1 (.int .i64 y1))
  have RR2 := ((RR.setO (Ne.symm hne) 0 (.int .i64 x2)).setO (Ne.symm hne) 1 (.int .i64 y2))
  have TT2 := (TT.set0 (.int .i64 x2)).set1 (.int .i64 y2)
  have BB := two_in B hj1 hj2 (.int .i64 x1) (.int .i64 y1) (.int .i64 x2) (.int .i64 y2)
  obtain ⟨r0, r1, r2, r3, r4⟩ := id R
  obtain ⟨t0, t1, t2, t3, t4⟩ := id T
  refine wp_region_held_drew (S := (fun w' => w'.cell? ⟨k1, 0, none⟩ = some (.int .i64 x1) ∧ w'.cell? ⟨k1, 1, none⟩ = some (.int .i64 y1) ∧ w'.cell? ⟨k2, 0, none⟩ = some (.int .i64 x2) ∧ w'.cell? ⟨k2, 1, none⟩ = some (.int .i64 y2))) (by kernel_rfl) ?_ (fun hHeld => ?_)
  · first | exact ⟨p1, p2, q1, q2⟩ | exact ⟨(keepC (keepC p1 d11) d11), (keepC (keepC p2 d11) d11), (keepC (keepC q1 d21) d21), (keepC (keepC q2 d21) d21)⟩ | exact ⟨(keepC (keepC (keepC (keepC p1 d11) d11) d12) d12), (keepC (keepC (keepC (keepC p2 d11) d11) d12) d12), (keepC (keepC (keepC (keepC q1 d21) d21) d22) d22), (keepC (keepC (keepC (keepC q2 d21) d21) d22) d22)⟩
  refine wpAnyH_take (i := 0) (v := ?_) (by rw [List.getElem?_toArray]; rfl) (by kernel_rfl) (by kernel_rfl) (by kernel_rfl) (by intro _ _ _ h; exact h) (Or.inl ⟨by rfl, ?_⟩) (by assumption) ?_
  rotate_left
  · (intro w hSw; (try dsimp only at hSw); go_simp; all_goals with_reducible rfl)
  (try simp only [Act.put, List.setIfInBounds_toArray, List.set_cons_zero, List.set_cons_succ])
  refine wpAnyH_take (i := 1) (v := ?_) (by rw [List.getElem?_toArray]; rfl) (by kernel_rfl) (by kernel_rfl) (by kernel_rfl) (by intro _ _ _ h; exact h) (Or.inl ⟨by rfl, ?_⟩) (by assumption) ?_
  rotate_left
  · (intro w hSw; (try dsimp only at hSw); go_simp; all_goals with_reducible rfl)
  (try simp only [Act.put, List.setIfInBounds_toArray, List.set_cons_zero, List.set_cons_succ])
  refine wpAnyH_ready (rs := [2]) (by kernel_rfl) (by simp) ?_
  refine AllReadyH.cons (by rw [List.getElem?_toArray]; rfl) (fun K hK => ?_) AllReadyH.nil
  go_simp
  refine hK.out _ _ ?_ (fun hHeld => ?_)
  · first | exact ⟨p1, p2, q1, q2⟩ | exact ⟨(keepC (keepC p1 d11) d11), (keepC (keepC p2 d11) d11), (keepC (keepC q1 d21) d21), (keepC (keepC q2 d21) d21)⟩ | exact ⟨(keepC (keepC (keepC (keepC p1 d11) d11) d12) d12), (keepC (keepC (keepC (keepC p2 d11) d11) d12) d12), (keepC (keepC (keepC (keepC q1 d21) d21) d22) d22), (keepC (keepC (keepC (keepC q2 d21) d21) d22) d22)⟩
  clear hK K
  (try simp only [Act.put, List.setIfInBounds_toArray, List.set_cons_zero, List.set_cons_succ])
  refine wpAnyH_ready (rs := [3]) (by kernel_rfl) (by simp) ?_
  refine AllReadyH.cons (by rw [List.getElem?_toArray]; rfl) (fun K hK => ?_) AllReadyH.nil
  go_simp
  refine hK.out _ _ ?_ (fun hHeld => ?_)
  · first | exact ⟨p1, p2, q1, q2⟩ | exact ⟨(keepC (keepC p1 d11) d11), (keepC (keepC p2 d11) d11), (keepC (keepC q1 d21) d21), (keepC (keepC q2 d21) d21)⟩ | exact ⟨(keepC (keepC (keepC (keepC p1 d11) d11) d12) d12), (keepC (keepC (keepC (keepC p2 d11) d11) d12) d12), (keepC (keepC (keepC (keepC q1 d21) d21) d22) d22), (keepC (keepC (keepC (keepC q2 d21) d21) d22) d22)⟩
  clear hK K
  (try simp only [Act.put, List.setIfInBounds_toArray, List.set_cons_zero, List.set_cons_succ])
  refine wpAnyH_take (i := 4) (v := ?_) (by rw [List.getElem?_toArray]; rfl) (by kernel_rfl) (by kernel_rfl) (by kernel_rfl) (by intro _ _ _ h; exact h) (Or.inl ⟨by rfl, ?_⟩) (by assumption) ?_
  rotate_left
  · (intro w hSw; (try dsimp only at hSw); go_simp; all_goals with_reducible rfl)
  (try simp only [Act.put, List.setIfInBounds_toArray, List.set_cons_zero, List.set_cons_succ])
  refine wpAnyH_done (by kernel_rfl) ?_ _
  go_wp2_with fail
  clear r0 r1 r2 r3 r4 t0 t1 t2 t3 t4 p0 p1 p2 p3 p4 q0 q1 q2 q3 q4 R T RR TT K1 K2 B
  generalize (((v9.setCell ⟨j1, 0, none⟩ (.int .i64 x1)).setCell ⟨j1, 1, none⟩ (.int .i64 y1)).setCell ⟨j2, 0, none⟩ (.int .i64 x2)).setCell ⟨j2, 1, none⟩ (.int .i64 y2) = v10 at *
  obtain ⟨r0, r1, r2, r3, r4⟩ := id RR2
  obtain ⟨t0, t1, t2, t3, t4⟩ := id TT2
  exact bodyPost_ret (v := (.tuple #[.agg #[.int .i64 x1, .int .i64 y1], .agg #[.int .i64 x2, .int .i64 y2], .bool true])) (by simp (maxDischargeDepth := 6) [results, Tryd.results42, go_sem, *]) rfl ⟨rfl, Below.drew BB⟩end Go.Proofs.YtblappilppfkiaaDoor
namespace Go.Proofs.YtblappilppfkiaaDoor
open Go.RowKit
set_option linter.unusedVariables false
theorem me_nil (u v : Addr) (P B : Bool) (w : World) : (binOp .eql 63 (meE u v P B) .nilIface).run Tryd.prog w = .ok (.bool B) w := by
  cases B
  · cases P
    · kernel_rfl
    · kernel_rfl
  · kernel_rfl
theorem me_guard (x : Nat) (u v : Addr) (P B : Bool) (w : World) : (eqGuard .eql 63 (.tmp x) (.const .nilIface) (meE u v P B) .nilIface).run Tryd.prog w = .ok () w := by
  cases B
  · cases P
    · kernel_rfl
    · kernel_rfl
  · kernel_rfl
theorem is_me (u v : Addr) (P B : Bool) (w : World) (hne : u ≠ v) (E : Er w 0 u) (E1 : Er w 1 v) : Calls Tryd.prog 27 #[meE u v P B, .iface 124 (.pointer (some v))] w fun e w' => e = .returned (.bool (P && !B)) ∧ w = w' := by
  cases B
  · cases P
    · exact (is_other u v w hne E.2.2.2 E1.2.2.2).mono fun e w' ⟨he, hw⟩ => ⟨he, hw.symm⟩
    · exact (is_same v w).mono fun e w' ⟨he, hw⟩ => ⟨he, hw.symm⟩
  · exact (is_nil v w).mono fun e w' ⟨he, hw⟩ => ⟨by rw [he]; cases P <;> rfl, hw.symm⟩
theorem fo_ok {x y : Int} (h : foB x y = true) : okF (foX x y) (foY x y) = true := by
  obtain ⟨e1, e2⟩ := fo_t h
  rw [e1, e2]
  unfold foB at h
  simp only [Bool.and_eq_true, Bool.not_eq_true', beq_eq_false_iff_ne] at h
  obtain ⟨⟨h0, hx⟩, hy⟩ := h
  have hp := fo_pos (x := x) h0
  have hg := fo_low (x := x) h0
  have b1 := td_in (g := foG x y) (szF_t hx)
  have b2 := td_in (g := foG x y) (szF_t hy)
  have b2' : foD x y ≤ 4000000000000 := b2.2
  have e3 : szF (foN x y) = true := decide_eq_true b1
  have e4 : dnF (foD x y) = true := decide_eq_true ⟨by omega, b2'⟩
  rw [okF, e3, e4, hg]
  rfl
theorem ok_00 : okF 0 0 = false := by decide +kernel
theorem foB_in {x y : Int} (h1 : -4000000000000 ≤ x ∧ x ≤ 4000000000000) (h2 : 1 ≤ y ∧ y ≤ 4000000000000) : foB x y = true := by
  have e1 : szF x = true := decide_eq_true h1
  have e2 : szF y = true := decide_eq_true ⟨by omega, h2.2⟩
  have e3 : (y == 0) = false := beq_eq_false_iff_ne.2 (by omega)
  rw [foB, e1, e2, e3]
  rfl
theorem ro_ok (al ah ca bl bh cb : Int) : okF (roX al ah ca bl bh cb) (roY al ah ca bl bh cb) = roB al ah ca bl bh cb ∧ okF (roZ al ah ca bl bh cb) (roU al ah ca bl bh cb) = roB al ah ca bl bh cb := by
  cases h : roB al ah ca bl bh cb
  · obtain ⟨e1, e2, e3, e4⟩ := ro_f h
    rw [e1, e2, e3, e4]
    exact ⟨ok_00, ok_00⟩
  · obtain ⟨e1, e2, e3, e4⟩ := ro_t h
    rw [e1, e2, e3, e4]
    unfold roB at h
    simp only [Bool.and_eq_true, decide_eq_true_eq] at h
    obtain ⟨⟨k1, k2⟩, c1, c2, c3, c4⟩ := h
    have a1 := okI_t k1
    have a2 := okI_t k2
    have hm : 0 ≤ imx 0 (bl - ah) ∧ imx 0 (bl - ah) ≤ 4000000000000 := by
      by_cases hq : 0 ≤ bl - ah
      · have e := imx_g (x := 0) (y := bl - ah) (by omega)
        rw [e]
        omega
      · have e := imx_l (x := 0) (y := bl - ah) (by omega)
        rw [e]
        omega
    exact ⟨fo_ok (foB_in ⟨by omega, hm.2⟩ ⟨by omega, by omega⟩), fo_ok (foB_in ⟨by omega, by omega⟩ ⟨by omega, by omega⟩)⟩
theorem rd_ok (n d : Int) : okF (rdX n d) (rdY n d) = okD n d ∧ okF (rdZ n d) (rdU n d) = okD n d := by
  cases h : okD n d
  · obtain ⟨e1, e2, e3, e4⟩ := rd_f h
    rw [e1, e2, e3, e4]
    exact ⟨ok_00, ok_00⟩
  · obtain ⟨e1, e2, e3, e4⟩ := rd_t h
    rw [e1, e2, e3, e4]
    have ⟨d1, d2, d3, d4⟩ := okD_t h
    exact ⟨fo_ok (foB_in ⟨by omega, by omega⟩ ⟨by omega, by omega⟩), fo_ok (foB_in ⟨by omega, by omega⟩ ⟨by omega, by omega⟩)⟩
theorem br_mt (n d al ah ca bl bh cb : Int) : mtP (roX al ah ca bl bh cb) (roY al ah ca bl bh cb) (roZ al ah ca bl bh cb) (roU al ah ca bl bh cb) (rdX n d) (rdY n d) (rdZ n d) (rdU n d) = (roB al ah ca bl bh cb && okD n d) := by
  rw [mtP, (ro_ok al ah ca bl bh cb).1, (ro_ok al ah ca bl bh cb).2, (rd_ok n d).1, (rd_ok n d).2]
  cases roB al ah ca bl bh cb <;> cases okD n d <;> rfl
set_option maxRecDepth 100000 in
set_option maxHeartbeats 8000000 in
theorem implRateBroken_any (n d al ah ca bl bh cb : Int) (s t : Addr) (w : World) (hst : s ≠ t) (E : Er w 0 s) (E1 : Er w 1 t) : Calls Tryd.prog 18 #[.agg #[.int .i64 n, .int .i64 d], .agg #[.int .i64 al, .int .i64 ah], .int .i64 ca, .agg #[.int .i64 bl, .int .i64 bh], .int .i64 cb] w fun e w' => e = .returned (.bool (brB n d al ah ca bl bh cb)) ∧ Below w.heap.size w w' := by
  have A0 := Below.nw w (.cells #[.int .i64 n, .int .i64 d] 35)
  have A1 := Below.nw (w.alloc (.cells #[.int .i64 n, .int .i64 d] 35)) (.cells #[.int .i64 al, .int .i64 ah] 49)
  have A2 := Below.nw ((w.alloc (.cells #[.int .i64 n, .int .i64 d] 35)).alloc (.cells #[.int .i64 al, .int .i64 ah] 49)) (.cells #[.int .i64 bl, .int .i64 bh] 49)
  have D := ((Bx2.new w (.int .i64 n) (.int .i64 d) 35).below A1).below A2
  have P := (Bx2.new (w.alloc (.cells #[.int .i64 n, .int .i64 d] 35)) (.int .i64 al) (.int .i64 ah) 49).below A2
  have Q := Bx2.new ((w.alloc (.cells #[.int .i64 n, .int .i64 d] 35)).alloc (.cells #[.int .i64 al, .int .i64 ah] 49)) (.int .i64 bl) (.int .i64 bh) 49
  have B := (A0.trans (A1.mono A0.size)).trans (A2.mono (A0.trans (A1.mono A0.size)).size)
  simp only [World.size_alloc] at P Q
  clear A0 A1 A2
  replace E := E.below B
  replace E1 := E1.below B
  have C1 := fun w' E' => implRateOf_any al ah ca bl bh cb s w' E'
  have C2 := fun w' E' => implRateOfDrift_any n d s w' E'
  unfold brB
  rw [← br_mt]
  generalize roX al ah ca bl bh cb = x1 at *
  generalize roY al ah ca bl bh cb = y1 at *
  generalize roZ al ah ca bl bh cb = x2 at *
  generalize roU al ah ca bl bh cb = y2 at *
  generalize rdX n d = x3 at *
  generalize rdY n d = y3 at *
  generalize rdZ n d = x4 at *
  generalize rdU n d = y4 at *
  have C3 := fun w' E' E1' => meet_any x1 y1 x2 y2 x3 y3 x4 y4 s t w' E' E1'
  have C4 := fun w' E' E1' => is_me s t (mtP x1 y1 x2 y2 x3 y3 x4 y4) (mtB x1 y1 x2 y2 x3 y3 x4 y4) w' hst E' E1'
  generalize mtV (mtB x1 y1 x2 y2 x3 y3 x4 y4) (mlX x1 y1 x3 y3) = z1 at *
  generalize mtV (mtB x1 y1 x2 y2 x3 y3 x4 y4) (mlY x1 y1 x3 y3) = z2 at *
  generalize mtV (mtB x1 y1 x2 y2 x3 y3 x4 y4) (mhX x2 y2 x4 y4) = z3 at *
  generalize mtV (mtB x1 y1 x2 y2 x3 y3 x4 y4) (mhY x2 y2 x4 y4) = z4 at *
  generalize meE s t (mtP x1 y1 x2 y2 x3 y3 x4 y4) (mtB x1 y1 x2 y2 x3 y3 x4 y4) = er at *
  generalize (mtP x1 y1 x2 y2 x3 y3 x4 y4 && !mtB x1 y1 x2 y2 x3 y3 x4 y4) = mb at *
  generalize roB al ah ca bl bh cb = ro at *
  generalize okD n d = rd at *
  go_enter Tryd.func18, Tryd.ntmps18; go_upto_region 1 with fail; generalize (((w.alloc (.cells #[.int .i64 n, .int .i64 d] 35)).alloc (.cells #[.int .i64 al, .int .i64 ah] 49)).alloc (.cells #[.int .i64 bl, .int .i64 bh] 49)) = v at *; generalize w.heap.size + 1 + 1 = jq at *; generalize w.heap.size + 1 = jp at *
  obtain ⟨n0, n1, n2, n3, n4⟩ := id P
  obtain ⟨m0, m1, m2, m3, m4⟩ := id Q
  go_wp2_with fail
  refine (C1 _ E).mono ?_
  rintro e v2 ⟨rfl, hbl⟩
  clear n0 n1 n2 n3 n4 m0 m1 m2 m3 m4
  replace D := D.below hbl
  replace E := E.below hbl
  replace E1 := E1.below hbl
  replace B := B.trans (hbl.mono B.size)
  clear hbl P Q
  have Z0 := Below.nw v2 (.cells #[.int .i64 x1, .int .i64 y1] 27)
  have Z1 := Below.nw (v2.alloc (.cells #[.int .i64 x1, .int .i64 y1] 27)) (.cells #[.int .i64 x2, .int .i64 y2] 27)
  have K1 := (Bx2.new v2 (.int .i64 x1) (.int .i64 y1) 27).below Z1
  have K2 := Bx2.new (v2.alloc (.cells #[.int .i64 x1, .int .i64 y1] 27)) (.int .i64 x2) (.int .i64 y2) 27
  simp only [World.size_alloc] at K2
  have hbl := Z0.trans (Z1.mono Z0.size)
  clear Z0 Z1
  replace D := D.below hbl
  replace E := E.below hbl
  replace E1 := E1.below hbl
  replace B := B.trans (hbl.mono B.size)
  clear hbl
  go_upto_region 2 with fail
  generalize (v2.alloc (.cells #[.int .i64 x1, .int .i64 y1] 27)).alloc (.cells #[.int .i64 x2, .int .i64 y2] 27) = v3 at *
  generalize v2.heap.size + 1 = jK2 at *
  generalize v2.heap.size = jK1 at *
  obtain ⟨n0, n1, n2, n3, n4⟩ := id D
  go_wp2_with fail
  refine (C2 _ E).mono ?_
  rintro e v4 ⟨rfl, hbl⟩
  clear n0 n1 n2 n3 n4 D
  replace K1 := K1.below hbl
  replace K2 := K2.below hbl
  replace E := E.below hbl
  replace E1 := E1.below hbl
  replace B := B.trans (hbl.mono B.size)
  clear hbl
  have Z0 := Below.nw v4 (.cells #[.int .i64 x3, .int .i64 y3] 27)
  have Z1 := Below.nw (v4.alloc (.cells #[.int .i64 x3, .int .i64 y3] 27)) (.cells #[.int .i64 x4, .int .i64 y4] 27)
  have K3 := (Bx2.new v4 (.int .i64 x3) (.int .i64 y3) 27).below Z1
  have K4 := Bx2.new (v4.alloc (.cells #[.int .i64 x3, .int .i64 y3] 27)) (.int .i64 x4) (.int .i64 y4) 27
  simp only [World.size_alloc] at K4
  have hbl := Z0.trans (Z1.mono Z0.size)
  clear Z0 Z1
  replace K1 := K1.below hbl
  replace K2 := K2.below hbl
  replace E := E.below hbl
  replace E1 := E1.below hbl
  replace B := B.trans (hbl.mono B.size)
  clear hbl
  go_upto_region 3 with fail
  generalize (v4.alloc (.cells #[.int .i64 x3, .int .i64 y3] 27)).alloc (.cells #[.int .i64 x4, .int .i64 y4] 27) = v5 at *
  generalize v4.heap.size + 1 = jK4 at *
  generalize v4.heap.size = jK3 at *
  obtain ⟨n0, n1, n2, n3, n4⟩ := id K1
  obtain ⟨m0, m1, m2, m3, m4⟩ := id K2
  obtain ⟨p0, p1, p2, p3, p4⟩ := id K3
  obtain ⟨q0, q1, q2, q3, q4⟩ := id K4
  go_wp2_with fail
  refine (C3 _ E E1).mono ?_
  rintro e v6 ⟨rfl, hbl⟩
  replace E := E.below hbl
  replace E1 := E1.below hbl
  replace B := B.trans (hbl.mono B.size)
  clear hbl n0 n1 n2 n3 n4 m0 m1 m2 m3 m4 p0 p1 p2 p3 p4 q0 q1 q2 q3 q4 K1 K2 K3 K4
  have Z := Below.nw v6 (.cells #[.int .i64 z1, .int .i64 z2, .int .i64 z3, .int .i64 z4] 83)
  replace E := E.below Z
  replace E1 := E1.below Z
  replace B := B.trans (Z.mono B.size)
  clear Z
  go_upto_region 4 with fail
  generalize v6.alloc (.cells #[.int .i64 z1, .int .i64 z2, .int .i64 z3, .int .i64 z4] 83) = v7 at *
  have k0 := E1.1
  go_wp2_with fail
  refine (C4 _ E E1).mono ?_
  rintro e w' ⟨rfl, rfl⟩
  go_wp2_with fail
  go_ret
  exact ⟨rfl, B⟩
end Go.Proofs.YtblappilppfkiaaDoor
namespace Go.Proofs.YtblappilppfkiaaDoor
open Go.RowKit
set_option linter.unusedVariables false
/- Two fractions in lowest terms that stand alike are the same. -/
theorem low_dvd {a b p q : Int} (hb : 0 < b) (h : Int.gcd a b = 1) (e : a * q = p * b) : b ∣ q := by
  have h1 : b ∣ a * q := ⟨p, by rw [e, Int.mul_comm]⟩
  have h2 : b.natAbs ∣ a.natAbs * q.natAbs := by rw [← Int.natAbs_mul]; exact Int.natAbs_dvd_natAbs.2 h1
  have h3 : Nat.Coprime b.natAbs a.natAbs := by
    rw [Nat.Coprime, Nat.gcd_comm]
    exact h
  exact Int.natAbs_dvd_natAbs.1 (h3.dvd_of_dvd_mul_left h2)
theorem low_same {a b p q : Int} (h1 : okF a b = true) (h2 : okF p q = true) (h : cmpF a b p q = 0) : a = p ∧ b = q := by
  obtain ⟨_, b1, g1⟩ := okF_t h1
  obtain ⟨_, q1, g2⟩ := okF_t h2
  have e1 : a * q ≤ p * b := cmp_le.1 (by omega)
  have e2 : p * b ≤ a * q := cmp_ge.1 (by omega)
  have e : a * q = p * b := by omega
  have d1 := low_dvd (by omega) g1 e
  have d2 := low_dvd (by omega) g2 e.symm
  have hbq : b = q := Int.dvd_antisymm (by omega) (by omega) d1 d2
  subst hbq
  exact ⟨Int.eq_of_mul_eq_mul_right (by omega) e, rfl⟩
theorem cmp_self (a b : Int) : cmpF a b a b = 0 := sgn_zero (by omega)
theorem cmp_three {a b p q : Int} : cmpF a b p q = -1 ∨ cmpF a b p q = 0 ∨ cmpF a b p q = 1 := by
  unfold cmpF
  rcases Int.lt_trichotomy (a * q - p * b) 0 with h | h | h
  · exact .inl (sgn_neg h)
  · exact .inr (.inl (sgn_zero h))
  · exact .inr (.inr (sgn_pos h))
theorem sgn_gt {z : Int} : (0 < sgn z) ↔ 0 < z := by unfold sgn; split <;> (try split) <;> omega
/- What was and its lowest terms are worth the same. -/
theorem fo_worth {x y : Int} (h : foB x y = true) : foX x y * y = x * foY x y := by
  rw [(fo_t h).1, (fo_t h).2]
  obtain ⟨h1, h2⟩ := fo_exact (x := x) (y := y)
  have e1 : foN x y * y = foN x y * (foD x y * foG x y) := by rw [h2]
  have e2 : x * foD x y = foN x y * foG x y * foD x y := by rw [h1]
  rw [e1, e2, Int.mul_assoc, Int.mul_comm (foG x y)]
theorem fo_bd {x y : Int} (h : foB x y = true) : (foX x y).natAbs ≤ x.natAbs ∧ (foY x y).natAbs ≤ y.natAbs := by
  rw [(fo_t h).1, (fo_t h).2]
  unfold foN foD
  rw [Int.natAbs_tdiv, Int.natAbs_tdiv]
  exact ⟨Nat.div_le_self _ _, Nat.div_le_self _ _⟩
def siz (x : Int) : Int := if x < 0 then -x else x
theorem siz_bd {x m : Int} (h : siz x < m) : -m < x ∧ x < m := by
  unfold siz at h
  split at h <;> omega
theorem prod_bd {x y : Int} (h1 : -1000000 < x) (h2 : x < 1000000) (h3 : -1000000 < y) (h4 : y < 1000000) : -1000000000000 ≤ x * y ∧ x * y ≤ 1000000000000 := by
  have a1 : (x * y).natAbs ≤ 1000000 * 1000000 := by rw [Int.natAbs_mul]; exact Nat.mul_le_mul (by omega) (by omega)
  omega
end Go.Proofs.YtblappilppfkiaaDoor
namespace Go.Proofs.YtblappilppfkiaaDoor
open Go.RowKit
set_option linter.unusedVariables false
def rB (n d x r : Int) : Bool := okD n d && okT x && okT r
theorem rB_d {n d x r : Int} (h : okD n d = false) : rB n d x r = false := by simp [rB, h]
theorem rB_t {n d x r : Int} (h : okT x = false) : rB n d x r = false := by simp [rB, h]
theorem rB_r {n d x r : Int} (h : okD n d = true) (h' : okT x = true) : rB n d x r = okT r := by simp [rB, h, h']
set_option maxHeartbeats 1000000 in
theorem specLeastTime_any (n d x : Int) (w : World) :
    Calls Tryd.prog 47 #[.agg #[.int .i64 n, .int .i64 d], .int .i64 x] w fun e w' => e = .returned (.tuple #[.int .i64 (sel (rB n d x (upI (x * d) (d + n))) (upI (x * d) (d + n))), .bool (rB n d x (upI (x * d) (d + n)))]) ∧ Below w.heap.size w w' := by
  cases ho : okD n d
  · rw [rB_d ho, sel_f rfl]
    go_enter Tryd.func47, Tryd.ntmps47
    go_wp2_with (first | (go_at_call 17; refine (specDriftOk_any _ _ _).mono ?_; rintro e w' ⟨rfl, hb⟩; obtain ⟨hc, hf⟩ := bcell hb; (first | have hB := Below.trans (Below.trans hB (by repeat (first | exact Below.refl _ _ | refine Below.drew ?_ | refine Below.alloc ?_ (by first | (simp; done) | (simp; omega) | omega) _ | refine Below.setCell ?_ (by first | (simp; done) | (simp; omega) | omega) _ | refine Below.trans ?_ (Below.mono (by assumption) (by first | (simp; done) | (simp; omega) | omega))))) (Below.mono hb (by first | (simp; done) | (simp; omega) | omega)) | have hB := hb); obtain ⟨hC, hF⟩ := bcell hB; have hz := hb.size; (try simp at hz); (try (have hz0 : w.heap.size < w'.heap.size := by omega)); (try (have hz1 : w.heap.size + 1 < w'.heap.size := by omega)); (try (have hz2 : w.heap.size + 1 + 1 < w'.heap.size := by omega)); (try (have hz3 : w.heap.size + 1 + 1 + 1 < w'.heap.size := by omega))) | (go_at_call 59; refine (l2Time_any _ _).mono ?_; rintro e w' ⟨rfl, rfl⟩))
    go_ret2
    exact ⟨rfl, by repeat (first | exact Below.refl _ _ | refine Below.drew ?_ | refine Below.alloc ?_ (by first | (simp; done) | (simp; omega) | omega) _ | refine Below.setCell ?_ (by first | (simp; done) | (simp; omega) | omega) _ | refine Below.trans ?_ (Below.mono (by assumption) (by first | (simp; done) | (simp; omega) | omega)))⟩
  cases ht : okT x
  · rw [rB_t ht, sel_f rfl]
    go_enter Tryd.func47, Tryd.ntmps47
    go_wp2_with (first | (go_at_call 17; refine (specDriftOk_any _ _ _).mono ?_; rintro e w' ⟨rfl, hb⟩; obtain ⟨hc, hf⟩ := bcell hb; (first | have hB := Below.trans (Below.trans hB (by repeat (first | exact Below.refl _ _ | refine Below.drew ?_ | refine Below.alloc ?_ (by first | (simp; done) | (simp; omega) | omega) _ | refine Below.setCell ?_ (by first | (simp; done) | (simp; omega) | omega) _ | refine Below.trans ?_ (Below.mono (by assumption) (by first | (simp; done) | (simp; omega) | omega))))) (Below.mono hb (by first | (simp; done) | (simp; omega) | omega)) | have hB := hb); obtain ⟨hC, hF⟩ := bcell hB; have hz := hb.size; (try simp at hz); (try (have hz0 : w.heap.size < w'.heap.size := by omega)); (try (have hz1 : w.heap.size + 1 < w'.heap.size := by omega)); (try (have hz2 : w.heap.size + 1 + 1 < w'.heap.size := by omega)); (try (have hz3 : w.heap.size + 1 + 1 + 1 < w'.heap.size := by omega))) | (go_at_call 59; refine (l2Time_any _ _).mono ?_; rintro e w' ⟨rfl, rfl⟩))
    go_ret2
    exact ⟨rfl, by repeat (first | exact Below.refl _ _ | refine Below.drew ?_ | refine Below.alloc ?_ (by first | (simp; done) | (simp; omega) | omega) _ | refine Below.setCell ?_ (by first | (simp; done) | (simp; omega) | omega) _ | refine Below.trans ?_ (Below.mono (by assumption) (by first | (simp; done) | (simp; omega) | omega)))⟩
  rw [rB_r ho ht]
  have ⟨d1, d2, d3, d4⟩ := okD_t ho
  have ⟨t1, t2⟩ := okT_t ht
  have ⟨m1, m2⟩ := mul_bd (x := x) (y := d) (X := 1000000000000) (Y := 2000000) (by omega) (by omega) (by omega) (by omega)
  have ⟨v1, v2⟩ := upI_bd (x := x * d) (n := d + n) m1 (by omega)
  go_enter Tryd.func47, Tryd.ntmps47
  go_wp2_with (first | (go_at_call 17; refine (specDriftOk_any _ _ _).mono ?_; rintro e w' ⟨rfl, hb⟩; obtain ⟨hc, hf⟩ := bcell hb; (first | have hB := Below.trans (Below.trans hB (by repeat (first | exact Below.refl _ _ | refine Below.drew ?_ | refine Below.alloc ?_ (by first | (simp; done) | (simp; omega) | omega) _ | refine Below.setCell ?_ (by first | (simp; done) | (simp; omega) | omega) _ | refine Below.trans ?_ (Below.mono (by assumption) (by first | (simp; done) | (simp; omega) | omega))))) (Below.mono hb (by first | (simp; done) | (simp; omega) | omega)) | have hB := hb); obtain ⟨hC, hF⟩ := bcell hB; have hz := hb.size; (try simp at hz); (try (have hz0 : w.heap.size < w'.heap.size := by omega)); (try (have hz1 : w.heap.size + 1 < w'.heap.size := by omega)); (try (have hz2 : w.heap.size + 1 + 1 < w'.heap.size := by omega)); (try (have hz3 : w.heap.size + 1 + 1 + 1 < w'.heap.size := by omega))) | (go_at_call 59; refine (l2Time_any _ _).mono ?_; rintro e w' ⟨rfl, rfl⟩) | (go_at_call 69; refine (l1Up_any _ _ _ (by omega) (by omega) (by omega) (by omega)).mono ?_; rintro e w' ⟨rfl, rfl⟩) | (go_at_call 68; refine (l2Told_any _ _ (by first | assumption | (simp only [← dnI]; assumption) | omega)).mono ?_; rintro e w' ⟨rfl, rfl⟩))
  go_ret2
  exact ⟨rfl, by repeat (first | exact Below.refl _ _ | refine Below.drew ?_ | refine Below.alloc ?_ (by first | (simp; done) | (simp; omega) | omega) _ | refine Below.setCell ?_ (by first | (simp; done) | (simp; omega) | omega) _ | refine Below.trans ?_ (Below.mono (by assumption) (by first | (simp; done) | (simp; omega) | omega)))⟩
set_option maxHeartbeats 1000000 in
theorem specMostTime_any (n d x : Int) (w : World) :
    Calls Tryd.prog 48 #[.agg #[.int .i64 n, .int .i64 d], .int .i64 x] w fun e w' => e = .returned (.tuple #[.int .i64 (sel (rB n d x (dnI (x * d) (d - n))) (dnI (x * d) (d - n))), .bool (rB n d x (dnI (x * d) (d - n)))]) ∧ Below w.heap.size w w' := by
  cases ho : okD n d
  · rw [rB_d ho, sel_f rfl]
    go_enter Tryd.func48, Tryd.ntmps48
    go_wp2_with (first | (go_at_call 17; refine (specDriftOk_any _ _ _).mono ?_; rintro e w' ⟨rfl, hb⟩; obtain ⟨hc, hf⟩ := bcell hb; (first | have hB := Below.trans (Below.trans hB (by repeat (first | exact Below.refl _ _ | refine Below.drew ?_ | refine Below.alloc ?_ (by first | (simp; done) | (simp; omega) | omega) _ | refine Below.setCell ?_ (by first | (simp; done) | (simp; omega) | omega) _ | refine Below.trans ?_ (Below.mono (by assumption) (by first | (simp; done) | (simp; omega) | omega))))) (Below.mono hb (by first | (simp; done) | (simp; omega) | omega)) | have hB := hb); obtain ⟨hC, hF⟩ := bcell hB; have hz := hb.size; (try simp at hz); (try (have hz0 : w.heap.size < w'.heap.size := by omega)); (try (have hz1 : w.heap.size + 1 < w'.heap.size := by omega)); (try (have hz2 : w.heap.size + 1 + 1 < w'.heap.size := by omega)); (try (have hz3 : w.heap.size + 1 + 1 + 1 < w'.heap.size := by omega))) | (go_at_call 59; refine (l2Time_any _ _).mono ?_; rintro e w' ⟨rfl, rfl⟩))
    go_ret2
    exact ⟨rfl, by repeat (first | exact Below.refl _ _ | refine Below.drew ?_ | refine Below.alloc ?_ (by first | (simp; done) | (simp; omega) | omega) _ | refine Below.setCell ?_ (by first | (simp; done) | (simp; omega) | omega) _ | refine Below.trans ?_ (Below.mono (by assumption) (by first | (simp; done) | (simp; omega) | omega)))⟩
  cases ht : okT x
  · rw [rB_t ht, sel_f rfl]
    go_enter Tryd.func48, Tryd.ntmps48
    go_wp2_with (first | (go_at_call 17; refine (specDriftOk_any _ _ _).mono ?_; rintro e w' ⟨rfl, hb⟩; obtain ⟨hc, hf⟩ := bcell hb; (first | have hB := Below.trans (Below.trans hB (by repeat (first | exact Below.refl _ _ | refine Below.drew ?_ | refine Below.alloc ?_ (by first | (simp; done) | (simp; omega) | omega) _ | refine Below.setCell ?_ (by first | (simp; done) | (simp; omega) | omega) _ | refine Below.trans ?_ (Below.mono (by assumption) (by first | (simp; done) | (simp; omega) | omega))))) (Below.mono hb (by first | (simp; done) | (simp; omega) | omega)) | have hB := hb); obtain ⟨hC, hF⟩ := bcell hB; have hz := hb.size; (try simp at hz); (try (have hz0 : w.heap.size < w'.heap.size := by omega)); (try (have hz1 : w.heap.size + 1 < w'.heap.size := by omega)); (try (have hz2 : w.heap.size + 1 + 1 < w'.heap.size := by omega)); (try (have hz3 : w.heap.size + 1 + 1 + 1 < w'.heap.size := by omega))) | (go_at_call 59; refine (l2Time_any _ _).mono ?_; rintro e w' ⟨rfl, rfl⟩))
    go_ret2
    exact ⟨rfl, by repeat (first | exact Below.refl _ _ | refine Below.drew ?_ | refine Below.alloc ?_ (by first | (simp; done) | (simp; omega) | omega) _ | refine Below.setCell ?_ (by first | (simp; done) | (simp; omega) | omega) _ | refine Below.trans ?_ (Below.mono (by assumption) (by first | (simp; done) | (simp; omega) | omega)))⟩
  rw [rB_r ho ht]
  have ⟨d1, d2, d3, d4⟩ := okD_t ho
  have ⟨t1, t2⟩ := okT_t ht
  have ⟨m1, m2⟩ := mul_bd (x := x) (y := d) (X := 1000000000000) (Y := 2000000) (by omega) (by omega) (by omega) (by omega)
  have ⟨v1, v2⟩ := dnI_bd (x := x * d) (n := d - n) m1 (by omega)
  go_enter Tryd.func48, Tryd.ntmps48
  go_wp2_with (first | (go_at_call 17; refine (specDriftOk_any _ _ _).mono ?_; rintro e w' ⟨rfl, hb⟩; obtain ⟨hc, hf⟩ := bcell hb; (first | have hB := Below.trans (Below.trans hB (by repeat (first | exact Below.refl _ _ | refine Below.drew ?_ | refine Below.alloc ?_ (by first | (simp; done) | (simp; omega) | omega) _ | refine Below.setCell ?_ (by first | (simp; done) | (simp; omega) | omega) _ | refine Below.trans ?_ (Below.mono (by assumption) (by first | (simp; done) | (simp; omega) | omega))))) (Below.mono hb (by first | (simp; done) | (simp; omega) | omega)) | have hB := hb); obtain ⟨hC, hF⟩ := bcell hB; have hz := hb.size; (try simp at hz); (try (have hz0 : w.heap.size < w'.heap.size := by omega)); (try (have hz1 : w.heap.size + 1 < w'.heap.size := by omega)); (try (have hz2 : w.heap.size + 1 + 1 < w'.heap.size := by omega)); (try (have hz3 : w.heap.size + 1 + 1 + 1 < w'.heap.size := by omega))) | (go_at_call 59; refine (l2Time_any _ _).mono ?_; rintro e w' ⟨rfl, rfl⟩) | (go_at_call 70; refine (l1Down_any _ _ _ (by omega) (by omega) (by omega) (by omega)).mono ?_; rintro e w' ⟨rfl, rfl⟩) | (go_at_call 68; refine (l2Told_any _ _ (by first | assumption | (simp only [← dnI]; assumption) | omega)).mono ?_; rintro e w' ⟨rfl, rfl⟩))
  go_ret2
  exact ⟨rfl, by repeat (first | exact Below.refl _ _ | refine Below.drew ?_ | refine Below.alloc ?_ (by first | (simp; done) | (simp; omega) | omega) _ | refine Below.setCell ?_ (by first | (simp; done) | (simp; omega) | omega) _ | refine Below.trans ?_ (Below.mono (by assumption) (by first | (simp; done) | (simp; omega) | omega)))⟩
set_option maxHeartbeats 1000000 in
theorem specLeastCount_any (n d x : Int) (w : World) :
    Calls Tryd.prog 75 #[.agg #[.int .i64 n, .int .i64 d], .int .i64 x] w fun e w' => e = .returned (.tuple #[.int .i64 (sel (rB n d x (upI (x * (d - n)) (d))) (upI (x * (d - n)) (d))), .bool (rB n d x (upI (x * (d - n)) (d)))]) ∧ Below w.heap.size w w' := by
  cases ho : okD n d
  · rw [rB_d ho, sel_f rfl]
    go_enter Tryd.func75, Tryd.ntmps75
    go_wp2_with (first | (go_at_call 17; refine (specDriftOk_any _ _ _).mono ?_; rintro e w' ⟨rfl, hb⟩; obtain ⟨hc, hf⟩ := bcell hb; (first | have hB := Below.trans (Below.trans hB (by repeat (first | exact Below.refl _ _ | refine Below.drew ?_ | refine Below.alloc ?_ (by first | (simp; done) | (simp; omega) | omega) _ | refine Below.setCell ?_ (by first | (simp; done) | (simp; omega) | omega) _ | refine Below.trans ?_ (Below.mono (by assumption) (by first | (simp; done) | (simp; omega) | omega))))) (Below.mono hb (by first | (simp; done) | (simp; omega) | omega)) | have hB := hb); obtain ⟨hC, hF⟩ := bcell hB; have hz := hb.size; (try simp at hz); (try (have hz0 : w.heap.size < w'.heap.size := by omega)); (try (have hz1 : w.heap.size + 1 < w'.heap.size := by omega)); (try (have hz2 : w.heap.size + 1 + 1 < w'.heap.size := by omega)); (try (have hz3 : w.heap.size + 1 + 1 + 1 < w'.heap.size := by omega))) | (go_at_call 59; refine (l2Time_any _ _).mono ?_; rintro e w' ⟨rfl, rfl⟩))
    go_ret2
    exact ⟨rfl, by repeat (first | exact Below.refl _ _ | refine Below.drew ?_ | refine Below.alloc ?_ (by first | (simp; done) | (simp; omega) | omega) _ | refine Below.setCell ?_ (by first | (simp; done) | (simp; omega) | omega) _ | refine Below.trans ?_ (Below.mono (by assumption) (by first | (simp; done) | (simp; omega) | omega)))⟩
  cases ht : okT x
  · rw [rB_t ht, sel_f rfl]
    go_enter Tryd.func75, Tryd.ntmps75
    go_wp2_with (first | (go_at_call 17; refine (specDriftOk_any _ _ _).mono ?_; rintro e w' ⟨rfl, hb⟩; obtain ⟨hc, hf⟩ := bcell hb; (first | have hB := Below.trans (Below.trans hB (by repeat (first | exact Below.refl _ _ | refine Below.drew ?_ | refine Below.alloc ?_ (by first | (simp; done) | (simp; omega) | omega) _ | refine Below.setCell ?_ (by first | (simp; done) | (simp; omega) | omega) _ | refine Below.trans ?_ (Below.mono (by assumption) (by first | (simp; done) | (simp; omega) | omega))))) (Below.mono hb (by first | (simp; done) | (simp; omega) | omega)) | have hB := hb); obtain ⟨hC, hF⟩ := bcell hB; have hz := hb.size; (try simp at hz); (try (have hz0 : w.heap.size < w'.heap.size := by omega)); (try (have hz1 : w.heap.size + 1 < w'.heap.size := by omega)); (try (have hz2 : w.heap.size + 1 + 1 < w'.heap.size := by omega)); (try (have hz3 : w.heap.size + 1 + 1 + 1 < w'.heap.size := by omega))) | (go_at_call 59; refine (l2Time_any _ _).mono ?_; rintro e w' ⟨rfl, rfl⟩))
    go_ret2
    exact ⟨rfl, by repeat (first | exact Below.refl _ _ | refine Below.drew ?_ | refine Below.alloc ?_ (by first | (simp; done) | (simp; omega) | omega) _ | refine Below.setCell ?_ (by first | (simp; done) | (simp; omega) | omega) _ | refine Below.trans ?_ (Below.mono (by assumption) (by first | (simp; done) | (simp; omega) | omega)))⟩
  rw [rB_r ho ht]
  have ⟨d1, d2, d3, d4⟩ := okD_t ho
  have ⟨t1, t2⟩ := okT_t ht
  have ⟨m1, m2⟩ := mul_bd (x := x) (y := d - n) (X := 1000000000000) (Y := 2000000) (by omega) (by omega) (by omega) (by omega)
  have ⟨v1, v2⟩ := upI_bd (x := x * (d - n)) (n := d) m1 (by omega)
  go_enter Tryd.func75, Tryd.ntmps75
  go_wp2_with (first | (go_at_call 17; refine (specDriftOk_any _ _ _).mono ?_; rintro e w' ⟨rfl, hb⟩; obtain ⟨hc, hf⟩ := bcell hb; (first | have hB := Below.trans (Below.trans hB (by repeat (first | exact Below.refl _ _ | refine Below.drew ?_ | refine Below.alloc ?_ (by first | (simp; done) | (simp; omega) | omega) _ | refine Below.setCell ?_ (by first | (simp; done) | (simp; omega) | omega) _ | refine Below.trans ?_ (Below.mono (by assumption) (by first | (simp; done) | (simp; omega) | omega))))) (Below.mono hb (by first | (simp; done) | (simp; omega) | omega)) | have hB := hb); obtain ⟨hC, hF⟩ := bcell hB; have hz := hb.size; (try simp at hz); (try (have hz0 : w.heap.size < w'.heap.size := by omega)); (try (have hz1 : w.heap.size + 1 < w'.heap.size := by omega)); (try (have hz2 : w.heap.size + 1 + 1 < w'.heap.size := by omega)); (try (have hz3 : w.heap.size + 1 + 1 + 1 < w'.heap.size := by omega))) | (go_at_call 59; refine (l2Time_any _ _).mono ?_; rintro e w' ⟨rfl, rfl⟩) | (go_at_call 69; refine (l1Up_any _ _ _ (by omega) (by omega) (by omega) (by omega)).mono ?_; rintro e w' ⟨rfl, rfl⟩) | (go_at_call 68; refine (l2Told_any _ _ (by first | assumption | (simp only [← dnI]; assumption) | omega)).mono ?_; rintro e w' ⟨rfl, rfl⟩))
  go_ret2
  exact ⟨rfl, by repeat (first | exact Below.refl _ _ | refine Below.drew ?_ | refine Below.alloc ?_ (by first | (simp; done) | (simp; omega) | omega) _ | refine Below.setCell ?_ (by first | (simp; done) | (simp; omega) | omega) _ | refine Below.trans ?_ (Below.mono (by assumption) (by first | (simp; done) | (simp; omega) | omega)))⟩
set_option maxHeartbeats 1000000 in
theorem specMostCount_any (n d x : Int) (w : World) :
    Calls Tryd.prog 76 #[.agg #[.int .i64 n, .int .i64 d], .int .i64 x] w fun e w' => e = .returned (.tuple #[.int .i64 (sel (rB n d x (dnI (x * (d + n)) (d))) (dnI (x * (d + n)) (d))), .bool (rB n d x (dnI (x * (d + n)) (d)))]) ∧ Below w.heap.size w w' := by
  cases ho : okD n d
  · rw [rB_d ho, sel_f rfl]
    go_enter Tryd.func76, Tryd.ntmps76
    go_wp2_with (first | (go_at_call 17; refine (specDriftOk_any _ _ _).mono ?_; rintro e w' ⟨rfl, hb⟩; obtain ⟨hc, hf⟩ := bcell hb; (first | have hB := Below.trans (Below.trans hB (by repeat (first | exact Below.refl _ _ | refine Below.drew ?_ | refine Below.alloc ?_ (by first | (simp; done) | (simp; omega) | omega) _ | refine Below.setCell ?_ (by first | (simp; done) | (simp; omega) | omega) _ | refine Below.trans ?_ (Below.mono (by assumption) (by first | (simp; done) | (simp; omega) | omega))))) (Below.mono hb (by first | (simp; done) | (simp; omega) | omega)) | have hB := hb); obtain ⟨hC, hF⟩ := bcell hB; have hz := hb.size; (try simp at hz); (try (have hz0 : w.heap.size < w'.heap.size := by omega)); (try (have hz1 : w.heap.size + 1 < w'.heap.size := by omega)); (try (have hz2 : w.heap.size + 1 + 1 < w'.heap.size := by omega)); (try (have hz3 : w.heap.size + 1 + 1 + 1 < w'.heap.size := by omega))) | (go_at_call 59; refine (l2Time_any _ _).mono ?_; rintro e w' ⟨rfl, rfl⟩))
    go_ret2
    exact ⟨rfl, by repeat (first | exact Below.refl _ _ | refine Below.drew ?_ | refine Below.alloc ?_ (by first | (simp; done) | (simp; omega) | omega) _ | refine Below.setCell ?_ (by first | (simp; done) | (simp; omega) | omega) _ | refine Below.trans ?_ (Below.mono (by assumption) (by first | (simp; done) | (simp; omega) | omega)))⟩
  cases ht : okT x
  · rw [rB_t ht, sel_f rfl]
    go_enter Tryd.func76, Tryd.ntmps76
    go_wp2_with (first | (go_at_call 17; refine (specDriftOk_any _ _ _).mono ?_; rintro e w' ⟨rfl, hb⟩; obtain ⟨hc, hf⟩ := bcell hb; (first | have hB := Below.trans (Below.trans hB (by repeat (first | exact Below.refl _ _ | refine Below.drew ?_ | refine Below.alloc ?_ (by first | (simp; done) | (simp; omega) | omega) _ | refine Below.setCell ?_ (by first | (simp; done) | (simp; omega) | omega) _ | refine Below.trans ?_ (Below.mono (by assumption) (by first | (simp; done) | (simp; omega) | omega))))) (Below.mono hb (by first | (simp; done) | (simp; omega) | omega)) | have hB := hb); obtain ⟨hC, hF⟩ := bcell hB; have hz := hb.size; (try simp at hz); (try (have hz0 : w.heap.size < w'.heap.size := by omega)); (try (have hz1 : w.heap.size + 1 < w'.heap.size := by omega)); (try (have hz2 : w.heap.size + 1 + 1 < w'.heap.size := by omega)); (try (have hz3 : w.heap.size + 1 + 1 + 1 < w'.heap.size := by omega))) | (go_at_call 59; refine (l2Time_any _ _).mono ?_; rintro e w' ⟨rfl, rfl⟩))
    go_ret2
    exact ⟨rfl, by repeat (first | exact Below.refl _ _ | refine Below.drew ?_ | refine Below.alloc ?_ (by first | (simp; done) | (simp; omega) | omega) _ | refine Below.setCell ?_ (by first | (simp; done) | (simp; omega) | omega) _ | refine Below.trans ?_ (Below.mono (by assumption) (by first | (simp; done) | (simp; omega) | omega)))⟩
  rw [rB_r ho ht]
  have ⟨d1, d2, d3, d4⟩ := okD_t ho
  have ⟨t1, t2⟩ := okT_t ht
  have ⟨m1, m2⟩ := mul_bd (x := x) (y := d + n) (X := 1000000000000) (Y := 2000000) (by omega) (by omega) (by omega) (by omega)
  have ⟨v1, v2⟩ := dnI_bd (x := x * (d + n)) (n := d) m1 (by omega)
  go_enter Tryd.func76, Tryd.ntmps76
  go_wp2_with (first | (go_at_call 17; refine (specDriftOk_any _ _ _).mono ?_; rintro e w' ⟨rfl, hb⟩; obtain ⟨hc, hf⟩ := bcell hb; (first | have hB := Below.trans (Below.trans hB (by repeat (first | exact Below.refl _ _ | refine Below.drew ?_ | refine Below.alloc ?_ (by first | (simp; done) | (simp; omega) | omega) _ | refine Below.setCell ?_ (by first | (simp; done) | (simp; omega) | omega) _ | refine Below.trans ?_ (Below.mono (by assumption) (by first | (simp; done) | (simp; omega) | omega))))) (Below.mono hb (by first | (simp; done) | (simp; omega) | omega)) | have hB := hb); obtain ⟨hC, hF⟩ := bcell hB; have hz := hb.size; (try simp at hz); (try (have hz0 : w.heap.size < w'.heap.size := by omega)); (try (have hz1 : w.heap.size + 1 < w'.heap.size := by omega)); (try (have hz2 : w.heap.size + 1 + 1 < w'.heap.size := by omega)); (try (have hz3 : w.heap.size + 1 + 1 + 1 < w'.heap.size := by omega))) | (go_at_call 59; refine (l2Time_any _ _).mono ?_; rintro e w' ⟨rfl, rfl⟩) | (go_at_call 70; refine (l1Down_any _ _ _ (by omega) (by omega) (by omega) (by omega)).mono ?_; rintro e w' ⟨rfl, rfl⟩) | (go_at_call 68; refine (l2Told_any _ _ (by first | assumption | (simp only [← dnI]; assumption) | omega)).mono ?_; rintro e w' ⟨rfl, rfl⟩))
  go_ret2
  exact ⟨rfl, by repeat (first | exact Below.refl _ _ | refine Below.drew ?_ | refine Below.alloc ?_ (by first | (simp; done) | (simp; omega) | omega) _ | refine Below.setCell ?_ (by first | (simp; done) | (simp; omega) | omega) _ | refine Below.trans ?_ (Below.mono (by assumption) (by first | (simp; done) | (simp; omega) | omega)))⟩
end Go.Proofs.YtblappilppfkiaaDoor
namespace Go.Proofs.YtblappilppfkiaaDoor
open Go.RowKit
set_option linter.unusedVariables false
def nearI (lo hi t : Int) : Int := match okI lo hi with | true => imn (imx t lo) hi | false => 0
theorem nearI_t {lo hi t : Int} (h : okI lo hi = true) : nearI lo hi t = imn (imx t lo) hi := by rw [nearI, h]
theorem nearI_f {lo hi t : Int} (h : okI lo hi = false) : nearI lo hi t = 0 := by rw [nearI, h]
def withinI (al ah bl bh : Int) : Bool := okII al ah bl bh && decide (bl ≤ al ∧ ah ≤ bh)
end Go.Proofs.YtblappilppfkiaaDoor
namespace Go.Proofs.YtblappilppfkiaaDoor
open Go.RowKit
set_option linter.unusedVariables false
def mcB (n d t c : Int) : Bool := okD n d && okT t && okT c && decide (t * (d - n) ≤ c * d) && decide (c * d ≤ t * (d + n))
theorem mcB_d {n d t c : Int} (h : okD n d = false) : mcB n d t c = false := by simp [mcB, h]
theorem mcB_t {n d t c : Int} (h : okT t = false) : mcB n d t c = false := by simp [mcB, h]
theorem mcB_c {n d t c : Int} (h : okT c = false) : mcB n d t c = false := by simp [mcB, h]
theorem mcB_l {n d t c : Int} (h : decide (t * (d - n) ≤ c * d) = false) : mcB n d t c = false := by simp [mcB, h]
theorem mcB_r {n d t c : Int} (h1 : okD n d = true) (h2 : okT t = true) (h3 : okT c = true) (h : decide (t * (d - n) ≤ c * d) = true) : mcB n d t c = decide (c * d ≤ t * (d + n)) := by simp [mcB, h1, h2, h3, h]
def btB (n d x : Int) : Bool := rB n d x (upI (x * d) (d + n)) && rB n d x (dnI (x * d) (d - n))
def ctB (n d x : Int) : Bool := rB n d x (upI (x * (d - n)) d) && rB n d x (dnI (x * (d + n)) d)
set_option maxHeartbeats 2000000 in
theorem specBetween_any (n d x : Int) (w : World) :
    Calls Tryd.prog 21 #[.agg #[.int .i64 n, .int .i64 d], .int .i64 x] w fun e w' => e = .returned (.tuple #[.agg #[.int .i64 (sel (btB n d x) (upI (x * d) (d + n))), .int .i64 (sel (btB n d x) (dnI (x * d) (d - n)))], .bool (btB n d x)]) ∧ Below w.heap.size w w' := by
  cases h1 : rB n d x (upI (x * d) (d + n))
  · rw [show btB n d x = false by simp [btB, h1], sel_f rfl, sel_f rfl]
    go_enter Tryd.func21, Tryd.ntmps21
    go_wp2_with (first | (go_at_call 47; refine (specLeastTime_any _ _ _ _).mono ?_; rintro e w' ⟨rfl, hb⟩; obtain ⟨hc, hf⟩ := bcell hb; (first | have hB := Below.trans (Below.trans hB (by repeat (first | exact Below.refl _ _ | refine Below.drew ?_ | refine Below.alloc ?_ (by first | (simp; done) | (simp; omega) | omega) _ | refine Below.setCell ?_ (by first | (simp; done) | (simp; omega) | omega) _ | refine Below.trans ?_ (Below.mono (by assumption) (by first | (simp; done) | (simp; omega) | omega))))) (Below.mono hb (by first | (simp; done) | (simp; omega) | omega)) | have hB := hb); obtain ⟨hC, hF⟩ := bcell hB; have hz := hb.size; (try simp at hz); (try (have hz0 : w.heap.size < w'.heap.size := by omega)); (try (have hz1 : w.heap.size + 1 < w'.heap.size := by omega)); (try (have hz2 : w.heap.size + 1 + 1 < w'.heap.size := by omega)); (try (have hz3 : w.heap.size + 1 + 1 + 1 < w'.heap.size := by omega))) | (go_at_call 48; refine (specMostTime_any _ _ _ _).mono ?_; rintro e w' ⟨rfl, hb⟩; obtain ⟨hc, hf⟩ := bcell hb; (first | have hB := Below.trans (Below.trans hB (by repeat (first | exact Below.refl _ _ | refine Below.drew ?_ | refine Below.alloc ?_ (by first | (simp; done) | (simp; omega) | omega) _ | refine Below.setCell ?_ (by first | (simp; done) | (simp; omega) | omega) _ | refine Below.trans ?_ (Below.mono (by assumption) (by first | (simp; done) | (simp; omega) | omega))))) (Below.mono hb (by first | (simp; done) | (simp; omega) | omega)) | have hB := hb); obtain ⟨hC, hF⟩ := bcell hB; have hz := hb.size; (try simp at hz); (try (have hz0 : w.heap.size < w'.heap.size := by omega)); (try (have hz1 : w.heap.size + 1 < w'.heap.size := by omega)); (try (have hz2 : w.heap.size + 1 + 1 < w'.heap.size := by omega)); (try (have hz3 : w.heap.size + 1 + 1 + 1 < w'.heap.size := by omega))))
    exact bodyPost_ret (v := .tuple #[.agg #[.int .i64 0, .int .i64 0], .bool false]) (by simp (maxDischargeDepth := 6) [results, Tryd.results21, go_sem, *]) rfl ⟨rfl, by repeat (first | exact Below.refl _ _ | refine Below.drew ?_ | refine Below.alloc ?_ (by first | (simp; done) | (simp; omega) | omega) _ | refine Below.setCell ?_ (by first | (simp; done) | (simp; omega) | omega) _ | refine Below.trans ?_ (Below.mono (by assumption) (by first | (simp; done) | (simp; omega) | omega)))⟩
  cases h2 : rB n d x (dnI (x * d) (d - n))
  · rw [show btB n d x = false by simp [btB, h2], sel_f rfl, sel_f rfl]
    go_enter Tryd.func21, Tryd.ntmps21
    go_wp2_with (first | (go_at_call 47; refine (specLeastTime_any _ _ _ _).mono ?_; rintro e w' ⟨rfl, hb⟩; obtain ⟨hc, hf⟩ := bcell hb; (first | have hB := Below.trans (Below.trans hB (by repeat (first | exact Below.refl _ _ | refine Below.drew ?_ | refine Below.alloc ?_ (by first | (simp; done) | (simp; omega) | omega) _ | refine Below.setCell ?_ (by first | (simp; done) | (simp; omega) | omega) _ | refine Below.trans ?_ (Below.mono (by assumption) (by first | (simp; done) | (simp; omega) | omega))))) (Below.mono hb (by first | (simp; done) | (simp; omega) | omega)) | have hB := hb); obtain ⟨hC, hF⟩ := bcell hB; have hz := hb.size; (try simp at hz); (try (have hz0 : w.heap.size < w'.heap.size := by omega)); (try (have hz1 : w.heap.size + 1 < w'.heap.size := by omega)); (try (have hz2 : w.heap.size + 1 + 1 < w'.heap.size := by omega)); (try (have hz3 : w.heap.size + 1 + 1 + 1 < w'.heap.size := by omega))) | (go_at_call 48; refine (specMostTime_any _ _ _ _).mono ?_; rintro e w' ⟨rfl, hb⟩; obtain ⟨hc, hf⟩ := bcell hb; (first | have hB := Below.trans (Below.trans hB (by repeat (first | exact Below.refl _ _ | refine Below.drew ?_ | refine Below.alloc ?_ (by first | (simp; done) | (simp; omega) | omega) _ | refine Below.setCell ?_ (by first | (simp; done) | (simp; omega) | omega) _ | refine Below.trans ?_ (Below.mono (by assumption) (by first | (simp; done) | (simp; omega) | omega))))) (Below.mono hb (by first | (simp; done) | (simp; omega) | omega)) | have hB := hb); obtain ⟨hC, hF⟩ := bcell hB; have hz := hb.size; (try simp at hz); (try (have hz0 : w.heap.size < w'.heap.size := by omega)); (try (have hz1 : w.heap.size + 1 < w'.heap.size := by omega)); (try (have hz2 : w.heap.size + 1 + 1 < w'.heap.size := by omega)); (try (have hz3 : w.heap.size + 1 + 1 + 1 < w'.heap.size := by omega))))
    exact bodyPost_ret (v := .tuple #[.agg #[.int .i64 0, .int .i64 0], .bool false]) (by simp (maxDischargeDepth := 6) [results, Tryd.results21, go_sem, *]) rfl ⟨rfl, by repeat (first | exact Below.refl _ _ | refine Below.drew ?_ | refine Below.alloc ?_ (by first | (simp; done) | (simp; omega) | omega) _ | refine Below.setCell ?_ (by first | (simp; done) | (simp; omega) | omega) _ | refine Below.trans ?_ (Below.mono (by assumption) (by first | (simp; done) | (simp; omega) | omega)))⟩
  rw [show btB n d x = true by simp [btB, h1, h2], sel_t rfl, sel_t rfl]
  have e1 : sel true (upI (x * d) (d + n)) = (upI (x * d) (d + n)) := rfl
  have e2 : sel true (dnI (x * d) (d - n)) = (dnI (x * d) (d - n)) := rfl
  go_enter Tryd.func21, Tryd.ntmps21
  go_wp2_with (first | (go_at_call 47; refine (specLeastTime_any _ _ _ _).mono ?_; rintro e w' ⟨rfl, hb⟩; obtain ⟨hc, hf⟩ := bcell hb; (first | have hB := Below.trans (Below.trans hB (by repeat (first | exact Below.refl _ _ | refine Below.drew ?_ | refine Below.alloc ?_ (by first | (simp; done) | (simp; omega) | omega) _ | refine Below.setCell ?_ (by first | (simp; done) | (simp; omega) | omega) _ | refine Below.trans ?_ (Below.mono (by assumption) (by first | (simp; done) | (simp; omega) | omega))))) (Below.mono hb (by first | (simp; done) | (simp; omega) | omega)) | have hB := hb); obtain ⟨hC, hF⟩ := bcell hB; have hz := hb.size; (try simp at hz); (try (have hz0 : w.heap.size < w'.heap.size := by omega)); (try (have hz1 : w.heap.size + 1 < w'.heap.size := by omega)); (try (have hz2 : w.heap.size + 1 + 1 < w'.heap.size := by omega)); (try (have hz3 : w.heap.size + 1 + 1 + 1 < w'.heap.size := by omega))) | (go_at_call 48; refine (specMostTime_any _ _ _ _).mono ?_; rintro e w' ⟨rfl, hb⟩; obtain ⟨hc, hf⟩ := bcell hb; (first | have hB := Below.trans (Below.trans hB (by repeat (first | exact Below.refl _ _ | refine Below.drew ?_ | refine Below.alloc ?_ (by first | (simp; done) | (simp; omega) | omega) _ | refine Below.setCell ?_ (by first | (simp; done) | (simp; omega) | omega) _ | refine Below.trans ?_ (Below.mono (by assumption) (by first | (simp; done) | (simp; omega) | omega))))) (Below.mono hb (by first | (simp; done) | (simp; omega) | omega)) | have hB := hb); obtain ⟨hC, hF⟩ := bcell hB; have hz := hb.size; (try simp at hz); (try (have hz0 : w.heap.size < w'.heap.size := by omega)); (try (have hz1 : w.heap.size + 1 < w'.heap.size := by omega)); (try (have hz2 : w.heap.size + 1 + 1 < w'.heap.size := by omega)); (try (have hz3 : w.heap.size + 1 + 1 + 1 < w'.heap.size := by omega))))
  exact bodyPost_ret (v := .tuple #[.agg #[.int .i64 (upI (x * d) (d + n)), .int .i64 (dnI (x * d) (d - n))], .bool true]) (by simp (maxDischargeDepth := 6) [results, Tryd.results21, go_sem, *]) rfl ⟨rfl, by repeat (first | exact Below.refl _ _ | refine Below.drew ?_ | refine Below.alloc ?_ (by first | (simp; done) | (simp; omega) | omega) _ | refine Below.setCell ?_ (by first | (simp; done) | (simp; omega) | omega) _ | refine Below.trans ?_ (Below.mono (by assumption) (by first | (simp; done) | (simp; omega) | omega)))⟩
theorem le_upI {x n t : Int} (hn : 0 < n) (h : x ≤ t * n) : upI x n ≤ t := by
  rw [← upI_neg hn]
  have h2 : -t ≤ -x / n := (Int.le_ediv_iff_mul_le hn).2 (by rw [Int.neg_mul]; omega)
  omega
theorem dnI_le {x n t : Int} (hn : 0 < n) (h : t * n ≤ x) : t ≤ dnI x n := (Int.le_ediv_iff_mul_le hn).2 h
theorem lc_le {n d x : Int} (h : okD n d = true) (ht : okT x = true) : upI (x * (d - n)) d ≤ x ∧ x ≤ dnI (x * (d + n)) d := by
  have ⟨d1, d2, d3, d4⟩ := okD_t h
  have ⟨t1, t2⟩ := okT_t ht
  exact ⟨le_upI (by omega) (Int.mul_le_mul_of_nonneg_left (by omega) t1), dnI_le (by omega) (Int.mul_le_mul_of_nonneg_left (by omega) t1)⟩
theorem rB_o {n d x r : Int} (h : rB n d x r = true) : okD n d = true ∧ okT x = true ∧ okT r = true := by
  simp [rB] at h; exact ⟨h.1.1, h.1.2, h.2⟩
def clI (n d x t : Int) : Int := imn (imx t (upI (x * (d - n)) d)) (dnI (x * (d + n)) d)
theorem ct_near {n d x : Int} (h1 : rB n d x (upI (x * (d - n)) d) = true) (h2 : rB n d x (dnI (x * (d + n)) d) = true) : okI (upI (x * (d - n)) d) (dnI (x * (d + n)) d) = true := by
  have ⟨a, b, c⟩ := rB_o h1
  have ⟨_, _, e⟩ := rB_o h2
  have ⟨l, m⟩ := lc_le a b
  have ⟨c1, c2⟩ := okT_t c
  have ⟨e1, e2⟩ := okT_t e
  exact decide_eq_true ⟨by omega, by omega, by omega⟩
set_option maxHeartbeats 2000000 in
theorem specClamp_any (n d x t : Int) (w : World) :
    Calls Tryd.prog 60 #[.agg #[.int .i64 n, .int .i64 d], .int .i64 x, .int .i64 t] w fun e w' => e = .returned (.tuple #[.int .i64 (sel (ctB n d x) (clI n d x t)), .bool (ctB n d x)]) ∧ Below w.heap.size w w' := by
  cases h1 : rB n d x (upI (x * (d - n)) d)
  · rw [show ctB n d x = false by simp [ctB, h1], sel_f rfl]
    go_enter Tryd.func60, Tryd.ntmps60
    go_wp2_with (first | (go_at_call 75; refine (specLeastCount_any _ _ _ _).mono ?_; rintro e w' ⟨rfl, hb⟩; obtain ⟨hc, hf⟩ := bcell hb; (first | have hB := Below.trans (Below.trans hB (by repeat (first | exact Below.refl _ _ | refine Below.drew ?_ | refine Below.alloc ?_ (by first | (simp; done) | (simp; omega) | omega) _ | refine Below.setCell ?_ (by first | (simp; done) | (simp; omega) | omega) _ | refine Below.trans ?_ (Below.mono (by assumption) (by first | (simp; done) | (simp; omega) | omega))))) (Below.mono hb (by first | (simp; done) | (simp; omega) | omega)) | have hB := hb); obtain ⟨hC, hF⟩ := bcell hB; have hz := hb.size; (try simp at hz); (try (have hz0 : w.heap.size < w'.heap.size := by omega)); (try (have hz1 : w.heap.size + 1 < w'.heap.size := by omega)); (try (have hz2 : w.heap.size + 1 + 1 < w'.heap.size := by omega)); (try (have hz3 : w.heap.size + 1 + 1 + 1 < w'.heap.size := by omega))) | (go_at_call 76; refine (specMostCount_any _ _ _ _).mono ?_; rintro e w' ⟨rfl, hb⟩; obtain ⟨hc, hf⟩ := bcell hb; (first | have hB := Below.trans (Below.trans hB (by repeat (first | exact Below.refl _ _ | refine Below.drew ?_ | refine Below.alloc ?_ (by first | (simp; done) | (simp; omega) | omega) _ | refine Below.setCell ?_ (by first | (simp; done) | (simp; omega) | omega) _ | refine Below.trans ?_ (Below.mono (by assumption) (by first | (simp; done) | (simp; omega) | omega))))) (Below.mono hb (by first | (simp; done) | (simp; omega) | omega)) | have hB := hb); obtain ⟨hC, hF⟩ := bcell hB; have hz := hb.size; (try simp at hz); (try (have hz0 : w.heap.size < w'.heap.size := by omega)); (try (have hz1 : w.heap.size + 1 < w'.heap.size := by omega)); (try (have hz2 : w.heap.size + 1 + 1 < w'.heap.size := by omega)); (try (have hz3 : w.heap.size + 1 + 1 + 1 < w'.heap.size := by omega))) | (go_at_call 78; refine (l1Max_any _ _ _).mono ?_; rintro e w' ⟨rfl, rfl⟩) | (go_at_call 77; refine (l1Min_any _ _ _).mono ?_; rintro e w' ⟨rfl, rfl⟩))
    go_ret2
    exact ⟨rfl, by repeat (first | exact Below.refl _ _ | refine Below.drew ?_ | refine Below.alloc ?_ (by first | (simp; done) | (simp; omega) | omega) _ | refine Below.setCell ?_ (by first | (simp; done) | (simp; omega) | omega) _ | refine Below.trans ?_ (Below.mono (by assumption) (by first | (simp; done) | (simp; omega) | omega)))⟩
  cases h2 : rB n d x (dnI (x * (d + n)) d)
  · rw [show ctB n d x = false by simp [ctB, h2], sel_f rfl]
    go_enter Tryd.func60, Tryd.ntmps60
    go_wp2_with (first | (go_at_call 75; refine (specLeastCount_any _ _ _ _).mono ?_; rintro e w' ⟨rfl, hb⟩; obtain ⟨hc, hf⟩ := bcell hb; (first | have hB := Below.trans (Below.trans hB (by repeat (first | exact Below.refl _ _ | refine Below.drew ?_ | refine Below.alloc ?_ (by first | (simp; done) | (simp; omega) | omega) _ | refine Below.setCell ?_ (by first | (simp; done) | (simp; omega) | omega) _ | refine Below.trans ?_ (Below.mono (by assumption) (by first | (simp; done) | (simp; omega) | omega))))) (Below.mono hb (by first | (simp; done) | (simp; omega) | omega)) | have hB := hb); obtain ⟨hC, hF⟩ := bcell hB; have hz := hb.size; (try simp at hz); (try (have hz0 : w.heap.size < w'.heap.size := by omega)); (try (have hz1 : w.heap.size + 1 < w'.heap.size := by omega)); (try (have hz2 : w.heap.size + 1 + 1 < w'.heap.size := by omega)); (try (have hz3 : w.heap.size + 1 + 1 + 1 < w'.heap.size := by omega))) | (go_at_call 76; refine (specMostCount_any _ _ _ _).mono ?_; rintro e w' ⟨rfl, hb⟩; obtain ⟨hc, hf⟩ := bcell hb; (first | have hB := Below.trans (Below.trans hB (by repeat (first | exact Below.refl _ _ | refine Below.drew ?_ | refine Below.alloc ?_ (by first | (simp; done) | (simp; omega) | omega) _ | refine Below.setCell ?_ (by first | (simp; done) | (simp; omega) | omega) _ | refine Below.trans ?_ (Below.mono (by assumption) (by first | (simp; done) | (simp; omega) | omega))))) (Below.mono hb (by first | (simp; done) | (simp; omega) | omega)) | have hB := hb); obtain ⟨hC, hF⟩ := bcell hB; have hz := hb.size; (try simp at hz); (try (have hz0 : w.heap.size < w'.heap.size := by omega)); (try (have hz1 : w.heap.size + 1 < w'.heap.size := by omega)); (try (have hz2 : w.heap.size + 1 + 1 < w'.heap.size := by omega)); (try (have hz3 : w.heap.size + 1 + 1 + 1 < w'.heap.size := by omega))) | (go_at_call 78; refine (l1Max_any _ _ _).mono ?_; rintro e w' ⟨rfl, rfl⟩) | (go_at_call 77; refine (l1Min_any _ _ _).mono ?_; rintro e w' ⟨rfl, rfl⟩))
    go_ret2
    exact ⟨rfl, by repeat (first | exact Below.refl _ _ | refine Below.drew ?_ | refine Below.alloc ?_ (by first | (simp; done) | (simp; omega) | omega) _ | refine Below.setCell ?_ (by first | (simp; done) | (simp; omega) | omega) _ | refine Below.trans ?_ (Below.mono (by assumption) (by first | (simp; done) | (simp; omega) | omega)))⟩
  rw [show ctB n d x = true by simp [ctB, h1, h2], sel_t rfl]
  go_enter Tryd.func60, Tryd.ntmps60
  go_wp2_with (first | (go_at_call 75; refine (specLeastCount_any _ _ _ _).mono ?_; rintro e w' ⟨rfl, hb⟩; obtain ⟨hc, hf⟩ := bcell hb; (first | have hB := Below.trans (Below.trans hB (by repeat (first | exact Below.refl _ _ | refine Below.drew ?_ | refine Below.alloc ?_ (by first | (simp; done) | (simp; omega) | omega) _ | refine Below.setCell ?_ (by first | (simp; done) | (simp; omega) | omega) _ | refine Below.trans ?_ (Below.mono (by assumption) (by first | (simp; done) | (simp; omega) | omega))))) (Below.mono hb (by first | (simp; done) | (simp; omega) | omega)) | have hB := hb); obtain ⟨hC, hF⟩ := bcell hB; have hz := hb.size; (try simp at hz); (try (have hz0 : w.heap.size < w'.heap.size := by omega)); (try (have hz1 : w.heap.size + 1 < w'.heap.size := by omega)); (try (have hz2 : w.heap.size + 1 + 1 < w'.heap.size := by omega)); (try (have hz3 : w.heap.size + 1 + 1 + 1 < w'.heap.size := by omega))) | (go_at_call 76; refine (specMostCount_any _ _ _ _).mono ?_; rintro e w' ⟨rfl, hb⟩; obtain ⟨hc, hf⟩ := bcell hb; (first | have hB := Below.trans (Below.trans hB (by repeat (first | exact Below.refl _ _ | refine Below.drew ?_ | refine Below.alloc ?_ (by first | (simp; done) | (simp; omega) | omega) _ | refine Below.setCell ?_ (by first | (simp; done) | (simp; omega) | omega) _ | refine Below.trans ?_ (Below.mono (by assumption) (by first | (simp; done) | (simp; omega) | omega))))) (Below.mono hb (by first | (simp; done) | (simp; omega) | omega)) | have hB := hb); obtain ⟨hC, hF⟩ := bcell hB; have hz := hb.size; (try simp at hz); (try (have hz0 : w.heap.size < w'.heap.size := by omega)); (try (have hz1 : w.heap.size + 1 < w'.heap.size := by omega)); (try (have hz2 : w.heap.size + 1 + 1 < w'.heap.size := by omega)); (try (have hz3 : w.heap.size + 1 + 1 + 1 < w'.heap.size := by omega))) | (go_at_call 78; refine (l1Max_any _ _ _).mono ?_; rintro e w' ⟨rfl, rfl⟩) | (go_at_call 77; refine (l1Min_any _ _ _).mono ?_; rintro e w' ⟨rfl, rfl⟩))
  go_ret2
  exact ⟨rfl, by repeat (first | exact Below.refl _ _ | refine Below.drew ?_ | refine Below.alloc ?_ (by first | (simp; done) | (simp; omega) | omega) _ | refine Below.setCell ?_ (by first | (simp; done) | (simp; omega) | omega) _ | refine Below.trans ?_ (Below.mono (by assumption) (by first | (simp; done) | (simp; omega) | omega)))⟩
end Go.Proofs.YtblappilppfkiaaDoor
namespace Go.Proofs.YtblappilppfkiaaDoor
open Go.RowKit
set_option linter.unusedVariables false
def okO (n d t c : Int) : Bool := okD n d && okT t && okT c
theorem okO_t {n d t c : Int} (h : okO n d t c = true) : okD n d = true ∧ okT t = true ∧ okT c = true := by
  simp [okO] at h; exact ⟨h.1.1, h.1.2, h.2⟩
theorem okO_of {n d t c : Int} (h1 : okD n d = true) (h2 : okT t = true) (h3 : okT c = true) : okO n d t c = true := by simp [okO, h1, h2, h3]
set_option maxHeartbeats 1000000 in
theorem specOscOk_any (n d t c : Int) (w : World) :
    Calls Tryd.prog 37 #[.agg #[.int .i64 n, .int .i64 d, .int .i64 t, .int .i64 c]] w fun e w' => e = .returned (.bool (okO n d t c)) ∧ Below w.heap.size w w' := by
  cases ho : okD n d <;> cases ht : okT t <;> cases hk : okT c
  all_goals
    go_enter Tryd.func37, Tryd.ntmps37
    go_wp2_with (first | (go_at_call 17; refine (specDriftOk_any _ _ _).mono ?_; rintro e w' ⟨rfl, hb⟩; obtain ⟨hc, hf⟩ := bcell hb; (first | have hB := Below.trans (Below.trans hB (by repeat (first | exact Below.refl _ _ | refine Below.drew ?_ | refine Below.alloc ?_ (by first | (simp; done) | (simp; omega) | omega) _ | refine Below.setCell ?_ (by first | (simp; done) | (simp; omega) | omega) _ | refine Below.trans ?_ (Below.mono (by assumption) (by first | (simp; done) | (simp; omega) | omega))))) (Below.mono hb (by first | (simp; done) | (simp; omega) | omega)) | have hB := hb); obtain ⟨hC, hF⟩ := bcell hB; have hz := hb.size; (try simp at hz); (try (have hz0 : w.heap.size < w'.heap.size := by omega)); (try (have hz1 : w.heap.size + 1 < w'.heap.size := by omega)); (try (have hz2 : w.heap.size + 1 + 1 < w'.heap.size := by omega)); (try (have hz3 : w.heap.size + 1 + 1 + 1 < w'.heap.size := by omega))) | (go_at_call 59; refine (l2Time_any _ _).mono ?_; rintro e w' ⟨rfl, rfl⟩))
    go_ret
    exact ⟨ret_bool (by simp [okO, *]), by repeat (first | exact Below.refl _ _ | refine Below.drew ?_ | refine Below.alloc ?_ (by first | (simp; done) | (simp; omega) | omega) _ | refine Below.setCell ?_ (by first | (simp; done) | (simp; omega) | omega) _ | refine Below.trans ?_ (Below.mono (by assumption) (by first | (simp; done) | (simp; omega) | omega)))⟩
def Bx (w : World) (k : Nat) (x y : Int) : Prop := k < w.heap.size ∧ w.cell? ⟨k, 0, none⟩ = some (.int .i64 x) ∧ w.cell? ⟨k, 1, none⟩ = some (.int .i64 y) ∧ w.frozen? ⟨k, 0, none⟩ = false ∧ w.frozen? ⟨k, 1, none⟩ = false
theorem Bx.belowB {k B : Nat} {w w' : World} {x y : Int} (h : Bx w k x y) (hw : Below B w w') (hk : k < B) : Bx w' k x y :=
  ⟨Nat.lt_of_lt_of_le h.1 hw.size, by rw [hw.cell (p := ⟨k, 0, none⟩) hk]; exact h.2.1, by rw [hw.cell (p := ⟨k, 1, none⟩) hk]; exact h.2.2.1, by rw [hw.frozen (p := ⟨k, 0, none⟩) hk]; exact h.2.2.2.1, by rw [hw.frozen (p := ⟨k, 1, none⟩) hk]; exact h.2.2.2.2⟩
theorem Bx.below {k : Nat} {w w' : World} {x y : Int} (h : Bx w k x y) (hw : Below w.heap.size w w') : Bx w' k x y := h.belowB hw h.1
theorem Bx.alloc {k : Nat} {w : World} {x y : Int} (h : Bx w k x y) (o : Obj) : Bx (w.alloc o) k x y := h.below ((Below.refl _ _).alloc (Nat.le_refl _) _)
theorem Bx.new (w : World) (x y : Int) (T : TypeId) : Bx (w.alloc (.cells #[.int .i64 x, .int .i64 y] T)) w.heap.size x y := ⟨by simp, by simp, by simp, by simp, by simp⟩
theorem Bx.setO {k j : Nat} {w : World} {x y : Int} (h : Bx w k x y) (hk : j ≠ k) (o : Nat) (u : Value) : Bx (w.setCell ⟨j, o, none⟩ u) k x y := by
  have hne : ∀ q, (⟨j, o, none⟩ : Addr) ≠ ⟨k, q, none⟩ := fun q e => hk (congrArg Addr.block e)
  exact ⟨by simpa using h.1, by rw [World.cell?_setCell_other _ _ _ _ (hne _)]; exact h.2.1, by rw [World.cell?_setCell_other _ _ _ _ (hne _)]; exact h.2.2.1, by simpa using h.2.2.2.1, by simpa using h.2.2.2.2⟩
theorem Bx.drew {k : Nat} {w : World} {x y : Int} (h : Bx w k x y) : Bx w.drew k x y := h
theorem Below.alc (w : World) (o : Obj) : Below w.heap.size w (w.alloc o) := (Below.refl _ _).alloc (Nat.le_refl _) _
theorem Below.undrewO {B : Nat} {w w' : World} (h : Below B w.drew w') : Below B w w' := ⟨h.os, h.tape, h.output, h.size, h.block⟩
def Box4 (w : World) (k : Nat) (a b c d : Int) : Prop := k < w.heap.size ∧ w.cell? ⟨k, 0, none⟩ = some (.int .i64 a) ∧ w.cell? ⟨k, 1, none⟩ = some (.int .i64 b) ∧ w.cell? ⟨k, 2, none⟩ = some (.int .i64 c) ∧ w.cell? ⟨k, 3, none⟩ = some (.int .i64 d) ∧ w.frozen? ⟨k, 0, none⟩ = false ∧ w.frozen? ⟨k, 1, none⟩ = false ∧ w.frozen? ⟨k, 2, none⟩ = false ∧ w.frozen? ⟨k, 3, none⟩ = false
theorem Box4.belowB {k B : Nat} {w w' : World} {a b c d : Int} (h : Box4 w k a b c d) (hw : Below B w w') (hk : k < B) : Box4 w' k a b c d := by
  obtain ⟨h0, h1, h2, h3, h4, f1, f2, f3, f4⟩ := h
  exact ⟨Nat.lt_of_lt_of_le h0 hw.size, by rw [hw.cell (p := ⟨k, 0, none⟩) hk]; exact h1, by rw [hw.cell (p := ⟨k, 1, none⟩) hk]; exact h2, by rw [hw.cell (p := ⟨k, 2, none⟩) hk]; exact h3, by rw [hw.cell (p := ⟨k, 3, none⟩) hk]; exact h4, by rw [hw.frozen (p := ⟨k, 0, none⟩) hk]; exact f1, by rw [hw.frozen (p := ⟨k, 1, none⟩) hk]; exact f2, by rw [hw.frozen (p := ⟨k, 2, none⟩) hk]; exact f3, by rw [hw.frozen (p := ⟨k, 3, none⟩) hk]; exact f4⟩
theorem Box4.below {k : Nat} {w w' : World} {a b c d : Int} (h : Box4 w k a b c d) (hw : Below w.heap.size w w') : Box4 w' k a b c d := h.belowB hw h.1
theorem Box4.alloc {k : Nat} {w : World} {a b c d : Int} (h : Box4 w k a b c d) (o : Obj) : Box4 (w.alloc o) k a b c d := h.below ((Below.refl _ _).alloc (Nat.le_refl _) _)
theorem Box4.new (w : World) (a b c d : Int) (T : TypeId) : Box4 (w.alloc (.cells #[.int .i64 a, .int .i64 b, .int .i64 c, .int .i64 d] T)) w.heap.size a b c d := ⟨by simp, by simp, by simp, by simp, by simp, by simp, by simp, by simp, by simp⟩
theorem Box4.drew {k : Nat} {w : World} {a b c d : Int} (h : Box4 w k a b c d) : Box4 w.drew k a b c d := h
theorem Box4.setO {k j : Nat} {w : World} {a b c d : Int} (h : Box4 w k a b c d) (hk : j ≠ k) (o : Nat) (u : Value) : Box4 (w.setCell ⟨j, o, none⟩ u) k a b c d := by
  have hne : ∀ q, (⟨j, o, none⟩ : Addr) ≠ ⟨k, q, none⟩ := fun q e => hk (congrArg Addr.block e)
  obtain ⟨h0, h1, h2, h3, h4, f1, f2, f3, f4⟩ := h
  exact ⟨by simpa using h0, by rw [World.cell?_setCell_other _ _ _ _ (hne _)]; exact h1, by rw [World.cell?_setCell_other _ _ _ _ (hne _)]; exact h2, by rw [World.cell?_setCell_other _ _ _ _ (hne _)]; exact h3, by rw [World.cell?_setCell_other _ _ _ _ (hne _)]; exact h4, by simpa using f1, by simpa using f2, by simpa using f3, by simpa using f4⟩
def set4 (w : World) (k : Nat) (a b c d : Int) : World := (((w.setCell ⟨k, 0, none⟩ (.int .i64 a)).setCell ⟨k, 1, none⟩ (.int .i64 b)).setCell ⟨k, 2, none⟩ (.int .i64 c)).setCell ⟨k, 3, none⟩ (.int .i64 d)
theorem Box4.set {k : Nat} {w : World} {a b c d : Int} (h : Box4 w k a b c d) (a' b' c' d' : Int) : Box4 (set4 w k a' b' c' d') k a' b' c' d' := by
  obtain ⟨h0, h1, h2, h3, h4, f1, f2, f3, f4⟩ := h
  have n0 : ∀ (W : World) (i j : Nat) (u : Value), i ≠ j → (W.setCell ⟨k, i, none⟩ u).cell? ⟨k, j, none⟩ = W.cell? ⟨k, j, none⟩ := fun W i j u hij => World.cell?_setCell_other _ _ _ _ (by intro e; exact hij (congrArg Addr.off e))
  refine ⟨by simpa [set4] using h0, ?_, ?_, ?_, ?_, by simpa [set4] using f1, by simpa [set4] using f2, by simpa [set4] using f3, by simpa [set4] using f4⟩
  · unfold set4; rw [n0 _ _ _ _ (by decide), n0 _ _ _ _ (by decide), n0 _ _ _ _ (by decide)]; exact World.cell?_setCell_same _ _ _ h1
  · unfold set4; rw [n0 _ _ _ _ (by decide), n0 _ _ _ _ (by decide)]; exact World.cell?_setCell_same _ _ _ (by rw [n0 _ _ _ _ (by decide)]; exact h2)
  · unfold set4; rw [n0 _ _ _ _ (by decide)]; exact World.cell?_setCell_same _ _ _ (by rw [n0 _ _ _ _ (by decide), n0 _ _ _ _ (by decide)]; exact h3)
  · unfold set4; exact World.cell?_setCell_same _ _ _ (by rw [n0 _ _ _ _ (by decide), n0 _ _ _ _ (by decide), n0 _ _ _ _ (by decide)]; exact h4)
theorem Box4.set4O {k j : Nat} {w : World} {a b c d : Int} (h : Box4 w k a b c d) (hk : j ≠ k) (a' b' c' d' : Int) : Box4 (set4 w j a' b' c' d') k a b c d := (((h.setO hk _ _).setO hk _ _).setO hk _ _).setO hk _ _
theorem Bx.set4O {k j : Nat} {w : World} {x y : Int} (h : Bx w k x y) (hk : j ≠ k) (a' b' c' d' : Int) : Bx (set4 w j a' b' c' d') k x y := (((h.setO hk _ _).setO hk _ _).setO hk _ _).setO hk _ _
theorem Below.set4 {B j : Nat} {w w' : World} (h : Below B w w') (hj : B ≤ j) (a b c d : Int) : Below B w (set4 w' j a b c d) := (((h.setCell hj _).setCell hj _).setCell hj _).setCell hj _
end Go.Proofs.YtblappilppfkiaaDoor
namespace Go.Proofs.YtblappilppfkiaaDoor
open Go.RowKit
set_option linter.unusedVariables false
def BoxL (w : World) (k : Nat) (a : Bool) (b c d : Int) : Prop := k < w.heap.size ∧ w.cell? ⟨k, 0, none⟩ = some (.bool a) ∧ w.cell? ⟨k, 1, none⟩ = some (.int .i64 b) ∧ w.cell? ⟨k, 2, none⟩ = some (.int .i64 c) ∧ w.cell? ⟨k, 3, none⟩ = some (.int .i64 d) ∧ w.frozen? ⟨k, 0, none⟩ = false ∧ w.frozen? ⟨k, 1, none⟩ = false ∧ w.frozen? ⟨k, 2, none⟩ = false ∧ w.frozen? ⟨k, 3, none⟩ = false
theorem BoxL.belowB {k B : Nat} {w w' : World} {a : Bool} {b c d : Int} (h : BoxL w k a b c d) (hw : Below B w w') (hk : k < B) : BoxL w' k a b c d := by
  obtain ⟨h0, h1, h2, h3, h4, f1, f2, f3, f4⟩ := h
  exact ⟨Nat.lt_of_lt_of_le h0 hw.size, by rw [hw.cell (p := ⟨k, 0, none⟩) hk]; exact h1, by rw [hw.cell (p := ⟨k, 1, none⟩) hk]; exact h2, by rw [hw.cell (p := ⟨k, 2, none⟩) hk]; exact h3, by rw [hw.cell (p := ⟨k, 3, none⟩) hk]; exact h4, by rw [hw.frozen (p := ⟨k, 0, none⟩) hk]; exact f1, by rw [hw.frozen (p := ⟨k, 1, none⟩) hk]; exact f2, by rw [hw.frozen (p := ⟨k, 2, none⟩) hk]; exact f3, by rw [hw.frozen (p := ⟨k, 3, none⟩) hk]; exact f4⟩
theorem BoxL.below {k : Nat} {w w' : World} {a : Bool} {b c d : Int} (h : BoxL w k a b c d) (hw : Below w.heap.size w w') : BoxL w' k a b c d := h.belowB hw h.1
theorem BoxL.alloc {k : Nat} {w : World} {a : Bool} {b c d : Int} (h : BoxL w k a b c d) (o : Obj) : BoxL (w.alloc o) k a b c d := h.below ((Below.refl _ _).alloc (Nat.le_refl _) _)
theorem BoxL.new (w : World) (a : Bool) (b c d : Int) (T : TypeId) : BoxL (w.alloc (.cells #[.bool a, .int .i64 b, .int .i64 c, .int .i64 d] T)) w.heap.size a b c d := ⟨by simp, by simp, by simp, by simp, by simp, by simp, by simp, by simp, by simp⟩
theorem BoxL.drew {k : Nat} {w : World} {a : Bool} {b c d : Int} (h : BoxL w k a b c d) : BoxL w.drew k a b c d := h
theorem BoxL.setO {k j : Nat} {w : World} {a : Bool} {b c d : Int} (h : BoxL w k a b c d) (hk : j ≠ k) (o : Nat) (u : Value) : BoxL (w.setCell ⟨j, o, none⟩ u) k a b c d := by
  have hne : ∀ q, (⟨j, o, none⟩ : Addr) ≠ ⟨k, q, none⟩ := fun q e => hk (congrArg Addr.block e)
  obtain ⟨h0, h1, h2, h3, h4, f1, f2, f3, f4⟩ := h
  exact ⟨by simpa using h0, by rw [World.cell?_setCell_other _ _ _ _ (hne _)]; exact h1, by rw [World.cell?_setCell_other _ _ _ _ (hne _)]; exact h2, by rw [World.cell?_setCell_other _ _ _ _ (hne _)]; exact h3, by rw [World.cell?_setCell_other _ _ _ _ (hne _)]; exact h4, by simpa using f1, by simpa using f2, by simpa using f3, by simpa using f4⟩
def setL (w : World) (k : Nat) (a : Bool) (b c d : Int) : World := (((w.setCell ⟨k, 0, none⟩ (.bool a)).setCell ⟨k, 1, none⟩ (.int .i64 b)).setCell ⟨k, 2, none⟩ (.int .i64 c)).setCell ⟨k, 3, none⟩ (.int .i64 d)
theorem BoxL.set {k : Nat} {w : World} {a : Bool} {b c d : Int} (h : BoxL w k a b c d) (a' : Bool) (b' c' d' : Int) : BoxL (setL w k a' b' c' d') k a' b' c' d' := by
  obtain ⟨h0, h1, h2, h3, h4, f1, f2, f3, f4⟩ := h
  have n0 : ∀ (W : World) (i j : Nat) (u : Value), i ≠ j → (W.setCell ⟨k, i, none⟩ u).cell? ⟨k, j, none⟩ = W.cell? ⟨k, j, none⟩ := fun W i j u hij => World.cell?_setCell_other _ _ _ _ (by intro e; exact hij (congrArg Addr.off e))
  refine ⟨by simpa [setL] using h0, ?_, ?_, ?_, ?_, by simpa [setL] using f1, by simpa [setL] using f2, by simpa [setL] using f3, by simpa [setL] using f4⟩
  · unfold setL; rw [n0 _ _ _ _ (by decide), n0 _ _ _ _ (by decide), n0 _ _ _ _ (by decide)]; exact World.cell?_setCell_same _ _ _ h1
  · unfold setL; rw [n0 _ _ _ _ (by decide), n0 _ _ _ _ (by decide)]; exact World.cell?_setCell_same _ _ _ (by rw [n0 _ _ _ _ (by decide)]; exact h2)
  · unfold setL; rw [n0 _ _ _ _ (by decide)]; exact World.cell?_setCell_same _ _ _ (by rw [n0 _ _ _ _ (by decide), n0 _ _ _ _ (by decide)]; exact h3)
  · unfold setL; exact World.cell?_setCell_same _ _ _ (by rw [n0 _ _ _ _ (by decide), n0 _ _ _ _ (by decide), n0 _ _ _ _ (by decide)]; exact h4)
theorem BoxL.setLO {k j : Nat} {w : World} {a : Bool} {b c d : Int} (h : BoxL w k a b c d) (hk : j ≠ k) (a' : Bool) (b' c' d' : Int) : BoxL (setL w j a' b' c' d') k a b c d := (((h.setO hk _ _).setO hk _ _).setO hk _ _).setO hk _ _
theorem Bx.setLO {k j : Nat} {w : World} {x y : Int} (h : Bx w k x y) (hk : j ≠ k) (a' : Bool) (b' c' d' : Int) : Bx (setL w j a' b' c' d') k x y := (((h.setO hk _ _).setO hk _ _).setO hk _ _).setO hk _ _
theorem Below.setL {B j : Nat} {w w' : World} (h : Below B w w') (hj : B ≤ j) (a : Bool) (b c d : Int) : Below B w (setL w' j a b c d) := (((h.setCell hj _).setCell hj _).setCell hj _).setCell hj _
def putI (w : World) (k : Nat) (a b : Int) : World := (w.setCell ⟨k, 0, none⟩ (.int .i64 a)).setCell ⟨k, 1, none⟩ (.int .i64 b)
theorem Bx.setI {k : Nat} {w : World} {x y : Int} (h : Bx w k x y) (x' y' : Int) : Bx (putI w k x' y') k x' y' := by
  refine ⟨by simpa [putI] using h.1, ?_, ?_, by simpa [putI] using h.2.2.2.1, by simpa [putI] using h.2.2.2.2⟩
  · unfold putI
    rw [World.cell?_setCell_other _ _ _ _ (by simp), World.cell?_setCell_same _ _ _ h.2.1]
  · unfold putI
    exact World.cell?_setCell_same _ _ _ (by rw [World.cell?_setCell_other _ _ _ _ (by simp)]; exact h.2.2.1)
theorem Bx.setIO {k j : Nat} {w : World} {x y : Int} (h : Bx w k x y) (hk : j ≠ k) (a b : Int) : Bx (putI w j a b) k x y := (h.setO hk _ _).setO hk _ _
theorem BoxL.setIO {k j : Nat} {w : World} {a : Bool} {b c d : Int} (h : BoxL w k a b c d) (hk : j ≠ k) (x y : Int) : BoxL (putI w j x y) k a b c d := (h.setO hk _ _).setO hk _ _
theorem Below.setI {B j : Nat} {w w' : World} (h : Below B w w') (hj : B ≤ j) (a b : Int) : Below B w (putI w' j a b) := (h.setCell hj _).setCell hj _
def okL (kn : Bool) (lo hi a : Int) : Bool := match kn with | true => okI lo hi && okT a | false => decide (lo = 0 ∧ hi = 0 ∧ a = 0)
theorem okL_t {lo hi a : Int} (h : okL true lo hi a = true) : okI lo hi = true ∧ okT a = true := by simpa [okL] using h
end Go.Proofs.YtblappilppfkiaaDoor
namespace Go.Proofs.YtblappilppfkiaaDoor
open Go.RowKit
set_option linter.unusedVariables false
def crC (kn : Bool) (lo hi a n d c : Int) : Int := if okL kn lo hi a && okD n d && okT c then (if kn then (if c < a then 3 else if btB n d (c - a) then (if plusB lo hi (upI ((c - a) * d) (d + n)) (dnI ((c - a) * d) (d - n)) then 0 else 4) else 4) else 2) else 1
def crL (kn : Bool) (lo hi a n d c : Int) : Int := if crC kn lo hi a n d c = 0 then lo + upI ((c - a) * d) (d + n) else 0
def crH (kn : Bool) (lo hi a n d c : Int) : Int := if crC kn lo hi a n d c = 0 then hi + dnI ((c - a) * d) (d - n) else 0
def crP (kn : Bool) (lo hi a n d c : Int) : Bool := okL kn lo hi a && okD n d && okT c
theorem crC_1 {kn : Bool} {lo hi a n d c : Int} (h : crP kn lo hi a n d c = false) : crC kn lo hi a n d c = 1 ∧ crL kn lo hi a n d c = 0 ∧ crH kn lo hi a n d c = 0 := by
  have e : crC kn lo hi a n d c = 1 := by unfold crC; unfold crP at h; rw [h]; rfl
  exact ⟨e, by simp [crL, e], by simp [crH, e]⟩
theorem crC_2 {lo hi a n d c : Int} (h : crP false lo hi a n d c = true) : crC false lo hi a n d c = 2 ∧ crL false lo hi a n d c = 0 ∧ crH false lo hi a n d c = 0 := by
  have e : crC false lo hi a n d c = 2 := by unfold crC; unfold crP at h; rw [h]; rfl
  exact ⟨e, by simp [crL, e], by simp [crH, e]⟩
theorem crC_3 {lo hi a n d c : Int} (h : crP true lo hi a n d c = true) (h3 : c < a) : crC true lo hi a n d c = 3 ∧ crL true lo hi a n d c = 0 ∧ crH true lo hi a n d c = 0 := by
  have e : crC true lo hi a n d c = 3 := by unfold crC; unfold crP at h; rw [h]; simp [h3]
  exact ⟨e, by simp [crL, e], by simp [crH, e]⟩
theorem crC_4 {lo hi a n d c : Int} (h : crP true lo hi a n d c = true) (h3 : ¬ c < a) (h4 : btB n d (c - a) = false) : crC true lo hi a n d c = 4 ∧ crL true lo hi a n d c = 0 ∧ crH true lo hi a n d c = 0 := by
  have e : crC true lo hi a n d c = 4 := by unfold crC; unfold crP at h; rw [h]; simp [h3, h4]
  exact ⟨e, by simp [crL, e], by simp [crH, e]⟩
theorem crC_5 {lo hi a n d c : Int} (h : crP true lo hi a n d c = true) (h3 : ¬ c < a) (h4 : btB n d (c - a) = true) (h5 : plusB lo hi (upI ((c - a) * d) (d + n)) (dnI ((c - a) * d) (d - n)) = false) : crC true lo hi a n d c = 4 ∧ crL true lo hi a n d c = 0 ∧ crH true lo hi a n d c = 0 := by
  have e : crC true lo hi a n d c = 4 := by unfold crC; unfold crP at h; rw [h]; simp [h3, h4, h5]
  exact ⟨e, by simp [crL, e], by simp [crH, e]⟩
theorem crC_0 {lo hi a n d c : Int} (h : crP true lo hi a n d c = true) (h3 : ¬ c < a) (h4 : btB n d (c - a) = true) (h5 : plusB lo hi (upI ((c - a) * d) (d + n)) (dnI ((c - a) * d) (d - n)) = true) : crC true lo hi a n d c = 0 ∧ crL true lo hi a n d c = lo + upI ((c - a) * d) (d + n) ∧ crH true lo hi a n d c = hi + dnI ((c - a) * d) (d - n) := by
  have e : crC true lo hi a n d c = 0 := by unfold crC; unfold crP at h; rw [h]; simp [h3, h4, h5]
  exact ⟨e, by simp [crL, e], by simp [crH, e]⟩
theorem crP_p {lo hi a n d c : Int} (h : crP true lo hi a n d c = true) : okI lo hi = true ∧ okT a = true ∧ okD n d = true ∧ okT c = true := by
  simp [crP] at h; have := okL_t h.1.1; exact ⟨this.1, this.2, h.1.2, h.2⟩
end Go.Proofs.YtblappilppfkiaaDoor
namespace Go.Proofs.YtblappilppfkiaaDoor
open Go.RowKit
set_option linter.unusedVariables false
end Go.Proofs.YtblappilppfkiaaDoor
namespace Go.Proofs.YtblappilppfkiaaDoor
open Go.RowKit
set_option linter.unusedVariables false
theorem cr_zero {kn : Bool} {lo hi a n d c : Int} (h : crC kn lo hi a n d c ≠ 0) : crL kn lo hi a n d c = 0 ∧ crH kn lo hi a n d c = 0 := by
  simp [crL, crH, h]
theorem cr_cases (kn : Bool) (lo hi a n d c : Int) : (crP kn lo hi a n d c = false ∧ crC kn lo hi a n d c = 1) ∨ (crP kn lo hi a n d c = true ∧ kn = false ∧ crC kn lo hi a n d c = 2) ∨ (crP kn lo hi a n d c = true ∧ kn = true ∧ (crC kn lo hi a n d c = 3 ∨ crC kn lo hi a n d c = 4 ∨ crC kn lo hi a n d c = 0)) := by
  cases hp : crP kn lo hi a n d c
  · exact .inl ⟨rfl, (crC_1 hp).1⟩
  cases kn
  · exact .inr (.inl ⟨rfl, rfl, (crC_2 hp).1⟩)
  refine .inr (.inr ⟨rfl, rfl, ?_⟩)
  by_cases h4 : c < a
  · exact .inl (crC_3 hp h4).1
  cases h5 : btB n d (c - a)
  · exact .inr (.inl (crC_4 hp h4 h5).1)
  cases h6 : plusB lo hi (upI ((c - a) * d) (d + n)) (dnI ((c - a) * d) (d - n))
  · exact .inr (.inl (crC_5 hp h4 h5 h6).1)
  · exact .inr (.inr (crC_0 hp h4 h5 h6).1)
theorem cr_ok {lo hi a n d c : Int} {kn : Bool} (h : crC kn lo hi a n d c = 0) : kn = true ∧ okT c = true ∧ okI (crL kn lo hi a n d c) (crH kn lo hi a n d c) = true := by
  rcases cr_cases kn lo hi a n d c with ⟨_, e⟩ | ⟨_, _, e⟩ | ⟨hp, hk, _⟩
  · rw [e] at h; exact absurd h (by decide)
  · rw [e] at h; exact absurd h (by decide)
  subst hk
  have p4 := (crP_p hp).2.2.2
  refine ⟨rfl, p4, ?_⟩
  by_cases h4 : c < a
  · rw [(crC_3 hp h4).1] at h; exact absurd h (by decide)
  cases h5 : btB n d (c - a)
  · rw [(crC_4 hp h4 h5).1] at h; exact absurd h (by decide)
  cases h6 : plusB lo hi (upI ((c - a) * d) (d + n)) (dnI ((c - a) * d) (d - n))
  · rw [(crC_5 hp h4 h5 h6).1] at h; exact absurd h (by decide)
  · obtain ⟨_, e2, e3⟩ := crC_0 hp h4 h5 h6
    rw [e2, e3]; unfold plusB at h6; simp at h6; exact h6.2
def rbB (kn : Bool) (lo hi a n d c : Int) : Bool := decide (crC kn lo hi a n d c = 0)
def lnB (lo hi c : Int) : Bool := okL true lo hi c
end Go.Proofs.YtblappilppfkiaaDoor
namespace Go.Proofs.YtblappilppfkiaaDoor
open Go.RowKit
set_option linter.unusedVariables false
def two (n d : Int) (f : Nat → Int × Int) (j i : Nat) : Bool := mcB n d ((f i).1 - (f j).1) ((f i).2 - (f j).2)
def mkB (n d : Int) (f : Nat → Int × Int) (m : Nat) : Bool := okD n d && decide (1 ≤ m ∧ m ≤ 201) && decide (∀ i, i < m → (okT (f i).1 && okT (f i).2) = true)
def prB (n d : Int) (f : Nat → Int × Int) (m back : Nat) : Bool := decide (∀ i, i < m → ∀ j, j < i → i ≤ j + back → two n d f j i = true)
def mrB (n d : Int) (f : Nat → Int × Int) (m back : Nat) : Bool := mkB n d f m && prB n d f m back
section
variable {n d : Int} {f : Nat → Int × Int} {m back : Nat}
theorem mkB_t (h : mkB n d f m = true) : okD n d = true ∧ 1 ≤ m ∧ m ≤ 201 ∧ ∀ i, i < m → okT (f i).1 = true ∧ okT (f i).2 = true := by
  simp only [mkB, Bool.and_eq_true, decide_eq_true_eq] at h
  exact ⟨h.1.1, h.1.2.1, h.1.2.2, h.2⟩
theorem mkB_of (h1 : okD n d = true) (h2 : 1 ≤ m) (h3 : m ≤ 201) (h4 : ∀ i, i < m → okT (f i).1 = true ∧ okT (f i).2 = true) : mkB n d f m = true := by
  simp only [mkB, Bool.and_eq_true, decide_eq_true_eq]
  exact ⟨⟨h1, h2, h3⟩, h4⟩
theorem mkB_d (h : okD n d = false) : mkB n d f m = false := by simp [mkB, h]
theorem mkB_n (h : ¬ (1 ≤ m ∧ m ≤ 201)) : mkB n d f m = false := by simp [mkB, h]
theorem bool_f {b : Bool} (h : ¬ b = true) : b = false := by cases b; rfl; exact absurd rfl h
theorem mkB_i {i : Nat} (hi : i < m) (h : (okT (f i).1 && okT (f i).2) = false) : mkB n d f m = false := by
  refine bool_f fun hk => ?_
  have := (mkB_t hk).2.2.2 i hi
  rw [this.1, this.2] at h
  exact absurd h (by simp)
theorem prB_t (h : prB n d f m back = true) : ∀ i, i < m → ∀ j, j < i → i ≤ j + back → two n d f j i = true := of_decide_eq_true h
theorem prB_of (h : ∀ i, i < m → ∀ j, j < i → i ≤ j + back → two n d f j i = true) : prB n d f m back = true := decide_eq_true h
theorem prB_f {i j : Nat} (hi : i < m) (hj : j < i) (hb : i ≤ j + back) (h : two n d f j i = false) : prB n d f m back = false := by
  refine bool_f fun hk => ?_
  rw [prB_t hk i hi j hj hb] at h
  exact absurd h (by simp)
theorem mrB_k (h : mkB n d f m = false) : mrB n d f m back = false := by simp [mrB, h]
theorem mrB_p (h : prB n d f m back = false) : mrB n d f m back = false := by simp [mrB, h]
theorem mrB_of (h : mkB n d f m = true) (h2 : prB n d f m back = true) : mrB n d f m back = true := by simp [mrB, h, h2]
theorem mrB_t (h : mrB n d f m back = true) : mkB n d f m = true ∧ prB n d f m back = true := by simpa [mrB] using h
theorem mcB_y {t c : Int} (h : mcB n d t c = true) : okD n d = true ∧ okT t = true ∧ okT c = true ∧ t * (d - n) ≤ c * d ∧ c * d ≤ t * (d + n) := by
  simp only [mcB, Bool.and_eq_true, decide_eq_true_eq] at h
  exact ⟨h.1.1.1.1, h.1.1.1.2, h.1.1.2, h.1.2, h.2⟩
theorem mcB_of {t c : Int} (h1 : okD n d = true) (h2 : okT t = true) (h3 : okT c = true) (h4 : t * (d - n) ≤ c * d) (h5 : c * d ≤ t * (d + n)) : mcB n d t c = true := by
  simp only [mcB, Bool.and_eq_true, decide_eq_true_eq]
  exact ⟨⟨⟨⟨h1, h2⟩, h3⟩, h4⟩, h5⟩
theorem mcB_add {t c t' c' : Int} (h : mcB n d t c = true) (h' : mcB n d t' c' = true) (ht : okT (t + t') = true) (hc : okT (c + c') = true) : mcB n d (t + t') (c + c') = true := by
  have ⟨a1, a2, a3, a4, a5⟩ := mcB_y h
  have ⟨b1, b2, b3, b4, b5⟩ := mcB_y h'
  exact mcB_of a1 ht hc (by rw [Int.add_mul, Int.add_mul]; omega) (by rw [Int.add_mul, Int.add_mul]; omega)
theorem two_step {i j k : Nat} (hij : two n d f i j = true) (hjk : two n d f j k = true) (h1 : okT (f i).1 = true) (h2 : okT (f i).2 = true) (h3 : okT (f k).1 = true) (h4 : okT (f k).2 = true) : two n d f i k = true := by
  have ⟨a1, a2, a3, _, _⟩ := mcB_y hij
  have ⟨b1, b2, b3, _, _⟩ := mcB_y hjk
  have A2 := okT_t a2
  have A3 := okT_t a3
  have B2 := okT_t b2
  have B3 := okT_t b3
  have H1 := okT_t h1
  have H2 := okT_t h2
  have H3 := okT_t h3
  have H4 := okT_t h4
  have e1 : (f k).1 - (f i).1 = ((f j).1 - (f i).1) + ((f k).1 - (f j).1) := by omega
  have e2 : (f k).2 - (f i).2 = ((f j).2 - (f i).2) + ((f k).2 - (f j).2) := by omega
  unfold two
  rw [e1, e2]
  exact mcB_add hij hjk (decide_eq_true ⟨by omega, by omega⟩) (decide_eq_true ⟨by omega, by omega⟩)
theorem two_all (h : mrB n d f m 1 = true) : ∀ k i, i < i + (k + 1) → i + (k + 1) < m → two n d f i (i + (k + 1)) = true
  | 0, i, _, hm => prB_t (mrB_t h).2 (i + 1) hm i (by omega) (by omega)
  | k + 1, i, hi, hm => by
    have ⟨_, _, _, ho⟩ := mkB_t (mrB_t h).1
    have h1 := two_all h k i (by omega) (by omega)
    have h2 := prB_t (mrB_t h).2 (i + (k + 1 + 1)) hm (i + (k + 1)) (by omega) (by omega)
    exact two_step h1 h2 (ho i (by omega)).1 (ho i (by omega)).2 (ho _ hm).1 (ho _ hm).2
theorem two_lt (h : mrB n d f m 1 = true) {i j : Nat} (hij : i < j) (hj : j < m) : two n d f i j = true := by
  have := two_all h (j - i - 1) i (by omega) (by omega)
  rw [show i + (j - i - 1 + 1) = j by omega] at this
  exact this
theorem mrB_all (h1 : 1 ≤ back) : mrB n d f m back = mrB n d f m 1 := by
  rw [Bool.eq_iff_iff]
  constructor
  · intro h
    exact mrB_of (mrB_t h).1 (prB_of fun i hi j hj hb => prB_t (mrB_t h).2 i hi j hj (by omega))
  · intro h
    exact mrB_of (mrB_t h).1 (prB_of fun i hi j hj hb => two_lt h hj hi)
theorem up_time (h : mrB n d f m 1 = true) {i j : Nat} (hij : i ≤ j) (hj : j < m) : (f i).1 ≤ (f j).1 ∧ (f i).2 ≤ (f j).2 := by
  by_cases e : i = j
  · subst e; exact ⟨Int.le_refl _, Int.le_refl _⟩
  · have ⟨_, a2, a3, _, _⟩ := mcB_y (two_lt h (show i < j by omega) hj)
    have A2 := okT_t a2
    have A3 := okT_t a3
    exact ⟨by omega, by omega⟩
end
def lastLe (g : Nat → Int) (x : Int) : Nat → Nat
  | 0 => 0
  | k + 1 => if g k ≤ x then k else lastLe g x k
section
variable {g : Nat → Int} {x : Int}
theorem lastLe_y {k : Nat} (h : g k ≤ x) : lastLe g x (k + 1) = k := by simp [lastLe, h]
theorem lastLe_n {k : Nat} (h : ¬ g k ≤ x) : lastLe g x (k + 1) = lastLe g x k := by simp [lastLe, h]
theorem lastLe_lt : ∀ {m : Nat}, 1 ≤ m → lastLe g x m < m
  | 0, h => absurd h (by omega)
  | m + 1, _ => by
    by_cases h : g m ≤ x
    · rw [lastLe_y h]; omega
    · rw [lastLe_n h]
      by_cases hm : 1 ≤ m
      · have := lastLe_lt (m := m) hm; omega
      · obtain rfl : m = 0 := by omega
        simp [lastLe]
theorem lastLe_le : ∀ {m : Nat}, 1 ≤ m → g 0 ≤ x → g (lastLe g x m) ≤ x
  | 0, h, _ => absurd h (by omega)
  | m + 1, _, h0 => by
    by_cases h : g m ≤ x
    · rw [lastLe_y h]; exact h
    · rw [lastLe_n h]
      by_cases hm : 1 ≤ m
      · exact lastLe_le hm h0
      · obtain rfl : m = 0 := by omega
        exact h0
theorem lastLe_gt : ∀ {m i : Nat}, lastLe g x m < i → i < m → x < g i
  | 0, i, _, h => absurd h (by omega)
  | m + 1, i, hl, hi => by
    by_cases h : g m ≤ x
    · rw [lastLe_y h] at hl; omega
    · rw [lastLe_n h] at hl
      by_cases e : i = m
      · subst e; omega
      · exact lastLe_gt hl (by omega)
theorem lastLe_rest {k : Nat} : ∀ {m : Nat}, k ≤ m → (∀ i, k ≤ i → i < m → x < g i) → lastLe g x m = lastLe g x k
  | 0, h, _ => by have : k = 0 := by omega
                  subst this; rfl
  | m + 1, h, hg => by
    by_cases e : k = m + 1
    · subst e; rfl
    · have h1 := hg m (by omega) (by omega)
      rw [lastLe_n (by omega)]
      exact lastLe_rest (by omega) fun i a b => hg i a (by omega)
end
def inB (g : Nat → Int) (x : Int) (m : Nat) : Bool := decide (g 0 ≤ x ∧ x ≤ g (m - 1))
def whLo (Lf Mf : Int → Int) (g h : Nat → Int) (x : Int) (m : Nat) : Int :=
  if lastLe g x m + 1 = m then h (lastLe g x m) + Lf (x - g (lastLe g x m)) else imx (h (lastLe g x m) + Lf (x - g (lastLe g x m))) (h (lastLe g x m + 1) - Mf (g (lastLe g x m + 1) - x))
def whHi (Lf Mf : Int → Int) (g h : Nat → Int) (x : Int) (m : Nat) : Int :=
  if lastLe g x m + 1 = m then h (lastLe g x m) + Mf (x - g (lastLe g x m)) else imn (h (lastLe g x m) + Mf (x - g (lastLe g x m))) (h (lastLe g x m + 1) - Lf (g (lastLe g x m + 1) - x))
def whB (B2 : Int → Bool) (Lf Mf : Int → Int) (g h : Nat → Int) (x : Int) (m : Nat) : Bool :=
  inB g x m && B2 (x - g (lastLe g x m)) && (decide (lastLe g x m + 1 = m) || B2 (g (lastLe g x m + 1) - x)) && decide (whLo Lf Mf g h x m ≤ whHi Lf Mf g h x m)
def t1 (f : Nat → Int × Int) (i : Nat) : Int := (f i).1
def t2 (f : Nat → Int × Int) (i : Nat) : Int := (f i).2
end Go.Proofs.YtblappilppfkiaaDoor
namespace Go.Proofs.YtblappilppfkiaaDoor
open Go.RowKit
set_option linter.unusedVariables false
theorem ct_parts {n d x : Int} (h : ctB n d x = true) : rB n d x (upI (x * (d - n)) d) = true ∧ rB n d x (dnI (x * (d + n)) d) = true := by
  simp [ctB] at h; exact h
theorem clI_in {n d x t : Int} (h : ctB n d x = true) : okT x = true ∧ okD n d = true ∧ okT (clI n d x t) = true ∧ upI (x * (d - n)) d ≤ clI n d x t ∧ clI n d x t ≤ dnI (x * (d + n)) d := by
  have ⟨h1, h2⟩ := ct_parts h
  have ⟨a1, a2, a3⟩ := rB_o h1
  have ⟨b1, b2, b3⟩ := rB_o h2
  have ⟨c1, c2⟩ := okT_t a3
  have ⟨e1, e2⟩ := okT_t b3
  have ⟨l1, l2⟩ := lc_le a1 a2
  have hm : upI (x * (d - n)) d ≤ clI n d x t ∧ clI n d x t ≤ dnI (x * (d + n)) d := by
    unfold clI imn imx; split <;> split <;> constructor <;> omega
  exact ⟨a2, a1, decide_eq_true ⟨by omega, by omega⟩, hm.1, hm.2⟩
def stepB (n d t c b v : Int) : Bool := okO n d t c && ctB n d b && okT (t + b) && okT (c + clI n d b v)
def stT (n d t c b v : Int) : Int := if stepB n d t c b v then t + b else sel (okO n d t c) t
def stC (n d t c b v : Int) : Int := if stepB n d t c b v then c + clI n d b v else sel (okO n d t c) c
set_option maxHeartbeats 2000000 in
theorem specOscStep_any (n d t c b v : Int) (w : World) :
    Calls Tryd.prog 38 #[.agg #[.int .i64 n, .int .i64 d, .int .i64 t, .int .i64 c], .agg #[.int .i64 b, .int .i64 v]] w fun e w' => e = .returned (.tuple #[.agg #[.int .i64 (sel (okO n d t c) n), .int .i64 (sel (okO n d t c) d), .int .i64 (stT n d t c b v), .int .i64 (stC n d t c b v)], .bool (stepB n d t c b v)]) ∧ Below w.heap.size w w' := by
  cases ho : okO n d t c
  · have hs : stepB n d t c b v = false := by simp [stepB, ho]
    have eT : stT n d t c b v = 0 := by simp [stT, hs, ho, sel]
    have eC : stC n d t c b v = 0 := by simp [stC, hs, ho, sel]
    rw [hs, eT, eC, sel_f rfl, sel_f rfl]
    go_enter Tryd.func38, Tryd.ntmps38
    go_wp2_with (first | (go_at_call 37; refine (specOscOk_any _ _ _ _ _).mono ?_; rintro e w' ⟨rfl, hb⟩; obtain ⟨hc, hf⟩ := bcell hb; (first | have hB := Below.trans (Below.trans hB (by repeat (first | exact Below.refl _ _ | refine Below.drew ?_ | refine Below.alloc ?_ (by first | (simp; done) | (simp; omega) | omega) _ | refine Below.setCell ?_ (by first | (simp; done) | (simp; omega) | omega) _ | refine Below.trans ?_ (Below.mono (by assumption) (by first | (simp; done) | (simp; omega) | omega))))) (Below.mono hb (by first | (simp; done) | (simp; omega) | omega)) | have hB := hb); obtain ⟨hC, hF⟩ := bcell hB; have hz := hb.size; (try simp at hz); (try (have hz0 : w.heap.size < w'.heap.size := by omega)); (try (have hz1 : w.heap.size + 1 < w'.heap.size := by omega)); (try (have hz2 : w.heap.size + 1 + 1 < w'.heap.size := by omega)); (try (have hz3 : w.heap.size + 1 + 1 + 1 < w'.heap.size := by omega))))
    exact bodyPost_ret (v := .tuple #[.agg #[.int .i64 0, .int .i64 0, .int .i64 0, .int .i64 0], .bool false]) (by simp (maxDischargeDepth := 6) [results, Tryd.results38, go_sem, *]) rfl ⟨rfl, by repeat (first | exact Below.refl _ _ | refine Below.drew ?_ | refine Below.alloc ?_ (by first | (simp; done) | (simp; omega) | omega) _ | refine Below.setCell ?_ (by first | (simp; done) | (simp; omega) | omega) _ | refine Below.trans ?_ (Below.mono (by assumption) (by first | (simp; done) | (simp; omega) | omega)))⟩
  rw [sel_t rfl, sel_t rfl]
  have ⟨o1, o2, o3⟩ := okO_t ho
  have ⟨t1, t2⟩ := okT_t o2
  have ⟨c1, c2⟩ := okT_t o3
  cases hk : ctB n d b
  · have hs : stepB n d t c b v = false := by simp [stepB, ho, hk]
    have eT : stT n d t c b v = t := by simp [stT, hs, ho, sel]
    have eC : stC n d t c b v = c := by simp [stC, hs, ho, sel]
    rw [hs, eT, eC]
    go_enter Tryd.func38, Tryd.ntmps38
    go_wp2_with (first | (go_at_call 37; refine (specOscOk_any _ _ _ _ _).mono ?_; rintro e w' ⟨rfl, hb⟩; obtain ⟨hc, hf⟩ := bcell hb; (first | have hB := Below.trans (Below.trans hB (by repeat (first | exact Below.refl _ _ | refine Below.drew ?_ | refine Below.alloc ?_ (by first | (simp; done) | (simp; omega) | omega) _ | refine Below.setCell ?_ (by first | (simp; done) | (simp; omega) | omega) _ | refine Below.trans ?_ (Below.mono (by assumption) (by first | (simp; done) | (simp; omega) | omega))))) (Below.mono hb (by first | (simp; done) | (simp; omega) | omega)) | have hB := hb); obtain ⟨hC, hF⟩ := bcell hB; have hz := hb.size; (try simp at hz); (try (have hz0 : w.heap.size < w'.heap.size := by omega)); (try (have hz1 : w.heap.size + 1 < w'.heap.size := by omega)); (try (have hz2 : w.heap.size + 1 + 1 < w'.heap.size := by omega)); (try (have hz3 : w.heap.size + 1 + 1 + 1 < w'.heap.size := by omega))) | (go_at_call 60; refine (specClamp_any _ _ _ _ _).mono ?_; rintro e w' ⟨rfl, hb⟩; obtain ⟨hc, hf⟩ := bcell hb; (first | have hB := Below.trans (Below.trans hB (by repeat (first | exact Below.refl _ _ | refine Below.drew ?_ | refine Below.alloc ?_ (by first | (simp; done) | (simp; omega) | omega) _ | refine Below.setCell ?_ (by first | (simp; done) | (simp; omega) | omega) _ | refine Below.trans ?_ (Below.mono (by assumption) (by first | (simp; done) | (simp; omega) | omega))))) (Below.mono hb (by first | (simp; done) | (simp; omega) | omega)) | have hB := hb); obtain ⟨hC, hF⟩ := bcell hB; have hz := hb.size; (try simp at hz); (try (have hz0 : w.heap.size < w'.heap.size := by omega)); (try (have hz1 : w.heap.size + 1 < w'.heap.size := by omega)); (try (have hz2 : w.heap.size + 1 + 1 < w'.heap.size := by omega)); (try (have hz3 : w.heap.size + 1 + 1 + 1 < w'.heap.size := by omega))))
    exact bodyPost_ret (v := .tuple #[.agg #[.int .i64 n, .int .i64 d, .int .i64 t, .int .i64 c], .bool false]) (by simp (maxDischargeDepth := 6) [results, Tryd.results38, go_sem, *]) rfl ⟨rfl, by repeat (first | exact Below.refl _ _ | refine Below.drew ?_ | refine Below.alloc ?_ (by first | (simp; done) | (simp; omega) | omega) _ | refine Below.setCell ?_ (by first | (simp; done) | (simp; omega) | omega) _ | refine Below.trans ?_ (Below.mono (by assumption) (by first | (simp; done) | (simp; omega) | omega)))⟩
  have ⟨k1, k2, k3, k4, k5⟩ := clI_in (t := v) hk
  have ⟨b1, b2⟩ := okT_t k1
  have ⟨g1, g2⟩ := okT_t k3
  have es : sel true (clI n d b v) = clI n d b v := rfl
  have EQ : stepB n d t c b v = (okT (t + b) && okT (c + clI n d b v)) := by simp [stepB, ho, hk]
  by_cases ht : 1000000000000 < t + b
  · have hs : stepB n d t c b v = false := by rw [EQ]; simp [okT]; omega
    have eT : stT n d t c b v = t := by simp [stT, hs, ho, sel]
    have eC : stC n d t c b v = c := by simp [stC, hs, ho, sel]
    rw [hs, eT, eC]
    go_enter Tryd.func38, Tryd.ntmps38
    go_wp2_with (first | (go_at_call 37; refine (specOscOk_any _ _ _ _ _).mono ?_; rintro e w' ⟨rfl, hb⟩; obtain ⟨hc, hf⟩ := bcell hb; (first | have hB := Below.trans (Below.trans hB (by repeat (first | exact Below.refl _ _ | refine Below.drew ?_ | refine Below.alloc ?_ (by first | (simp; done) | (simp; omega) | omega) _ | refine Below.setCell ?_ (by first | (simp; done) | (simp; omega) | omega) _ | refine Below.trans ?_ (Below.mono (by assumption) (by first | (simp; done) | (simp; omega) | omega))))) (Below.mono hb (by first | (simp; done) | (simp; omega) | omega)) | have hB := hb); obtain ⟨hC, hF⟩ := bcell hB; have hz := hb.size; (try simp at hz); (try (have hz0 : w.heap.size < w'.heap.size := by omega)); (try (have hz1 : w.heap.size + 1 < w'.heap.size := by omega)); (try (have hz2 : w.heap.size + 1 + 1 < w'.heap.size := by omega)); (try (have hz3 : w.heap.size + 1 + 1 + 1 < w'.heap.size := by omega))) | (go_at_call 60; refine (specClamp_any _ _ _ _ _).mono ?_; rintro e w' ⟨rfl, hb⟩; obtain ⟨hc, hf⟩ := bcell hb; (first | have hB := Below.trans (Below.trans hB (by repeat (first | exact Below.refl _ _ | refine Below.drew ?_ | refine Below.alloc ?_ (by first | (simp; done) | (simp; omega) | omega) _ | refine Below.setCell ?_ (by first | (simp; done) | (simp; omega) | omega) _ | refine Below.trans ?_ (Below.mono (by assumption) (by first | (simp; done) | (simp; omega) | omega))))) (Below.mono hb (by first | (simp; done) | (simp; omega) | omega)) | have hB := hb); obtain ⟨hC, hF⟩ := bcell hB; have hz := hb.size; (try simp at hz); (try (have hz0 : w.heap.size < w'.heap.size := by omega)); (try (have hz1 : w.heap.size + 1 < w'.heap.size := by omega)); (try (have hz2 : w.heap.size + 1 + 1 < w'.heap.size := by omega)); (try (have hz3 : w.heap.size + 1 + 1 + 1 < w'.heap.size := by omega))))
    exact bodyPost_ret (v := .tuple #[.agg #[.int .i64 n, .int .i64 d, .int .i64 t, .int .i64 c], .bool false]) (by simp (maxDischargeDepth := 6) [results, Tryd.results38, go_sem, *]) rfl ⟨rfl, by repeat (first | exact Below.refl _ _ | refine Below.drew ?_ | refine Below.alloc ?_ (by first | (simp; done) | (simp; omega) | omega) _ | refine Below.setCell ?_ (by first | (simp; done) | (simp; omega) | omega) _ | refine Below.trans ?_ (Below.mono (by assumption) (by first | (simp; done) | (simp; omega) | omega)))⟩
  by_cases hc' : 1000000000000 < c + clI n d b v
  · have hs : stepB n d t c b v = false := by rw [EQ]; simp [okT]; omega
    have eT : stT n d t c b v = t := by simp [stT, hs, ho, sel]
    have eC : stC n d t c b v = c := by simp [stC, hs, ho, sel]
    rw [hs, eT, eC]
    go_enter Tryd.func38, Tryd.ntmps38
    go_wp2_with (first | (go_at_call 37; refine (specOscOk_any _ _ _ _ _).mono ?_; rintro e w' ⟨rfl, hb⟩; obtain ⟨hc, hf⟩ := bcell hb; (first | have hB := Below.trans (Below.trans hB (by repeat (first | exact Below.refl _ _ | refine Below.drew ?_ | refine Below.alloc ?_ (by first | (simp; done) | (simp; omega) | omega) _ | refine Below.setCell ?_ (by first | (simp; done) | (simp; omega) | omega) _ | refine Below.trans ?_ (Below.mono (by assumption) (by first | (simp; done) | (simp; omega) | omega))))) (Below.mono hb (by first | (simp; done) | (simp; omega) | omega)) | have hB := hb); obtain ⟨hC, hF⟩ := bcell hB; have hz := hb.size; (try simp at hz); (try (have hz0 : w.heap.size < w'.heap.size := by omega)); (try (have hz1 : w.heap.size + 1 < w'.heap.size := by omega)); (try (have hz2 : w.heap.size + 1 + 1 < w'.heap.size := by omega)); (try (have hz3 : w.heap.size + 1 + 1 + 1 < w'.heap.size := by omega))) | (go_at_call 60; refine (specClamp_any _ _ _ _ _).mono ?_; rintro e w' ⟨rfl, hb⟩; obtain ⟨hc, hf⟩ := bcell hb; (first | have hB := Below.trans (Below.trans hB (by repeat (first | exact Below.refl _ _ | refine Below.drew ?_ | refine Below.alloc ?_ (by first | (simp; done) | (simp; omega) | omega) _ | refine Below.setCell ?_ (by first | (simp; done) | (simp; omega) | omega) _ | refine Below.trans ?_ (Below.mono (by assumption) (by first | (simp; done) | (simp; omega) | omega))))) (Below.mono hb (by first | (simp; done) | (simp; omega) | omega)) | have hB := hb); obtain ⟨hC, hF⟩ := bcell hB; have hz := hb.size; (try simp at hz); (try (have hz0 : w.heap.size < w'.heap.size := by omega)); (try (have hz1 : w.heap.size + 1 < w'.heap.size := by omega)); (try (have hz2 : w.heap.size + 1 + 1 < w'.heap.size := by omega)); (try (have hz3 : w.heap.size + 1 + 1 + 1 < w'.heap.size := by omega))))
    exact bodyPost_ret (v := .tuple #[.agg #[.int .i64 n, .int .i64 d, .int .i64 t, .int .i64 c], .bool false]) (by simp (maxDischargeDepth := 6) [results, Tryd.results38, go_sem, *]) rfl ⟨rfl, by repeat (first | exact Below.refl _ _ | refine Below.drew ?_ | refine Below.alloc ?_ (by first | (simp; done) | (simp; omega) | omega) _ | refine Below.setCell ?_ (by first | (simp; done) | (simp; omega) | omega) _ | refine Below.trans ?_ (Below.mono (by assumption) (by first | (simp; done) | (simp; omega) | omega)))⟩
  have hs : stepB n d t c b v = true := by rw [EQ]; simp [okT]; omega
  have eT : stT n d t c b v = t + b := by simp [stT, hs]
  have eC : stC n d t c b v = c + clI n d b v := by simp [stC, hs]
  rw [hs, eT, eC]
  go_enter Tryd.func38, Tryd.ntmps38
  go_wp2_with (first | (go_at_call 37; refine (specOscOk_any _ _ _ _ _).mono ?_; rintro e w' ⟨rfl, hb⟩; obtain ⟨hc, hf⟩ := bcell hb; (first | have hB := Below.trans (Below.trans hB (by repeat (first | exact Below.refl _ _ | refine Below.drew ?_ | refine Below.alloc ?_ (by first | (simp; done) | (simp; omega) | omega) _ | refine Below.setCell ?_ (by first | (simp; done) | (simp; omega) | omega) _ | refine Below.trans ?_ (Below.mono (by assumption) (by first | (simp; done) | (simp; omega) | omega))))) (Below.mono hb (by first | (simp; done) | (simp; omega) | omega)) | have hB := hb); obtain ⟨hC, hF⟩ := bcell hB; have hz := hb.size; (try simp at hz); (try (have hz0 : w.heap.size < w'.heap.size := by omega)); (try (have hz1 : w.heap.size + 1 < w'.heap.size := by omega)); (try (have hz2 : w.heap.size + 1 + 1 < w'.heap.size := by omega)); (try (have hz3 : w.heap.size + 1 + 1 + 1 < w'.heap.size := by omega))) | (go_at_call 60; refine (specClamp_any _ _ _ _ _).mono ?_; rintro e w' ⟨rfl, hb⟩; obtain ⟨hc, hf⟩ := bcell hb; (first | have hB := Below.trans (Below.trans hB (by repeat (first | exact Below.refl _ _ | refine Below.drew ?_ | refine Below.alloc ?_ (by first | (simp; done) | (simp; omega) | omega) _ | refine Below.setCell ?_ (by first | (simp; done) | (simp; omega) | omega) _ | refine Below.trans ?_ (Below.mono (by assumption) (by first | (simp; done) | (simp; omega) | omega))))) (Below.mono hb (by first | (simp; done) | (simp; omega) | omega)) | have hB := hb); obtain ⟨hC, hF⟩ := bcell hB; have hz := hb.size; (try simp at hz); (try (have hz0 : w.heap.size < w'.heap.size := by omega)); (try (have hz1 : w.heap.size + 1 < w'.heap.size := by omega)); (try (have hz2 : w.heap.size + 1 + 1 < w'.heap.size := by omega)); (try (have hz3 : w.heap.size + 1 + 1 + 1 < w'.heap.size := by omega))))
  exact bodyPost_ret (v := .tuple #[.agg #[.int .i64 n, .int .i64 d, .int .i64 (t + b), .int .i64 (c + clI n d b v)], .bool true]) (by simp (maxDischargeDepth := 6) [results, Tryd.results38, go_sem, *]) rfl ⟨rfl, by repeat (first | exact Below.refl _ _ | refine Below.drew ?_ | refine Below.alloc ?_ (by first | (simp; done) | (simp; omega) | omega) _ | refine Below.setCell ?_ (by first | (simp; done) | (simp; omega) | omega) _ | refine Below.trans ?_ (Below.mono (by assumption) (by first | (simp; done) | (simp; omega) | omega)))⟩
end Go.Proofs.YtblappilppfkiaaDoor
namespace Go.Proofs.YtblappilppfkiaaDoor
open Go.RowKit
set_option linter.unusedVariables false
def Prs (w : World) (b off n : Nat) (f : Nat → Int × Int) : Prop :=
  b < w.heap.size ∧ ∀ i, i < n → w.cell? ⟨b, off + i * 2, none⟩ = some (.int .i64 (f i).1) ∧ w.cell? ⟨b, off + i * 2 + 1, none⟩ = some (.int .i64 (f i).2)
theorem Prs.below {w w' : World} {B b off n : Nat} {f : Nat → Int × Int} (h : Prs w b off n f) (hb : Below B w w') (hB : b < B) : Prs w' b off n f :=
  ⟨Nat.lt_of_lt_of_le h.1 hb.size, fun i hi => ⟨by rw [hb.cell (p := ⟨b, off + i * 2, none⟩) hB]; exact (h.2 i hi).1, by rw [hb.cell (p := ⟨b, off + i * 2 + 1, none⟩) hB]; exact (h.2 i hi).2⟩⟩
def allOk (f : Nat → Int × Int) : Nat → Bool
  | 0 => true
  | n + 1 => allOk f n && okI (f n).1 (f n).2
theorem allOk_no {f : Nat → Int × Int} {k : Nat} (h : okI (f k).1 (f k).2 = false) : ∀ n, k < n → allOk f n = false
  | 0, hn => absurd hn (Nat.not_lt_zero _)
  | n + 1, hn => by
    rcases Nat.lt_succ_iff_lt_or_eq.1 hn with h1 | h1
    · simp [allOk, allOk_no h n h1]
    · subst h1; simp [allOk, h]
end Go.Proofs.YtblappilppfkiaaDoor
namespace Go.Proofs.YtblappilppfkiaaDoor
open Go.RowKit
set_option linter.unusedVariables false
def rowObj (n : Nat) : Obj := .cells (madeCells #[.int .i64 0, .int .i64 0] (n * 2)) 49
theorem rowObj_is (w : World) (n : Nat) : (w.alloc (rowObj n)).rowIs w.heap.size 49 (n * 2) (fun _ => .int .i64 0) := by
  have h := World.rowIs_alloc w (madeCells #[.int .i64 0, .int .i64 0] (n * 2)) 49 (fun _ => .int .i64 0) (fun i hi => by
    rw [size_madeCells] at hi
    have : i % 2 = 0 ∨ i % 2 = 1 := by omega
    rcases this with h | h <;> simp [madeCells, hi, h])
  rw [size_madeCells] at h
  exact h
theorem row_prs {w : World} {b t n : Nat} {g : Nat → Value} {f : Nat → Int × Int} (h : w.rowIs b t (n * 2) g) (hg : ∀ j, j < n → g (j * 2) = .int .i64 (f j).1 ∧ g (j * 2 + 1) = .int .i64 (f j).2) : Prs w b 0 n f :=
  ⟨h.lt, fun i hi => ⟨by rw [Nat.zero_add, h.cell (by omega), (hg i hi).1], by rw [Nat.zero_add, h.cell (by omega), (hg i hi).2]⟩⟩
def RowK (w : World) (b t n k : Nat) (f : Nat → Int × Int) : Prop := ∃ g, w.rowIs b t (n * 2) g ∧ ∀ j, j < k → g (j * 2) = .int .i64 (f j).1 ∧ g (j * 2 + 1) = .int .i64 (f j).2
theorem RowK.step {w : World} {b t n k : Nat} {f : Nat → Int × Int} (h : RowK w b t n k f) : RowK ((w.setCell ⟨b, k * 2, none⟩ (.int .i64 (f k).1)).setCell ⟨b, k * 2 + 1, none⟩ (.int .i64 (f k).2)) b t n (k + 1) f := by
  obtain ⟨g, hr, hg⟩ := h
  refine ⟨_, (hr.set _ _).set _ _, fun j hj => ?_⟩
  rcases Nat.lt_succ_iff_lt_or_eq.1 hj with h1 | h1
  · have e1 : ¬ j * 2 = k * 2 + 1 := by omega
    have e2 : ¬ j * 2 = k * 2 := by omega
    have e3 : ¬ j * 2 + 1 = k * 2 + 1 := by omega
    have e4 : ¬ j * 2 + 1 = k * 2 := by omega
    simp only [if_neg e1, if_neg e2, if_neg e3, if_neg e4]
    exact hg j h1
  · subst h1
    have e1 : ¬ j * 2 = j * 2 + 1 := by omega
    simp only [if_neg e1, if_true, and_self]
theorem RowK.below {w w' : World} {B b t n k : Nat} {f : Nat → Int × Int} (h : RowK w b t n k f) (hb : Below B w w') (hB : b < B) : RowK w' b t n k f := by
  obtain ⟨g, hr, hg⟩ := h
  exact ⟨g, hr.of_block (hb.block b hB), hg⟩
theorem RowK.facts {w : World} {b t n k : Nat} {f : Nat → Int × Int} (h : RowK w b t n k f) (hk : k < n) : b < w.heap.size ∧ (∃ v, w.cell? ⟨b, k * 2, none⟩ = some v) ∧ (∃ v, w.cell? ⟨b, k * 2 + 1, none⟩ = some v) ∧ w.frozen? ⟨b, k * 2, none⟩ = false ∧ w.frozen? ⟨b, k * 2 + 1, none⟩ = false := by
  obtain ⟨g, hr, hg⟩ := h
  exact ⟨hr.lt, ⟨_, hr.cell (by omega)⟩, ⟨_, hr.cell (by omega)⟩, hr.frozen _, hr.frozen _⟩
end Go.Proofs.YtblappilppfkiaaDoor
