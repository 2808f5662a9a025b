/- What two rates have in common, in the program. -/
import Derived.Test.YtblappilppfkiaaDoorF127
import Derived.Test.YtblappilppfkiaaDoorF117
import Derived.Deep.RegionHeld3
import Derived.Deep.DeepCutAuto
import Derived.WalkKit
import Derived.WalkSpells
import Derived.WalkLawsBesides
import Derived.Deep.RegionHeld
namespace Go.Proofs.YtblappilppfkiaaDoor
open Go.RowKit
set_option linter.unusedVariables false
set_option maxHeartbeats 4000000 in
theorem ratesOk_any (a b c d : Int) (u : Addr) (w : World) (E : Er w 0 u) : Calls Tryd.prog 44 #[.agg #[.int .i64 a, .int .i64 b, .int .i64 c, .int .i64 d]] w fun e w' => e = .returned (.bool (okF a b && okF c d)) ∧ Below w.heap.size w w' := by
  have A := Below.nw w (.cells #[.int .i64 a, .int .i64 b, .int .i64 c, .int .i64 d] 83)
  have N := Rx4.new w a b c d 83
  replace E := E.below A
  cases h1 : okF a b
  · rw [Bool.false_and]
    go_enter Tryd.func44, Tryd.ntmps44
    go_upto_region 1 with fail
    generalize w.alloc (.cells #[.int .i64 a, .int .i64 b, .int .i64 c, .int .i64 d] 83) = v at *
    obtain ⟨n0, n1, n2, n3, n4, n5, n6, n7, n8⟩ := id N
    go_wp2_with fail
    refine (fracOk_any a b u v E).mono ?_
    rintro e v2 ⟨rfl, hb⟩
    rw [h1]
    go_wp2_with fail
    go_ret
    exact ⟨rfl, A.trans (hb.mono A.size)⟩
  · rw [Bool.true_and]
    go_enter Tryd.func44, Tryd.ntmps44
    go_upto_region 1 with fail
    generalize w.alloc (.cells #[.int .i64 a, .int .i64 b, .int .i64 c, .int .i64 d] 83) = v at *
    obtain ⟨n0, n1, n2, n3, n4, n5, n6, n7, n8⟩ := id N
    go_wp2_with fail
    refine (fracOk_any a b u v E).mono ?_
    rintro e v2 ⟨rfl, hb⟩
    rw [h1]
    clear n0 n1 n2 n3 n4 n5 n6 n7 n8
    replace N := N.below hb
    replace E := E.below hb
    replace A := A.trans (hb.mono A.size)
    clear hb
    obtain ⟨n0, n1, n2, n3, n4, n5, n6, n7, n8⟩ := id N
    go_wp2_with fail
    refine (fracOk_any c d u v2 E).mono ?_
    rintro e v3 ⟨rfl, hb⟩
    go_wp2_with fail
    go_ret
    exact ⟨rfl, A.trans (hb.mono A.size)⟩
/- The error beside what two rates have in common. -/
def meE (u v : Addr) (P B : Bool) : Value := match B, P with | true, _ => .nilIface | false, true => .iface 124 (.pointer (some v)) | false, false => .iface 124 (.pointer (some u))
theorem pick_lo {a b e f : Int} (h1 : okF a b = true) (h2 : okF e f = true) : mlX a b e f = loP a b e f a e ∧ mlY a b e f = loP a b e f b f ∧ okF (loP a b e f a e) (loP a b e f b f) = true := by
  have e1 : fcI e f a b = -cmpF a b e f := by rw [fcI_t h2 h1, cmp_opp a b e f]
  unfold mlX mlY loP
  rw [e1]
  by_cases h : cmpF a b e f < 0
  · rw [if_pos h, if_pos h, if_pos (show 0 < -cmpF a b e f by omega), if_pos (show 0 < -cmpF a b e f by omega)]
    exact ⟨rfl, rfl, h2⟩
  · rw [if_neg h, if_neg h, if_neg (show ¬ 0 < -cmpF a b e f by omega), if_neg (show ¬ 0 < -cmpF a b e f by omega)]
    exact ⟨rfl, rfl, h1⟩
theorem pick_hi {c d g h : Int} (h1 : okF c d = true) (h2 : okF g h = true) : mhX c d g h = hiP c d g h c g ∧ mhY c d g h = hiP c d g h d h ∧ okF (hiP c d g h c g) (hiP c d g h d h) = true := by
  have e1 : fcI g h c d = -cmpF c d g h := by rw [fcI_t h2 h1, cmp_opp c d g h]
  unfold mhX mhY hiP
  rw [e1]
  by_cases hh : 0 < cmpF c d g h
  · rw [if_pos hh, if_pos hh, if_pos (show -cmpF c d g h < 0 by omega), if_pos (show -cmpF c d g h < 0 by omega)]
    exact ⟨rfl, rfl, h2⟩
  · rw [if_neg hh, if_neg hh, if_neg (show ¬ -cmpF c d g h < 0 by omega), if_neg (show ¬ -cmpF c d g h < 0 by omega)]
    exact ⟨rfl, rfl, h1⟩
theorem mt_no {a b c d e f g h : Int} (hP : mtP a b c d e f g h = false) : mtB a b c d e f g h = false := by rw [mtB, hP]; rfl
theorem mt_yes {a b c d e f g h : Int} (hP : mtP a b c d e f g h = true) : (mlX a b e f = loP a b e f a e ∧ mlY a b e f = loP a b e f b f ∧ okF (loP a b e f a e) (loP a b e f b f) = true) ∧ (mhX c d g h = hiP c d g h c g ∧ mhY c d g h = hiP c d g h d h ∧ okF (hiP c d g h c g) (hiP c d g h d h) = true) ∧ mtB a b c d e f g h = !decide (0 < cmpF (loP a b e f a e) (loP a b e f b f) (hiP c d g h c g) (hiP c d g h d h)) := by
  have hP' := hP
  unfold mtP at hP'
  simp only [Bool.and_eq_true] at hP'
  obtain ⟨⟨⟨k1, k2⟩, k3⟩, k4⟩ := hP'
  have l := pick_lo k1 k3
  have m := pick_hi k2 k4
  refine ⟨l, m, ?_⟩
  rw [mtB, hP, Bool.true_and, l.1, l.2.1, m.1, m.2.1, fcI_t l.2.2 m.2.2]
set_option maxRecDepth 100000 in
set_option maxHeartbeats 16000000 in
theorem meet_any (a b c d e f g h : Int) (u v : Addr) (w : World) (E : Er w 0 u) (E1 : Er w 1 v) :
    Calls Tryd.prog 43 #[.agg #[.int .i64 a, .int .i64 b, .int .i64 c, .int .i64 d], .agg #[.int .i64 e, .int .i64 f, .int .i64 g, .int .i64 h]] w fun ee w' => ee = .returned (.tuple #[.agg #[.int .i64 (mtV (mtB a b c d e f g h) (mlX a b e f)), .int .i64 (mtV (mtB a b c d e f g h) (mlY a b e f)), .int .i64 (mtV (mtB a b c d e f g h) (mhX c d g h)), .int .i64 (mtV (mtB a b c d e f g h) (mhY c d g h))], (meE u v (mtP a b c d e f g h) (mtB a b c d e f g h))]) ∧ Below w.heap.size w w' := by
  have A0 := Below.nw w (.cells #[.int .i64 a, .int .i64 b, .int .i64 c, .int .i64 d] 83)
  have A1 := Below.nw (w.alloc (.cells #[.int .i64 a, .int .i64 b, .int .i64 c, .int .i64 d] 83)) (.cells #[.int .i64 e, .int .i64 f, .int .i64 g, .int .i64 h] 83)
  have A2 := Below.nw ((w.alloc (.cells #[.int .i64 a, .int .i64 b, .int .i64 c, .int .i64 d] 83)).alloc (.cells #[.int .i64 e, .int .i64 f, .int .i64 g, .int .i64 h] 83)) (.cells #[.int .i64 0, .int .i64 0, .int .i64 0, .int .i64 0] 83)
  have N := ((Rx4.new w a b c d 83).below A1).below A2
  have Q := (Rx4.new (w.alloc (.cells #[.int .i64 a, .int .i64 b, .int .i64 c, .int .i64 d] 83)) e f g h 83).below A2
  have R := Rx4.new ((w.alloc (.cells #[.int .i64 a, .int .i64 b, .int .i64 c, .int .i64 d] 83)).alloc (.cells #[.int .i64 e, .int .i64 f, .int .i64 g, .int .i64 h] 83)) 0 0 0 0 83
  have B := (A0.trans (A1.mono A0.size)).trans (A2.mono (A0.trans (A1.mono A0.size)).size)
  simp only [World.size_alloc] at Q R
  clear A0 A1 A2
  have hj : w.heap.size ≤ w.heap.size + 1 + 1 := by omega
  have hg : 0 ≠ w.heap.size + 1 + 1 := by have := E.2.1; omega
  have hg1 : 1 ≠ w.heap.size + 1 + 1 := by have := E1.2.1; omega
  replace E := E.below B
  replace E1 := E1.below B
  cases hP : mtP a b c d e f g h
  · rw [mt_no hP]
    show Calls Tryd.prog 43 #[.agg #[.int .i64 a, .int .i64 b, .int .i64 c, .int .i64 d], .agg #[.int .i64 e, .int .i64 f, .int .i64 g, .int .i64 h]] w fun ee w' => ee = .returned (.tuple #[.agg #[.int .i64 0, .int .i64 0, .int .i64 0, .int .i64 0], (.iface 124 (.pointer (some u)))]) ∧ Below w.heap.size w w'
    clear E1 hg1
    cases k1 : (okF a b && okF c d)
    · go_enter Tryd.func43, Tryd.ntmps43; go_upto_region 1 with fail; generalize (((w.alloc (.cells #[.int .i64 a, .int .i64 b, .int .i64 c, .int .i64 d] 83)).alloc (.cells #[.int .i64 e, .int .i64 f, .int .i64 g, .int .i64 h] 83)).alloc (.cells #[.int .i64 0, .int .i64 0, .int .i64 0, .int .i64 0] 83)) = vv at *; generalize w.heap.size + 1 + 1 = jr at *; generalize w.heap.size + 1 = js at *
      obtain ⟨n0, n1, n2, n3, n4, n5, n6, n7, n8⟩ := id N
      go_wp2_with fail
      refine (ratesOk_any a b c d u vv E).mono ?_
      rintro ee v2 ⟨rfl, hbl⟩
      rw [k1]
      clear n0 n1 n2 n3 n4 n5 n6 n7 n8
      replace N := N.below hbl; replace Q := Q.below hbl; replace R := R.below hbl; replace E := E.below hbl; replace B := B.trans (hbl.mono B.size); clear hbl
      have k0 := E.1
      have RR := R.put 0 0 0 0
      have BB := Below.put4 B hj 0 0 0 0
      unfold put4 at RR BB
      obtain ⟨r0, r1, r2, r3, r4, r5, r6, r7, r8⟩ := id R
      go_wp2_with fail
      refine wp_region_held_drew (S := (fun w' => w'.cell? ⟨0, 0, none⟩ = some (.iface 124 (.pointer (some u))))) (by kernel_rfl) ?_ (fun hHeld => ?_)
      · first | exact k0 | exact (keepC (keepC (keepC (keepC k0 hg) hg) hg) hg)
      refine wpAnyH_take (i := 0) (v := ?_) (by rw [List.getElem?_toArray]; rfl) (by kernel_rfl) (by kernel_rfl) (by kernel_rfl) (by intro _ _ _ h; exact h) (Or.inl ⟨by rfl, ?_⟩) (by assumption) ?_
      rotate_left
      · (intro w hSw; (try dsimp only at hSw); go_simp; all_goals with_reducible rfl)
      (try simp only [Act.put, List.setIfInBounds_toArray, List.set_cons_zero, List.set_cons_succ])
      refine wpAnyH_take (i := 1) (v := ?_) (by rw [List.getElem?_toArray]; rfl) (by kernel_rfl) (by kernel_rfl) (by kernel_rfl) (by intro _ _ _ h; exact h) (Or.inl ⟨by rfl, ?_⟩) (by assumption) ?_
      rotate_left
      · (intro w hSw; (try dsimp only at hSw); go_simp; all_goals with_reducible rfl)
      (try simp only [Act.put, List.setIfInBounds_toArray, List.set_cons_zero, List.set_cons_succ])
      refine wpAnyH_ready (rs := [2]) (by kernel_rfl) (by simp) ?_
      refine AllReadyH.cons (by rw [List.getElem?_toArray]; rfl) (fun K hK => ?_) AllReadyH.nil
      go_simp
      refine hK.out _ _ ?_ (fun hHeld => ?_)
      · first | exact k0 | exact (keepC (keepC (keepC (keepC k0 hg) hg) hg) hg)
      clear hK K
      (try simp only [Act.put, List.setIfInBounds_toArray, List.set_cons_zero, List.set_cons_succ])
      refine wpAnyH_take (i := 3) (v := ?_) (by rw [List.getElem?_toArray]; rfl) (by kernel_rfl) (by kernel_rfl) (by kernel_rfl) (by intro _ _ _ h; exact h) (Or.inl ⟨by rfl, ?_⟩) (by assumption) ?_
      rotate_left
      · (intro w hSw; (try dsimp only at hSw); go_simp; all_goals with_reducible rfl)
      (try simp only [Act.put, List.setIfInBounds_toArray, List.set_cons_zero, List.set_cons_succ])
      refine wpAnyH_done (by kernel_rfl) ?_ _
      go_wp2_with fail
      clear r0 r1 r2 r3 r4 r5 r6 r7 r8 k0
      generalize ((((v2.setCell ⟨jr, 0, none⟩ (.int .i64 0)).setCell ⟨jr, 1, none⟩ (.int .i64 0)).setCell ⟨jr, 2, none⟩ (.int .i64 0)).setCell ⟨jr, 3, none⟩ (.int .i64 0)) = v3 at *
      obtain ⟨r0, r1, r2, r3, r4, r5, r6, r7, r8⟩ := id RR
      exact bodyPost_ret (v := (.tuple #[.agg #[.int .i64 0, .int .i64 0, .int .i64 0, .int .i64 0], (.iface 124 (.pointer (some u)))])) (by simp (maxDischargeDepth := 6) [results, Tryd.results43, go_sem, *]) rfl ⟨rfl, Below.drew BB⟩
    · have k2 : (okF e f && okF g h) = false := by
        rw [mtP, k1, Bool.true_and] at hP
        exact hP
      go_enter Tryd.func43, Tryd.ntmps43; go_upto_region 1 with fail; generalize (((w.alloc (.cells #[.int .i64 a, .int .i64 b, .int .i64 c, .int .i64 d] 83)).alloc (.cells #[.int .i64 e, .int .i64 f, .int .i64 g, .int .i64 h] 83)).alloc (.cells #[.int .i64 0, .int .i64 0, .int .i64 0, .int .i64 0] 83)) = vv at *; generalize w.heap.size + 1 + 1 = jr at *; generalize w.heap.size + 1 = js at *
      obtain ⟨n0, n1, n2, n3, n4, n5, n6, n7, n8⟩ := id N
      go_wp2_with fail
      refine (ratesOk_any a b c d u vv E).mono ?_
      rintro ee v2 ⟨rfl, hbl⟩
      rw [k1]
      clear n0 n1 n2 n3 n4 n5 n6 n7 n8
      replace N := N.below hbl; replace Q := Q.below hbl; replace R := R.below hbl; replace E := E.below hbl; replace B := B.trans (hbl.mono B.size); clear hbl
      obtain ⟨m0, m1, m2, m3, m4, m5, m6, m7, m8⟩ := id Q
      go_wp2_with fail
      refine (ratesOk_any e f g h u v2 E).mono ?_
      rintro ee v4 ⟨rfl, hbl⟩
      rw [k2]
      clear m0 m1 m2 m3 m4 m5 m6 m7 m8
      replace N := N.below hbl; replace Q := Q.below hbl; replace R := R.below hbl; replace E := E.below hbl; replace B := B.trans (hbl.mono B.size); clear hbl
      have k0 := E.1
      have RR := R.put 0 0 0 0
      have BB := Below.put4 B hj 0 0 0 0
      unfold put4 at RR BB
      obtain ⟨r0, r1, r2, r3, r4, r5, r6, r7, r8⟩ := id R
      go_wp2_with fail
      refine wp_region_held_drew (S := (fun w' => w'.cell? ⟨0, 0, none⟩ = some (.iface 124 (.pointer (some u))))) (by kernel_rfl) ?_ (fun hHeld => ?_)
      · first | exact k0 | exact (keepC (keepC (keepC (keepC k0 hg) hg) hg) hg)
      refine wpAnyH_take (i := 0) (v := ?_) (by rw [List.getElem?_toArray]; rfl) (by kernel_rfl) (by kernel_rfl) (by kernel_rfl) (by intro _ _ _ h; exact h) (Or.inl ⟨by rfl, ?_⟩) (by assumption) ?_
      rotate_left
      · (intro w hSw; (try dsimp only at hSw); go_simp; all_goals with_reducible rfl)
      (try simp only [Act.put, List.setIfInBounds_toArray, List.set_cons_zero, List.set_cons_succ])
      refine wpAnyH_take (i := 1) (v := ?_) (by rw [List.getElem?_toArray]; rfl) (by kernel_rfl) (by kernel_rfl) (by kernel_rfl) (by intro _ _ _ h; exact h) (Or.inl ⟨by rfl, ?_⟩) (by assumption) ?_
      rotate_left
      · (intro w hSw; (try dsimp only at hSw); go_simp; all_goals with_reducible rfl)
      (try simp only [Act.put, List.setIfInBounds_toArray, List.set_cons_zero, List.set_cons_succ])
      refine wpAnyH_ready (rs := [2]) (by kernel_rfl) (by simp) ?_
      refine AllReadyH.cons (by rw [List.getElem?_toArray]; rfl) (fun K hK => ?_) AllReadyH.nil
      go_simp
      refine hK.out _ _ ?_ (fun hHeld => ?_)
      · first | exact k0 | exact (keepC (keepC (keepC (keepC k0 hg) hg) hg) hg)
      clear hK K
      (try simp only [Act.put, List.setIfInBounds_toArray, List.set_cons_zero, List.set_cons_succ])
      refine wpAnyH_take (i := 3) (v := ?_) (by rw [List.getElem?_toArray]; rfl) (by kernel_rfl) (by kernel_rfl) (by kernel_rfl) (by intro _ _ _ h; exact h) (Or.inl ⟨by rfl, ?_⟩) (by assumption) ?_
      rotate_left
      · (intro w hSw; (try dsimp only at hSw); go_simp; all_goals with_reducible rfl)
      (try simp only [Act.put, List.setIfInBounds_toArray, List.set_cons_zero, List.set_cons_succ])
      refine wpAnyH_done (by kernel_rfl) ?_ _
      go_wp2_with fail
      clear r0 r1 r2 r3 r4 r5 r6 r7 r8 k0
      generalize ((((v4.setCell ⟨jr, 0, none⟩ (.int .i64 0)).setCell ⟨jr, 1, none⟩ (.int .i64 0)).setCell ⟨jr, 2, none⟩ (.int .i64 0)).setCell ⟨jr, 3, none⟩ (.int .i64 0)) = v3 at *
      obtain ⟨r0, r1, r2, r3, r4, r5, r6, r7, r8⟩ := id RR
      exact bodyPost_ret (v := (.tuple #[.agg #[.int .i64 0, .int .i64 0, .int .i64 0, .int .i64 0], (.iface 124 (.pointer (some u)))])) (by simp (maxDischargeDepth := 6) [results, Tryd.results43, go_sem, *]) rfl ⟨rfl, Below.drew BB⟩
  obtain ⟨⟨l1, l2, l3⟩, ⟨m1', m2', m3'⟩, hBB⟩ := mt_yes hP
  rw [l1, l2, m1', m2', hBB]
  have hP' := hP
  unfold mtP at hP'
  simp only [Bool.and_eq_true] at hP'
  obtain ⟨⟨⟨q1, q2⟩, q3⟩, q4⟩ := hP'
  have k1 : (okF a b && okF c d) = true := by rw [q1, q2]; rfl
  have k2 : (okF e f && okF g h) = true := by rw [q3, q4]; rfl
  have CA := fun w' => chosenL_any a b e f w' (okF_t q1).1 (okF_t q1).2.1 (okF_t q3).1 (okF_t q3).2.1
  have CB := fun w' => chosenH_any c d g h w' (okF_t q2).1 (okF_t q2).2.1 (okF_t q4).1 (okF_t q4).2.1
  clear l1 l2 m1' m2' hBB q1 q2 q3 q4 hP
  generalize loP a b e f a e = lx at *
  generalize loP a b e f b f = ly at *
  generalize hiP c d g h c g = hx at *
  generalize hiP c d g h d h = hy at *
  have CC := fun w' => fabove_any lx ly hx hy w' (okF_t l3).1 (okF_t l3).2.1 (okF_t m3').1 (okF_t m3').2.1
  clear l3 m3'
  have fin : ∀ (t : Bool), (∀ w', Calls Tryd.prog 65 #[.agg #[.int .i64 lx, .int .i64 ly], .agg #[.int .i64 hx, .int .i64 hy]] w' fun e w'' => e = .returned (.bool t) ∧ Below w'.heap.size w' w'') → Calls Tryd.prog 43 #[.agg #[.int .i64 a, .int .i64 b, .int .i64 c, .int .i64 d], .agg #[.int .i64 e, .int .i64 f, .int .i64 g, .int .i64 h]] w fun ee w' => ee = .returned (.tuple #[.agg #[.int .i64 (mtV (!t) lx), .int .i64 (mtV (!t) ly), .int .i64 (mtV (!t) hx), .int .i64 (mtV (!t) hy)], (meE u v true (!t))]) ∧ Below w.heap.size w w' := by
    clear CC
    intro t CC
    have hR : ∃ x1 x2 x3 x4 er, x1 = mtV (!t) lx ∧ x2 = mtV (!t) ly ∧ x3 = mtV (!t) hx ∧ x4 = mtV (!t) hy ∧ er = meE u v true (!t) := ⟨_, _, _, _, _, rfl, rfl, rfl, rfl, rfl⟩
    clear hR
    go_enter Tryd.func43, Tryd.ntmps43; go_upto_region 1 with fail; generalize (((w.alloc (.cells #[.int .i64 a, .int .i64 b, .int .i64 c, .int .i64 d] 83)).alloc (.cells #[.int .i64 e, .int .i64 f, .int .i64 g, .int .i64 h] 83)).alloc (.cells #[.int .i64 0, .int .i64 0, .int .i64 0, .int .i64 0] 83)) = vv at *; generalize w.heap.size + 1 + 1 = jr at *; generalize w.heap.size + 1 = js at *
    obtain ⟨n0, n1, n2, n3, n4, n5, n6, n7, n8⟩ := id N
    go_wp2_with fail
    refine (ratesOk_any a b c d u vv E).mono ?_
    rintro ee v2 ⟨rfl, hbl⟩
    rw [k1]
    clear n0 n1 n2 n3 n4 n5 n6 n7 n8
    replace N := N.below hbl; replace Q := Q.below hbl; replace R := R.below hbl; replace E := E.below hbl; replace E1 := E1.below hbl; replace B := B.trans (hbl.mono B.size); clear hbl
    obtain ⟨m0, m1, m2, m3, m4, m5, m6, m7, m8⟩ := id Q
    go_wp2_with fail
    refine (ratesOk_any e f g h u v2 E).mono ?_
    rintro ee v4 ⟨rfl, hbl⟩
    rw [k2]
    clear m0 m1 m2 m3 m4 m5 m6 m7 m8
    replace N := N.below hbl; replace Q := Q.below hbl; replace R := R.below hbl; replace E := E.below hbl; replace E1 := E1.below hbl; replace B := B.trans (hbl.mono B.size); clear hbl
    obtain ⟨n0, n1, n2, n3, n4, n5, n6, n7, n8⟩ := id N
    obtain ⟨m0, m1, m2, m3, m4, m5, m6, m7, m8⟩ := id Q
    have SK : Hid (∀ w', Below v4.heap.size v4 w' → (w'.cell? ⟨w.heap.size, 0, none⟩ = some (.int .i64 a) ∧ w'.cell? ⟨w.heap.size, 1, none⟩ = some (.int .i64 b) ∧ w'.cell? ⟨js, 0, none⟩ = some (.int .i64 e) ∧ w'.cell? ⟨js, 1, none⟩ = some (.int .i64 f) ∧ w'.cell? ⟨w.heap.size, 2, none⟩ = some (.int .i64 c) ∧ w'.cell? ⟨w.heap.size, 3, none⟩ = some (.int .i64 d) ∧ w'.cell? ⟨js, 2, none⟩ = some (.int .i64 g) ∧ w'.cell? ⟨js, 3, none⟩ = some (.int .i64 h))) := fun w' hw => by
      obtain ⟨x0, x1, x2, x3, x4, x5, x6, x7, x8⟩ := N.below hw
      obtain ⟨y0, y1, y2, y3, y4, y5, y6, y7, y8⟩ := Q.below hw
      exact ⟨x1, x2, y1, y2, x3, x4, y3, y4⟩
    go_upto_region 3 with fail
    go_cut [6] (fun s6 wx => ∃ k : Nat, s6 = .pointer (some ⟨k, 0, none⟩) ∧ v4.heap.size ≤ k ∧ Rx4 wx k lx ly hx hy ∧ Below v4.heap.size v4 wx)
    case first =>
      refine wp_region_held_drew (S := (fun w' => w'.cell? ⟨w.heap.size, 0, none⟩ = some (.int .i64 a) ∧ w'.cell? ⟨w.heap.size, 1, none⟩ = some (.int .i64 b) ∧ w'.cell? ⟨js, 0, none⟩ = some (.int .i64 e) ∧ w'.cell? ⟨js, 1, none⟩ = some (.int .i64 f) ∧ w'.cell? ⟨w.heap.size, 2, none⟩ = some (.int .i64 c) ∧ w'.cell? ⟨w.heap.size, 3, none⟩ = some (.int .i64 d) ∧ w'.cell? ⟨js, 2, none⟩ = some (.int .i64 g) ∧ w'.cell? ⟨js, 3, none⟩ = some (.int .i64 h))) (by kernel_rfl) ?_ (fun hHeld => ?_)
      · first | exact SK.out _ XB | exact SK.out _ (Below.drew (Below.refl _ _))
      have XB : Below v4.heap.size v4 v4.drew := Below.drew (Below.refl _ _)
      generalize v4.drew = vx at *
      refine wpAnyH_take (i := 0) (v := ?_) (by rw [List.getElem?_toArray]; rfl) (by kernel_rfl) (by kernel_rfl) (by kernel_rfl) (by intro _ _ _ h; exact h) (Or.inl ⟨by rfl, ?_⟩) (by assumption) ?_
      rotate_left
      · (intro w hSw; (try dsimp only at hSw); go_simp; all_goals with_reducible rfl)
      (try simp only [Act.put, List.setIfInBounds_toArray, List.set_cons_zero, List.set_cons_succ])
      refine wpAnyH_take (i := 1) (v := ?_) (by rw [List.getElem?_toArray]; rfl) (by kernel_rfl) (by kernel_rfl) (by kernel_rfl) (by intro _ _ _ h; exact h) (Or.inl ⟨by rfl, ?_⟩) (by assumption) ?_
      rotate_left
      · (intro w hSw; (try dsimp only at hSw); go_simp; all_goals with_reducible rfl)
      (try simp only [Act.put, List.setIfInBounds_toArray, List.set_cons_zero, List.set_cons_succ])
      refine wpAnyH_take (i := 2) (v := ?_) (by rw [List.getElem?_toArray]; rfl) (by kernel_rfl) (by kernel_rfl) (by kernel_rfl) (by intro _ _ _ h; exact h) (Or.inl ⟨by rfl, ?_⟩) (by assumption) ?_
      rotate_left
      · (intro w hSw; (try dsimp only at hSw); go_simp; all_goals with_reducible rfl)
      (try simp only [Act.put, List.setIfInBounds_toArray, List.set_cons_zero, List.set_cons_succ])
      refine wpAnyH_take (i := 3) (v := ?_) (by rw [List.getElem?_toArray]; rfl) (by kernel_rfl) (by kernel_rfl) (by kernel_rfl) (by intro _ _ _ h; exact h) (Or.inl ⟨by rfl, ?_⟩) (by assumption) ?_
      rotate_left
      · (intro w hSw; (try dsimp only at hSw); go_simp; all_goals with_reducible rfl)
      (try simp only [Act.put, List.setIfInBounds_toArray, List.set_cons_zero, List.set_cons_succ])
      refine wpAnyH_take (i := 5) (v := ?_) (by rw [List.getElem?_toArray]; rfl) (by kernel_rfl) (by kernel_rfl) (by kernel_rfl) (by intro _ _ _ h; exact h) (Or.inl ⟨by rfl, ?_⟩) (by assumption) ?_
      rotate_left
      · (intro w hSw; (try dsimp only at hSw); go_simp; all_goals with_reducible rfl)
      (try simp only [Act.put, List.setIfInBounds_toArray, List.set_cons_zero, List.set_cons_succ])
      refine wpAnyH_take (i := 6) (v := ?_) (by rw [List.getElem?_toArray]; rfl) (by kernel_rfl) (by kernel_rfl) (by kernel_rfl) (by intro _ _ _ h; exact h) (Or.inl ⟨by rfl, ?_⟩) (by assumption) ?_
      rotate_left
      · (intro w hSw; (try dsimp only at hSw); go_simp; all_goals with_reducible rfl)
      (try simp only [Act.put, List.setIfInBounds_toArray, List.set_cons_zero, List.set_cons_succ])
      refine wpAnyH_take (i := 7) (v := ?_) (by rw [List.getElem?_toArray]; rfl) (by kernel_rfl) (by kernel_rfl) (by kernel_rfl) (by intro _ _ _ h; exact h) (Or.inl ⟨by rfl, ?_⟩) (by assumption) ?_
      rotate_left
      · (intro w hSw; (try dsimp only at hSw); go_simp; all_goals with_reducible rfl)
      (try simp only [Act.put, List.setIfInBounds_toArray, List.set_cons_zero, List.set_cons_succ])
      refine wpAnyH_take (i := 8) (v := ?_) (by rw [List.getElem?_toArray]; rfl) (by kernel_rfl) (by kernel_rfl) (by kernel_rfl) (by intro _ _ _ h; exact h) (Or.inl ⟨by rfl, ?_⟩) (by assumption) ?_
      rotate_left
      · (intro w hSw; (try dsimp only at hSw); go_simp; all_goals with_reducible rfl)
      (try simp only [Act.put, List.setIfInBounds_toArray, List.set_cons_zero, List.set_cons_succ])
      refine wpAnyH_ready (rs := [4, 11]) (by kernel_rfl) (by simp) ?_
      refine (AllReadyH.cons (by rw [List.getElem?_toArray]; rfl) (fun K hK => ?_) (AllReadyH.cons (by rw [List.getElem?_toArray]; rfl) (fun K hK => ?_) AllReadyH.nil))
      · go_simp
        refine (CA _).mono ?_; rintro ee vx ⟨rfl, hbl⟩; (try clear kz0 kz1 kz2 kz3 kz4 kf1 kf2 kf3 kf4); (replace XB := XB.trans (hbl.mono XB.size)); (try (replace K4 := K4.below hbl)); clear hbl; (try (obtain ⟨kz0, kz1, kz2, kz3, kz4, kf1, kf2, kf3, kf4⟩ := id K4))
        (try go_wp2_with fail)
        refine hK.out _ _ ?_ (fun hHeld => ?_)
        · first | exact SK.out _ XB | exact SK.out _ (Below.drew (Below.refl _ _))
        clear hK K
        (try simp only [Act.put, List.setIfInBounds_toArray, List.set_cons_zero, List.set_cons_succ])
        refine wpAnyH_ready (rs := [9, 11]) (by kernel_rfl) (by simp) ?_
        refine (AllReadyH.cons (by rw [List.getElem?_toArray]; rfl) (fun K hK => ?_) (AllReadyH.cons (by rw [List.getElem?_toArray]; rfl) (fun K hK => ?_) AllReadyH.nil))
        · go_simp
          refine (CB _).mono ?_; rintro ee vx ⟨rfl, hbl⟩; (try clear kz0 kz1 kz2 kz3 kz4 kf1 kf2 kf3 kf4); (replace XB := XB.trans (hbl.mono XB.size)); (try (replace K4 := K4.below hbl)); clear hbl; (try (obtain ⟨kz0, kz1, kz2, kz3, kz4, kf1, kf2, kf3, kf4⟩ := id K4))
          (try go_wp2_with fail)
          refine hK.out _ _ ?_ (fun hHeld => ?_)
          · first | exact SK.out _ XB | exact SK.out _ (Below.drew (Below.refl _ _))
          clear hK K
          (try simp only [Act.put, List.setIfInBounds_toArray, List.set_cons_zero, List.set_cons_succ])
          refine wpAnyH_take (i := 10) (v := ?_) (by rw [List.getElem?_toArray]; rfl) (by kernel_rfl) (by kernel_rfl) (by kernel_rfl) (by intro _ _ _ h; exact h) (Or.inl ⟨by rfl, ?_⟩) (by assumption) ?_
          rotate_left
          · (intro w hSw; (try dsimp only at hSw); go_simp; all_goals with_reducible rfl)
          (try simp only [Act.put, List.setIfInBounds_toArray, List.set_cons_zero, List.set_cons_succ])
          refine wpAnyH_ready (rs := [11]) (by kernel_rfl) (by simp) ?_
          refine (AllReadyH.cons (by rw [List.getElem?_toArray]; rfl) (fun K hK => ?_) AllReadyH.nil)
          go_simp
          (have K4 := Rx4.new vx 0 0 0 0 83); (have hkk := XB.size); (replace XB := XB.trans ((Below.nw vx (.cells #[.int .i64 0, .int .i64 0, .int .i64 0, .int .i64 0] 83)).mono XB.size)); (generalize vx.heap.size = kk at *); (generalize vx.alloc (.cells #[.int .i64 0, .int .i64 0, .int .i64 0, .int .i64 0] 83) = vx at *); (try (obtain ⟨kz0, kz1, kz2, kz3, kz4, kf1, kf2, kf3, kf4⟩ := id K4))
          refine hK.out _ _ ?_ (fun hHeld => ?_)
          · first | exact SK.out _ XB | exact SK.out _ (Below.drew (Below.refl _ _))
          clear hK K
          (try simp only [Act.put, List.setIfInBounds_toArray, List.set_cons_zero, List.set_cons_succ])
          refine wpAnyH_ready (rs := [12]) (by kernel_rfl) (by simp) ?_
          refine (AllReadyH.cons (by rw [List.getElem?_toArray]; rfl) (fun K hK => ?_) AllReadyH.nil)
          go_simp
          (have KP := K4.put lx ly hx hy); (replace XB := Below.put4 XB hkk lx ly hx hy); unfold put4 at KP XB
          refine hK.out _ _ ?_ (fun hHeld => ?_)
          · first | exact SK.out _ XB | exact SK.out _ (Below.drew (Below.refl _ _))
          clear hK K
          (try simp only [Act.put, List.setIfInBounds_toArray, List.set_cons_zero, List.set_cons_succ])
          refine wpAnyH_done (by kernel_rfl) ?_ _
          (try clear kz0 kz1 kz2 kz3 kz4 kf1 kf2 kf3 kf4)
          (try clear K4)
          generalize ((((vx.setCell ⟨kk, 0, none⟩ (.int .i64 lx)).setCell ⟨kk, 1, none⟩ (.int .i64 ly)).setCell ⟨kk, 2, none⟩ (.int .i64 hx)).setCell ⟨kk, 3, none⟩ (.int .i64 hy)) = vz at *
          go_wp2_with fail
          go_meet
          case rel => exact ⟨_, rfl, hkk, KP, XB⟩
        · go_simp
          (have K4 := Rx4.new vx 0 0 0 0 83); (have hkk := XB.size); (replace XB := XB.trans ((Below.nw vx (.cells #[.int .i64 0, .int .i64 0, .int .i64 0, .int .i64 0] 83)).mono XB.size)); (generalize vx.heap.size = kk at *); (generalize vx.alloc (.cells #[.int .i64 0, .int .i64 0, .int .i64 0, .int .i64 0] 83) = vx at *); (try (obtain ⟨kz0, kz1, kz2, kz3, kz4, kf1, kf2, kf3, kf4⟩ := id K4))
          refine hK.out _ _ ?_ (fun hHeld => ?_)
          · first | exact SK.out _ XB | exact SK.out _ (Below.drew (Below.refl _ _))
          clear hK K
          (try simp only [Act.put, List.setIfInBounds_toArray, List.set_cons_zero, List.set_cons_succ])
          refine wpAnyH_ready (rs := [9]) (by kernel_rfl) (by simp) ?_
          refine (AllReadyH.cons (by rw [List.getElem?_toArray]; rfl) (fun K hK => ?_) AllReadyH.nil)
          go_simp
          refine (CB _).mono ?_; rintro ee vx ⟨rfl, hbl⟩; (try clear kz0 kz1 kz2 kz3 kz4 kf1 kf2 kf3 kf4); (replace XB := XB.trans (hbl.mono XB.size)); (try (replace K4 := K4.below hbl)); clear hbl; (try (obtain ⟨kz0, kz1, kz2, kz3, kz4, kf1, kf2, kf3, kf4⟩ := id K4))
          (try go_wp2_with fail)
          refine hK.out _ _ ?_ (fun hHeld => ?_)
          · first | exact SK.out _ XB | exact SK.out _ (Below.drew (Below.refl _ _))
          clear hK K
          (try simp only [Act.put, List.setIfInBounds_toArray, List.set_cons_zero, List.set_cons_succ])
          refine wpAnyH_take (i := 10) (v := ?_) (by rw [List.getElem?_toArray]; rfl) (by kernel_rfl) (by kernel_rfl) (by kernel_rfl) (by intro _ _ _ h; exact h) (Or.inl ⟨by rfl, ?_⟩) (by assumption) ?_
          rotate_left
          · (intro w hSw; (try dsimp only at hSw); go_simp; all_goals with_reducible rfl)
          (try simp only [Act.put, List.setIfInBounds_toArray, List.set_cons_zero, List.set_cons_succ])
          refine wpAnyH_ready (rs := [12]) (by kernel_rfl) (by simp) ?_
          refine (AllReadyH.cons (by rw [List.getElem?_toArray]; rfl) (fun K hK => ?_) AllReadyH.nil)
          go_simp
          (have KP := K4.put lx ly hx hy); (replace XB := Below.put4 XB hkk lx ly hx hy); unfold put4 at KP XB
          refine hK.out _ _ ?_ (fun hHeld => ?_)
          · first | exact SK.out _ XB | exact SK.out _ (Below.drew (Below.refl _ _))
          clear hK K
          (try simp only [Act.put, List.setIfInBounds_toArray, List.set_cons_zero, List.set_cons_succ])
          refine wpAnyH_done (by kernel_rfl) ?_ _
          (try clear kz0 kz1 kz2 kz3 kz4 kf1 kf2 kf3 kf4)
          (try clear K4)
          generalize ((((vx.setCell ⟨kk, 0, none⟩ (.int .i64 lx)).setCell ⟨kk, 1, none⟩ (.int .i64 ly)).setCell ⟨kk, 2, none⟩ (.int .i64 hx)).setCell ⟨kk, 3, none⟩ (.int .i64 hy)) = vz at *
          go_wp2_with fail
          go_meet
          case rel => exact ⟨_, rfl, hkk, KP, XB⟩
      · go_simp
        (have K4 := Rx4.new vx 0 0 0 0 83); (have hkk := XB.size); (replace XB := XB.trans ((Below.nw vx (.cells #[.int .i64 0, .int .i64 0, .int .i64 0, .int .i64 0] 83)).mono XB.size)); (generalize vx.heap.size = kk at *); (generalize vx.alloc (.cells #[.int .i64 0, .int .i64 0, .int .i64 0, .int .i64 0] 83) = vx at *); (try (obtain ⟨kz0, kz1, kz2, kz3, kz4, kf1, kf2, kf3, kf4⟩ := id K4))
        refine hK.out _ _ ?_ (fun hHeld => ?_)
        · first | exact SK.out _ XB | exact SK.out _ (Below.drew (Below.refl _ _))
        clear hK K
        (try simp only [Act.put, List.setIfInBounds_toArray, List.set_cons_zero, List.set_cons_succ])
        refine wpAnyH_ready (rs := [4]) (by kernel_rfl) (by simp) ?_
        refine (AllReadyH.cons (by rw [List.getElem?_toArray]; rfl) (fun K hK => ?_) AllReadyH.nil)
        go_simp
        refine (CA _).mono ?_; rintro ee vx ⟨rfl, hbl⟩; (try clear kz0 kz1 kz2 kz3 kz4 kf1 kf2 kf3 kf4); (replace XB := XB.trans (hbl.mono XB.size)); (try (replace K4 := K4.below hbl)); clear hbl; (try (obtain ⟨kz0, kz1, kz2, kz3, kz4, kf1, kf2, kf3, kf4⟩ := id K4))
        (try go_wp2_with fail)
        refine hK.out _ _ ?_ (fun hHeld => ?_)
        · first | exact SK.out _ XB | exact SK.out _ (Below.drew (Below.refl _ _))
        clear hK K
        (try simp only [Act.put, List.setIfInBounds_toArray, List.set_cons_zero, List.set_cons_succ])
        refine wpAnyH_ready (rs := [9]) (by kernel_rfl) (by simp) ?_
        refine (AllReadyH.cons (by rw [List.getElem?_toArray]; rfl) (fun K hK => ?_) AllReadyH.nil)
        go_simp
        refine (CB _).mono ?_; rintro ee vx ⟨rfl, hbl⟩; (try clear kz0 kz1 kz2 kz3 kz4 kf1 kf2 kf3 kf4); (replace XB := XB.trans (hbl.mono XB.size)); (try (replace K4 := K4.below hbl)); clear hbl; (try (obtain ⟨kz0, kz1, kz2, kz3, kz4, kf1, kf2, kf3, kf4⟩ := id K4))
        (try go_wp2_with fail)
        refine hK.out _ _ ?_ (fun hHeld => ?_)
        · first | exact SK.out _ XB | exact SK.out _ (Below.drew (Below.refl _ _))
        clear hK K
        (try simp only [Act.put, List.setIfInBounds_toArray, List.set_cons_zero, List.set_cons_succ])
        refine wpAnyH_take (i := 10) (v := ?_) (by rw [List.getElem?_toArray]; rfl) (by kernel_rfl) (by kernel_rfl) (by kernel_rfl) (by intro _ _ _ h; exact h) (Or.inl ⟨by rfl, ?_⟩) (by assumption) ?_
        rotate_left
        · (intro w hSw; (try dsimp only at hSw); go_simp; all_goals with_reducible rfl)
        (try simp only [Act.put, List.setIfInBounds_toArray, List.set_cons_zero, List.set_cons_succ])
        refine wpAnyH_ready (rs := [12]) (by kernel_rfl) (by simp) ?_
        refine (AllReadyH.cons (by rw [List.getElem?_toArray]; rfl) (fun K hK => ?_) AllReadyH.nil)
        go_simp
        (have KP := K4.put lx ly hx hy); (replace XB := Below.put4 XB hkk lx ly hx hy); unfold put4 at KP XB
        refine hK.out _ _ ?_ (fun hHeld => ?_)
        · first | exact SK.out _ XB | exact SK.out _ (Below.drew (Below.refl _ _))
        clear hK K
        (try simp only [Act.put, List.setIfInBounds_toArray, List.set_cons_zero, List.set_cons_succ])
        refine wpAnyH_done (by kernel_rfl) ?_ _
        (try clear kz0 kz1 kz2 kz3 kz4 kf1 kf2 kf3 kf4)
        (try clear K4)
        generalize ((((vx.setCell ⟨kk, 0, none⟩ (.int .i64 lx)).setCell ⟨kk, 1, none⟩ (.int .i64 ly)).setCell ⟨kk, 2, none⟩ (.int .i64 hx)).setCell ⟨kk, 3, none⟩ (.int .i64 hy)) = vz at *
        go_wp2_with fail
        go_meet
        case rel => exact ⟨_, rfl, hkk, KP, XB⟩
    case rest =>
      obtain ⟨k, rfl, hk, K4, XB⟩ := hcut
      clear n0 n1 n2 n3 n4 n5 n6 n7 n8 m0 m1 m2 m3 m4 m5 m6 m7 m8 SK CA CB N Q E
      have hkr : jr ≠ k := by have := R.1; omega
      replace R := R.below XB
      replace E1 := E1.below XB
      replace B := B.trans (XB.mono B.size)
      clear XB hk
      generalize wc = v5 at *
      obtain ⟨n0, n1, n2, n3, n4, n5, n6, n7, n8⟩ := id K4
      go_wp2_with fail
      refine (CC _).mono ?_
      rintro ee v6 ⟨rfl, hbl⟩
      clear n0 n1 n2 n3 n4 n5 n6 n7 n8
      replace K4 := K4.below hbl; replace R := R.below hbl; replace E1 := E1.below hbl; replace B := B.trans (hbl.mono B.size); clear hbl
      cases t
      · have RR := R.put lx ly hx hy
        have BB := Below.put4 B hj lx ly hx hy
        unfold put4 at RR BB
        obtain ⟨n0, n1, n2, n3, n4, n5, n6, n7, n8⟩ := id K4
        obtain ⟨r0, r1, r2, r3, r4, r5, r6, r7, r8⟩ := id R
        go_wp2_with fail
        clear n0 n1 n2 n3 n4 n5 n6 n7 n8 r0 r1 r2 r3 r4 r5 r6 r7 r8 K4 R B
        generalize ((((v6.setCell ⟨jr, 0, none⟩ (.int .i64 lx)).setCell ⟨jr, 1, none⟩ (.int .i64 ly)).setCell ⟨jr, 2, none⟩ (.int .i64 hx)).setCell ⟨jr, 3, none⟩ (.int .i64 hy)) = v7 at *
        obtain ⟨r0, r1, r2, r3, r4, r5, r6, r7, r8⟩ := id RR
        exact bodyPost_ret (v := (.tuple #[.agg #[.int .i64 lx, .int .i64 ly, .int .i64 hx, .int .i64 hy], .nilIface])) (by simp (maxDischargeDepth := 6) [results, Tryd.results43, go_sem, *]) rfl ⟨rfl, BB⟩
      · have k0 := E1.1
        have hg := hg1
        have RR := R.put 0 0 0 0
        have BB := Below.put4 B hj 0 0 0 0
        unfold put4 at RR BB
        obtain ⟨r0, r1, r2, r3, r4, r5, r6, r7, r8⟩ := id R
        go_wp2_with fail
        refine wp_region_held_drew (S := (fun w' => w'.cell? ⟨1, 0, none⟩ = some (.iface 124 (.pointer (some v))))) (by kernel_rfl) ?_ (fun hHeld => ?_)
        · first | exact k0 | exact (keepC (keepC (keepC (keepC k0 hg) hg) hg) hg)
        refine wpAnyH_take (i := 0) (v := ?_) (by rw [List.getElem?_toArray]; rfl) (by kernel_rfl) (by kernel_rfl) (by kernel_rfl) (by intro _ _ _ h; exact h) (Or.inl ⟨by rfl, ?_⟩) (by assumption) ?_
        rotate_left
        · (intro w hSw; (try dsimp only at hSw); go_simp; all_goals with_reducible rfl)
        (try simp only [Act.put, List.setIfInBounds_toArray, List.set_cons_zero, List.set_cons_succ])
        refine wpAnyH_take (i := 1) (v := ?_) (by rw [List.getElem?_toArray]; rfl) (by kernel_rfl) (by kernel_rfl) (by kernel_rfl) (by intro _ _ _ h; exact h) (Or.inl ⟨by rfl, ?_⟩) (by assumption) ?_
        rotate_left
        · (intro w hSw; (try dsimp only at hSw); go_simp; all_goals with_reducible rfl)
        (try simp only [Act.put, List.setIfInBounds_toArray, List.set_cons_zero, List.set_cons_succ])
        refine wpAnyH_ready (rs := [2]) (by kernel_rfl) (by simp) ?_
        refine AllReadyH.cons (by rw [List.getElem?_toArray]; rfl) (fun K hK => ?_) AllReadyH.nil
        go_simp
        refine hK.out _ _ ?_ (fun hHeld => ?_)
        · first | exact k0 | exact (keepC (keepC (keepC (keepC k0 hg) hg) hg) hg)
        clear hK K
        (try simp only [Act.put, List.setIfInBounds_toArray, List.set_cons_zero, List.set_cons_succ])
        refine wpAnyH_take (i := 3) (v := ?_) (by rw [List.getElem?_toArray]; rfl) (by kernel_rfl) (by kernel_rfl) (by kernel_rfl) (by intro _ _ _ h; exact h) (Or.inl ⟨by rfl, ?_⟩) (by assumption) ?_
        rotate_left
        · (intro w hSw; (try dsimp only at hSw); go_simp; all_goals with_reducible rfl)
        (try simp only [Act.put, List.setIfInBounds_toArray, List.set_cons_zero, List.set_cons_succ])
        refine wpAnyH_done (by kernel_rfl) ?_ _
        go_wp2_with fail
        clear r0 r1 r2 r3 r4 r5 r6 r7 r8 k0 R B
        generalize ((((v6.setCell ⟨jr, 0, none⟩ (.int .i64 0)).setCell ⟨jr, 1, none⟩ (.int .i64 0)).setCell ⟨jr, 2, none⟩ (.int .i64 0)).setCell ⟨jr, 3, none⟩ (.int .i64 0)) = v7 at *
        obtain ⟨r0, r1, r2, r3, r4, r5, r6, r7, r8⟩ := id RR
        exact bodyPost_ret (v := (.tuple #[.agg #[.int .i64 0, .int .i64 0, .int .i64 0, .int .i64 0], (.iface 124 (.pointer (some v)))])) (by simp (maxDischargeDepth := 6) [results, Tryd.results43, go_sem, *]) rfl ⟨rfl, Below.drew BB⟩
  exact fin _ CC
end Go.Proofs.YtblappilppfkiaaDoor
