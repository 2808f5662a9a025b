/- The program: AppOk, AppLag, AppRead. -/
import Derived.Test.YtdllkfllnljaaaaA133
import Derived.Test.YtdllkfllnljaaaaA125
import Derived.Deep.RegionHeld3
import Derived.Laws.EntriesVeiled
import Derived.WalkKit
import Derived.WalkSpells
import Derived.WalkLawsBesides
import Derived.Deep.RegionHeld
namespace Go.Proofs.Ytdllkfllnljaaaa
open Go.RowKit
set_option linter.unusedVariables false
set_option maxHeartbeats 2000000 in
theorem implAppOk_any (h : Bool) (l : Int) (w : World) : Calls Try.prog 15 #[.agg #[.bool h, .int .i64 l]] w fun e w' => e = .returned (.bool (apB h l)) ∧ Below w.heap.size w w' := by
  have A := Below.nw w (.cells #[.bool h, .int .i64 l] 25)
  have CR := fun w' => appok_any h l w'
  generalize apB h l = q at *
  go_enter Try.func15, Try.ntmps15
  go_wp2_with fail
  refine (CR _).mono ?_
  rintro e w' ⟨rfl, hb⟩
  have B := A.trans (hb.mono A.size)
  go_wp2
  go_ret
  exact ⟨rfl, B⟩
set_option maxRecDepth 100000 in
set_option maxHeartbeats 4000000 in
theorem implAppLag_any (h : Bool) (l : Int) (lo hi : Int) (w : World) : Calls Try.prog 19 #[.agg #[.bool h, .int .i64 l], .agg #[.int .i64 lo, .int .i64 hi]] w fun e w' => e = .returned (.int .i64 (lgI h l lo hi)) ∧ Below w.heap.size w w' := by
  have A0 := Below.nw w (.cells #[.bool h, .int .i64 l] 25)
  have A1 := Below.nw (w.alloc (.cells #[.bool h, .int .i64 l] 25)) (.cells #[.int .i64 lo, .int .i64 hi] 30)
  have N := (Bx2.new w (.bool h) (.int .i64 l) 25).below A1
  have Q := Bx2.new (w.alloc (.cells #[.bool h, .int .i64 l] 25)) (.int .i64 lo) (.int .i64 hi) 30
  have B := A0.trans (A1.mono A0.size)
  simp only [World.size_alloc] at Q
  clear A0 A1
  cases h1 : apB h l
  · rw [lgI_no (by rw [h1]; rfl)]
    go_enter Try.func19, Try.ntmps19; go_upto_region 1 with fail; generalize (w.alloc (.cells #[.bool h, .int .i64 l] 25)).alloc (.cells #[.int .i64 lo, .int .i64 hi] 30) = v at *; generalize w.heap.size + 1 = jb at *
    obtain ⟨n0, n1, n2, n3, n4⟩ := id N; go_wp2_with fail; refine (appok_any h l v).mono ?_; rintro e v2 ⟨rfl, hbl⟩; rw [h1]; clear n0 n1 n2 n3 n4; replace N := N.below hbl; replace Q := Q.below hbl; replace B := B.trans (hbl.mono B.size); clear hbl
    go_wp2_with fail
    go_ret
    exact ⟨rfl, B⟩
  cases h2 : okI lo hi
  · rw [lgI_no (by rw [h1, h2]; rfl)]
    go_enter Try.func19, Try.ntmps19; go_upto_region 1 with fail; generalize (w.alloc (.cells #[.bool h, .int .i64 l] 25)).alloc (.cells #[.int .i64 lo, .int .i64 hi] 30) = v at *; generalize w.heap.size + 1 = jb at *
    obtain ⟨n0, n1, n2, n3, n4⟩ := id N; go_wp2_with fail; refine (appok_any h l v).mono ?_; rintro e v2 ⟨rfl, hbl⟩; rw [h1]; clear n0 n1 n2 n3 n4; replace N := N.below hbl; replace Q := Q.below hbl; replace B := B.trans (hbl.mono B.size); clear hbl
    obtain ⟨m0, m1, m2, m3, m4⟩ := id Q; go_wp2_with fail; refine (ok_any lo hi v2).mono ?_; rintro e v3 ⟨rfl, hbl⟩; rw [h2]; clear m0 m1 m2 m3 m4; replace N := N.below hbl; replace Q := Q.below hbl; replace B := B.trans (hbl.mono B.size); clear hbl
    go_wp2_with fail
    go_ret
    exact ⟨rfl, B⟩
  cases h3 : (h && decide (hi < l))
  · have e0 : lgI h l lo hi = 0 := by
      cases h
      · exact lgI_no (by rw [h1, h2]; rfl)
      · rw [lgI_yes (by rw [h1, h2]; rfl)]
        have c : ¬ hi < l := of_decide_eq_false h3
        exact imx_l (x := 0) (y := l - hi) |> fun _ => by unfold imx; split <;> omega
    rw [e0]
    clear e0
    go_enter Try.func19, Try.ntmps19; go_upto_region 1 with fail; generalize (w.alloc (.cells #[.bool h, .int .i64 l] 25)).alloc (.cells #[.int .i64 lo, .int .i64 hi] 30) = v at *; generalize w.heap.size + 1 = jb at *
    obtain ⟨n0, n1, n2, n3, n4⟩ := id N; go_wp2_with fail; refine (appok_any h l v).mono ?_; rintro e v2 ⟨rfl, hbl⟩; rw [h1]; clear n0 n1 n2 n3 n4; replace N := N.below hbl; replace Q := Q.below hbl; replace B := B.trans (hbl.mono B.size); clear hbl
    obtain ⟨m0, m1, m2, m3, m4⟩ := id Q; go_wp2_with fail; refine (ok_any lo hi v2).mono ?_; rintro e v3 ⟨rfl, hbl⟩; rw [h2]; clear m0 m1 m2 m3 m4; replace N := N.below hbl; replace Q := Q.below hbl; replace B := B.trans (hbl.mono B.size); clear hbl
    obtain ⟨n0, n1, n2, n3, n4⟩ := id N; obtain ⟨m0, m1, m2, m3, m4⟩ := id Q; go_wp2_with fail; refine (above_any h l lo hi v3).mono ?_; rintro e v4 ⟨rfl, hbl⟩; rw [h3]; clear m0 m1 m2 m3 m4 n0 n1 n2 n3 n4; replace N := N.below hbl; replace Q := Q.below hbl; replace B := B.trans (hbl.mono B.size); clear hbl
    go_wp2_with fail
    go_ret
    exact ⟨rfl, B⟩
  · have i1 := okI_t h2
    have i2 := (apB_t h1).1
    have hw : IntKind.i64.wrap (l - hi) = l - hi := Go.IntWalk.i64_in _ ⟨by omega, by omega⟩
    have e0 : lgI h l lo hi = l - hi := by
      cases h
      · simp at h3
      · rw [lgI_yes (by rw [h1, h2]; rfl)]
        have c : hi < l := of_decide_eq_true h3
        unfold imx; split <;> omega
    rw [e0]
    clear e0 i1 i2
    go_enter Try.func19, Try.ntmps19; go_upto_region 1 with fail; generalize (w.alloc (.cells #[.bool h, .int .i64 l] 25)).alloc (.cells #[.int .i64 lo, .int .i64 hi] 30) = v at *; generalize w.heap.size + 1 = jb at *
    obtain ⟨n0, n1, n2, n3, n4⟩ := id N; go_wp2_with fail; refine (appok_any h l v).mono ?_; rintro e v2 ⟨rfl, hbl⟩; rw [h1]; clear n0 n1 n2 n3 n4; replace N := N.below hbl; replace Q := Q.below hbl; replace B := B.trans (hbl.mono B.size); clear hbl
    obtain ⟨m0, m1, m2, m3, m4⟩ := id Q; go_wp2_with fail; refine (ok_any lo hi v2).mono ?_; rintro e v3 ⟨rfl, hbl⟩; rw [h2]; clear m0 m1 m2 m3 m4; replace N := N.below hbl; replace Q := Q.below hbl; replace B := B.trans (hbl.mono B.size); clear hbl
    obtain ⟨n0, n1, n2, n3, n4⟩ := id N; obtain ⟨m0, m1, m2, m3, m4⟩ := id Q; go_wp2_with fail; refine (above_any h l lo hi v3).mono ?_; rintro e v4 ⟨rfl, hbl⟩; rw [h3]; clear m0 m1 m2 m3 m4 n0 n1 n2 n3 n4; replace N := N.below hbl; replace Q := Q.below hbl; replace B := B.trans (hbl.mono B.size); clear hbl
    obtain ⟨n0, n1, n2, n3, n4⟩ := id N
    obtain ⟨m0, m1, m2, m3, m4⟩ := id Q
    go_wp2_with fail
    go_ret
    exact ⟨rfl, B⟩

set_option maxRecDepth 100000 in
set_option maxHeartbeats 8000000 in
theorem implAppRead_any (h : Bool) (l : Int) (k : Bool) (lo hi : Int) (w : World) : Calls Try.prog 17 #[.agg #[.bool h, .int .i64 l], .bool k, .agg #[.int .i64 lo, .int .i64 hi]] w fun e w' => e = .returned (.tuple #[.agg #[.bool (arH h l k lo hi), .int .i64 (arL h l k lo hi)], .int .i64 (arX h l k lo hi), .bool (arD h l k lo hi), .int .i64 (arC h l k lo hi)]) ∧ Below w.heap.size w w' := by
  have A0 := Below.nw w (.cells #[.bool h, .int .i64 l] 25)
  have A1 := Below.nw (w.alloc (.cells #[.bool h, .int .i64 l] 25)) (.cells #[.int .i64 lo, .int .i64 hi] 30)
  have A2 := Below.nw ((w.alloc (.cells #[.bool h, .int .i64 l] 25)).alloc (.cells #[.int .i64 lo, .int .i64 hi] 30)) (.cells #[.bool false, .int .i64 0] 25)
  have N := ((Bx2.new w (.bool h) (.int .i64 l) 25).below A1).below A2
  have Q := (Bx2.new (w.alloc (.cells #[.bool h, .int .i64 l] 25)) (.int .i64 lo) (.int .i64 hi) 30).below A2
  have R := Bx2.new ((w.alloc (.cells #[.bool h, .int .i64 l] 25)).alloc (.cells #[.int .i64 lo, .int .i64 hi] 30)) (.bool false) (.int .i64 0) 25
  have B := (A0.trans (A1.mono A0.size)).trans (A2.mono (A0.trans (A1.mono A0.size)).size)
  simp only [World.size_alloc] at Q R
  clear A0 A1 A2
  have hj : w.heap.size ≤ w.heap.size + 1 + 1 := by omega
  obtain ⟨gm1, gm2⟩ := @gd_mid h l k lo hi
  have CR := fun (jc : Nat) (w' : World) (H : Tx3 w' jc (.bool h) (.int .i64 l) (.func (.func 42) #[] #[])) => read_mid jc h l k lo hi w' H
  rw [gm1, gm2] at CR
  clear gm1 gm2
  cases eb : arBad h l k lo hi
  · have e1 : (arC h l k lo hi == 1) = false ∧ anN (h, l) (k, lo, hi) = (arH h l k lo hi, arL h l k lo hi) := by
      have q : (arC h l k lo hi == 1) = false := by
        cases k
        · cases h
          · rw [(ar_no eb).2.2.2.2]; rfl
          · rw [(ar_old eb).2.2.2.2]; rfl
        · rw [(ar_known eb).2.2.2.2]; rfl
      refine ⟨q, ?_⟩
      unfold anN anC
      show (match (arC h l k lo hi != 1) with | true => _ | false => _) = _
      rw [bne, q]
      rfl
    obtain ⟨hne, e2⟩ := e1
    rw [e2] at CR
    clear e2 eb
    generalize arX h l k lo hi = X at *
    generalize arD h l k lo hi = D at *
    generalize arC h l k lo hi = C at *
    generalize arH h l k lo hi = H2 at *
    generalize arL h l k lo hi = T2 at *
    go_enter Try.func17, Try.ntmps17
    go_upto_region 1 with fail
    generalize (((w.alloc (.cells #[.bool h, .int .i64 l] 25)).alloc (.cells #[.int .i64 lo, .int .i64 hi] 30)).alloc (.cells #[.bool false, .int .i64 0] 25)) = v at *
    generalize w.heap.size + 1 + 1 = jr at *
    generalize w.heap.size + 1 = jb at *
    have NL := Below.nw v (.cells #[.bool h, .int .i64 l, (.func (.func 42) #[] #[])] 75)
    have K := Tx3.new v (.bool h) (.int .i64 l) (.func (.func 42) #[] #[]) 75
    have dcr : v.heap.size ≠ jr := Nat.ne_of_gt R.1
    have dcb : v.heap.size ≠ jb := Nat.ne_of_gt Q.1
    have hcw : w.heap.size ≤ v.heap.size := B.size
    obtain ⟨n0, n1, n2, n3, n4⟩ := id N
    go_upto_region 2 with fail
    clear n0 n1 n2 n3 n4 N
    replace Q := Q.below NL
    replace R := R.below NL
    replace B := B.trans (NL.mono B.size)
    clear NL
    generalize v.alloc (.cells #[.bool h, .int .i64 l, (.func (.func 42) #[] #[])] 75) = v2 at *
    generalize v.heap.size = jc at *
    obtain ⟨m0, m1, m2, m3, m4⟩ := id Q
    go_wp2_with fail
    refine (CR jc _ K).mono ?_
    rintro e v3 ⟨rfl, K3, bt⟩
    clear m0 m1 m2 m3 m4 Q K
    replace R := R.but bt dcr.symm
    replace B := B.trans (bt.below hcw B.size)
    clear bt
    have NL := Below.nw v3 (.cells #[.int .i64 X, .bool D, .int .i64 C] 40)
    have G := Tx3.new v3 (.int .i64 X) (.bool D) (.int .i64 C) 40
    have dgr : v3.heap.size ≠ jr := Nat.ne_of_gt R.1
    go_upto_region 3 with fail
    replace K3 := K3.below NL
    replace R := R.below NL
    replace B := B.trans (NL.mono B.size)
    clear NL
    generalize v3.alloc (.cells #[.int .i64 X, .bool D, .int .i64 C] 40) = v4 at *
    generalize v3.heap.size = jg at *
    have RR := (R.set0 (.bool H2)).set1 (.int .i64 T2)
    have BB := (B.setCell (p := ⟨jr, 0, none⟩) hj (.bool H2)).setCell (p := ⟨jr, 1, none⟩) hj (.int .i64 T2)
    obtain ⟨r0, r1, r2, r3, r4⟩ := id R
    obtain ⟨g0, g1, g2, g3, g4, g5, g6⟩ := id G
    obtain ⟨a0, a1, a2, a3, a4, a5, a6⟩ := id K3
    go_upto_region 5 with fail
    refine wp_region_held_drew (S := (fun w' => w'.cell? ⟨jc, 0, none⟩ = some (.bool H2) ∧ w'.cell? ⟨jc, 1, none⟩ = some (.int .i64 T2) ∧ w'.cell? ⟨jg, 0, none⟩ = some (.int .i64 X) ∧ w'.cell? ⟨jg, 1, none⟩ = some (.bool D) ∧ w'.cell? ⟨jg, 2, none⟩ = some (.int .i64 C))) (by kernel_rfl) ?_ (fun hHeld => ?_)
    · first | exact ⟨a1, a2, g1, g2, g3⟩ | exact ⟨keepC (keepC a1 dcr) dcr, keepC (keepC a2 dcr) dcr, keepC (keepC g1 dgr) dgr, keepC (keepC g2 dgr) dgr, keepC (keepC g3 dgr) dgr⟩
    refine wpAnyH_take (i := 0) (v := ?_) (by rw [List.getElem?_toArray]; rfl) (by kernel_rfl) (by kernel_rfl) (by kernel_rfl) (by intro _ _ _ h; exact h) (Or.inl ⟨by rfl, ?_⟩) (by assumption) ?_
    rotate_left
    · (intro w hSw; (try dsimp only at hSw); go_simp; all_goals with_reducible rfl)
    (try simp only [Act.put, List.setIfInBounds_toArray, List.set_cons_zero, List.set_cons_succ])
    refine wpAnyH_take (i := 1) (v := ?_) (by rw [List.getElem?_toArray]; rfl) (by kernel_rfl) (by kernel_rfl) (by kernel_rfl) (by intro _ _ _ h; exact h) (Or.inl ⟨by rfl, ?_⟩) (by assumption) ?_
    rotate_left
    · (intro w hSw; (try dsimp only at hSw); go_simp; all_goals with_reducible rfl)
    (try simp only [Act.put, List.setIfInBounds_toArray, List.set_cons_zero, List.set_cons_succ])
    refine wpAnyH_take (i := 2) (v := ?_) (by rw [List.getElem?_toArray]; rfl) (by kernel_rfl) (by kernel_rfl) (by kernel_rfl) (by intro _ _ _ h; exact h) (Or.inl ⟨by rfl, ?_⟩) (by assumption) ?_
    rotate_left
    · (intro w hSw; (try dsimp only at hSw); go_simp; all_goals with_reducible rfl)
    (try simp only [Act.put, List.setIfInBounds_toArray, List.set_cons_zero, List.set_cons_succ])
    refine wpAnyH_take (i := 3) (v := ?_) (by rw [List.getElem?_toArray]; rfl) (by kernel_rfl) (by kernel_rfl) (by kernel_rfl) (by intro _ _ _ h; exact h) (Or.inl ⟨by rfl, ?_⟩) (by assumption) ?_
    rotate_left
    · (intro w hSw; (try dsimp only at hSw); go_simp; all_goals with_reducible rfl)
    (try simp only [Act.put, List.setIfInBounds_toArray, List.set_cons_zero, List.set_cons_succ])
    refine wpAnyH_take (i := 4) (v := ?_) (by rw [List.getElem?_toArray]; rfl) (by kernel_rfl) (by kernel_rfl) (by kernel_rfl) (by intro _ _ _ h; exact h) (Or.inl ⟨by rfl, ?_⟩) (by assumption) ?_
    rotate_left
    · (intro w hSw; (try dsimp only at hSw); go_simp; all_goals with_reducible rfl)
    (try simp only [Act.put, List.setIfInBounds_toArray, List.set_cons_zero, List.set_cons_succ])
    refine wpAnyH_take (i := 5) (v := ?_) (by rw [List.getElem?_toArray]; rfl) (by kernel_rfl) (by kernel_rfl) (by kernel_rfl) (by intro _ _ _ h; exact h) (Or.inl ⟨by rfl, ?_⟩) (by assumption) ?_
    rotate_left
    · (intro w hSw; (try dsimp only at hSw); go_simp; all_goals with_reducible rfl)
    (try simp only [Act.put, List.setIfInBounds_toArray, List.set_cons_zero, List.set_cons_succ])
    refine wpAnyH_take (i := 6) (v := ?_) (by rw [List.getElem?_toArray]; rfl) (by kernel_rfl) (by kernel_rfl) (by kernel_rfl) (by intro _ _ _ h; exact h) (Or.inl ⟨by rfl, ?_⟩) (by assumption) ?_
    rotate_left
    · (intro w hSw; (try dsimp only at hSw); go_simp; all_goals with_reducible rfl)
    (try simp only [Act.put, List.setIfInBounds_toArray, List.set_cons_zero, List.set_cons_succ])
    refine wpAnyH_take (i := 7) (v := ?_) (by rw [List.getElem?_toArray]; rfl) (by kernel_rfl) (by kernel_rfl) (by kernel_rfl) (by intro _ _ _ h; exact h) (Or.inl ⟨by rfl, ?_⟩) (by assumption) ?_
    rotate_left
    · (intro w hSw; (try dsimp only at hSw); go_simp; all_goals with_reducible rfl)
    (try simp only [Act.put, List.setIfInBounds_toArray, List.set_cons_zero, List.set_cons_succ])
    refine wpAnyH_ready (rs := [8]) (by kernel_rfl) (by simp) ?_
    refine AllReadyH.cons (by rw [List.getElem?_toArray]; rfl) (fun K hK => ?_) AllReadyH.nil
    go_simp
    refine hK.out _ _ ?_ (fun hHeld => ?_)
    · first | exact ⟨a1, a2, g1, g2, g3⟩ | exact ⟨keepC (keepC a1 dcr) dcr, keepC (keepC a2 dcr) dcr, keepC (keepC g1 dgr) dgr, keepC (keepC g2 dgr) dgr, keepC (keepC g3 dgr) dgr⟩
    clear hK K
    (try simp only [Act.put, List.setIfInBounds_toArray, List.set_cons_zero, List.set_cons_succ])
    refine wpAnyH_take (i := 9) (v := ?_) (by rw [List.getElem?_toArray]; rfl) (by kernel_rfl) (by kernel_rfl) (by kernel_rfl) (by intro _ _ _ h; exact h) (Or.inl ⟨by rfl, ?_⟩) (by assumption) ?_
    rotate_left
    · (intro w hSw; (try dsimp only at hSw); go_simp; all_goals with_reducible rfl)
    (try simp only [Act.put, List.setIfInBounds_toArray, List.set_cons_zero, List.set_cons_succ])
    refine wpAnyH_take (i := 10) (v := ?_) (by rw [List.getElem?_toArray]; rfl) (by kernel_rfl) (by kernel_rfl) (by kernel_rfl) (by intro _ _ _ h; exact h) (Or.inl ⟨by rfl, ?_⟩) (by assumption) ?_
    rotate_left
    · (intro w hSw; (try dsimp only at hSw); go_simp; all_goals with_reducible rfl)
    (try simp only [Act.put, List.setIfInBounds_toArray, List.set_cons_zero, List.set_cons_succ])
    refine wpAnyH_take (i := 11) (v := ?_) (by rw [List.getElem?_toArray]; rfl) (by kernel_rfl) (by kernel_rfl) (by kernel_rfl) (by intro _ _ _ h; exact h) (Or.inl ⟨by rfl, ?_⟩) (by assumption) ?_
    rotate_left
    · (intro w hSw; (try dsimp only at hSw); go_simp; all_goals with_reducible rfl)
    (try simp only [Act.put, List.setIfInBounds_toArray, List.set_cons_zero, List.set_cons_succ])
    refine wpAnyH_done (by kernel_rfl) ?_ _
    go_wp2_with fail
    clear r0 r1 r2 r3 r4 g0 g1 g2 g3 g4 g5 g6
    generalize (v4.setCell ⟨jr, 0, none⟩ (.bool H2)).setCell ⟨jr, 1, none⟩ (.int .i64 T2) = vz at *
    obtain ⟨r0, r1, r2, r3, r4⟩ := id RR
    exact bodyPost_ret (v := (.tuple #[.agg #[.bool H2, .int .i64 T2], .int .i64 X, .bool D, .int .i64 C])) (by simp (maxDischargeDepth := 6) [results, Try.results17, go_sem, *]) rfl ⟨rfl, Below.drew BB⟩
  · obtain ⟨e1, e2, e3, e4, e5⟩ := ar_eqs eb
    rw [e3, e4, e5] at CR
    rw [e1, e2, e3, e4, e5]
    clear e1 e2 e3 e4 e5 eb
    generalize hS : anN (h, l) (k, lo, hi) = s at *
    clear hS
    go_enter Try.func17, Try.ntmps17
    go_upto_region 1 with fail
    generalize (((w.alloc (.cells #[.bool h, .int .i64 l] 25)).alloc (.cells #[.int .i64 lo, .int .i64 hi] 30)).alloc (.cells #[.bool false, .int .i64 0] 25)) = v at *
    generalize w.heap.size + 1 + 1 = jr at *
    generalize w.heap.size + 1 = jb at *
    have NL := Below.nw v (.cells #[.bool h, .int .i64 l, (.func (.func 42) #[] #[])] 75)
    have K := Tx3.new v (.bool h) (.int .i64 l) (.func (.func 42) #[] #[]) 75
    have dcr : v.heap.size ≠ jr := Nat.ne_of_gt R.1
    have dcb : v.heap.size ≠ jb := Nat.ne_of_gt Q.1
    have hcw : w.heap.size ≤ v.heap.size := B.size
    obtain ⟨n0, n1, n2, n3, n4⟩ := id N
    go_upto_region 2 with fail
    clear n0 n1 n2 n3 n4 N
    replace Q := Q.below NL
    replace R := R.below NL
    replace B := B.trans (NL.mono B.size)
    clear NL
    generalize v.alloc (.cells #[.bool h, .int .i64 l, (.func (.func 42) #[] #[])] 75) = v2 at *
    generalize v.heap.size = jc at *
    obtain ⟨m0, m1, m2, m3, m4⟩ := id Q
    go_wp2_with fail
    refine (CR jc _ K).mono ?_
    rintro e v3 ⟨rfl, K3, bt⟩
    clear m0 m1 m2 m3 m4 Q K
    replace R := R.but bt dcr.symm
    replace B := B.trans (bt.below hcw B.size)
    clear bt
    have NL := Below.nw v3 (.cells #[.int .i64 0, .bool false, .int .i64 1] 40)
    have G := Tx3.new v3 (.int .i64 0) (.bool false) (.int .i64 1) 40
    have dgr : v3.heap.size ≠ jr := Nat.ne_of_gt R.1
    go_upto_region 3 with fail
    replace K3 := K3.below NL
    replace R := R.below NL
    replace B := B.trans (NL.mono B.size)
    clear NL
    generalize v3.alloc (.cells #[.int .i64 0, .bool false, .int .i64 1] 40) = v4 at *
    generalize v3.heap.size = jg at *
    have RR := (R.set0 (.bool false)).set1 (.int .i64 0)
    have BB := (B.setCell (p := ⟨jr, 0, none⟩) hj (.bool false)).setCell (p := ⟨jr, 1, none⟩) hj (.int .i64 0)
    obtain ⟨r0, r1, r2, r3, r4⟩ := id R
    obtain ⟨g0, g1, g2, g3, g4, g5, g6⟩ := id G
    go_wp2_with fail
    clear r0 r1 r2 r3 r4 g0 g1 g2 g3 g4 g5 g6
    generalize (v4.setCell ⟨jr, 0, none⟩ (.bool false)).setCell ⟨jr, 1, none⟩ (.int .i64 0) = vz at *
    obtain ⟨r0, r1, r2, r3, r4⟩ := id RR
    exact bodyPost_ret (v := (.tuple #[.agg #[.bool false, .int .i64 0], .int .i64 0, .bool false, .int .i64 1])) (by simp (maxDischargeDepth := 6) [results, Try.results17, go_sem, *]) rfl ⟨rfl, BB⟩
end Go.Proofs.Ytdllkfllnljaaaa
