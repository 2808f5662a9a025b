/- The walk of FnGateTruth. -/
import Derived.Test.YtcakhfobkbgfoaaDoorMA6
import Derived.Test.YtcakhfobkbgfoaaDoorMA5
import Derived.Test.YtcakhfobkbgfoaaDoorMA7
import Derived.Test.YtcakhfobkbgfoaaDoorMA9
import Derived.Deep.RegionHeld3
import Derived.Deep.DeepCutAuto
import Derived.WalkKit
import Derived.WalkSpells
import Derived.WalkLawsBesides
import Derived.Deep.RegionHeld
namespace Go.Proofs.YtcakhfobkbgfoaaDoor
open Go.RowKit
set_option linter.unusedVariables false
theorem tm_in {x k : Int} (h0 : 0 ≤ x) (hk : 0 < k) : 0 ≤ x.tmod k ∧ x.tmod k < k := by
  rw [Int.tmod_eq_emod_of_nonneg h0]
  exact ⟨Int.emod_nonneg _ (by omega), Int.emod_lt_of_pos _ hk⟩
set_option maxRecDepth 100000 in
set_option maxHeartbeats 16000000 in
theorem walkGateTruth (a0 : Option Addr) (l0 c0 : Nat) (w : World) (E : EA w) (hcode : CodeB w w.heap.size a0 l0) :
    Calls Tryd.prog 3 #[.slice a0 l0 c0] w fun e w' => e = .returned (.bool true) ∧ Below w.heap.size w w' := by
  have HC : Hid (CodeB w w.heap.size a0 l0) := hcode
  clear hcode
  go_enter Tryd.func3, Tryd.ntmps3
  go_wp2_with fail
  refine (big_any _ _ _ _).mono ?_
  rintro e w' ⟨rfl, rfl⟩
  by_cases hbg : 1048576 < (l0 : Int)
  · have hbd : decide (1048576 < (l0 : Int)) = true := decide_eq_true hbg
    go_wp2
    go_ret
    exact ⟨rfl, Below.refl _ _⟩
  have hbd : decide (1048576 < (l0 : Int)) = false := decide_eq_false hbg
  have hl0 : l0 ≤ 1048576 := by omega
  have CAT : ∀ (v : World), Below w.heap.size w v → ∀ i : Nat, i ≤ 1000 → Calls Tryd.prog 17 #[.slice a0 l0 c0, .int .i64 (i : Int)] v fun e w' => ∃ x : Int, e = .returned (.int .i64 x) ∧ 0 ≤ x ∧ x ≤ 255 ∧ v = w' := fun v hv i hi => at_any a0 l0 c0 i w.heap.size v hl0 hi (HC.out.below hv)
  go_wp2_with fail
  refine (DrawGateAsk_any a0 l0 c0 w hl0 HC.out).mono ?_
  rintro e v ⟨lo, hi, kn, n, d, x, s, g, A, m, c, M, o, rfl, hm13, OW, B⟩
  clear hbd hbg HC hl0
  have hmn : m ≤ maxLen := by unfold maxLen; omega
  have A0 := Below.nw v (.cells #[.int .i64 lo, .int .i64 hi] 25)
  have A1 := Below.nw (v.alloc (.cells #[.int .i64 lo, .int .i64 hi] 25)) (.cells #[.int .i64 n, .int .i64 d] 27)
  have A2 := Below.nw ((v.alloc (.cells #[.int .i64 lo, .int .i64 hi] 25)).alloc (.cells #[.int .i64 n, .int .i64 d] 27)) (.cells #[.int .i64 s, .int .i64 g, .slice A m c] 30)
  have P := ((Bx2.new v (.int .i64 lo) (.int .i64 hi) 25).below A1).below A2
  have D := (Bx2.new (v.alloc (.cells #[.int .i64 lo, .int .i64 hi] 25)) (.int .i64 n) (.int .i64 d) 27).below A2
  have N := Tx3.new ((v.alloc (.cells #[.int .i64 lo, .int .i64 hi] 25)).alloc (.cells #[.int .i64 n, .int .i64 d] 27)) (.int .i64 s) (.int .i64 g) (.slice A m c) 30
  have NL := (A0.trans (A1.mono A0.size)).trans (A2.mono (A0.trans (A1.mono A0.size)).size)
  simp only [World.size_alloc] at D N
  clear A0 A1 A2
  go_upto_region 4 with fail
  replace OW := own_belK' OW NL
  replace B := B.trans (NL.mono B.size)
  clear NL
  generalize ((v.alloc (.cells #[.int .i64 lo, .int .i64 hi] 25)).alloc (.cells #[.int .i64 n, .int .i64 d] 27)).alloc (.cells #[.int .i64 s, .int .i64 g, .slice A m c] 30) = v1 at *
  generalize v.heap.size + 1 + 1 = jn at *
  generalize v.heap.size + 1 = jd at *
  generalize v.heap.size = jp at *
  obtain ⟨p0, p1, p2, p3, p4⟩ := id P
  obtain ⟨d0, d1, d2, d3, d4⟩ := id D
  obtain ⟨n0, n1, n2, n3, n4, n5, n6⟩ := id N
  go_wp2_with fail
  refine (implGateAsk_any kn lo hi n d x s g A m c M o _ (E.below B) hmn (ownS OW)).mono ?_
  rintro e v2 ⟨rfl, hb⟩
  clear p0 p1 p2 p3 p4
  clear d0 d1 d2 d3 d4
  clear n0 n1 n2 n3 n4 n5 n6
  replace OW := own_belK' OW hb
  replace P := P.below hb
  replace D := D.below hb
  replace N := N.below hb
  replace B := B.trans (hb.mono B.size)
  clear hb
  obtain ⟨p0, p1, p2, p3, p4⟩ := id P
  obtain ⟨d0, d1, d2, d3, d4⟩ := id D
  obtain ⟨n0, n1, n2, n3, n4, n5, n6⟩ := id N
  go_wp2_with fail
  refine (specGateAsk_any kn lo hi n d x s g A m c M o _ hmn (ownS OW)).mono ?_
  rintro e v3 ⟨rfl, hb⟩
  clear p0 p1 p2 p3 p4
  clear d0 d1 d2 d3 d4
  clear n0 n1 n2 n3 n4 n5 n6
  replace OW := own_belK' OW hb
  replace P := P.below hb
  replace D := D.below hb
  replace N := N.below hb
  replace B := B.trans (hb.mono B.size)
  clear hb
  cases hG : gaG kn lo hi n d x s g M m o
  · cases hP : gaP kn lo hi n d x (plB s g M m) o
    · obtain ⟨e1, e2, e3⟩ := ga_bad hP
      rw [e1, e2, e3]
      clear e1 e2 e3 hP hG CAT
      go_wp2_with fail
      go_ret
      exact ⟨rfl, B⟩
    · obtain ⟨e1, e2, e3⟩ := ga_un hP hG
      rw [e1, e2, e3]
      clear e1 e2 e3 hP hG CAT
      go_wp2_with fail
      go_ret
      exact ⟨rfl, B⟩
  obtain ⟨iN, t1, t2, t3, t4, t5, t6, t7, t8, t9, t10⟩ := gate_truth hG
  obtain ⟨e1, -, -⟩ := ga_go hG
  obtain ⟨q1, q2, q3, q4, q5⟩ := le_mo t9
  have hIv : lo ≤ hi ∧ -1000000000000 ≤ lo ∧ hi ≤ 1000000000000 := by unfold okI at t8; simp at t8; omega
  obtain ⟨b, off, hA, hcs⟩ : ∃ b off, A = some ⟨b, off, none⟩ ∧ Cs v3 b off (m * 2) (MFSlot M) := by
    rcases ownS OW with q | q
    · exact absurd q (by omega)
    · exact q
  subst hA
  clear hcs
  rw [t1, e1]
  generalize gaK kn lo hi n d x s g M m o = K at *
  have CO := fun w' h => implOccurrence_any s g (some ⟨b, off, none⟩) m c M (iN : Int) K w' hmn h
  rw [t3] at CO
  have CM := fun w' => mo_any n d x w'
  have CLT := fun w' => le_any n d x w'
  have CW := fun w' => specWide_any lo hi w'
  rw [wideI_t t8] at CW
  have hw1 : IntKind.i64.wrap (hi - lo + 1) = hi - lo + 1 := Go.IntWalk.i64_in _ ⟨by omega, by omega⟩
  have hy1 : wrap64 (hi - lo + 1) = hi - lo + 1 := Go.IntWalk.wrap64_in _ ⟨by omega, by omega⟩
  have hne1 : (hi - lo + 1 == 0) = false := by rw [beq_eq_false_iff_ne]; omega
  have hne1' : ¬ hi - lo + 1 = 0 := by omega
  have HT1 : Hid (∀ x1 : Int, 0 ≤ x1 → x1 ≤ 255 → lo ≤ lo + x1.tmod (hi - lo + 1) ∧ lo + x1.tmod (hi - lo + 1) ≤ hi ∧ IntKind.i64.wrap (lo + x1.tmod (hi - lo + 1)) = lo + x1.tmod (hi - lo + 1) ∧ wrap64 (lo + x1.tmod (hi - lo + 1)) = lo + x1.tmod (hi - lo + 1) ∧ IntKind.i64.wrap (x1.tmod (hi - lo + 1)) = x1.tmod (hi - lo + 1) ∧ wrap64 (x1.tmod (hi - lo + 1)) = x1.tmod (hi - lo + 1)) := fun x1 h0 h1 => by
    have := tm_in (k := hi - lo + 1) h0 (by omega)
    exact ⟨by omega, by omega, Go.IntWalk.i64_in _ ⟨by omega, by omega⟩, Go.IntWalk.wrap64_in _ ⟨by omega, by omega⟩, Go.IntWalk.i64_in _ ⟨by omega, by omega⟩, Go.IntWalk.wrap64_in _ ⟨by omega, by omega⟩⟩
  have HT2 : Hid (∀ x2 : Int, 0 ≤ x2 → x2 ≤ 255 → leT n d x ≤ leT n d x + x2 % (moT n d x - leT n d x + 1) ∧ leT n d x + x2 % (moT n d x - leT n d x + 1) ≤ moT n d x ∧ wrap64 (leT n d x + x2 % (moT n d x - leT n d x + 1)) = leT n d x + x2 % (moT n d x - leT n d x + 1)) := fun x2 h0 h1 => by
    have := tm_in (k := moT n d x - leT n d x + 1) h0 (by omega)
    rw [Int.tmod_eq_emod_of_nonneg h0] at this
    exact ⟨by omega, by omega, Go.IntWalk.wrap64_in _ ⟨by omega, by omega⟩⟩
  have hw3 : IntKind.i64.wrap (moT n d x - leT n d x) = moT n d x - leT n d x := Go.IntWalk.i64_in _ ⟨by omega, by omega⟩
  have hw4 : IntKind.i64.wrap (moT n d x - leT n d x + 1) = moT n d x - leT n d x + 1 := Go.IntWalk.i64_in _ ⟨by omega, by omega⟩
  have hne2 : ¬ moT n d x - leT n d x + 1 = 0 := by omega
  have HOC : Hid (-1000000000000 ≤ ocL s g M m iN K ∧ ocH s g M m iN K ≤ 1000000000000 ∧ ocL s g M m iN K ≤ lo ∧ hi + moT n d x ≤ ocH s g M m iN K ∧ ocH s g M m iN K = ocL s g M m iN K + (M iN).2 ∧ 0 ≤ leT n d x ∧ moT n d x ≤ 1000000000000 ∧ -1000000000000 ≤ lo ∧ hi ≤ 1000000000000) := by
    obtain ⟨b1, b2, b3, b4, b5, b6, b7, b8, b9, b10, b11, b12, b13, b14⟩ := oc_parts t3
    exact ⟨by omega, by omega, t5, t6, t7, q2, q5, hIv.2.1, hIv.2.2⟩
  have hin : iN < m := t2
  have hM : M iN = (o, (M iN).2) := by rw [← t4]
  clear t1 t2 t3 t4 t5 t6 t7 t8 t9 t10 e1 q1 q2 q3 q4 q5 hIv hG
  generalize ocL s g M m iN K = X at *
  generalize ocH s g M m iN K = Y at *
  generalize (M iN).2 = lg at *
  generalize moT n d x = mo at *
  generalize leT n d x = le at *
  obtain ⟨n0, n1, n2, n3, n4, n5, n6⟩ := id N
  go_wp2_with fail
  refine (CO _ (ownS OW)).mono ?_
  rintro e v4 ⟨rfl, hb⟩
  clear n0 n1 n2 n3 n4 n5 n6
  replace OW := own_belK' OW hb
  replace P := P.below hb
  replace D := D.below hb
  replace N := N.below hb
  replace B := B.trans (hb.mono B.size)
  clear hb
  have NL := Below.nw v4 (.cells #[.int .i64 X, .int .i64 Y] 25)
  have Z := Bx2.new v4 (.int .i64 X) (.int .i64 Y) 25
  go_upto_region 11 with fail
  replace OW := own_belK' OW NL
  replace P := P.below NL
  replace D := D.below NL
  replace N := N.below NL
  replace B := B.trans (NL.mono B.size)
  clear NL
  generalize v4.alloc (.cells #[.int .i64 X, .int .i64 Y] 25) = v5 at *
  generalize v4.heap.size = jz at *
  clear CO
  obtain ⟨d0, d1, d2, d3, d4⟩ := id D
  go_wp2_with fail
  refine (CM _).mono ?_
  rintro e v6 ⟨rfl, hb⟩
  clear d0 d1 d2 d3 d4
  replace OW := own_belK' OW hb
  replace P := P.below hb
  replace D := D.below hb
  replace N := N.below hb
  replace Z := Z.below hb
  replace B := B.trans (hb.mono B.size)
  clear hb
  obtain ⟨d0, d1, d2, d3, d4⟩ := id D
  go_wp2_with fail
  refine (CLT _).mono ?_
  rintro e v7 ⟨rfl, hb⟩
  clear d0 d1 d2 d3 d4
  replace OW := own_belK' OW hb
  replace P := P.below hb
  replace D := D.below hb
  replace N := N.below hb
  replace Z := Z.below hb
  replace B := B.trans (hb.mono B.size)
  clear hb
  clear CM CLT
  have SK : Hid (∀ w', Below v7.heap.size v7 w' → ((fun w' => w'.cell? ⟨jp, 0, none⟩ = some (.int .i64 lo) ∧ w'.cell? ⟨jp, 1, none⟩ = some (.int .i64 hi))) w') := fun w' hw => ⟨(P.below hw).2.1, (P.below hw).2.2.1⟩
  go_upto_region 13 with fail
  go_cut [21] (fun s21 wx => ∃ t : Int, s21 = .int .i64 t ∧ lo ≤ t ∧ t ≤ hi ∧ Below v7.heap.size v7 wx)
  case first => as_aux_lemma =>
    refine wp_region_held_drew (S := (fun w' => w'.cell? ⟨jp, 0, none⟩ = some (.int .i64 lo) ∧ w'.cell? ⟨jp, 1, none⟩ = some (.int .i64 hi))) (by kernel_rfl) ?_ (fun hHeld => ?_)
    · first | exact SK.out _ XB | exact SK.out _ (Below.drew (Below.refl _ _))
    have XB : Below v7.heap.size v7 v7.drew := Below.drew (Below.refl _ _)
    generalize v7.drew = vx at *
    refine wpAnyH_take (i := 0) (v := ?_) (by rw [List.getElem?_toArray]; rfl) (by kernel_rfl) (by kernel_rfl) (by kernel_rfl) (by intro _ _ _ h; exact h) (Or.inl ⟨by rfl, ?_⟩) (by assumption) ?_
    rotate_left
    · (intro w hSw; (try dsimp only at hSw); go_simp; all_goals with_reducible rfl)
    (try simp only [Act.put, List.setIfInBounds_toArray, List.set_cons_zero, List.set_cons_succ])
    refine wpAnyH_take (i := 1) (v := ?_) (by rw [List.getElem?_toArray]; rfl) (by kernel_rfl) (by kernel_rfl) (by kernel_rfl) (by intro _ _ _ h; exact h) (Or.inl ⟨by rfl, ?_⟩) (by assumption) ?_
    rotate_left
    · (intro w hSw; (try dsimp only at hSw); go_simp; all_goals with_reducible rfl)
    (try simp only [Act.put, List.setIfInBounds_toArray, List.set_cons_zero, List.set_cons_succ])
    refine wpAnyH_take (i := 2) (v := ?_) (by rw [List.getElem?_toArray]; rfl) (by kernel_rfl) (by kernel_rfl) (by kernel_rfl) (by intro _ _ _ h; exact h) (Or.inl ⟨by rfl, ?_⟩) (by assumption) ?_
    rotate_left
    · (intro w hSw; (try dsimp only at hSw); go_simp; all_goals with_reducible rfl)
    (try simp only [Act.put, List.setIfInBounds_toArray, List.set_cons_zero, List.set_cons_succ])
    refine wpAnyH_take (i := 4) (v := ?_) (by rw [List.getElem?_toArray]; rfl) (by kernel_rfl) (by kernel_rfl) (by kernel_rfl) (by intro _ _ _ h; exact h) (Or.inl ⟨by rfl, ?_⟩) (by assumption) ?_
    rotate_left
    · (intro w hSw; (try dsimp only at hSw); go_simp; all_goals with_reducible rfl)
    (try simp only [Act.put, List.setIfInBounds_toArray, List.set_cons_zero, List.set_cons_succ])
    refine wpAnyH_ready (rs := [3]) (by kernel_rfl) (by simp) ?_
    refine AllReadyH.cons (by rw [List.getElem?_toArray]; rfl) (fun K hK => ?_) AllReadyH.nil
    go_simp
    refine (CAT vx (B.trans (XB.mono B.size)) 1 (by decide)).mono ?_; rintro ee vx' ⟨x1, rfl, x1l, x1h, rfl⟩
    (try go_wp2_with fail)
    refine hK.out _ _ ?_ (fun hHeld => ?_)
    · first | exact SK.out _ XB | exact SK.out _ (Below.drew (Below.refl _ _))
    clear hK K
    (try simp only [Act.put, List.setIfInBounds_toArray, List.set_cons_zero, List.set_cons_succ])
    refine wpAnyH_ready (rs := [5]) (by kernel_rfl) (by simp) ?_
    refine AllReadyH.cons (by rw [List.getElem?_toArray]; rfl) (fun K hK => ?_) AllReadyH.nil
    go_simp
    refine (CW vx).mono ?_; rintro ee vx ⟨rfl, hbl⟩; (replace XB := XB.trans (hbl.mono XB.size)); (clear hbl)
    (try go_wp2_with fail)
    refine hK.out _ _ ?_ (fun hHeld => ?_)
    · first | exact SK.out _ XB | exact SK.out _ (Below.drew (Below.refl _ _))
    clear hK K
    (try simp only [Act.put, List.setIfInBounds_toArray, List.set_cons_zero, List.set_cons_succ])
    refine wpAnyH_take (i := 6) (v := ?_) (by rw [List.getElem?_toArray]; rfl) (by kernel_rfl) (by kernel_rfl) (by kernel_rfl) (by intro _ _ _ h; exact h) (Or.inl ⟨by rfl, ?_⟩) (by assumption) ?_
    rotate_left
    · (intro w hSw; (try dsimp only at hSw); go_simp; all_goals with_reducible rfl)
    (try simp only [Act.put, List.setIfInBounds_toArray, List.set_cons_zero, List.set_cons_succ])
    (try simp only [hw1, hy1])
    refine wpAnyH_take (i := 7) (v := ?_) (by rw [List.getElem?_toArray]; rfl) (by kernel_rfl) (by kernel_rfl) (by kernel_rfl) (by intro _ _ _ h; exact h) (Or.inl ⟨by rfl, ?_⟩) (by assumption) ?_
    rotate_left
    · (intro w hSw; (try dsimp only at hSw); go_simp; all_goals with_reducible rfl)
    (try simp only [Act.put, List.setIfInBounds_toArray, List.set_cons_zero, List.set_cons_succ])
    (try simp only [hne1])
    refine wpAnyH_take (i := 8) (v := ?_) (by rw [List.getElem?_toArray]; rfl) (by kernel_rfl) (by kernel_rfl) (by kernel_rfl) (by intro _ _ _ h; exact h) (Or.inl ⟨by rfl, ?_⟩) (by assumption) ?_
    rotate_left
    · (intro w hSw; (try dsimp only at hSw); go_simp; all_goals with_reducible rfl)
    (try simp only [Act.put, List.setIfInBounds_toArray, List.set_cons_zero, List.set_cons_succ])
    refine wpAnyH_take (i := 9) (v := ?_) (by rw [List.getElem?_toArray]; rfl) (by kernel_rfl) (by kernel_rfl) (by kernel_rfl) (by intro _ _ _ h; exact h) (Or.inl ⟨by rfl, ?_⟩) (by assumption) ?_
    rotate_left
    · (intro w hSw; (try dsimp only at hSw); go_simp; all_goals with_reducible rfl)
    (try simp only [Act.put, List.setIfInBounds_toArray, List.set_cons_zero, List.set_cons_succ])
    refine wpAnyH_done (by kernel_rfl) ?_ _
    obtain ⟨g1, g2, g3, g4, g5, g6⟩ := HT1.out x1 x1l x1h
    (try simp only [g3])
    go_wp2_with fail
    go_meet
    case rel => exact ⟨_, rfl, g1, g2, XB⟩
  case rest =>
    obtain ⟨t, rfl, ht1, ht2, XB⟩ := hcut
    replace OW := own_belK' OW XB
    replace P := P.below XB
    replace D := D.below XB
    replace N := N.below XB
    replace Z := Z.below XB
    replace B := B.trans (XB.mono B.size)
    clear XB
    clear SK HT1 CW hw1 hy1 hne1 hne1'
    generalize wc = v8 at *
    go_upto_region 14 with fail
    go_cut [22] (fun s22 wx => ∃ u : Int, s22 = .int .i64 u ∧ le ≤ u ∧ u ≤ mo ∧ v8 = wx)
    case first => as_aux_lemma =>
      go_wp2_with fail
      refine (CAT _ B 2 (by decide)).mono ?_
      rintro e w' ⟨x2, rfl, x2l, x2h, rfl⟩
      obtain ⟨g1, g2, g3⟩ := HT2.out x2 x2l x2h
      go_wp2_with fail
      go_meet
      case rel => exact ⟨_, rfl, by first | (rw [g3]; exact g1) | exact g1, by first | (rw [g3]; exact g2) | exact g2, by first | rfl | trivial⟩
    case rest =>
      obtain ⟨u, rfl, hu1, hu2, rfl⟩ := hcut
      obtain ⟨o1, o2, o3, o4, o5, o6, o7, o8, o9⟩ := HOC.out
      have hc1 : decide (X ≤ t) = true := decide_eq_true (by omega)
      have hw5 : IntKind.i64.wrap (t + u) = t + u := Go.IntWalk.i64_in _ ⟨by omega, by omega⟩
      have hx5 : wrap64 (t + u) = t + u := Go.IntWalk.wrap64_in _ ⟨by omega, by omega⟩
      have hc2 : decide (t + u ≤ Y) = true := decide_eq_true (by omega)
      have hw6 : IntKind.i64.wrap (X + lg) = Y := by rw [o5]; exact Go.IntWalk.i64_in _ ⟨by omega, by omega⟩
      have hx6 : wrap64 (X + lg) = Y := by rw [o5]; exact Go.IntWalk.wrap64_in _ ⟨by omega, by omega⟩
      have hc3 : decide (Y ≤ Y) = true := decide_eq_true (Int.le_refl _)
      obtain ⟨c1, c2⟩ : v8.cell? ⟨b, off + iN * 2, none⟩ = some (.int .i64 o) ∧ v8.cell? ⟨b, off + iN * 2 + 1, none⟩ = some (.int .i64 lg) := by
        rcases ownS OW with q | ⟨b', off', e', hc⟩
        · exact absurd q (by omega)
        · cases e'; exact hc.elSlot hin hM
      have hli : (iN : Int) < (m : Int) := by omega
      clear CAT HT2 HOC hM hw3 hw4 hne2 o1 o2 o3 o4 o5 o6 o7 o8 o9 ht1 ht2 hu1 hu2
      obtain ⟨n0, n1, n2, n3, n4, n5, n6⟩ := id N
      obtain ⟨z0, z1, z2, z3, z4⟩ := id Z
      go_upto_region 15 with fail
      refine wp_region_held_drew (S := (fun w' => w'.cell? ⟨jn, 2, none⟩ = some (.slice (some ⟨b, off, none⟩) m c) ∧ w'.cell? ⟨b, off + iN * 2, none⟩ = some (.int .i64 o) ∧ w'.cell? ⟨b, off + iN * 2 + 1, none⟩ = some (.int .i64 lg) ∧ w'.cell? ⟨jz, 0, none⟩ = some (.int .i64 X) ∧ w'.cell? ⟨jz, 1, none⟩ = some (.int .i64 Y))) (by kernel_rfl) ?_ (fun hHeld => ?_)
      · exact ⟨n3, c1, c2, z1, z2⟩
      refine wpAnyH_take (i := 0) (v := ?_) (by rw [List.getElem?_toArray]; rfl) (by kernel_rfl) (by kernel_rfl) (by kernel_rfl) (by intro _ _ _ h; exact h) (Or.inl ⟨by rfl, ?_⟩) (by assumption) ?_
      rotate_left
      · (intro w hSw; (try dsimp only at hSw); go_simp; all_goals with_reducible rfl)
      (try simp only [Act.put, List.setIfInBounds_toArray, List.set_cons_zero, List.set_cons_succ])
      refine wpAnyH_take (i := 1) (v := ?_) (by rw [List.getElem?_toArray]; rfl) (by kernel_rfl) (by kernel_rfl) (by kernel_rfl) (by intro _ _ _ h; exact h) (Or.inl ⟨by rfl, ?_⟩) (by assumption) ?_
      rotate_left
      · (intro w hSw; (try dsimp only at hSw); go_simp; all_goals with_reducible rfl)
      (try simp only [Act.put, List.setIfInBounds_toArray, List.set_cons_zero, List.set_cons_succ])
      refine wpAnyH_take (i := 2) (v := ?_) (by rw [List.getElem?_toArray]; rfl) (by kernel_rfl) (by kernel_rfl) (by kernel_rfl) (by intro _ _ _ h; exact h) (Or.inl ⟨by rfl, ?_⟩) (by assumption) ?_
      rotate_left
      · (intro w hSw; (try dsimp only at hSw); go_simp; all_goals with_reducible rfl)
      (try simp only [Act.put, List.setIfInBounds_toArray, List.set_cons_zero, List.set_cons_succ])
      refine wpAnyH_take (i := 3) (v := ?_) (by rw [List.getElem?_toArray]; rfl) (by kernel_rfl) (by kernel_rfl) (by kernel_rfl) (by intro _ _ _ h; exact h) (Or.inl ⟨by rfl, ?_⟩) (by assumption) ?_
      rotate_left
      · (intro w hSw; (try dsimp only at hSw); go_simp; all_goals with_reducible rfl)
      (try simp only [Act.put, List.setIfInBounds_toArray, List.set_cons_zero, List.set_cons_succ])
      refine wpAnyH_take (i := 4) (v := ?_) (by rw [List.getElem?_toArray]; rfl) (by kernel_rfl) (by kernel_rfl) (by kernel_rfl) (by intro _ _ _ h; exact h) (Or.inl ⟨by rfl, ?_⟩) (by assumption) ?_
      rotate_left
      · (intro w hSw; (try dsimp only at hSw); go_simp; all_goals with_reducible rfl)
      (try simp only [Act.put, List.setIfInBounds_toArray, List.set_cons_zero, List.set_cons_succ])
      refine wpAnyH_take (i := 5) (v := ?_) (by rw [List.getElem?_toArray]; rfl) (by kernel_rfl) (by kernel_rfl) (by kernel_rfl) (by intro _ _ _ h; exact h) (Or.inl ⟨by rfl, ?_⟩) (by assumption) ?_
      rotate_left
      · (intro w hSw; (try dsimp only at hSw); go_simp; all_goals with_reducible rfl)
      (try simp only [Act.put, List.setIfInBounds_toArray, List.set_cons_zero, List.set_cons_succ])
      refine wpAnyH_take (i := 6) (v := ?_) (by rw [List.getElem?_toArray]; rfl) (by kernel_rfl) (by kernel_rfl) (by kernel_rfl) (by intro _ _ _ h; exact h) (Or.inl ⟨by rfl, ?_⟩) (by assumption) ?_
      rotate_left
      · (intro w hSw; (try dsimp only at hSw); go_simp; all_goals with_reducible rfl)
      (try simp only [Act.put, List.setIfInBounds_toArray, List.set_cons_zero, List.set_cons_succ])
      refine wpAnyH_take (i := 7) (v := ?_) (by rw [List.getElem?_toArray]; rfl) (by kernel_rfl) (by kernel_rfl) (by kernel_rfl) (by intro _ _ _ h; exact h) (Or.inl ⟨by rfl, ?_⟩) (by assumption) ?_
      rotate_left
      · (intro w hSw; (try dsimp only at hSw); go_simp; all_goals with_reducible rfl)
      (try simp only [Act.put, List.setIfInBounds_toArray, List.set_cons_zero, List.set_cons_succ])
      refine wpAnyH_take (i := 8) (v := ?_) (by rw [List.getElem?_toArray]; rfl) (by kernel_rfl) (by kernel_rfl) (by kernel_rfl) (by intro _ _ _ h; exact h) (Or.inl ⟨by rfl, ?_⟩) (by assumption) ?_
      rotate_left
      · (intro w hSw; (try dsimp only at hSw); go_simp; all_goals with_reducible rfl)
      (try simp only [Act.put, List.setIfInBounds_toArray, List.set_cons_zero, List.set_cons_succ])
      refine wpAnyH_take (i := 9) (v := ?_) (by rw [List.getElem?_toArray]; rfl) (by kernel_rfl) (by kernel_rfl) (by kernel_rfl) (by intro _ _ _ h; exact h) (Or.inl ⟨by rfl, ?_⟩) (by assumption) ?_
      rotate_left
      · (intro w hSw; (try dsimp only at hSw); go_simp; all_goals with_reducible rfl)
      (try simp only [Act.put, List.setIfInBounds_toArray, List.set_cons_zero, List.set_cons_succ])
      (try simp only [beq_self_eq_true])
      refine wpAnyH_take (i := 10) (v := ?_) (by rw [List.getElem?_toArray]; rfl) (by kernel_rfl) (by kernel_rfl) (by kernel_rfl) (by intro _ _ _ h; exact h) (Or.inl ⟨by rfl, ?_⟩) (by assumption) ?_
      rotate_left
      · (intro w hSw; (try dsimp only at hSw); go_simp; all_goals with_reducible rfl)
      (try simp only [Act.put, List.setIfInBounds_toArray, List.set_cons_zero, List.set_cons_succ])
      refine wpAnyH_take (i := 11) (v := ?_) (by rw [List.getElem?_toArray]; rfl) (by kernel_rfl) (by kernel_rfl) (by kernel_rfl) (by intro _ _ _ h; exact h) (Or.inl ⟨by rfl, ?_⟩) (by assumption) ?_
      rotate_left
      · (intro w hSw; (try dsimp only at hSw); go_simp; all_goals with_reducible rfl)
      (try simp only [Act.put, List.setIfInBounds_toArray, List.set_cons_zero, List.set_cons_succ])
      refine wpAnyH_take (i := 12) (v := ?_) (by rw [List.getElem?_toArray]; rfl) (by kernel_rfl) (by kernel_rfl) (by kernel_rfl) (by intro _ _ _ h; exact h) (Or.inl ⟨by rfl, ?_⟩) (by assumption) ?_
      rotate_left
      · (intro w hSw; (try dsimp only at hSw); go_simp; all_goals with_reducible rfl)
      (try simp only [Act.put, List.setIfInBounds_toArray, List.set_cons_zero, List.set_cons_succ])
      refine wpAnyH_take (i := 13) (v := ?_) (by rw [List.getElem?_toArray]; rfl) (by kernel_rfl) (by kernel_rfl) (by kernel_rfl) (by intro _ _ _ h; exact h) (Or.inl ⟨by rfl, ?_⟩) (by assumption) ?_
      rotate_left
      · (intro w hSw; (try dsimp only at hSw); go_simp; all_goals with_reducible rfl)
      (try simp only [Act.put, List.setIfInBounds_toArray, List.set_cons_zero, List.set_cons_succ])
      refine wpAnyH_take (i := 14) (v := ?_) (by rw [List.getElem?_toArray]; rfl) (by kernel_rfl) (by kernel_rfl) (by kernel_rfl) (by intro _ _ _ h; exact h) (Or.inl ⟨by rfl, ?_⟩) (by assumption) ?_
      rotate_left
      · (intro w hSw; (try dsimp only at hSw); go_simp; all_goals with_reducible rfl)
      (try simp only [Act.put, List.setIfInBounds_toArray, List.set_cons_zero, List.set_cons_succ])
      refine wpAnyH_take (i := 15) (v := ?_) (by rw [List.getElem?_toArray]; rfl) (by kernel_rfl) (by kernel_rfl) (by kernel_rfl) (by intro _ _ _ h; exact h) (Or.inl ⟨by rfl, ?_⟩) (by assumption) ?_
      rotate_left
      · (intro w hSw; (try dsimp only at hSw); go_simp; all_goals with_reducible rfl)
      (try simp only [Act.put, List.setIfInBounds_toArray, List.set_cons_zero, List.set_cons_succ])
      (try simp only [hc1])
      refine wpAnyH_take (i := 16) (v := ?_) (by rw [List.getElem?_toArray]; rfl) (by kernel_rfl) (by kernel_rfl) (by kernel_rfl) (by intro _ _ _ h; exact h) (Or.inl ⟨by rfl, ?_⟩) (by assumption) ?_
      rotate_left
      · (intro w hSw; (try dsimp only at hSw); go_simp; all_goals with_reducible rfl)
      (try simp only [Act.put, List.setIfInBounds_toArray, List.set_cons_zero, List.set_cons_succ])
      refine wpAnyH_take (i := 17) (v := ?_) (by rw [List.getElem?_toArray]; rfl) (by kernel_rfl) (by kernel_rfl) (by kernel_rfl) (by intro _ _ _ h; exact h) (Or.inl ⟨by rfl, ?_⟩) (by assumption) ?_
      rotate_left
      · (intro w hSw; (try dsimp only at hSw); go_simp; all_goals with_reducible rfl)
      (try simp only [Act.put, List.setIfInBounds_toArray, List.set_cons_zero, List.set_cons_succ])
      refine wpAnyH_take (i := 18) (v := ?_) (by rw [List.getElem?_toArray]; rfl) (by kernel_rfl) (by kernel_rfl) (by kernel_rfl) (by intro _ _ _ h; exact h) (Or.inl ⟨by rfl, ?_⟩) (by assumption) ?_
      rotate_left
      · (intro w hSw; (try dsimp only at hSw); go_simp; all_goals with_reducible rfl)
      (try simp only [Act.put, List.setIfInBounds_toArray, List.set_cons_zero, List.set_cons_succ])
      refine wpAnyH_take (i := 19) (v := ?_) (by rw [List.getElem?_toArray]; rfl) (by kernel_rfl) (by kernel_rfl) (by kernel_rfl) (by intro _ _ _ h; exact h) (Or.inl ⟨by rfl, ?_⟩) (by assumption) ?_
      rotate_left
      · (intro w hSw; (try dsimp only at hSw); go_simp; all_goals with_reducible rfl)
      (try simp only [Act.put, List.setIfInBounds_toArray, List.set_cons_zero, List.set_cons_succ])
      refine wpAnyH_take (i := 20) (v := ?_) (by rw [List.getElem?_toArray]; rfl) (by kernel_rfl) (by kernel_rfl) (by kernel_rfl) (by intro _ _ _ h; exact h) (Or.inl ⟨by rfl, ?_⟩) (by assumption) ?_
      rotate_left
      · (intro w hSw; (try dsimp only at hSw); go_simp; all_goals with_reducible rfl)
      (try simp only [Act.put, List.setIfInBounds_toArray, List.set_cons_zero, List.set_cons_succ])
      (try simp only [hw5, hx5])
      refine wpAnyH_take (i := 21) (v := ?_) (by rw [List.getElem?_toArray]; rfl) (by kernel_rfl) (by kernel_rfl) (by kernel_rfl) (by intro _ _ _ h; exact h) (Or.inl ⟨by rfl, ?_⟩) (by assumption) ?_
      rotate_left
      · (intro w hSw; (try dsimp only at hSw); go_simp; all_goals with_reducible rfl)
      (try simp only [Act.put, List.setIfInBounds_toArray, List.set_cons_zero, List.set_cons_succ])
      refine wpAnyH_take (i := 22) (v := ?_) (by rw [List.getElem?_toArray]; rfl) (by kernel_rfl) (by kernel_rfl) (by kernel_rfl) (by intro _ _ _ h; exact h) (Or.inl ⟨by rfl, ?_⟩) (by assumption) ?_
      rotate_left
      · (intro w hSw; (try dsimp only at hSw); go_simp; all_goals with_reducible rfl)
      (try simp only [Act.put, List.setIfInBounds_toArray, List.set_cons_zero, List.set_cons_succ])
      refine wpAnyH_take (i := 23) (v := ?_) (by rw [List.getElem?_toArray]; rfl) (by kernel_rfl) (by kernel_rfl) (by kernel_rfl) (by intro _ _ _ h; exact h) (Or.inl ⟨by rfl, ?_⟩) (by assumption) ?_
      rotate_left
      · (intro w hSw; (try dsimp only at hSw); go_simp; all_goals with_reducible rfl)
      (try simp only [Act.put, List.setIfInBounds_toArray, List.set_cons_zero, List.set_cons_succ])
      (try simp only [hc2])
      refine wpAnyH_take (i := 24) (v := ?_) (by rw [List.getElem?_toArray]; rfl) (by kernel_rfl) (by kernel_rfl) (by kernel_rfl) (by intro _ _ _ h; exact h) (Or.inl ⟨by rfl, ?_⟩) (by assumption) ?_
      rotate_left
      · (intro w hSw; (try dsimp only at hSw); go_simp; all_goals with_reducible rfl)
      (try simp only [Act.put, List.setIfInBounds_toArray, List.set_cons_zero, List.set_cons_succ])
      refine wpAnyH_take (i := 25) (v := ?_) (by rw [List.getElem?_toArray]; rfl) (by kernel_rfl) (by kernel_rfl) (by kernel_rfl) (by intro _ _ _ h; exact h) (Or.inl ⟨by rfl, ?_⟩) (by assumption) ?_
      rotate_left
      · (intro w hSw; (try dsimp only at hSw); go_simp; all_goals with_reducible rfl)
      (try simp only [Act.put, List.setIfInBounds_toArray, List.set_cons_zero, List.set_cons_succ])
      refine wpAnyH_take (i := 26) (v := ?_) (by rw [List.getElem?_toArray]; rfl) (by kernel_rfl) (by kernel_rfl) (by kernel_rfl) (by intro _ _ _ h; exact h) (Or.inl ⟨by rfl, ?_⟩) (by assumption) ?_
      rotate_left
      · (intro w hSw; (try dsimp only at hSw); go_simp; all_goals with_reducible rfl)
      (try simp only [Act.put, List.setIfInBounds_toArray, List.set_cons_zero, List.set_cons_succ])
      refine wpAnyH_take (i := 27) (v := ?_) (by rw [List.getElem?_toArray]; rfl) (by kernel_rfl) (by kernel_rfl) (by kernel_rfl) (by intro _ _ _ h; exact h) (Or.inl ⟨by rfl, ?_⟩) (by assumption) ?_
      rotate_left
      · (intro w hSw; (try dsimp only at hSw); go_simp; all_goals with_reducible rfl)
      (try simp only [Act.put, List.setIfInBounds_toArray, List.set_cons_zero, List.set_cons_succ])
      refine wpAnyH_take (i := 28) (v := ?_) (by rw [List.getElem?_toArray]; rfl) (by kernel_rfl) (by kernel_rfl) (by kernel_rfl) (by intro _ _ _ h; exact h) (Or.inl ⟨by rfl, ?_⟩) (by assumption) ?_
      rotate_left
      · (intro w hSw; (try dsimp only at hSw); go_simp; all_goals with_reducible rfl)
      (try simp only [Act.put, List.setIfInBounds_toArray, List.set_cons_zero, List.set_cons_succ])
      refine wpAnyH_take (i := 29) (v := ?_) (by rw [List.getElem?_toArray]; rfl) (by kernel_rfl) (by kernel_rfl) (by kernel_rfl) (by intro _ _ _ h; exact h) (Or.inl ⟨by rfl, ?_⟩) (by assumption) ?_
      rotate_left
      · (intro w hSw; (try dsimp only at hSw); go_simp; all_goals with_reducible rfl)
      (try simp only [Act.put, List.setIfInBounds_toArray, List.set_cons_zero, List.set_cons_succ])
      refine wpAnyH_take (i := 30) (v := ?_) (by rw [List.getElem?_toArray]; rfl) (by kernel_rfl) (by kernel_rfl) (by kernel_rfl) (by intro _ _ _ h; exact h) (Or.inl ⟨by rfl, ?_⟩) (by assumption) ?_
      rotate_left
      · (intro w hSw; (try dsimp only at hSw); go_simp; all_goals with_reducible rfl)
      (try simp only [Act.put, List.setIfInBounds_toArray, List.set_cons_zero, List.set_cons_succ])
      refine wpAnyH_take (i := 31) (v := ?_) (by rw [List.getElem?_toArray]; rfl) (by kernel_rfl) (by kernel_rfl) (by kernel_rfl) (by intro _ _ _ h; exact h) (Or.inl ⟨by rfl, ?_⟩) (by assumption) ?_
      rotate_left
      · (intro w hSw; (try dsimp only at hSw); go_simp; all_goals with_reducible rfl)
      (try simp only [Act.put, List.setIfInBounds_toArray, List.set_cons_zero, List.set_cons_succ])
      refine wpAnyH_take (i := 32) (v := ?_) (by rw [List.getElem?_toArray]; rfl) (by kernel_rfl) (by kernel_rfl) (by kernel_rfl) (by intro _ _ _ h; exact h) (Or.inl ⟨by rfl, ?_⟩) (by assumption) ?_
      rotate_left
      · (intro w hSw; (try dsimp only at hSw); go_simp; all_goals with_reducible rfl)
      (try simp only [Act.put, List.setIfInBounds_toArray, List.set_cons_zero, List.set_cons_succ])
      refine wpAnyH_take (i := 33) (v := ?_) (by rw [List.getElem?_toArray]; rfl) (by kernel_rfl) (by kernel_rfl) (by kernel_rfl) (by intro _ _ _ h; exact h) (Or.inl ⟨by rfl, ?_⟩) (by assumption) ?_
      rotate_left
      · (intro w hSw; (try dsimp only at hSw); go_simp; all_goals with_reducible rfl)
      (try simp only [Act.put, List.setIfInBounds_toArray, List.set_cons_zero, List.set_cons_succ])
      refine wpAnyH_take (i := 34) (v := ?_) (by rw [List.getElem?_toArray]; rfl) (by kernel_rfl) (by kernel_rfl) (by kernel_rfl) (by intro _ _ _ h; exact h) (Or.inl ⟨by rfl, ?_⟩) (by assumption) ?_
      rotate_left
      · (intro w hSw; (try dsimp only at hSw); go_simp; all_goals with_reducible rfl)
      (try simp only [Act.put, List.setIfInBounds_toArray, List.set_cons_zero, List.set_cons_succ])
      refine wpAnyH_take (i := 35) (v := ?_) (by rw [List.getElem?_toArray]; rfl) (by kernel_rfl) (by kernel_rfl) (by kernel_rfl) (by intro _ _ _ h; exact h) (Or.inl ⟨by rfl, ?_⟩) (by assumption) ?_
      rotate_left
      · (intro w hSw; (try dsimp only at hSw); go_simp; all_goals with_reducible rfl)
      (try simp only [Act.put, List.setIfInBounds_toArray, List.set_cons_zero, List.set_cons_succ])
      refine wpAnyH_take (i := 36) (v := ?_) (by rw [List.getElem?_toArray]; rfl) (by kernel_rfl) (by kernel_rfl) (by kernel_rfl) (by intro _ _ _ h; exact h) (Or.inl ⟨by rfl, ?_⟩) (by assumption) ?_
      rotate_left
      · (intro w hSw; (try dsimp only at hSw); go_simp; all_goals with_reducible rfl)
      (try simp only [Act.put, List.setIfInBounds_toArray, List.set_cons_zero, List.set_cons_succ])
      (try simp only [hw6, hx6])
      refine wpAnyH_take (i := 37) (v := ?_) (by rw [List.getElem?_toArray]; rfl) (by kernel_rfl) (by kernel_rfl) (by kernel_rfl) (by intro _ _ _ h; exact h) (Or.inl ⟨by rfl, ?_⟩) (by assumption) ?_
      rotate_left
      · (intro w hSw; (try dsimp only at hSw); go_simp; all_goals with_reducible rfl)
      (try simp only [Act.put, List.setIfInBounds_toArray, List.set_cons_zero, List.set_cons_succ])
      (try simp only [hc3])
      refine wpAnyH_take (i := 38) (v := ?_) (by rw [List.getElem?_toArray]; rfl) (by kernel_rfl) (by kernel_rfl) (by kernel_rfl) (by intro _ _ _ h; exact h) (Or.inl ⟨by rfl, ?_⟩) (by assumption) ?_
      rotate_left
      · (intro w hSw; (try dsimp only at hSw); go_simp; all_goals with_reducible rfl)
      (try simp only [Act.put, List.setIfInBounds_toArray, List.set_cons_zero, List.set_cons_succ])
      refine wpAnyH_take (i := 39) (v := ?_) (by rw [List.getElem?_toArray]; rfl) (by kernel_rfl) (by kernel_rfl) (by kernel_rfl) (by intro _ _ _ h; exact h) (Or.inl ⟨by rfl, ?_⟩) (by assumption) ?_
      rotate_left
      · (intro w hSw; (try dsimp only at hSw); go_simp; all_goals with_reducible rfl)
      (try simp only [Act.put, List.setIfInBounds_toArray, List.set_cons_zero, List.set_cons_succ])
      refine wpAnyH_done (by kernel_rfl) ?_ _
      (try go_wp2_with fail)
      go_ret
      exact ⟨rfl, Below.drew B⟩
end Go.Proofs.YtcakhfobkbgfoaaDoor
