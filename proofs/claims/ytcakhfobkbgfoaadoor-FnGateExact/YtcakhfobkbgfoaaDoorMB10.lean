/- The walk of FnGateExact. -/
import Derived.Test.YtcakhfobkbgfoaaDoorMB6
import Derived.Test.YtcakhfobkbgfoaaDoorMB7
import Derived.Test.YtcakhfobkbgfoaaDoorMB9
import Derived.Deep.RegionHeld3
import Derived.Deep.DeepCutAuto
import Derived.WalkKit
import Derived.WalkSpells
import Derived.WalkLawsBesides
import Derived.Deep.RegionHeld
namespace Go.Proofs.YtcakhfobkbgfoaaDoor
open Go.RowKit
set_option linter.unusedVariables false
theorem fdA_go {s g : Int} {M : Nat → SlT} {m : Nat} {o f t : Int} {j : Nat} (h : fdA s g M m o f t j = true) : fdA s g M m o f t (j + 1) = true := by rw [fdA, h]; rfl
theorem fdA_on {s g : Int} {M : Nat → SlT} {m : Nat} {o f t : Int} {j : Nat} (h : fdA s g M m o f t j = false) : fdA s g M m o f t (j + 1) = fdP s g M m o f t j := by rw [fdA, h]; rfl
set_option maxRecDepth 100000 in
set_option maxHeartbeats 16000000 in
theorem walkGateExact (a0 : Option Addr) (l0 c0 : Nat) (w : World) (E : EA w) (hcode : CodeB w w.heap.size a0 l0) :
    Calls Tryd.prog 4 #[.slice a0 l0 c0] w fun e w' => e = .returned (.bool true) ∧ Below w.heap.size w w' := by
  have HC : Hid (CodeB w w.heap.size a0 l0) := hcode
  clear hcode
  go_enter Tryd.func4, Tryd.ntmps4
  go_wp2_with fail
  refine (big_any _ _ _ _).mono ?_
  rintro e w' ⟨rfl, rfl⟩
  by_cases hbg : 1048576 < (l0 : Int)
  · have hbd : decide (1048576 < (l0 : Int)) = true := decide_eq_true hbg
    go_wp2
    go_ret
    exact ⟨rfl, Below.refl _ _⟩
  have hbd : decide (1048576 < (l0 : Int)) = false := decide_eq_false hbg
  have hl0 : l0 ≤ 1048576 := by omega
  have CAT : ∀ (v : World), Below w.heap.size w v → ∀ i : Nat, i ≤ 1000 → Calls Tryd.prog 17 #[.slice a0 l0 c0, .int .i64 (i : Int)] v fun e w' => ∃ x : Int, e = .returned (.int .i64 x) ∧ 0 ≤ x ∧ x ≤ 255 ∧ v = w' := fun v hv i hi => at_any a0 l0 c0 i w.heap.size v hl0 hi (HC.out.below hv)
  go_wp2_with fail
  refine (DrawGateAsk_any a0 l0 c0 w hl0 HC.out).mono ?_
  rintro e v ⟨lo, hi, kn, n, d, x, s, g, A, m, c, M, o, rfl, hm13, OW, B⟩
  clear hbd hbg HC hl0
  have hmn : m ≤ maxLen := by unfold maxLen; omega
  have A0 := Below.nw v (.cells #[.int .i64 lo, .int .i64 hi] 25)
  have A1 := Below.nw (v.alloc (.cells #[.int .i64 lo, .int .i64 hi] 25)) (.cells #[.int .i64 n, .int .i64 d] 27)
  have A2 := Below.nw ((v.alloc (.cells #[.int .i64 lo, .int .i64 hi] 25)).alloc (.cells #[.int .i64 n, .int .i64 d] 27)) (.cells #[.int .i64 s, .int .i64 g, .slice A m c] 30)
  have P := ((Bx2.new v (.int .i64 lo) (.int .i64 hi) 25).below A1).below A2
  have D := (Bx2.new (v.alloc (.cells #[.int .i64 lo, .int .i64 hi] 25)) (.int .i64 n) (.int .i64 d) 27).below A2
  have N := Tx3.new ((v.alloc (.cells #[.int .i64 lo, .int .i64 hi] 25)).alloc (.cells #[.int .i64 n, .int .i64 d] 27)) (.int .i64 s) (.int .i64 g) (.slice A m c) 30
  have NL := (A0.trans (A1.mono A0.size)).trans (A2.mono (A0.trans (A1.mono A0.size)).size)
  simp only [World.size_alloc] at D N
  clear A0 A1 A2
  go_upto_region 4 with fail
  replace OW := own_belK' OW NL
  replace B := B.trans (NL.mono B.size)
  clear NL
  generalize ((v.alloc (.cells #[.int .i64 lo, .int .i64 hi] 25)).alloc (.cells #[.int .i64 n, .int .i64 d] 27)).alloc (.cells #[.int .i64 s, .int .i64 g, .slice A m c] 30) = v1 at *
  generalize v.heap.size + 1 + 1 = jn at *
  generalize v.heap.size + 1 = jd at *
  generalize v.heap.size = jp at *
  obtain ⟨p0, p1, p2, p3, p4⟩ := id P
  obtain ⟨d0, d1, d2, d3, d4⟩ := id D
  obtain ⟨n0, n1, n2, n3, n4, n5, n6⟩ := id N
  go_wp2_with fail
  refine (implGateAsk_any kn lo hi n d x s g A m c M o _ (E.below B) hmn (ownS OW)).mono ?_
  rintro e v2 ⟨rfl, hb⟩
  clear p0 p1 p2 p3 p4
  clear d0 d1 d2 d3 d4
  clear n0 n1 n2 n3 n4 n5 n6
  replace OW := own_belK' OW hb
  replace P := P.below hb
  replace D := D.below hb
  replace N := N.below hb
  replace B := B.trans (hb.mono B.size)
  clear hb
  obtain ⟨p0, p1, p2, p3, p4⟩ := id P
  obtain ⟨d0, d1, d2, d3, d4⟩ := id D
  obtain ⟨n0, n1, n2, n3, n4, n5, n6⟩ := id N
  go_wp2_with fail
  refine (specGateAsk_any kn lo hi n d x s g A m c M o _ hmn (ownS OW)).mono ?_
  rintro e v3 ⟨rfl, hb⟩
  clear p0 p1 p2 p3 p4
  clear d0 d1 d2 d3 d4
  clear n0 n1 n2 n3 n4 n5 n6
  replace OW := own_belK' OW hb
  replace P := P.below hb
  replace D := D.below hb
  replace N := N.below hb
  replace B := B.trans (hb.mono B.size)
  clear hb
  clear CAT
  cases hP : gaP kn lo hi n d x (plB s g M m) o
  · obtain ⟨e1, e2, e3⟩ := ga_bad hP
    rw [e1, e2, e3]
    clear e1 e2 e3 hP
    go_wp2_with fail
    go_ret
    exact ⟨rfl, B⟩
  have hpl : plB s g M m = true := by unfold gaP at hP; simp only [Bool.and_eq_true] at hP; exact hP.2.2.2.1
  have hrb := rn_bd hpl
  obtain ⟨pl1, pl2, pl3, pl4⟩ := plB_t hpl
  have CR := fun w' h => specRoundOf_any s g A m c M w' hmn h
  rw [rnI_t hpl] at CR
  have CG := fun w' => specGateSpan_any lo hi n d x w'
  obtain ⟨f, hf⟩ : ∃ f, gsL lo hi n d x = f := ⟨_, rfl⟩
  obtain ⟨t, ht⟩ : ∃ t, gsH lo hi n d x = t := ⟨_, rfl⟩
  have HQ : Hid (gsB lo hi n d x = true → f < t ∧ -1000000000000 ≤ f ∧ f ≤ 1000000000000) := fun h => by
    obtain ⟨s1, s2, s3, s4, s5, s6⟩ := gs_parts h
    obtain ⟨q1, q2, q3, q4, q5⟩ := le_mo s1
    have hI : lo ≤ hi ∧ -1000000000000 ≤ lo ∧ hi ≤ 1000000000000 := by unfold okI at s5; simp at s5; omega
    rw [s3] at hf
    rw [s4] at ht
    omega
  have HC : Hid (gaC kn lo hi n d x s g M m o = (match kn && (gsB lo hi n d x && (decide (s ≤ f) && fdA s g M m o f t m)) with | true => 0 | false => 2)) := by
    have hg : gaG kn lo hi n d x s g M m o = (kn && (gsB lo hi n d x && isB s g M m o f t)) := by unfold gaG; rw [hP, hf, ht]; rfl
    cases hq : gsB lo hi n d x
    · rw [hq] at hg
      have hg0 : gaG kn lo hi n d x s g M m o = false := by rw [hg]; simp
      rw [Hid, (ga_un hP hg0).1]
      simp
    · have hx := gate_exact (s := s) (g := g) (M := M) (m := m) (o := o) (HQ.out hq).1
      rw [hq, hx] at hg
      rw [Hid, ← hg]
      cases hgg : gaG kn lo hi n d x s g M m o
      · exact (ga_un hP hgg).1
      · exact (ga_go hgg).1
  rw [hf, ht] at CG
  clear hf ht hP hpl
  generalize gaC kn lo hi n d x s g M m o = how at *
  generalize gaI kn lo hi n d x s g M m o = gI at *
  generalize gaK kn lo hi n d x s g M m o = gK at *
  generalize gsB lo hi n d x = ok at *
  have hb1 : (how == 1) = false := by rw [HC.out]; cases (kn && (ok && (decide (s ≤ f) && fdA s g M m o f t m))) <;> rfl
  have HEQ : Hid ((how == 0) = (kn && (ok && (decide (s ≤ f) && fdA s g M m o f t m)))) := by rw [Hid, HC.out]; cases (kn && (ok && (decide (s ≤ f) && fdA s g M m o f t m))) <;> rfl
  have hq2 : (how != how) = false := by simp
  clear HC
  obtain ⟨p0, p1, p2, p3, p4⟩ := id P
  obtain ⟨d0, d1, d2, d3, d4⟩ := id D
  go_wp2_with fail
  refine (CG _).mono ?_
  rintro e v4 ⟨rfl, hb⟩
  clear p0 p1 p2 p3 p4 d0 d1 d2 d3 d4 P D
  replace OW := own_belK' OW hb
  replace N := N.below hb
  replace B := B.trans (hb.mono B.size)
  clear hb
  have NL := Below.nw v4 (.cells #[.int .i64 f, .int .i64 t] 25)
  have Z := Bx2.new v4 (.int .i64 f) (.int .i64 t) 25
  go_upto_region 11 with fail
  replace OW := own_belK' OW NL
  replace N := N.below NL
  replace B := B.trans (NL.mono B.size)
  clear NL
  generalize v4.alloc (.cells #[.int .i64 f, .int .i64 t] 25) = v5 at *
  generalize v4.heap.size = jz at *
  clear CG
  obtain ⟨n0, n1, n2, n3, n4, n5, n6⟩ := id N
  go_wp2_with fail
  refine (CR _ (ownS OW)).mono ?_
  rintro e v6 ⟨rfl, hb⟩
  clear n0 n1 n2 n3 n4 n5 n6
  replace OW := own_belK' OW hb
  replace N := N.below hb
  replace Z := Z.below hb
  replace B := B.trans (hb.mono B.size)
  clear hb
  clear CR
  obtain ⟨rn, hrn⟩ : ∃ rn, upS g M m = rn := ⟨_, rfl⟩
  rw [hrn] at hrb ⊢
  have hm0 : (0 : Int) < (m : Int) := by omega
  by_cases hrun : ok = true ∧ s ≤ f
  · obtain ⟨rfl, hsf⟩ := hrun
    obtain ⟨r1, r2, r3⟩ := HQ.out rfl
    rw [decide_eq_true hsf, Bool.true_and, Bool.true_and] at HEQ
    have hkk : 0 ≤ (f - s).tdiv rn ∧ (f - s).tdiv rn ≤ 1000000000000 := by
      rw [Int.tdiv_eq_ediv_of_nonneg (by omega)]
      exact ⟨Int.ediv_nonneg (by omega) (by omega), Int.le_trans (Int.ediv_le_self _ (by omega)) (by omega)⟩
    have HK : Hid ((f - s).tdiv rn = (f - s) / rn) := Int.tdiv_eq_ediv_of_nonneg (by omega)
    have hw1 : IntKind.i64.wrap (f - s) = f - s := Go.IntWalk.i64_in _ ⟨by omega, by omega⟩
    have hx1 : wrap64 (f - s) = f - s := Go.IntWalk.wrap64_in _ ⟨by omega, by omega⟩
    have hw2 : IntKind.i64.wrap ((f - s).tdiv rn) = (f - s).tdiv rn := Go.IntWalk.i64_in _ ⟨by omega, by omega⟩
    have hx2 : wrap64 ((f - s).tdiv rn) = (f - s).tdiv rn := Go.IntWalk.wrap64_in _ ⟨by omega, by omega⟩
    have hne : ¬ rn = 0 := by omega
    have HP : Hid (∀ j : Nat, fdP s g M m o f t j = (ocB s g M m j ((f - s).tdiv rn) && ((M j).1 == o && (decide (ocL s g M m j ((f - s).tdiv rn) ≤ f) && decide (t ≤ ocH s g M m j ((f - s).tdiv rn)))))) := fun j => by
      rw [HK.out, ← hrn]
      rfl
    have CO0 := fun (j : Nat) w' h => specOccurrence_any s g A m c M (j : Int) ((f - s).tdiv rn) w' hmn h
    have HFA : Hid (∀ j : Nat, (fdA s g M m o f t j = true → fdA s g M m o f t (j + 1) = true) ∧ (fdA s g M m o f t j = false → fdA s g M m o f t (j + 1) = fdP s g M m o f t j)) := fun j => ⟨fdA_go, fdA_on⟩
    have HF0 : Hid (fdA s g M m o f t 0 = false) := rfl
    clear hkk HK hrn r1 r2 r3 HQ pl1 pl2 pl4 hrb
    generalize fdA s g M m o f t = FA at *
    generalize fdP s g M m o f t = FP at *
    generalize hK : (f - s).tdiv rn = K at *
    go_wp2_with fail
    go_loopw [17, 19] (fun s17 i wr => ∃ (j : Nat), j ≤ m ∧ i = .int .i64 j ∧ s17 = .bool (FA j) ∧ Tx3 wr jn (.int .i64 s) (.int .i64 g) (.slice A m c) ∧ Bx2 wr jz (.int .i64 f) (.int .i64 t) ∧ wr.ownsRow w.heap.size 42 2 (.slice A m c) m (srow M m) ∧ Below w.heap.size w wr) (fun _ i _ => m - (intOf i).toNat)
    case atStart => exact ⟨0, Nat.zero_le _, rfl, by rw [HF0.out], N, Z, OW, B⟩
    case round =>
      clear N Z OW B
      obtain ⟨j, hj, rfl, rfl, N, Z, OW, B⟩ := hrel
      by_cases hlt : j < m
      · have hli : (j : Int) < (m : Int) := by omega
        have HLT : Hid (j < m) := hlt
        have HJ := HP.out j
        have HFJ := HFA.out j
        have CO := CO0 j
        obtain ⟨ow, lg, hM⟩ := tupSlot M j
        rw [hM] at HJ
        have HM : Hid (M j = (ow, lg)) := hM
        have LK : Hid (∀ w', SrcC w' A (m * 2) (MFSlot M) → ∃ b off, A = some ⟨b, off, none⟩ ∧ w'.cell? ⟨b, off + j * 2, none⟩ = some (.int .i64 ow) ∧ w'.cell? ⟨b, off + j * 2 + 1, none⟩ = some (.int .i64 lg)) := fun w' h => by
          rcases h with q | ⟨b, off, e, hc⟩
          · exact absurd q (by omega)
          · exact ⟨b, off, e, hc.elSlot hlt HM.out⟩
        clear hlt hj hM HM
        generalize ocL s g M m j K = X at *
        generalize ocH s g M m j K = Y at *
        generalize ocB s g M m j K = Q at *
        have HJ : Hid (FP j = (Q && (ow == o && (decide (X ≤ f) && decide (t ≤ Y))))) := HJ
        have HFJ : Hid ((FA j = true → FA (j + 1) = true) ∧ (FA j = false → FA (j + 1) = FP j)) := HFJ
        obtain ⟨fa, hfa⟩ : ∃ fa, FA j = fa := ⟨_, rfl⟩
        rw [hfa]
        have HFa : Hid (FA j = fa) := hfa
        clear hfa
        obtain ⟨n0, n1, n2, n3, n4, n5, n6⟩ := id N
        obtain ⟨z0, z1, z2, z3, z4⟩ := id Z
        go_upto_region 16 with fail
        generalize hv9 : wr = v9 at *
        clear hv9
        have SK : Hid (∀ w', Below v9.heap.size v9 w' → ((fun w' => w'.cell? ⟨jn, 0, none⟩ = some (.int .i64 s) ∧ w'.cell? ⟨jn, 1, none⟩ = some (.int .i64 g) ∧ w'.cell? ⟨jn, 2, none⟩ = some (.slice A m c) ∧ w'.cell? ⟨jz, 0, none⟩ = some (.int .i64 f) ∧ w'.cell? ⟨jz, 1, none⟩ = some (.int .i64 t))) w') := fun w' hw => ⟨(N.below hw).2.1, (N.below hw).2.2.1, (N.below hw).2.2.2.1, (Z.below hw).2.1, (Z.below hw).2.2.1⟩
        go_cut [20, 21] (fun s20 s21 wx => ∃ jy : Nat, s20 = .pointer (some ⟨jy, 0, none⟩) ∧ s21 = .bool Q ∧ Bx2 wx jy (.int .i64 X) (.int .i64 Y) ∧ Below v9.heap.size v9 wx)
        case first => as_aux_lemma =>
          refine wp_region_held_drew (S := (fun w' => w'.cell? ⟨jn, 0, none⟩ = some (.int .i64 s) ∧ w'.cell? ⟨jn, 1, none⟩ = some (.int .i64 g) ∧ w'.cell? ⟨jn, 2, none⟩ = some (.slice A m c) ∧ w'.cell? ⟨jz, 0, none⟩ = some (.int .i64 f) ∧ w'.cell? ⟨jz, 1, none⟩ = some (.int .i64 t))) (by kernel_rfl) ?_ (fun hHeld => ?_)
          · first | exact SK.out _ XB | exact SK.out _ (Below.drew (Below.refl _ _)) | exact SK.out _ XZ
          have XB : Below v9.heap.size v9 v9.drew := Below.drew (Below.refl _ _)
          generalize v9.drew = vx at *
          refine wpAnyH_take (i := 0) (v := ?_) (by rw [List.getElem?_toArray]; rfl) (by kernel_rfl) (by kernel_rfl) (by kernel_rfl) (by intro _ _ _ h; exact h) (Or.inl ⟨by rfl, ?_⟩) (by assumption) ?_
          rotate_left
          · (intro w hSw; (try dsimp only at hSw); go_simp; all_goals with_reducible rfl)
          (try simp only [Act.put, List.setIfInBounds_toArray, List.set_cons_zero, List.set_cons_succ])
          refine wpAnyH_take (i := 1) (v := ?_) (by rw [List.getElem?_toArray]; rfl) (by kernel_rfl) (by kernel_rfl) (by kernel_rfl) (by intro _ _ _ h; exact h) (Or.inl ⟨by rfl, ?_⟩) (by assumption) ?_
          rotate_left
          · (intro w hSw; (try dsimp only at hSw); go_simp; all_goals with_reducible rfl)
          (try simp only [Act.put, List.setIfInBounds_toArray, List.set_cons_zero, List.set_cons_succ])
          refine wpAnyH_take (i := 2) (v := ?_) (by rw [List.getElem?_toArray]; rfl) (by kernel_rfl) (by kernel_rfl) (by kernel_rfl) (by intro _ _ _ h; exact h) (Or.inl ⟨by rfl, ?_⟩) (by assumption) ?_
          rotate_left
          · (intro w hSw; (try dsimp only at hSw); go_simp; all_goals with_reducible rfl)
          (try simp only [Act.put, List.setIfInBounds_toArray, List.set_cons_zero, List.set_cons_succ])
          refine wpAnyH_take (i := 3) (v := ?_) (by rw [List.getElem?_toArray]; rfl) (by kernel_rfl) (by kernel_rfl) (by kernel_rfl) (by intro _ _ _ h; exact h) (Or.inl ⟨by rfl, ?_⟩) (by assumption) ?_
          rotate_left
          · (intro w hSw; (try dsimp only at hSw); go_simp; all_goals with_reducible rfl)
          (try simp only [Act.put, List.setIfInBounds_toArray, List.set_cons_zero, List.set_cons_succ])
          refine wpAnyH_take (i := 4) (v := ?_) (by rw [List.getElem?_toArray]; rfl) (by kernel_rfl) (by kernel_rfl) (by kernel_rfl) (by intro _ _ _ h; exact h) (Or.inl ⟨by rfl, ?_⟩) (by assumption) ?_
          rotate_left
          · (intro w hSw; (try dsimp only at hSw); go_simp; all_goals with_reducible rfl)
          (try simp only [Act.put, List.setIfInBounds_toArray, List.set_cons_zero, List.set_cons_succ])
          refine wpAnyH_take (i := 5) (v := ?_) (by rw [List.getElem?_toArray]; rfl) (by kernel_rfl) (by kernel_rfl) (by kernel_rfl) (by intro _ _ _ h; exact h) (Or.inl ⟨by rfl, ?_⟩) (by assumption) ?_
          rotate_left
          · (intro w hSw; (try dsimp only at hSw); go_simp; all_goals with_reducible rfl)
          (try simp only [Act.put, List.setIfInBounds_toArray, List.set_cons_zero, List.set_cons_succ])
          refine wpAnyH_take (i := 6) (v := ?_) (by rw [List.getElem?_toArray]; rfl) (by kernel_rfl) (by kernel_rfl) (by kernel_rfl) (by intro _ _ _ h; exact h) (Or.inl ⟨by rfl, ?_⟩) (by assumption) ?_
          rotate_left
          · (intro w hSw; (try dsimp only at hSw); go_simp; all_goals with_reducible rfl)
          (try simp only [Act.put, List.setIfInBounds_toArray, List.set_cons_zero, List.set_cons_succ])
          refine wpAnyH_take (i := 7) (v := ?_) (by rw [List.getElem?_toArray]; rfl) (by kernel_rfl) (by kernel_rfl) (by kernel_rfl) (by intro _ _ _ h; exact h) (Or.inl ⟨by rfl, ?_⟩) (by assumption) ?_
          rotate_left
          · (intro w hSw; (try dsimp only at hSw); go_simp; all_goals with_reducible rfl)
          (try simp only [Act.put, List.setIfInBounds_toArray, List.set_cons_zero, List.set_cons_succ])
          refine wpAnyH_take (i := 8) (v := ?_) (by rw [List.getElem?_toArray]; rfl) (by kernel_rfl) (by kernel_rfl) (by kernel_rfl) (by intro _ _ _ h; exact h) (Or.inl ⟨by rfl, ?_⟩) (by assumption) ?_
          rotate_left
          · (intro w hSw; (try dsimp only at hSw); go_simp; all_goals with_reducible rfl)
          (try simp only [Act.put, List.setIfInBounds_toArray, List.set_cons_zero, List.set_cons_succ])
          refine wpAnyH_ready (rs := [9, 13]) (by kernel_rfl) (by simp) ?_
          refine (AllReadyH.cons (by rw [List.getElem?_toArray]; rfl) (fun K hK => ?_) (AllReadyH.cons (by rw [List.getElem?_toArray]; rfl) (fun K hK => ?_) AllReadyH.nil))
          · go_simp
            refine (CO vx (ownS (own_belK' OW XB))).mono ?_; rintro ee vx ⟨rfl, hbl⟩; (replace XB := XB.trans (hbl.mono XB.size)); (clear hbl)
            (try go_wp2_with fail)
            refine hK.out _ _ ?_ (fun hHeld => ?_)
            · first | exact SK.out _ XB | exact SK.out _ (Below.drew (Below.refl _ _)) | exact SK.out _ XZ
            clear hK K
            (try simp only [Act.put, List.setIfInBounds_toArray, List.set_cons_zero, List.set_cons_succ])
            refine wpAnyH_take (i := 10) (v := ?_) (by rw [List.getElem?_toArray]; rfl) (by kernel_rfl) (by kernel_rfl) (by kernel_rfl) (by intro _ _ _ h; exact h) (Or.inl ⟨by rfl, ?_⟩) (by assumption) ?_
            rotate_left
            · (intro w hSw; (try dsimp only at hSw); go_simp; all_goals with_reducible rfl)
            (try simp only [Act.put, List.setIfInBounds_toArray, List.set_cons_zero, List.set_cons_succ])
            refine wpAnyH_take (i := 11) (v := ?_) (by rw [List.getElem?_toArray]; rfl) (by kernel_rfl) (by kernel_rfl) (by kernel_rfl) (by intro _ _ _ h; exact h) (Or.inl ⟨by rfl, ?_⟩) (by assumption) ?_
            rotate_left
            · (intro w hSw; (try dsimp only at hSw); go_simp; all_goals with_reducible rfl)
            (try simp only [Act.put, List.setIfInBounds_toArray, List.set_cons_zero, List.set_cons_succ])
            refine wpAnyH_take (i := 12) (v := ?_) (by rw [List.getElem?_toArray]; rfl) (by kernel_rfl) (by kernel_rfl) (by kernel_rfl) (by intro _ _ _ h; exact h) (Or.inl ⟨by rfl, ?_⟩) (by assumption) ?_
            rotate_left
            · (intro w hSw; (try dsimp only at hSw); go_simp; all_goals with_reducible rfl)
            (try simp only [Act.put, List.setIfInBounds_toArray, List.set_cons_zero, List.set_cons_succ])
            refine wpAnyH_ready (rs := [13]) (by kernel_rfl) (by simp) ?_
            refine (AllReadyH.cons (by rw [List.getElem?_toArray]; rfl) (fun K hK => ?_) AllReadyH.nil)
            go_simp
            (have Y2 := Bx2.new vx (.int .i64 0) (.int .i64 0) 25); (have NL := Below.nw vx (.cells #[.int .i64 0, .int .i64 0] 25)); (have hzv := XB.size); (replace XB := XB.trans (NL.mono XB.size)); (clear NL); (generalize vx.alloc (.cells #[.int .i64 0, .int .i64 0] 25) = vy at *); (generalize vx.heap.size = jy at *); (have XZ := (XB.setCell (p := ⟨jy, 0, none⟩) hzv (.int .i64 X)).setCell (p := ⟨jy, 1, none⟩) hzv (.int .i64 Y)); (have YZ := (Y2.set0 (.int .i64 X)).set1 (.int .i64 Y)); (obtain ⟨y0, y1, y2, y3, y4⟩ := id Y2)
            refine hK.out _ _ ?_ (fun hHeld => ?_)
            · first | exact SK.out _ XB | exact SK.out _ (Below.drew (Below.refl _ _)) | exact SK.out _ XZ
            clear hK K
            (try simp only [Act.put, List.setIfInBounds_toArray, List.set_cons_zero, List.set_cons_succ])
            refine wpAnyH_ready (rs := [14]) (by kernel_rfl) (by simp) ?_
            refine (AllReadyH.cons (by rw [List.getElem?_toArray]; rfl) (fun K hK => ?_) AllReadyH.nil)
            go_simp
            refine hK.out _ _ ?_ (fun hHeld => ?_)
            · first | exact SK.out _ XB | exact SK.out _ (Below.drew (Below.refl _ _)) | exact SK.out _ XZ
            clear hK K
            (try simp only [Act.put, List.setIfInBounds_toArray, List.set_cons_zero, List.set_cons_succ])
            refine wpAnyH_take (i := 15) (v := ?_) (by rw [List.getElem?_toArray]; rfl) (by kernel_rfl) (by kernel_rfl) (by kernel_rfl) (by intro _ _ _ h; exact h) (Or.inl ⟨by rfl, ?_⟩) (by assumption) ?_
            rotate_left
            · (intro w hSw; (try dsimp only at hSw); go_simp; all_goals with_reducible rfl)
            (try simp only [Act.put, List.setIfInBounds_toArray, List.set_cons_zero, List.set_cons_succ])
            refine wpAnyH_done (by kernel_rfl) ?_ _
            go_wp2_with fail
            go_meet
            case rel => exact ⟨jy, rfl, rfl, YZ, XZ⟩
          · go_simp
            (have Y2 := Bx2.new vx (.int .i64 0) (.int .i64 0) 25); (have NL := Below.nw vx (.cells #[.int .i64 0, .int .i64 0] 25)); (have hzv := XB.size); (replace XB := XB.trans (NL.mono XB.size)); (clear NL); (generalize vx.alloc (.cells #[.int .i64 0, .int .i64 0] 25) = vy at *); (generalize vx.heap.size = jy at *)
            refine hK.out _ _ ?_ (fun hHeld => ?_)
            · first | exact SK.out _ XB | exact SK.out _ (Below.drew (Below.refl _ _)) | exact SK.out _ XZ
            clear hK K
            (try simp only [Act.put, List.setIfInBounds_toArray, List.set_cons_zero, List.set_cons_succ])
            refine wpAnyH_ready (rs := [9]) (by kernel_rfl) (by simp) ?_
            refine (AllReadyH.cons (by rw [List.getElem?_toArray]; rfl) (fun K hK => ?_) AllReadyH.nil)
            go_simp
            refine (CO vy (ownS (own_belK' OW XB))).mono ?_; rintro ee vx ⟨rfl, hbl⟩; (replace XB := XB.trans (hbl.mono XB.size)); (replace Y2 := Y2.below hbl); (clear hbl); (have XZ := (XB.setCell (p := ⟨jy, 0, none⟩) hzv (.int .i64 X)).setCell (p := ⟨jy, 1, none⟩) hzv (.int .i64 Y)); (have YZ := (Y2.set0 (.int .i64 X)).set1 (.int .i64 Y)); (obtain ⟨y0, y1, y2, y3, y4⟩ := id Y2)
            (try go_wp2_with fail)
            refine hK.out _ _ ?_ (fun hHeld => ?_)
            · first | exact SK.out _ XB | exact SK.out _ (Below.drew (Below.refl _ _)) | exact SK.out _ XZ
            clear hK K
            (try simp only [Act.put, List.setIfInBounds_toArray, List.set_cons_zero, List.set_cons_succ])
            refine wpAnyH_take (i := 10) (v := ?_) (by rw [List.getElem?_toArray]; rfl) (by kernel_rfl) (by kernel_rfl) (by kernel_rfl) (by intro _ _ _ h; exact h) (Or.inl ⟨by rfl, ?_⟩) (by assumption) ?_
            rotate_left
            · (intro w hSw; (try dsimp only at hSw); go_simp; all_goals with_reducible rfl)
            (try simp only [Act.put, List.setIfInBounds_toArray, List.set_cons_zero, List.set_cons_succ])
            refine wpAnyH_take (i := 11) (v := ?_) (by rw [List.getElem?_toArray]; rfl) (by kernel_rfl) (by kernel_rfl) (by kernel_rfl) (by intro _ _ _ h; exact h) (Or.inl ⟨by rfl, ?_⟩) (by assumption) ?_
            rotate_left
            · (intro w hSw; (try dsimp only at hSw); go_simp; all_goals with_reducible rfl)
            (try simp only [Act.put, List.setIfInBounds_toArray, List.set_cons_zero, List.set_cons_succ])
            refine wpAnyH_take (i := 12) (v := ?_) (by rw [List.getElem?_toArray]; rfl) (by kernel_rfl) (by kernel_rfl) (by kernel_rfl) (by intro _ _ _ h; exact h) (Or.inl ⟨by rfl, ?_⟩) (by assumption) ?_
            rotate_left
            · (intro w hSw; (try dsimp only at hSw); go_simp; all_goals with_reducible rfl)
            (try simp only [Act.put, List.setIfInBounds_toArray, List.set_cons_zero, List.set_cons_succ])
            refine wpAnyH_ready (rs := [14]) (by kernel_rfl) (by simp) ?_
            refine (AllReadyH.cons (by rw [List.getElem?_toArray]; rfl) (fun K hK => ?_) AllReadyH.nil)
            go_simp
            refine hK.out _ _ ?_ (fun hHeld => ?_)
            · first | exact SK.out _ XB | exact SK.out _ (Below.drew (Below.refl _ _)) | exact SK.out _ XZ
            clear hK K
            (try simp only [Act.put, List.setIfInBounds_toArray, List.set_cons_zero, List.set_cons_succ])
            refine wpAnyH_take (i := 15) (v := ?_) (by rw [List.getElem?_toArray]; rfl) (by kernel_rfl) (by kernel_rfl) (by kernel_rfl) (by intro _ _ _ h; exact h) (Or.inl ⟨by rfl, ?_⟩) (by assumption) ?_
            rotate_left
            · (intro w hSw; (try dsimp only at hSw); go_simp; all_goals with_reducible rfl)
            (try simp only [Act.put, List.setIfInBounds_toArray, List.set_cons_zero, List.set_cons_succ])
            refine wpAnyH_done (by kernel_rfl) ?_ _
            go_wp2_with fail
            go_meet
            case rel => exact ⟨jy, rfl, rfl, YZ, XZ⟩
        case rest =>
          obtain ⟨jy, rfl, rfl, Y2, XB⟩ := hcut
          clear n0 n1 n2 n3 n4 n5 n6 z0 z1 z2 z3 z4
          replace OW := own_belK' OW XB
          replace N := N.below XB
          replace Z := Z.below XB
          replace B := B.trans (XB.mono B.size)
          clear XB
          clear SK CO
          generalize wc = w4 at *
          obtain ⟨b, off, rfl, c1, c2⟩ := LK.out w4 (ownS OW)
          clear LK
          obtain ⟨n0, n1, n2, n3, n4, n5, n6⟩ := id N
          obtain ⟨z0, z1, z2, z3, z4⟩ := id Z
          obtain ⟨y0, y1, y2, y3, y4⟩ := id Y2
          cases fa
          · have HE0 := HFJ.out.2 HFa.out
            cases Q
            · have HE : Hid (FA (j + 1) = false) := by rw [Hid, HE0, HJ.out]; rfl
              clear HE0
              go_wp2_with fail
              go_roundw
              case rel => first | exact ⟨j + 1, HLT.out, by go_num, by rw [HE.out], N, Z, OW, B⟩ | exact ⟨_, _, ⟨j + 1, HLT.out, rfl, by rw [HE.out]⟩, by simp, by simp⟩
              case measure => have hlt' := HLT.out; simp [intOf]; omega
            cases ho : (ow == o)
            · have HE : Hid (FA (j + 1) = false) := by rw [Hid, HE0, HJ.out, ho]; rfl
              clear HE0
              go_wp2_with fail
              go_roundw
              case rel => first | exact ⟨j + 1, HLT.out, by go_num, by rw [HE.out], N, Z, OW, B⟩ | exact ⟨_, _, ⟨j + 1, HLT.out, rfl, by rw [HE.out]⟩, by simp, by simp⟩
              case measure => have hlt' := HLT.out; simp [intOf]; omega
            by_cases hX : X ≤ f
            · by_cases hY : t ≤ Y
              · have HE : Hid (FA (j + 1) = true) := by rw [Hid, HE0, HJ.out, ho, decide_eq_true hX, decide_eq_true hY]; rfl
                clear HE0
                go_wp2_with fail
                go_roundw
                case rel => first | exact ⟨j + 1, HLT.out, by go_num, by rw [HE.out], N, Z, OW, B⟩ | exact ⟨_, _, ⟨j + 1, HLT.out, rfl, by rw [HE.out]⟩, by simp, by simp⟩
                case measure => have hlt' := HLT.out; simp [intOf]; omega
              · have HE : Hid (FA (j + 1) = false) := by rw [Hid, HE0, HJ.out, ho, decide_eq_true hX, decide_eq_false hY]; rfl
                clear HE0
                go_wp2_with fail
                go_roundw
                case rel => first | exact ⟨j + 1, HLT.out, by go_num, by rw [HE.out], N, Z, OW, B⟩ | exact ⟨_, _, ⟨j + 1, HLT.out, rfl, by rw [HE.out]⟩, by simp, by simp⟩
                case measure => have hlt' := HLT.out; simp [intOf]; omega
            · have HE : Hid (FA (j + 1) = false) := by rw [Hid, HE0, HJ.out, ho, decide_eq_false hX]; rfl
              clear HE0
              go_wp2_with fail
              go_roundw
              case rel => first | exact ⟨j + 1, HLT.out, by go_num, by rw [HE.out], N, Z, OW, B⟩ | exact ⟨_, _, ⟨j + 1, HLT.out, rfl, by rw [HE.out]⟩, by simp, by simp⟩
              case measure => have hlt' := HLT.out; simp [intOf]; omega
          · have HE : Hid (FA (j + 1) = true) := HFJ.out.1 HFa.out
            go_wp2_with fail
            go_roundw
            case rel => first | exact ⟨j + 1, HLT.out, by go_num, by rw [HE.out], N, Z, OW, B⟩ | exact ⟨_, _, ⟨j + 1, HLT.out, rfl, by rw [HE.out]⟩, by simp, by simp⟩
            case measure => have hlt' := HLT.out; simp [intOf]; omega
      · have hkn : j = m := by omega
        subst hkn
        have hli : ¬ (j : Int) < (j : Int) := by omega
        have hheq := HEQ.out
        generalize FA j = fa at *
        cases kn
        · obtain ⟨n0, n1, n2, n3, n4, n5, n6⟩ := id N
          go_wp2_with fail
          go_ret
          exact ⟨by first | rfl | (rw [hheq]; rfl) | simp [hheq], B⟩
        · obtain ⟨n0, n1, n2, n3, n4, n5, n6⟩ := id N
          cases fa
          · have hh : (how == 0) = false := hheq
            go_wp2_with fail
            go_ret
            exact ⟨by first | rfl | simp [hh], B⟩
          · have hh : (how == 0) = true := hheq
            go_wp2_with fail
            go_ret
            exact ⟨by first | rfl | simp [hh], B⟩
  · have hfd : (kn && (ok && (decide (s ≤ f) && fdA s g M m o f t m))) = false := by
      cases ok
      · simp
      · rw [decide_eq_false (fun h => hrun ⟨rfl, h⟩)]; simp
    rw [hfd] at HEQ
    have hhow : (how == 0) = false := HEQ.out
    obtain ⟨n0, n1, n2, n3, n4, n5, n6⟩ := id N
    obtain ⟨z0, z1, z2, z3, z4⟩ := id Z
    go_wp2_with fail
    clear n0 n1 n2 n3 n4 n5 n6 z0 z1 z2 z3 z4
    go_loopw [17, 19] (fun s17 i wr => s17 = .bool false ∧ i = .int .i64 0 ∧ Tx3 wr jn (.int .i64 s) (.int .i64 g) (.slice A m c) ∧ Bx2 wr jz (.int .i64 f) (.int .i64 t) ∧ Below w.heap.size w wr) (fun _ _ _ => 0)
    case atStart => exact ⟨rfl, rfl, N, Z, B⟩
    case round =>
      clear N Z B OW
      obtain ⟨rfl, rfl, N, Z, B⟩ := hrel
      obtain ⟨n0, n1, n2, n3, n4, n5, n6⟩ := id N
      obtain ⟨z0, z1, z2, z3, z4⟩ := id Z
      cases ok
      · cases kn
        · go_wp2_with fail
          go_ret
          exact ⟨by first | rfl | simp [hhow], B⟩
        · go_wp2_with fail
          go_ret
          exact ⟨by first | rfl | simp [hhow], B⟩
      · have hsf : ¬ s ≤ f := fun h => hrun ⟨rfl, h⟩
        cases kn
        · go_wp2_with fail
          go_ret
          exact ⟨by first | rfl | simp [hhow], B⟩
        · go_wp2_with fail
          go_ret
          exact ⟨by first | rfl | simp [hhow], B⟩
end Go.Proofs.YtcakhfobkbgfoaaDoor
