/- The walk of FnUseOnce. -/
import Derived.Test.YtgfhcilhibbooaaMu7
import Derived.Deep.RegionHeld3
import Derived.Deep.DeepCutAuto
import Derived.WalkKit
import Derived.WalkSpells
import Derived.WalkLawsBesides
import Derived.Deep.RegionHeld
namespace Go.Proofs.Ytgfhcilhibbooaa
open Go.RowKit
set_option linter.unusedVariables false
structure HidU (P : Prop) : Prop where
  out : P
theorem use_code {ep us : Int} {M : Nat → KT} {n : Nat} {x y Xe Xu : Int} {mm : Nat} {G : Nat → KT} {z0 z1 z2 z3 C1 : Int} (h : UseIs ep us M n x y Xe Xu mm G z0 z1 z2 z3 C1) :
    C1 = 1 ∨ ((C1 = 4 ∨ C1 = 5) ∧ mm = n ∧ G = M) ∨ (C1 = 0 ∧ ∃ i, i < n ∧ tabB ep us M n = true ∧ (M i).1 = x ∧ (M i).2.1 = y ∧ mm = n - 1 ∧ G = cutK M i ∧ Xe = ep ∧ Xu = us) := by
  rcases h with ⟨h, _, _, _, _, _, _, _, _, e⟩ | ⟨h, hno, _, _, e1, e2, _, _, _, _, e⟩ | ⟨h, i, hi, hx, hy, _, _, e1, e2, _, _, _, _, e⟩ | ⟨h, i, hi, hx, hy, e3, e4, e1, e2, hM, e⟩
  · exact .inl e
  · exact .inr (.inl ⟨.inl e, e1, e2⟩)
  · exact .inr (.inl ⟨.inr e, e1, e2⟩)
  · exact .inr (.inr ⟨e, i, hi, h, hx, hy, e1, e2, e3, e4⟩)
theorem cut_kwf {M : Nat → KT} {n i : Nat} (h : ∀ j, j < n + 1 → (Lit.int .i64 (M j).1).wf = true) : ∀ j, j < n → (Lit.int .i64 (cutK M i j).1).wf = true := by
  intro j hj
  obtain ⟨m, e, _, h2, _, _⟩ := cut_is M i j
  rw [e]
  exact h m (by omega)
set_option maxRecDepth 100000 in
set_option maxHeartbeats 16000000 in
theorem walkUseOnce (a0 : Option Addr) (l0 c0 : Nat) (w : World) (hcode : CodeB w w.heap.size a0 l0) :
    Calls Try.prog 4 #[.slice a0 l0 c0] w fun e w' => e = .returned (.bool true) ∧ Below w.heap.size w w' := by
  have HC := HidU.mk hcode
  clear hcode
  go_enter Try.func4, Try.ntmps4
  go_wp2_with fail
  refine (big_any _ _ _ _).mono ?_
  rintro e w' ⟨rfl, rfl⟩
  by_cases hbg : 1048576 < (l0 : Int)
  · have hbd : decide (1048576 < (l0 : Int)) = true := decide_eq_true hbg
    go_wp2
    go_ret
    exact ⟨rfl, Below.refl _ _⟩
  have hbd : decide (1048576 < (l0 : Int)) = false := decide_eq_false hbg
  have hl0 : l0 ≤ 1048576 := by omega
  go_wp2_with fail
  refine (DrawUse_any a0 l0 c0 w hl0 HC.out).mono ?_
  rintro e v ⟨ep, us, A, n, c, M, x, y, rfl, hn, hk, wx, wy, O, B⟩
  clear hbd hbg HC hl0
  obtain ⟨Xe, Xu, mm, G, z0, z1, z2, z3, C1, hU, hmm, -⟩ := ansUse ep us M n x y
  have HU := HidU.mk hU
  have HUC := HidU.mk (use_code hU)
  have HW := HidU.mk (fun i (h : i < n) => (hk i h).1)
  clear hU hk
  have A1 := Below.nw v (.cells #[.int .i64 ep, .int .i64 us, .slice A n c] 39)
  have T := IB3.new v ep us A n c 39
  replace O := own_belK' O A1
  replace B := B.trans (A1.mono B.size)
  clear A1
  go_wp2_with fail
  generalize v.heap.size = j3 at *
  generalize v.alloc (.cells #[.int .i64 ep, .int .i64 us, .slice A n c] 39) = v1 at *
  refine (specUse_own ep us _ A n c M x y Xe Xu mm G z0 z1 z2 z3 C1 _ (by omega) O HU.out).mono ?_
  rintro e v2 ⟨a1, c1, rfl, O1, hb⟩
  replace T := T.below hb
  replace O := own_belK' O hb
  replace B := B.trans (hb.mono B.size)
  clear hb O1
  have A1 := Below.nw v2 (.cells #[.int .i64 Xe, .int .i64 Xu, .slice a1 mm c1] 39)
  have A2 := Below.nw (v2.alloc (.cells #[.int .i64 Xe, .int .i64 Xu, .slice a1 mm c1] 39)) (.cells #[.int .i64 z0, .int .i64 z1, .int .i64 z2, .int .i64 z3] 43)
  have W := (IB3.new v2 Xe Xu a1 mm c1 39).below A2
  have X := Bk4.new (v2.alloc (.cells #[.int .i64 Xe, .int .i64 Xu, .slice a1 mm c1] 39)) z0 z1 z2 z3 43
  simp only [World.size_alloc] at X
  go_upto_region 5 with fail
  replace T := (T.below A1).below A2
  replace O := own_belK' (own_belK' O A1) A2
  replace B := (B.trans (A1.mono B.size)).trans (A2.mono (B.trans (A1.mono B.size)).size)
  clear A1 A2
  generalize v2.heap.size = j6 at *
  generalize (v2.alloc (.cells #[.int .i64 Xe, .int .i64 Xu, .slice a1 mm c1] 39)).alloc (.cells #[.int .i64 z0, .int .i64 z1, .int .i64 z2, .int .i64 z3] 43) = v3 at *
  obtain ⟨t0, t1, t2, t3⟩ := id T
  go_wp2_with fail
  refine (implUse_own ep us _ A n c M x y Xe Xu mm G z0 z1 z2 z3 C1 _ (by omega) O HW.out wx HU.out).mono ?_
  rintro e v4 ⟨a2, c2, rfl, O2, hb⟩
  clear t0 t1 t2 t3
  replace T := T.below hb
  replace W := W.below hb
  replace X := X.below hb
  replace O := own_belK' O hb
  replace B := B.trans (hb.mono B.size)
  clear hb
  have A1 := Below.nw v4 (.cells #[.int .i64 Xe, .int .i64 Xu, .slice a2 mm c2] 39)
  have A2 := Below.nw (v4.alloc (.cells #[.int .i64 Xe, .int .i64 Xu, .slice a2 mm c2] 39)) (.cells #[.int .i64 z0, .int .i64 z1, .int .i64 z2, .int .i64 z3] 43)
  have U := (IB3.new v4 Xe Xu a2 mm c2 39).below A2
  have Y := Bk4.new (v4.alloc (.cells #[.int .i64 Xe, .int .i64 Xu, .slice a2 mm c2] 39)) z0 z1 z2 z3 43
  simp only [World.size_alloc] at Y
  go_upto_region 6 with fail
  replace T := (T.below A1).below A2
  replace W := (W.below A1).below A2
  replace X := (X.below A1).below A2
  replace O := own_belK' (own_belK' O A1) A2
  replace O2 := own_belK' (own_belK' O2 A1) A2
  replace B := (B.trans (A1.mono B.size)).trans (A2.mono (B.trans (A1.mono B.size)).size)
  clear A1 A2
  generalize v4.heap.size = j9 at *
  generalize (v4.alloc (.cells #[.int .i64 Xe, .int .i64 Xu, .slice a2 mm c2] 39)).alloc (.cells #[.int .i64 z0, .int .i64 z1, .int .i64 z2, .int .i64 z3] 43) = v5 at *
  obtain ⟨w0, w1, w2, w3⟩ := id W
  obtain ⟨x0, x1, x2, x3, x4⟩ := id X
  obtain ⟨y0, y1, y2, y3, y4⟩ := id Y
  obtain ⟨u0, u1, u2, u3⟩ := id U
  go_upto_region 8 with fail
  clear w0 w1 w2 w3 x0 x1 x2 x3 x4 y0 y1 y2 y3 y4 u0 u1 u2 u3 W X Y
  have hUC := HUC.out
  clear HUC
  rcases hUC with rfl | ⟨hc, rfl, rfl⟩ | ⟨rfl, i, hi, ht, hx, hy, rfl, rfl, rfl, rfl⟩
  · go_wp2_with fail
    go_ret
    exact ⟨rfl, B⟩
  · rcases hc with rfl | rfl
    · obtain ⟨t0, t1, t2, t3⟩ := id T
      obtain ⟨u0, u1, u2, u3⟩ := id U
      go_wp2_with fail
      refine (sameAsks_own (by omega) O2 O).mono ?_
      rintro e v6 ⟨rfl, hb⟩
      go_wp2_with fail
      go_ret
      exact ⟨rfl, B.trans (hb.mono B.size)⟩
    · obtain ⟨t0, t1, t2, t3⟩ := id T
      obtain ⟨u0, u1, u2, u3⟩ := id U
      go_wp2_with fail
      refine (sameAsks_own (by omega) O2 O).mono ?_
      rintro e v6 ⟨rfl, hb⟩
      go_wp2_with fail
      go_ret
      exact ⟨rfl, B.trans (hb.mono B.size)⟩
  · obtain ⟨q, rfl⟩ : ∃ q, n = q + 1 := ⟨n - 1, by omega⟩
    have HA := HidU.mk (use_again (y := y) ht hi hx)
    have HWI := HidU.mk (cut_wtI ht hi hy)
    have hbw : 0 ≤ wtI Xe Xu M (q + 1) y ∧ wtI Xe Xu M (q + 1) y ≤ 17 := by
      have := wtN_le (x := y) (M := M) (q + 1)
      rw [wtI, ht, cond_true]
      omega
    have HW2 := HidU.mk (cut_kwf (i := i) HW.out)
    rw [Nat.add_sub_cancel] at O2 U HA HWI
    clear ht hx hy hmm HU
    generalize cutK M i = G at *
    obtain ⟨u0, u1, u2, u3⟩ := id U
    go_wp2_with fail
    refine (implUse_own Xe Xu _ a2 q c2 G x y Xe Xu q G 0 0 0 0 4 _ (by omega) O2 HW2.out wx HA.out).mono ?_
    rintro e v6 ⟨a3, c3, rfl, _, hb⟩
    clear u0 u1 u2 u3
    replace T := T.below hb
    replace U := U.below hb
    replace O := own_belK' O hb
    replace O2 := own_belK' O2 hb
    replace B := B.trans (hb.mono B.size)
    clear hb HA
    have A1 := Below.nw v6 (.cells #[.int .i64 Xe, .int .i64 Xu, .slice a3 q c3] 39)
    have A2 := Below.nw (v6.alloc (.cells #[.int .i64 Xe, .int .i64 Xu, .slice a3 q c3] 39)) (.cells #[.int .i64 0, .int .i64 0, .int .i64 0, .int .i64 0] 43)
    go_upto_region 11 with fail
    replace T := (T.below A1).below A2
    replace U := (U.below A1).below A2
    replace O := own_belK' (own_belK' O A1) A2
    replace O2 := own_belK' (own_belK' O2 A1) A2
    replace B := (B.trans (A1.mono B.size)).trans (A2.mono (B.trans (A1.mono B.size)).size)
    clear A1 A2
    generalize (v6.alloc (.cells #[.int .i64 Xe, .int .i64 Xu, .slice a3 q c3] 39)).alloc (.cells #[.int .i64 0, .int .i64 0, .int .i64 0, .int .i64 0] 43) = v7 at *
    have HC1 := HidU.mk (fun w' (h : SrcC w' a2 (q * 4) (MFAsk G)) => (show Calls Try.prog 19 #[.agg #[.int .i64 Xe, .int .i64 Xu, .slice a2 q c2], .int .i64 y] w' fun e w'' => e = .returned (.int .i64 (wtI Xe Xu M (q + 1) y - 1)) ∧ Below w'.heap.size w' w'' from by have C := implWaits_any Xe Xu a2 q c2 G y w' (by unfold maxLen; omega) h HW2.out; rw [HWI.out] at C; exact C))
    have HC2 := HidU.mk (fun w' (h : SrcC w' A ((q + 1) * 4) (MFAsk M)) => implWaits_any Xe Xu A (q + 1) c M y w' (by unfold maxLen; omega) h HW.out)
    clear HWI
    generalize wtI Xe Xu M (q + 1) y = N at *
    obtain ⟨hN0, hN1⟩ := hbw
    have hw6 : IntKind.i64.wrap (q : Int) = (q : Int) := Go.IntWalk.i64_in _ ⟨by omega, by omega⟩
    have hw5 : IntKind.i64.wrap (N - 1) = N - 1 := Go.IntWalk.i64_in _ ⟨by omega, by omega⟩
    obtain ⟨t0, t1, t2, t3⟩ := id T
    obtain ⟨u0, u1, u2, u3⟩ := id U
    refine wp_region_held_drew (S := (fun w' => w'.cell? ⟨j3, 0, none⟩ = some (.int .i64 Xe) ∧ w'.cell? ⟨j3, 1, none⟩ = some (.int .i64 Xu) ∧ w'.cell? ⟨j3, 2, none⟩ = some (.slice A (q + 1) c) ∧ w'.cell? ⟨j9, 0, none⟩ = some (.int .i64 Xe) ∧ w'.cell? ⟨j9, 1, none⟩ = some (.int .i64 Xu) ∧ w'.cell? ⟨j9, 2, none⟩ = some (.slice a2 q c2))) (by kernel_rfl) ?_ (fun hHeld => ?_)
    · first | exact ⟨t1, t2, t3, u1, u2, u3⟩ | (simp (maxDischargeDepth := 6) [go_sem, *]; done)
    clear t0 t1 t2 t3 u0 u1 u2 u3
    replace T := T.drew
    replace U := U.drew
    replace B := Below.drew B
    replace O : v7.drew.ownsRow _ _ _ _ _ _ := O
    replace O2 : v7.drew.ownsRow _ _ _ _ _ _ := O2
    generalize v7.drew = v7 at *
    (obtain ⟨t0, t1, t2, t3⟩ := id T); (obtain ⟨u0, u1, u2, u3⟩ := id U)
    refine wpAnyH_take (i := 0) (v := ?_) (by rw [List.getElem?_toArray]; rfl) (by kernel_rfl) (by kernel_rfl) (by kernel_rfl) (by intro _ _ _ h; exact h) (Or.inl ⟨by rfl, ?_⟩) (by assumption) ?_
    rotate_left
    · (intro w hSw; (try dsimp only at hSw); go_simp; all_goals with_reducible rfl)
    (try simp only [Act.put, List.setIfInBounds_toArray, List.set_cons_zero, List.set_cons_succ])
    refine wpAnyH_take (i := 1) (v := ?_) (by rw [List.getElem?_toArray]; rfl) (by kernel_rfl) (by kernel_rfl) (by kernel_rfl) (by intro _ _ _ h; exact h) (Or.inl ⟨by rfl, ?_⟩) (by assumption) ?_
    rotate_left
    · (intro w hSw; (try dsimp only at hSw); go_simp; all_goals with_reducible rfl)
    (try simp only [Act.put, List.setIfInBounds_toArray, List.set_cons_zero, List.set_cons_succ])
    refine wpAnyH_take (i := 2) (v := ?_) (by rw [List.getElem?_toArray]; rfl) (by kernel_rfl) (by kernel_rfl) (by kernel_rfl) (by intro _ _ _ h; exact h) (Or.inl ⟨by rfl, ?_⟩) (by assumption) ?_
    rotate_left
    · (intro w hSw; (try dsimp only at hSw); go_simp; all_goals with_reducible rfl)
    (try simp only [Act.put, List.setIfInBounds_toArray, List.set_cons_zero, List.set_cons_succ])
    refine wpAnyH_take (i := 3) (v := ?_) (by rw [List.getElem?_toArray]; rfl) (by kernel_rfl) (by kernel_rfl) (by kernel_rfl) (by intro _ _ _ h; exact h) (Or.inl ⟨by rfl, ?_⟩) (by assumption) ?_
    rotate_left
    · (intro w hSw; (try dsimp only at hSw); go_simp; all_goals with_reducible rfl)
    (try simp only [Act.put, List.setIfInBounds_toArray, List.set_cons_zero, List.set_cons_succ])
    refine wpAnyH_take (i := 4) (v := ?_) (by rw [List.getElem?_toArray]; rfl) (by kernel_rfl) (by kernel_rfl) (by kernel_rfl) (by intro _ _ _ h; exact h) (Or.inl ⟨by rfl, ?_⟩) (by assumption) ?_
    rotate_left
    · (intro w hSw; (try dsimp only at hSw); go_simp; all_goals with_reducible rfl)
    (try simp only [Act.put, List.setIfInBounds_toArray, List.set_cons_zero, List.set_cons_succ])
    refine wpAnyH_take (i := 5) (v := ?_) (by rw [List.getElem?_toArray]; rfl) (by kernel_rfl) (by kernel_rfl) (by kernel_rfl) (by intro _ _ _ h; exact h) (Or.inl ⟨by rfl, ?_⟩) (by assumption) ?_
    rotate_left
    · (intro w hSw; (try dsimp only at hSw); go_simp; all_goals with_reducible rfl)
    (try simp only [Act.put, List.setIfInBounds_toArray, List.set_cons_zero, List.set_cons_succ])
    refine wpAnyH_take (i := 6) (v := ?_) (by rw [List.getElem?_toArray]; rfl) (by kernel_rfl) (by kernel_rfl) (by kernel_rfl) (by intro _ _ _ h; exact h) (Or.inl ⟨by rfl, ?_⟩) (by assumption) ?_
    rotate_left
    · (intro w hSw; (try dsimp only at hSw); go_simp; all_goals with_reducible rfl)
    (try simp only [Act.put, List.setIfInBounds_toArray, List.set_cons_zero, List.set_cons_succ])
    refine wpAnyH_take (i := 7) (v := ?_) (by rw [List.getElem?_toArray]; rfl) (by kernel_rfl) (by kernel_rfl) (by kernel_rfl) (by intro _ _ _ h; exact h) (Or.inl ⟨by rfl, ?_⟩) (by assumption) ?_
    rotate_left
    · (intro w hSw; (try dsimp only at hSw); go_simp; all_goals with_reducible rfl)
    (try simp only [Act.put, List.setIfInBounds_toArray, List.set_cons_zero, List.set_cons_succ])
    refine wpAnyH_take (i := 8) (v := ?_) (by rw [List.getElem?_toArray]; rfl) (by kernel_rfl) (by kernel_rfl) (by kernel_rfl) (by intro _ _ _ h; exact h) (Or.inl ⟨by rfl, ?_⟩) (by assumption) ?_
    rotate_left
    · (intro w hSw; (try dsimp only at hSw); go_simp; all_goals with_reducible rfl)
    (try simp only [Act.put, List.setIfInBounds_toArray, List.set_cons_zero, List.set_cons_succ])
    refine wpAnyH_take (i := 9) (v := ?_) (by rw [List.getElem?_toArray]; rfl) (by kernel_rfl) (by kernel_rfl) (by kernel_rfl) (by intro _ _ _ h; exact h) (Or.inl ⟨by rfl, ?_⟩) (by assumption) ?_
    rotate_left
    · (intro w hSw; (try dsimp only at hSw); go_simp; all_goals with_reducible rfl)
    (try simp only [Act.put, List.setIfInBounds_toArray, List.set_cons_zero, List.set_cons_succ])
    (try simp only [hw6])
    refine wpAnyH_take (i := 10) (v := ?_) (by rw [List.getElem?_toArray]; rfl) (by kernel_rfl) (by kernel_rfl) (by kernel_rfl) (by intro _ _ _ h; exact h) (Or.inl ⟨by rfl, ?_⟩) (by assumption) ?_
    rotate_left
    · (intro w hSw; (try dsimp only at hSw); go_simp; all_goals with_reducible rfl)
    (try simp only [Act.put, List.setIfInBounds_toArray, List.set_cons_zero, List.set_cons_succ])
    (try simp only [beq_self_eq_true])
    (try simp only [decide_true])
    refine wpAnyH_take (i := 11) (v := ?_) (by rw [List.getElem?_toArray]; rfl) (by kernel_rfl) (by kernel_rfl) (by kernel_rfl) (by intro _ _ _ h; exact h) (Or.inl ⟨by rfl, ?_⟩) (by assumption) ?_
    rotate_left
    · (intro w hSw; (try dsimp only at hSw); go_simp; all_goals with_reducible rfl)
    (try simp only [Act.put, List.setIfInBounds_toArray, List.set_cons_zero, List.set_cons_succ])
    refine wpAnyH_take (i := 12) (v := ?_) (by rw [List.getElem?_toArray]; rfl) (by kernel_rfl) (by kernel_rfl) (by kernel_rfl) (by intro _ _ _ h; exact h) (Or.inl ⟨by rfl, ?_⟩) (by assumption) ?_
    rotate_left
    · (intro w hSw; (try dsimp only at hSw); go_simp; all_goals with_reducible rfl)
    (try simp only [Act.put, List.setIfInBounds_toArray, List.set_cons_zero, List.set_cons_succ])
    refine wpAnyH_take (i := 13) (v := ?_) (by rw [List.getElem?_toArray]; rfl) (by kernel_rfl) (by kernel_rfl) (by kernel_rfl) (by intro _ _ _ h; exact h) (Or.inl ⟨by rfl, ?_⟩) (by assumption) ?_
    rotate_left
    · (intro w hSw; (try dsimp only at hSw); go_simp; all_goals with_reducible rfl)
    (try simp only [Act.put, List.setIfInBounds_toArray, List.set_cons_zero, List.set_cons_succ])
    refine wpAnyH_take (i := 14) (v := ?_) (by rw [List.getElem?_toArray]; rfl) (by kernel_rfl) (by kernel_rfl) (by kernel_rfl) (by intro _ _ _ h; exact h) (Or.inl ⟨by rfl, ?_⟩) (by assumption) ?_
    rotate_left
    · (intro w hSw; (try dsimp only at hSw); go_simp; all_goals with_reducible rfl)
    (try simp only [Act.put, List.setIfInBounds_toArray, List.set_cons_zero, List.set_cons_succ])
    refine wpAnyH_take (i := 16) (v := ?_) (by rw [List.getElem?_toArray]; rfl) (by kernel_rfl) (by kernel_rfl) (by kernel_rfl) (by intro _ _ _ h; exact h) (Or.inl ⟨by rfl, ?_⟩) (by assumption) ?_
    rotate_left
    · (intro w hSw; (try dsimp only at hSw); go_simp; all_goals with_reducible rfl)
    (try simp only [Act.put, List.setIfInBounds_toArray, List.set_cons_zero, List.set_cons_succ])
    refine wpAnyH_take (i := 17) (v := ?_) (by rw [List.getElem?_toArray]; rfl) (by kernel_rfl) (by kernel_rfl) (by kernel_rfl) (by intro _ _ _ h; exact h) (Or.inl ⟨by rfl, ?_⟩) (by assumption) ?_
    rotate_left
    · (intro w hSw; (try dsimp only at hSw); go_simp; all_goals with_reducible rfl)
    (try simp only [Act.put, List.setIfInBounds_toArray, List.set_cons_zero, List.set_cons_succ])
    refine wpAnyH_ready (rs := [15]) (by kernel_rfl) (by simp) ?_
    refine AllReadyH.cons (by rw [List.getElem?_toArray]; rfl) (fun K hK => ?_) AllReadyH.nil
    go_simp
    refine (HC1.out _ (own_srcK O2)).mono ?_; rintro e v8 ⟨rfl, hb⟩; clear t0 t1 t2 t3 u0 u1 u2 u3; (replace T := T.below hb); (replace U := U.below hb); (replace O := own_belK' O hb); (replace O2 := own_belK' O2 hb); (replace B := B.trans (hb.mono B.size)); clear hb; (obtain ⟨t0, t1, t2, t3⟩ := id T); (obtain ⟨u0, u1, u2, u3⟩ := id U)
    (try go_wp2_with fail)
    refine hK.out _ _ ?_ (fun hHeld => ?_)
    · first | exact ⟨t1, t2, t3, u1, u2, u3⟩ | (simp (maxDischargeDepth := 6) [go_sem, *]; done)
    clear hK K
    (try simp only [Act.put, List.setIfInBounds_toArray, List.set_cons_zero, List.set_cons_succ])
    refine wpAnyH_ready (rs := [18]) (by kernel_rfl) (by simp) ?_
    refine AllReadyH.cons (by rw [List.getElem?_toArray]; rfl) (fun K hK => ?_) AllReadyH.nil
    go_simp
    refine (HC2.out _ (own_srcK O)).mono ?_; rintro e v9 ⟨rfl, hb⟩; clear t0 t1 t2 t3 u0 u1 u2 u3; (replace T := T.below hb); (replace U := U.below hb); (replace O := own_belK' O hb); (replace O2 := own_belK' O2 hb); (replace B := B.trans (hb.mono B.size)); clear hb; (obtain ⟨t0, t1, t2, t3⟩ := id T); (obtain ⟨u0, u1, u2, u3⟩ := id U)
    (try go_wp2_with fail)
    refine hK.out _ _ ?_ (fun hHeld => ?_)
    · first | exact ⟨t1, t2, t3, u1, u2, u3⟩ | (simp (maxDischargeDepth := 6) [go_sem, *]; done)
    clear hK K
    (try simp only [Act.put, List.setIfInBounds_toArray, List.set_cons_zero, List.set_cons_succ])
    refine wpAnyH_take (i := 19) (v := ?_) (by rw [List.getElem?_toArray]; rfl) (by kernel_rfl) (by kernel_rfl) (by kernel_rfl) (by intro _ _ _ h; exact h) (Or.inl ⟨by rfl, ?_⟩) (by assumption) ?_
    rotate_left
    · (intro w hSw; (try dsimp only at hSw); go_simp; all_goals with_reducible rfl)
    (try simp only [Act.put, List.setIfInBounds_toArray, List.set_cons_zero, List.set_cons_succ])
    (try simp only [hw5])
    refine wpAnyH_take (i := 20) (v := ?_) (by rw [List.getElem?_toArray]; rfl) (by kernel_rfl) (by kernel_rfl) (by kernel_rfl) (by intro _ _ _ h; exact h) (Or.inl ⟨by rfl, ?_⟩) (by assumption) ?_
    rotate_left
    · (intro w hSw; (try dsimp only at hSw); go_simp; all_goals with_reducible rfl)
    (try simp only [Act.put, List.setIfInBounds_toArray, List.set_cons_zero, List.set_cons_succ])
    (try simp only [beq_self_eq_true])
    (try simp only [decide_true])
    refine wpAnyH_take (i := 21) (v := ?_) (by rw [List.getElem?_toArray]; rfl) (by kernel_rfl) (by kernel_rfl) (by kernel_rfl) (by intro _ _ _ h; exact h) (Or.inl ⟨by rfl, ?_⟩) (by assumption) ?_
    rotate_left
    · (intro w hSw; (try dsimp only at hSw); go_simp; all_goals with_reducible rfl)
    (try simp only [Act.put, List.setIfInBounds_toArray, List.set_cons_zero, List.set_cons_succ])
    refine wpAnyH_take (i := 22) (v := ?_) (by rw [List.getElem?_toArray]; rfl) (by kernel_rfl) (by kernel_rfl) (by kernel_rfl) (by intro _ _ _ h; exact h) (Or.inl ⟨by rfl, ?_⟩) (by assumption) ?_
    rotate_left
    · (intro w hSw; (try dsimp only at hSw); go_simp; all_goals with_reducible rfl)
    (try simp only [Act.put, List.setIfInBounds_toArray, List.set_cons_zero, List.set_cons_succ])
    refine wpAnyH_done (by kernel_rfl) ?_ _
    (try go_wp2_with fail)
    go_ret
    exact ⟨rfl, B⟩
end Go.Proofs.Ytgfhcilhibbooaa
