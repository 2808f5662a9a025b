/- Draws of the gate: how long a frame is, what is asked. -/
import Derived.Test.YtcakhfobkbgfoaaDoorMB8
import Derived.Test.YtcakhfobkbgfoaaDoorMB4
import Derived.Deep.RegionHeld3
import Derived.WalkKit
import Derived.WalkSpells
import Derived.WalkLawsBesides
import Derived.Deep.RegionHeld
namespace Go.Proofs.YtcakhfobkbgfoaaDoor
open Go.RowKit
set_option linter.unusedVariables false
/- How long a drawn frame is. -/
set_option maxHeartbeats 4000000 in
theorem l14DrawLong_any (B p : Nat) (w : World) (hcur : CurOk w B p) :
    Calls Tryd.prog 45 #[.pointer (some ⟨p, 0, none⟩)] w fun e w' => ∃ x : Int, e = .returned (.int .i64 x) ∧ CurOk w' B p ∧ But p w w' := by
  go_enter Tryd.func45, Tryd.ntmps45
  go_wp2_with fail
  refine (l1Once_any B p 15 _ hcur).mono ?_
  rintro e v1 ⟨q, rfl, nc, b1⟩
  cases q
  · go_wp2_with fail
    refine (l1Below_any B p 20 _ nc).mono ?_
    rintro e v2 ⟨x, rfl, _, _, _, _, nd, b2⟩
    have b3 := b1.trans b2
    go_wp2_with fail
    go_ret
    exact ⟨_, rfl, nd, b3⟩
  · go_wp2_with fail
    refine (l2DrawCount_any B p _ nc).mono ?_
    rintro e v2 ⟨x, rfl, nd, b2⟩
    have b3 := b1.trans b2
    go_wp2_with fail
    go_ret
    exact ⟨x, rfl, nd, b3⟩
theorem pick2 (B p : Nat) (w : World) (a b : Int) (hcur : CurOk w B p) :
    Calls Tryd.prog 44 #[.pointer (some ⟨p, 0, none⟩), .slice (some ⟨w.heap.size, 0, none⟩) 2 2] (w.alloc (.cells #[.int .i64 a, .int .i64 b] 3)) fun e w' => ∃ v : Int, e = .returned (.int .i64 v) ∧ CurOk w' B p ∧ But p w w' := by
  have h := pickLit B p w [a, b] hcur (by simp) (by simp)
  simp only [List.map_cons, List.map_nil, List.length_cons, List.length_nil, Nat.zero_add, Nat.reduceAdd] at h
  exact h

set_option maxRecDepth 100000 in
set_option maxHeartbeats 16000000 in
theorem DrawGateAsk_any (a : Option Addr) (l c0 : Nat) (w : World) (hl : l ≤ 1048576) (hcode : CodeB w w.heap.size a l) :
    Calls Tryd.prog 11 #[.slice a l c0] w fun e w' => ∃ (lo hi : Int) (kn : Bool) (n d x s g : Int) (A : Option Addr) (m c : Nat) (M : Nat → SlT) (o : Int), e = .returned (.tuple #[.agg #[.int .i64 lo, .int .i64 hi], .bool kn, .agg #[.int .i64 n, .int .i64 d], .int .i64 x, .agg #[.int .i64 s, .int .i64 g, .slice A m c], .int .i64 o]) ∧ m ≤ 13 ∧ w'.ownsRow w.heap.size 42 2 (.slice A m c) m (srow M m) ∧ Below w.heap.size w w' := by
  have A0 := Below.nw w (.cells #[.int .i64 0, .int .i64 0] 25)
  have A1 := Below.nw (w.alloc (.cells #[.int .i64 0, .int .i64 0] 25)) (.cells #[.int .i64 0, .int .i64 0] 27)
  have A2 := Below.nw ((w.alloc (.cells #[.int .i64 0, .int .i64 0] 25)).alloc (.cells #[.int .i64 0, .int .i64 0] 27)) (.cells #[.int .i64 0, .int .i64 0, .slice none 0 0] 30)
  have RI := ((Bx2.new w (.int .i64 0) (.int .i64 0) 25).below A1).below A2
  have RD := (Bx2.new (w.alloc (.cells #[.int .i64 0, .int .i64 0] 25)) (.int .i64 0) (.int .i64 0) 27).below A2
  have RP := Tx3.new ((w.alloc (.cells #[.int .i64 0, .int .i64 0] 25)).alloc (.cells #[.int .i64 0, .int .i64 0] 27)) (.int .i64 0) (.int .i64 0) (.slice none 0 0) 30
  have B := (A0.trans (A1.mono A0.size)).trans (A2.mono (A0.trans (A1.mono A0.size)).size)
  simp only [World.size_alloc] at RD RP
  replace hcode := (hcode.below B).more B.size
  have h0w : w.heap.size ≤ w.heap.size := Nat.le_refl _
  have h1w : w.heap.size ≤ w.heap.size + 1 := by omega
  have h2w : w.heap.size ≤ w.heap.size + 1 + 1 := by omega
  clear A0 A1 A2
  go_enter Tryd.func11, Tryd.ntmps11
  go_upto_region 1 with fail
  generalize ((w.alloc (.cells #[.int .i64 0, .int .i64 0] 25)).alloc (.cells #[.int .i64 0, .int .i64 0] 27)).alloc (.cells #[.int .i64 0, .int .i64 0, .slice none 0 0] 30) = v at *
  have n01 : w.heap.size ≠ w.heap.size + 1 := by omega
  have n02 : w.heap.size ≠ w.heap.size + 1 + 1 := by omega
  have n12 : w.heap.size + 1 ≠ w.heap.size + 1 + 1 := by omega
  generalize hj2 : w.heap.size + 1 + 1 = j2 at *
  generalize hj1 : w.heap.size + 1 = j1 at *
  go_wp2_with fail
  refine (l1New_any a l c0 _ hl hcode).mono ?_
  rintro e w1 ⟨p, rfl, cc, nl⟩
  have hq := cc.lt
  have hvp : v.heap.size ≤ p := hq.2
  have h0p : w.heap.size ≠ p := by have := RI.1; omega
  have h1p : j1 ≠ p := by have := RD.1; omega
  have h2p : j2 ≠ p := by have := RP.1; omega
  have hwp : w.heap.size ≤ p := by have := RI.1; omega
  clear hcode
  replace RI := RI.below nl
  replace RD := RD.below nl
  replace RP := RP.below nl
  replace B := B.trans (nl.mono B.size)
  clear nl
  generalize v.heap.size = B0 at *
  have h0b : w.heap.size < w1.heap.size := RI.1
  have h1b : j1 < w1.heap.size := RD.1
  have h2b : j2 < w1.heap.size := RP.1
  have hpo : p < w1.heap.size := hq.1
  have hwo : w.heap.size ≤ w1.heap.size := Nat.le_of_lt h0b
  clear hq hvp
  have n10 : j1 ≠ w.heap.size := fun e => n01 e.symm
  have n20 : j2 ≠ w.heap.size := fun e => n02 e.symm
  have n21 : j2 ≠ j1 := fun e => n12 e.symm
  clear hj1 hj2
  go_wp2_with fail
  refine (l13DrawAny_any B0 p _ cc).mono ?_
  rintro e w2 ⟨s, g, A, m, c, M, rfl, hm13, _, OW, nc, bb⟩
  replace cc := nc
  have hkg := bb.2.2.2.1
  clear nc
  replace RI := RI.but bb h0p
  replace RD := RD.but bb h1p
  replace RP := RP.but bb h2p
  replace B := B.trans (bb.below hwp B.size)
  clear bb
  have nl := Below.nw w2 (.cells #[.int .i64 s, .int .i64 g, .slice A m c] 30)
  have KB := Tx3.new w2 (.int .i64 s) (.int .i64 g) (.slice A m c) 30
  have hkp : w2.heap.size ≠ p := Nat.ne_of_gt cc.lt.1
  replace cc := cc.below nl
  replace RI := RI.below nl
  replace RD := RD.below nl
  replace RP := RP.below nl
  replace OW := own_belK' OW nl
  replace B := B.trans (nl.mono B.size)
  clear nl
  go_upto_region 3 with fail
  generalize w2.alloc (.cells #[.int .i64 s, .int .i64 g, .slice A m c] 30) = w3 at *
  generalize w2.heap.size = kp at *
  go_wp2_with fail
  refine (l6DrawDrift_any B0 p _ cc).mono ?_
  rintro e w4 ⟨n, d, rfl, nc, bb⟩
  replace cc := nc
  clear nc
  replace RI := RI.but bb h0p
  replace RD := RD.but bb h1p
  replace RP := RP.but bb h2p
  replace KB := KB.but bb hkp
  replace OW := own_butK OW bb hpo
  replace B := B.trans (bb.below hwp B.size)
  clear bb
  have nl := Below.nw w4 (.cells #[.int .i64 n, .int .i64 d] 27)
  have KD := Bx2.new w4 (.int .i64 n) (.int .i64 d) 27
  have hdp : w4.heap.size ≠ p := Nat.ne_of_gt cc.lt.1
  have hdg : kp < w4.heap.size := KB.1
  replace cc := cc.below nl
  replace RI := RI.below nl
  replace RD := RD.below nl
  replace RP := RP.below nl
  replace KB := KB.below nl
  replace OW := own_belK' OW nl
  replace B := B.trans (nl.mono B.size)
  clear nl
  go_upto_region 4 with fail
  generalize w4.alloc (.cells #[.int .i64 n, .int .i64 d] 27) = w5 at *
  generalize w4.heap.size = kd at *
  (obtain ⟨k0, k1, k2, k3, k4, k5, k6⟩ := id KB)
  go_wp2_with fail
  refine (l13DrawTime_any B0 p w1.heap.size s g A m c M _ cc hm13 hpo OW).mono ?_
  rintro e w6 ⟨lo, rfl, nc, bb⟩
  clear k0 k1 k2 k3 k4 k5 k6
  replace cc := nc
  clear nc
  replace RI := RI.but bb h0p
  replace RD := RD.but bb h1p
  replace RP := RP.but bb h2p
  replace KB := KB.but bb hkp
  replace KD := KD.but bb hdp
  replace OW := own_butK OW bb hpo
  replace B := B.trans (bb.below hwp B.size)
  clear bb
  go_wp2_with fail
  refine (l1Min_any _ _ _).mono ?_
  rintro e w' ⟨rfl, rfl⟩
  go_wp2_with fail
  refine (l1Below_any B0 p 12 _ cc).mono ?_
  rintro e w7 ⟨z, rfl, _, _, _, _, nc, bb⟩
  replace cc := nc
  clear nc
  replace RI := RI.but bb h0p
  replace RD := RD.but bb h1p
  replace RP := RP.but bb h2p
  replace KB := KB.but bb hkp
  replace KD := KD.but bb hdp
  replace OW := own_butK OW bb hpo
  replace B := B.trans (bb.below hwp B.size)
  clear bb
  generalize hhi : IntKind.i64.wrap (imn lo 1000000000000 + z) = hi
  have nl := Below.nw w7 (.cells #[.int .i64 lo, .int .i64 hi] 25)
  have KN := Bx2.new w7 (.int .i64 lo) (.int .i64 hi) 25
  have hnp : w7.heap.size ≠ p := Nat.ne_of_gt cc.lt.1
  have hng : kd < w7.heap.size := KD.1
  replace cc := cc.below nl
  replace RI := RI.below nl
  replace RD := RD.below nl
  replace RP := RP.below nl
  replace KB := KB.below nl
  replace KD := KD.below nl
  replace OW := own_belK' OW nl
  replace B := B.trans (nl.mono B.size)
  clear nl
  go_upto_region 6 with fail
  clear hhi
  generalize w7.alloc (.cells #[.int .i64 lo, .int .i64 hi] 25) = w8 at *
  generalize w7.heap.size = kn at *
  go_wp2_with fail
  refine (l1Below_any B0 p 4 _ cc).mono ?_
  rintro e w9 ⟨ow, rfl, _, _, _, _, nc, bb⟩
  replace cc := nc
  clear nc
  replace RI := RI.but bb h0p
  replace RD := RD.but bb h1p
  replace RP := RP.but bb h2p
  replace KB := KB.but bb hkp
  replace KD := KD.but bb hdp
  replace KN := KN.but bb hnp
  replace OW := own_butK OW bb hpo
  replace B := B.trans (bb.below hwp B.size)
  clear bb
  (obtain ⟨k0, k1, k2, k3, k4, k5, k6⟩ := id KB)
  have hmm : m ≤ maxLen := by unfold maxLen; omega
  go_wp2_with fail
  refine (specSlotAt_any s g A m c M lo _ hmm (ownS OW)).mono ?_
  rintro e w10 ⟨rfl, nl⟩
  clear k0 k1 k2 k3 k4 k5 k6
  replace cc := cc.below nl
  replace RI := RI.below nl
  replace RD := RD.below nl
  replace RP := RP.below nl
  replace KB := KB.below nl
  replace KD := KD.below nl
  replace KN := KN.below nl
  replace OW := own_belK' OW nl
  replace B := B.trans (nl.mono B.size)
  clear nl
  cases hsa : saB s g M m lo
  · generalize saI s g M m lo = sI at *
    generalize saK s g M m lo = sK at *
    go_wp2_with fail
    refine (l1Once_any B0 p 25 _ cc).mono ?_
    rintro e vx ⟨q25, rfl, nc, bb⟩
    replace cc := nc
    clear nc
    replace RI := RI.but bb h0p
    replace RD := RD.but bb h1p
    replace RP := RP.but bb h2p
    replace KB := KB.but bb hkp
    replace KD := KD.but bb hdp
    replace KN := KN.but bb hnp
    replace OW := own_butK OW bb hpo
    replace B := B.trans (bb.below hwp B.size)
    clear bb
    cases q25
    · (try go_wp2_with fail)
      have n0k : w.heap.size ≠ kp := by omega
      have n0d : w.heap.size ≠ kd := by omega
      have n0n : w.heap.size ≠ kn := by omega
      have n1k : j1 ≠ kp := by omega
      have n1d : j1 ≠ kd := by omega
      have n1n : j1 ≠ kn := by omega
      have n2k : j2 ≠ kp := by omega
      have n2d : j2 ≠ kd := by omega
      have n2n : j2 ≠ kn := by omega
      (obtain ⟨a0, a1, a2, a3, a4⟩ := id KN); (obtain ⟨d0, d1, d2, d3, d4⟩ := id KD); (obtain ⟨k0, k1, k2, k3, k4, k5, k6⟩ := id KB)
      go_upto_region 12 with fail
      refine wp_region_held_drew (S := (fun w' => w'.cell? ⟨kn, 0, none⟩ = some (.int .i64 lo) ∧ w'.cell? ⟨kn, 1, none⟩ = some (.int .i64 hi) ∧ w'.cell? ⟨kd, 0, none⟩ = some (.int .i64 n) ∧ w'.cell? ⟨kd, 1, none⟩ = some (.int .i64 d) ∧ w'.cell? ⟨kp, 0, none⟩ = some (.int .i64 s) ∧ w'.cell? ⟨kp, 1, none⟩ = some (.int .i64 g) ∧ w'.cell? ⟨kp, 2, none⟩ = some (.slice A m c))) (by kernel_rfl) ?_ (fun hHeld => ?_)
      · exact ⟨a1, a2, d1, d2, k1, k2, k3⟩
      replace RI := RI.drew
      replace RD := RD.drew
      replace RP := RP.drew
      replace KB := KB.drew
      replace KD := KD.drew
      replace KN := KN.drew
      replace cc : CurOk vx.drew B0 p := cc
      replace OW : vx.drew.ownsRow w1.heap.size 42 2 (.slice A m c) m (srow M m) := OW
      replace B := Below.drew B
      (clear a0 a1 a2 a3 a4 d0 d1 d2 d3 d4 k0 k1 k2 k3 k4 k5 k6)
      generalize vx.drew = vx at *
      (obtain ⟨a0, a1, a2, a3, a4⟩ := id KN); (obtain ⟨d0, d1, d2, d3, d4⟩ := id KD); (obtain ⟨k0, k1, k2, k3, k4, k5, k6⟩ := id KB)
      refine wpAnyH_take (i := 0) (v := ?_) (by rw [List.getElem?_toArray]; rfl) (by kernel_rfl) (by kernel_rfl) (by kernel_rfl) (by intro _ _ _ h; exact h) (Or.inl ⟨by rfl, ?_⟩) (by assumption) ?_
      rotate_left
      · (intro w hSw; (try dsimp only at hSw); go_simp; all_goals with_reducible rfl)
      (try simp only [Act.put, List.setIfInBounds_toArray, List.set_cons_zero, List.set_cons_succ])
      refine wpAnyH_take (i := 1) (v := ?_) (by rw [List.getElem?_toArray]; rfl) (by kernel_rfl) (by kernel_rfl) (by kernel_rfl) (by intro _ _ _ h; exact h) (Or.inl ⟨by rfl, ?_⟩) (by assumption) ?_
      rotate_left
      · (intro w hSw; (try dsimp only at hSw); go_simp; all_goals with_reducible rfl)
      (try simp only [Act.put, List.setIfInBounds_toArray, List.set_cons_zero, List.set_cons_succ])
      refine wpAnyH_take (i := 4) (v := ?_) (by rw [List.getElem?_toArray]; rfl) (by kernel_rfl) (by kernel_rfl) (by kernel_rfl) (by intro _ _ _ h; exact h) (Or.inl ⟨by rfl, ?_⟩) (by assumption) ?_
      rotate_left
      · (intro w hSw; (try dsimp only at hSw); go_simp; all_goals with_reducible rfl)
      (try simp only [Act.put, List.setIfInBounds_toArray, List.set_cons_zero, List.set_cons_succ])
      refine wpAnyH_take (i := 5) (v := ?_) (by rw [List.getElem?_toArray]; rfl) (by kernel_rfl) (by kernel_rfl) (by kernel_rfl) (by intro _ _ _ h; exact h) (Or.inl ⟨by rfl, ?_⟩) (by assumption) ?_
      rotate_left
      · (intro w hSw; (try dsimp only at hSw); go_simp; all_goals with_reducible rfl)
      (try simp only [Act.put, List.setIfInBounds_toArray, List.set_cons_zero, List.set_cons_succ])
      refine wpAnyH_take (i := 7) (v := ?_) (by rw [List.getElem?_toArray]; rfl) (by kernel_rfl) (by kernel_rfl) (by kernel_rfl) (by intro _ _ _ h; exact h) (Or.inl ⟨by rfl, ?_⟩) (by assumption) ?_
      rotate_left
      · (intro w hSw; (try dsimp only at hSw); go_simp; all_goals with_reducible rfl)
      (try simp only [Act.put, List.setIfInBounds_toArray, List.set_cons_zero, List.set_cons_succ])
      refine wpAnyH_take (i := 8) (v := ?_) (by rw [List.getElem?_toArray]; rfl) (by kernel_rfl) (by kernel_rfl) (by kernel_rfl) (by intro _ _ _ h; exact h) (Or.inl ⟨by rfl, ?_⟩) (by assumption) ?_
      rotate_left
      · (intro w hSw; (try dsimp only at hSw); go_simp; all_goals with_reducible rfl)
      (try simp only [Act.put, List.setIfInBounds_toArray, List.set_cons_zero, List.set_cons_succ])
      refine wpAnyH_ready (rs := [2]) (by kernel_rfl) (by simp) ?_
      refine (AllReadyH.cons (by rw [List.getElem?_toArray]; rfl) (fun K hK => ?_) AllReadyH.nil)
      go_simp
      refine (l1Once_any B0 p 9 _ cc).mono ?_; rintro e vx ⟨q9, rfl, nc, bb⟩; (clear a0 a1 a2 a3 a4 d0 d1 d2 d3 d4 k0 k1 k2 k3 k4 k5 k6); (replace cc := nc); (clear nc); (replace RI := RI.but bb h0p); (replace RD := RD.but bb h1p); (replace RP := RP.but bb h2p); (replace KB := KB.but bb hkp); (replace KD := KD.but bb hdp); (replace KN := KN.but bb hnp); (replace OW := own_butK OW bb hpo); (replace B := B.trans (bb.below hwp B.size)); (clear bb); (obtain ⟨a0, a1, a2, a3, a4⟩ := id KN); (obtain ⟨d0, d1, d2, d3, d4⟩ := id KD); (obtain ⟨k0, k1, k2, k3, k4, k5, k6⟩ := id KB)
      (try go_wp2_with fail)
      refine hK.out _ _ ?_ (fun hHeld => ?_)
      · exact ⟨a1, a2, d1, d2, k1, k2, k3⟩
      clear hK K
      (try simp only [Act.put, List.setIfInBounds_toArray, List.set_cons_zero, List.set_cons_succ])
      refine wpAnyH_take (i := 3) (v := ?_) (by rw [List.getElem?_toArray]; rfl) (by kernel_rfl) (by kernel_rfl) (by kernel_rfl) (by intro _ _ _ h; exact h) (Or.inl ⟨by rfl, ?_⟩) (by assumption) ?_
      rotate_left
      · (intro w hSw; (try dsimp only at hSw); go_simp; all_goals with_reducible rfl)
      (try simp only [Act.put, List.setIfInBounds_toArray, List.set_cons_zero, List.set_cons_succ])
      refine wpAnyH_ready (rs := [6]) (by kernel_rfl) (by simp) ?_
      refine (AllReadyH.cons (by rw [List.getElem?_toArray]; rfl) (fun K hK => ?_) AllReadyH.nil)
      go_simp
      refine (l14DrawLong_any B0 p _ cc).mono ?_; rintro e vx ⟨x, rfl, nc, bb⟩; (clear a0 a1 a2 a3 a4 d0 d1 d2 d3 d4 k0 k1 k2 k3 k4 k5 k6); (replace cc := nc); (clear nc); (replace RI := RI.but bb h0p); (replace RD := RD.but bb h1p); (replace RP := RP.but bb h2p); (replace KB := KB.but bb hkp); (replace KD := KD.but bb hdp); (replace KN := KN.but bb hnp); (replace OW := own_butK OW bb hpo); (replace B := B.trans (bb.below hwp B.size)); (clear bb); (obtain ⟨r0, r1, r2, r3, r4⟩ := id RI); (obtain ⟨t0, t1, t2, t3, t4⟩ := id RD); (obtain ⟨u0, u1, u2, u3, u4, u5, u6⟩ := id RP); (obtain ⟨a0, a1, a2, a3, a4⟩ := id KN); (obtain ⟨d0, d1, d2, d3, d4⟩ := id KD); (obtain ⟨k0, k1, k2, k3, k4, k5, k6⟩ := id KB)
      (try go_wp2_with fail)
      refine hK.out _ _ ?_ (fun hHeld => ?_)
      · exact ⟨a1, a2, d1, d2, k1, k2, k3⟩
      clear hK K
      (try simp only [Act.put, List.setIfInBounds_toArray, List.set_cons_zero, List.set_cons_succ])
      refine wpAnyH_ready (rs := [9]) (by kernel_rfl) (by simp) ?_
      refine (AllReadyH.cons (by rw [List.getElem?_toArray]; rfl) (fun K hK => ?_) AllReadyH.nil)
      go_simp
      (clear a0 a1 a2 a3 a4 d0 d1 d2 d3 d4 k0 k1 k2 k3 k4 k5 k6); (clear r0 r1 r2 r3 r4 t0 t1 t2 t3 t4 u0 u1 u2 u3 u4 u5 u6); (replace RI := ((RI.set0 (.int .i64 lo)).set1 (.int .i64 hi))); (replace RD := ((RD.setO n01 0 (.int .i64 lo)).setO n01 1 (.int .i64 hi))); (replace RP := ((RP.setO n02 0 (.int .i64 lo)).setO n02 1 (.int .i64 hi))); (replace KB := ((KB.setO n0k 0 (.int .i64 lo)).setO n0k 1 (.int .i64 hi))); (replace KD := ((KD.setO n0d 0 (.int .i64 lo)).setO n0d 1 (.int .i64 hi))); (replace KN := ((KN.setO n0n 0 (.int .i64 lo)).setO n0n 1 (.int .i64 hi))); (replace OW := own_butK OW (((But.refl w.heap.size vx).setCell 0 (.int .i64 lo)).setCell 1 (.int .i64 hi)) h0b); (replace B := ((B.setCell (p := ⟨w.heap.size, 0, none⟩) h0w (.int .i64 lo)).setCell (p := ⟨w.heap.size, 1, none⟩) h0w (.int .i64 hi))); (clear cc); (generalize ((vx.setCell ⟨w.heap.size, 0, none⟩ (.int .i64 lo)).setCell ⟨w.heap.size, 1, none⟩ (.int .i64 hi)) = vx at *); (obtain ⟨r0, r1, r2, r3, r4⟩ := id RI); (obtain ⟨t0, t1, t2, t3, t4⟩ := id RD); (obtain ⟨u0, u1, u2, u3, u4, u5, u6⟩ := id RP); (obtain ⟨a0, a1, a2, a3, a4⟩ := id KN); (obtain ⟨d0, d1, d2, d3, d4⟩ := id KD); (obtain ⟨k0, k1, k2, k3, k4, k5, k6⟩ := id KB)
      refine hK.out _ _ ?_ (fun hHeld => ?_)
      · exact ⟨a1, a2, d1, d2, k1, k2, k3⟩
      clear hK K
      (try simp only [Act.put, List.setIfInBounds_toArray, List.set_cons_zero, List.set_cons_succ])
      refine wpAnyH_take (i := 10) (v := ?_) (by rw [List.getElem?_toArray]; rfl) (by kernel_rfl) (by kernel_rfl) (by kernel_rfl) (by intro _ _ _ h; exact h) (Or.inl ⟨by rfl, ?_⟩) (by assumption) ?_
      rotate_left
      · (intro w hSw; (try dsimp only at hSw); go_simp; all_goals with_reducible rfl)
      (try simp only [Act.put, List.setIfInBounds_toArray, List.set_cons_zero, List.set_cons_succ])
      refine wpAnyH_ready (rs := [11]) (by kernel_rfl) (by simp) ?_
      refine (AllReadyH.cons (by rw [List.getElem?_toArray]; rfl) (fun K hK => ?_) AllReadyH.nil)
      go_simp
      (clear a0 a1 a2 a3 a4 d0 d1 d2 d3 d4 k0 k1 k2 k3 k4 k5 k6); (clear r0 r1 r2 r3 r4 t0 t1 t2 t3 t4 u0 u1 u2 u3 u4 u5 u6); (replace RD := ((RD.set0 (.int .i64 n)).set1 (.int .i64 d))); (replace RI := ((RI.setO n10 0 (.int .i64 n)).setO n10 1 (.int .i64 d))); (replace RP := ((RP.setO n12 0 (.int .i64 n)).setO n12 1 (.int .i64 d))); (replace KB := ((KB.setO n1k 0 (.int .i64 n)).setO n1k 1 (.int .i64 d))); (replace KD := ((KD.setO n1d 0 (.int .i64 n)).setO n1d 1 (.int .i64 d))); (replace KN := ((KN.setO n1n 0 (.int .i64 n)).setO n1n 1 (.int .i64 d))); (replace OW := own_butK OW (((But.refl j1 vx).setCell 0 (.int .i64 n)).setCell 1 (.int .i64 d)) h1b); (replace B := ((B.setCell (p := ⟨j1, 0, none⟩) h1w (.int .i64 n)).setCell (p := ⟨j1, 1, none⟩) h1w (.int .i64 d))); (generalize ((vx.setCell ⟨j1, 0, none⟩ (.int .i64 n)).setCell ⟨j1, 1, none⟩ (.int .i64 d)) = vx at *); (obtain ⟨r0, r1, r2, r3, r4⟩ := id RI); (obtain ⟨t0, t1, t2, t3, t4⟩ := id RD); (obtain ⟨u0, u1, u2, u3, u4, u5, u6⟩ := id RP); (obtain ⟨a0, a1, a2, a3, a4⟩ := id KN); (obtain ⟨d0, d1, d2, d3, d4⟩ := id KD); (obtain ⟨k0, k1, k2, k3, k4, k5, k6⟩ := id KB)
      refine hK.out _ _ ?_ (fun hHeld => ?_)
      · exact ⟨a1, a2, d1, d2, k1, k2, k3⟩
      clear hK K
      (try simp only [Act.put, List.setIfInBounds_toArray, List.set_cons_zero, List.set_cons_succ])
      refine wpAnyH_take (i := 12) (v := ?_) (by rw [List.getElem?_toArray]; rfl) (by kernel_rfl) (by kernel_rfl) (by kernel_rfl) (by intro _ _ _ h; exact h) (Or.inl ⟨by rfl, ?_⟩) (by assumption) ?_
      rotate_left
      · (intro w hSw; (try dsimp only at hSw); go_simp; all_goals with_reducible rfl)
      (try simp only [Act.put, List.setIfInBounds_toArray, List.set_cons_zero, List.set_cons_succ])
      refine wpAnyH_ready (rs := [13]) (by kernel_rfl) (by simp) ?_
      refine (AllReadyH.cons (by rw [List.getElem?_toArray]; rfl) (fun K hK => ?_) AllReadyH.nil)
      go_simp
      (clear a0 a1 a2 a3 a4 d0 d1 d2 d3 d4 k0 k1 k2 k3 k4 k5 k6); (clear r0 r1 r2 r3 r4 t0 t1 t2 t3 t4 u0 u1 u2 u3 u4 u5 u6); (replace RP := (((RP.set0 (.int .i64 s)).set1 (.int .i64 g)).set2 (.slice A m c))); (replace RI := (((RI.setO n20 0 (.int .i64 s)).setO n20 1 (.int .i64 g)).setO n20 2 (.slice A m c))); (replace RD := (((RD.setO n21 0 (.int .i64 s)).setO n21 1 (.int .i64 g)).setO n21 2 (.slice A m c))); (replace KB := (((KB.setO n2k 0 (.int .i64 s)).setO n2k 1 (.int .i64 g)).setO n2k 2 (.slice A m c))); (replace KD := (((KD.setO n2d 0 (.int .i64 s)).setO n2d 1 (.int .i64 g)).setO n2d 2 (.slice A m c))); (replace KN := (((KN.setO n2n 0 (.int .i64 s)).setO n2n 1 (.int .i64 g)).setO n2n 2 (.slice A m c))); (replace OW := own_butK OW ((((But.refl j2 vx).setCell 0 (.int .i64 s)).setCell 1 (.int .i64 g)).setCell 2 (.slice A m c)) h2b); (replace B := (((B.setCell (p := ⟨j2, 0, none⟩) h2w (.int .i64 s)).setCell (p := ⟨j2, 1, none⟩) h2w (.int .i64 g)).setCell (p := ⟨j2, 2, none⟩) h2w (.slice A m c))); (generalize (((vx.setCell ⟨j2, 0, none⟩ (.int .i64 s)).setCell ⟨j2, 1, none⟩ (.int .i64 g)).setCell ⟨j2, 2, none⟩ (.slice A m c)) = vx at *); (obtain ⟨r0, r1, r2, r3, r4⟩ := id RI); (obtain ⟨t0, t1, t2, t3, t4⟩ := id RD); (obtain ⟨u0, u1, u2, u3, u4, u5, u6⟩ := id RP); (obtain ⟨a0, a1, a2, a3, a4⟩ := id KN); (obtain ⟨d0, d1, d2, d3, d4⟩ := id KD); (obtain ⟨k0, k1, k2, k3, k4, k5, k6⟩ := id KB)
      refine hK.out _ _ ?_ (fun hHeld => ?_)
      · exact ⟨a1, a2, d1, d2, k1, k2, k3⟩
      clear hK K
      (try simp only [Act.put, List.setIfInBounds_toArray, List.set_cons_zero, List.set_cons_succ])
      refine wpAnyH_take (i := 14) (v := ?_) (by rw [List.getElem?_toArray]; rfl) (by kernel_rfl) (by kernel_rfl) (by kernel_rfl) (by intro _ _ _ h; exact h) (Or.inl ⟨by rfl, ?_⟩) (by assumption) ?_
      rotate_left
      · (intro w hSw; (try dsimp only at hSw); go_simp; all_goals with_reducible rfl)
      (try simp only [Act.put, List.setIfInBounds_toArray, List.set_cons_zero, List.set_cons_succ])
      refine wpAnyH_done (by kernel_rfl) ?_ _
      go_wp2_with fail
      exact bodyPost_ret (v := (.tuple #[.agg #[.int .i64 lo, .int .i64 hi], .bool (!q9), .agg #[.int .i64 n, .int .i64 d], .int .i64 x, .agg #[.int .i64 s, .int .i64 g, .slice A m c], .int .i64 ow])) (by simp (maxDischargeDepth := 6) [results, Tryd.results11, go_sem, *]) rfl ⟨lo, hi, !q9, n, d, x, s, g, A, m, c, M, ow, rfl, hm13, own_baseI OW hwo, B⟩
    · go_wp2_with fail
      refine (pick2 B0 p vx _ _ cc).mono ?_
      rintro e vx ⟨ow2, rfl, nc, bb⟩
      replace cc := nc
      clear nc
      replace RI := RI.but bb h0p
      replace RD := RD.but bb h1p
      replace RP := RP.but bb h2p
      replace KB := KB.but bb hkp
      replace KD := KD.but bb hdp
      replace KN := KN.but bb hnp
      replace OW := own_butK OW bb hpo
      replace B := B.trans (bb.below hwp B.size)
      clear bb
      have n0k : w.heap.size ≠ kp := by omega
      have n0d : w.heap.size ≠ kd := by omega
      have n0n : w.heap.size ≠ kn := by omega
      have n1k : j1 ≠ kp := by omega
      have n1d : j1 ≠ kd := by omega
      have n1n : j1 ≠ kn := by omega
      have n2k : j2 ≠ kp := by omega
      have n2d : j2 ≠ kd := by omega
      have n2n : j2 ≠ kn := by omega
      (obtain ⟨a0, a1, a2, a3, a4⟩ := id KN); (obtain ⟨d0, d1, d2, d3, d4⟩ := id KD); (obtain ⟨k0, k1, k2, k3, k4, k5, k6⟩ := id KB)
      go_upto_region 12 with fail
      refine wp_region_held_drew (S := (fun w' => w'.cell? ⟨kn, 0, none⟩ = some (.int .i64 lo) ∧ w'.cell? ⟨kn, 1, none⟩ = some (.int .i64 hi) ∧ w'.cell? ⟨kd, 0, none⟩ = some (.int .i64 n) ∧ w'.cell? ⟨kd, 1, none⟩ = some (.int .i64 d) ∧ w'.cell? ⟨kp, 0, none⟩ = some (.int .i64 s) ∧ w'.cell? ⟨kp, 1, none⟩ = some (.int .i64 g) ∧ w'.cell? ⟨kp, 2, none⟩ = some (.slice A m c))) (by kernel_rfl) ?_ (fun hHeld => ?_)
      · exact ⟨a1, a2, d1, d2, k1, k2, k3⟩
      replace RI := RI.drew
      replace RD := RD.drew
      replace RP := RP.drew
      replace KB := KB.drew
      replace KD := KD.drew
      replace KN := KN.drew
      replace cc : CurOk vx.drew B0 p := cc
      replace OW : vx.drew.ownsRow w1.heap.size 42 2 (.slice A m c) m (srow M m) := OW
      replace B := Below.drew B
      (clear a0 a1 a2 a3 a4 d0 d1 d2 d3 d4 k0 k1 k2 k3 k4 k5 k6)
      generalize vx.drew = vx at *
      (obtain ⟨a0, a1, a2, a3, a4⟩ := id KN); (obtain ⟨d0, d1, d2, d3, d4⟩ := id KD); (obtain ⟨k0, k1, k2, k3, k4, k5, k6⟩ := id KB)
      refine wpAnyH_take (i := 0) (v := ?_) (by rw [List.getElem?_toArray]; rfl) (by kernel_rfl) (by kernel_rfl) (by kernel_rfl) (by intro _ _ _ h; exact h) (Or.inl ⟨by rfl, ?_⟩) (by assumption) ?_
      rotate_left
      · (intro w hSw; (try dsimp only at hSw); go_simp; all_goals with_reducible rfl)
      (try simp only [Act.put, List.setIfInBounds_toArray, List.set_cons_zero, List.set_cons_succ])
      refine wpAnyH_take (i := 1) (v := ?_) (by rw [List.getElem?_toArray]; rfl) (by kernel_rfl) (by kernel_rfl) (by kernel_rfl) (by intro _ _ _ h; exact h) (Or.inl ⟨by rfl, ?_⟩) (by assumption) ?_
      rotate_left
      · (intro w hSw; (try dsimp only at hSw); go_simp; all_goals with_reducible rfl)
      (try simp only [Act.put, List.setIfInBounds_toArray, List.set_cons_zero, List.set_cons_succ])
      refine wpAnyH_take (i := 4) (v := ?_) (by rw [List.getElem?_toArray]; rfl) (by kernel_rfl) (by kernel_rfl) (by kernel_rfl) (by intro _ _ _ h; exact h) (Or.inl ⟨by rfl, ?_⟩) (by assumption) ?_
      rotate_left
      · (intro w hSw; (try dsimp only at hSw); go_simp; all_goals with_reducible rfl)
      (try simp only [Act.put, List.setIfInBounds_toArray, List.set_cons_zero, List.set_cons_succ])
      refine wpAnyH_take (i := 5) (v := ?_) (by rw [List.getElem?_toArray]; rfl) (by kernel_rfl) (by kernel_rfl) (by kernel_rfl) (by intro _ _ _ h; exact h) (Or.inl ⟨by rfl, ?_⟩) (by assumption) ?_
      rotate_left
      · (intro w hSw; (try dsimp only at hSw); go_simp; all_goals with_reducible rfl)
      (try simp only [Act.put, List.setIfInBounds_toArray, List.set_cons_zero, List.set_cons_succ])
      refine wpAnyH_take (i := 7) (v := ?_) (by rw [List.getElem?_toArray]; rfl) (by kernel_rfl) (by kernel_rfl) (by kernel_rfl) (by intro _ _ _ h; exact h) (Or.inl ⟨by rfl, ?_⟩) (by assumption) ?_
      rotate_left
      · (intro w hSw; (try dsimp only at hSw); go_simp; all_goals with_reducible rfl)
      (try simp only [Act.put, List.setIfInBounds_toArray, List.set_cons_zero, List.set_cons_succ])
      refine wpAnyH_take (i := 8) (v := ?_) (by rw [List.getElem?_toArray]; rfl) (by kernel_rfl) (by kernel_rfl) (by kernel_rfl) (by intro _ _ _ h; exact h) (Or.inl ⟨by rfl, ?_⟩) (by assumption) ?_
      rotate_left
      · (intro w hSw; (try dsimp only at hSw); go_simp; all_goals with_reducible rfl)
      (try simp only [Act.put, List.setIfInBounds_toArray, List.set_cons_zero, List.set_cons_succ])
      refine wpAnyH_ready (rs := [2]) (by kernel_rfl) (by simp) ?_
      refine (AllReadyH.cons (by rw [List.getElem?_toArray]; rfl) (fun K hK => ?_) AllReadyH.nil)
      go_simp
      refine (l1Once_any B0 p 9 _ cc).mono ?_; rintro e vx ⟨q9, rfl, nc, bb⟩; (clear a0 a1 a2 a3 a4 d0 d1 d2 d3 d4 k0 k1 k2 k3 k4 k5 k6); (replace cc := nc); (clear nc); (replace RI := RI.but bb h0p); (replace RD := RD.but bb h1p); (replace RP := RP.but bb h2p); (replace KB := KB.but bb hkp); (replace KD := KD.but bb hdp); (replace KN := KN.but bb hnp); (replace OW := own_butK OW bb hpo); (replace B := B.trans (bb.below hwp B.size)); (clear bb); (obtain ⟨a0, a1, a2, a3, a4⟩ := id KN); (obtain ⟨d0, d1, d2, d3, d4⟩ := id KD); (obtain ⟨k0, k1, k2, k3, k4, k5, k6⟩ := id KB)
      (try go_wp2_with fail)
      refine hK.out _ _ ?_ (fun hHeld => ?_)
      · exact ⟨a1, a2, d1, d2, k1, k2, k3⟩
      clear hK K
      (try simp only [Act.put, List.setIfInBounds_toArray, List.set_cons_zero, List.set_cons_succ])
      refine wpAnyH_take (i := 3) (v := ?_) (by rw [List.getElem?_toArray]; rfl) (by kernel_rfl) (by kernel_rfl) (by kernel_rfl) (by intro _ _ _ h; exact h) (Or.inl ⟨by rfl, ?_⟩) (by assumption) ?_
      rotate_left
      · (intro w hSw; (try dsimp only at hSw); go_simp; all_goals with_reducible rfl)
      (try simp only [Act.put, List.setIfInBounds_toArray, List.set_cons_zero, List.set_cons_succ])
      refine wpAnyH_ready (rs := [6]) (by kernel_rfl) (by simp) ?_
      refine (AllReadyH.cons (by rw [List.getElem?_toArray]; rfl) (fun K hK => ?_) AllReadyH.nil)
      go_simp
      refine (l14DrawLong_any B0 p _ cc).mono ?_; rintro e vx ⟨x, rfl, nc, bb⟩; (clear a0 a1 a2 a3 a4 d0 d1 d2 d3 d4 k0 k1 k2 k3 k4 k5 k6); (replace cc := nc); (clear nc); (replace RI := RI.but bb h0p); (replace RD := RD.but bb h1p); (replace RP := RP.but bb h2p); (replace KB := KB.but bb hkp); (replace KD := KD.but bb hdp); (replace KN := KN.but bb hnp); (replace OW := own_butK OW bb hpo); (replace B := B.trans (bb.below hwp B.size)); (clear bb); (obtain ⟨r0, r1, r2, r3, r4⟩ := id RI); (obtain ⟨t0, t1, t2, t3, t4⟩ := id RD); (obtain ⟨u0, u1, u2, u3, u4, u5, u6⟩ := id RP); (obtain ⟨a0, a1, a2, a3, a4⟩ := id KN); (obtain ⟨d0, d1, d2, d3, d4⟩ := id KD); (obtain ⟨k0, k1, k2, k3, k4, k5, k6⟩ := id KB)
      (try go_wp2_with fail)
      refine hK.out _ _ ?_ (fun hHeld => ?_)
      · exact ⟨a1, a2, d1, d2, k1, k2, k3⟩
      clear hK K
      (try simp only [Act.put, List.setIfInBounds_toArray, List.set_cons_zero, List.set_cons_succ])
      refine wpAnyH_ready (rs := [9]) (by kernel_rfl) (by simp) ?_
      refine (AllReadyH.cons (by rw [List.getElem?_toArray]; rfl) (fun K hK => ?_) AllReadyH.nil)
      go_simp
      (clear a0 a1 a2 a3 a4 d0 d1 d2 d3 d4 k0 k1 k2 k3 k4 k5 k6); (clear r0 r1 r2 r3 r4 t0 t1 t2 t3 t4 u0 u1 u2 u3 u4 u5 u6); (replace RI := ((RI.set0 (.int .i64 lo)).set1 (.int .i64 hi))); (replace RD := ((RD.setO n01 0 (.int .i64 lo)).setO n01 1 (.int .i64 hi))); (replace RP := ((RP.setO n02 0 (.int .i64 lo)).setO n02 1 (.int .i64 hi))); (replace KB := ((KB.setO n0k 0 (.int .i64 lo)).setO n0k 1 (.int .i64 hi))); (replace KD := ((KD.setO n0d 0 (.int .i64 lo)).setO n0d 1 (.int .i64 hi))); (replace KN := ((KN.setO n0n 0 (.int .i64 lo)).setO n0n 1 (.int .i64 hi))); (replace OW := own_butK OW (((But.refl w.heap.size vx).setCell 0 (.int .i64 lo)).setCell 1 (.int .i64 hi)) h0b); (replace B := ((B.setCell (p := ⟨w.heap.size, 0, none⟩) h0w (.int .i64 lo)).setCell (p := ⟨w.heap.size, 1, none⟩) h0w (.int .i64 hi))); (clear cc); (generalize ((vx.setCell ⟨w.heap.size, 0, none⟩ (.int .i64 lo)).setCell ⟨w.heap.size, 1, none⟩ (.int .i64 hi)) = vx at *); (obtain ⟨r0, r1, r2, r3, r4⟩ := id RI); (obtain ⟨t0, t1, t2, t3, t4⟩ := id RD); (obtain ⟨u0, u1, u2, u3, u4, u5, u6⟩ := id RP); (obtain ⟨a0, a1, a2, a3, a4⟩ := id KN); (obtain ⟨d0, d1, d2, d3, d4⟩ := id KD); (obtain ⟨k0, k1, k2, k3, k4, k5, k6⟩ := id KB)
      refine hK.out _ _ ?_ (fun hHeld => ?_)
      · exact ⟨a1, a2, d1, d2, k1, k2, k3⟩
      clear hK K
      (try simp only [Act.put, List.setIfInBounds_toArray, List.set_cons_zero, List.set_cons_succ])
      refine wpAnyH_take (i := 10) (v := ?_) (by rw [List.getElem?_toArray]; rfl) (by kernel_rfl) (by kernel_rfl) (by kernel_rfl) (by intro _ _ _ h; exact h) (Or.inl ⟨by rfl, ?_⟩) (by assumption) ?_
      rotate_left
      · (intro w hSw; (try dsimp only at hSw); go_simp; all_goals with_reducible rfl)
      (try simp only [Act.put, List.setIfInBounds_toArray, List.set_cons_zero, List.set_cons_succ])
      refine wpAnyH_ready (rs := [11]) (by kernel_rfl) (by simp) ?_
      refine (AllReadyH.cons (by rw [List.getElem?_toArray]; rfl) (fun K hK => ?_) AllReadyH.nil)
      go_simp
      (clear a0 a1 a2 a3 a4 d0 d1 d2 d3 d4 k0 k1 k2 k3 k4 k5 k6); (clear r0 r1 r2 r3 r4 t0 t1 t2 t3 t4 u0 u1 u2 u3 u4 u5 u6); (replace RD := ((RD.set0 (.int .i64 n)).set1 (.int .i64 d))); (replace RI := ((RI.setO n10 0 (.int .i64 n)).setO n10 1 (.int .i64 d))); (replace RP := ((RP.setO n12 0 (.int .i64 n)).setO n12 1 (.int .i64 d))); (replace KB := ((KB.setO n1k 0 (.int .i64 n)).setO n1k 1 (.int .i64 d))); (replace KD := ((KD.setO n1d 0 (.int .i64 n)).setO n1d 1 (.int .i64 d))); (replace KN := ((KN.setO n1n 0 (.int .i64 n)).setO n1n 1 (.int .i64 d))); (replace OW := own_butK OW (((But.refl j1 vx).setCell 0 (.int .i64 n)).setCell 1 (.int .i64 d)) h1b); (replace B := ((B.setCell (p := ⟨j1, 0, none⟩) h1w (.int .i64 n)).setCell (p := ⟨j1, 1, none⟩) h1w (.int .i64 d))); (generalize ((vx.setCell ⟨j1, 0, none⟩ (.int .i64 n)).setCell ⟨j1, 1, none⟩ (.int .i64 d)) = vx at *); (obtain ⟨r0, r1, r2, r3, r4⟩ := id RI); (obtain ⟨t0, t1, t2, t3, t4⟩ := id RD); (obtain ⟨u0, u1, u2, u3, u4, u5, u6⟩ := id RP); (obtain ⟨a0, a1, a2, a3, a4⟩ := id KN); (obtain ⟨d0, d1, d2, d3, d4⟩ := id KD); (obtain ⟨k0, k1, k2, k3, k4, k5, k6⟩ := id KB)
      refine hK.out _ _ ?_ (fun hHeld => ?_)
      · exact ⟨a1, a2, d1, d2, k1, k2, k3⟩
      clear hK K
      (try simp only [Act.put, List.setIfInBounds_toArray, List.set_cons_zero, List.set_cons_succ])
      refine wpAnyH_take (i := 12) (v := ?_) (by rw [List.getElem?_toArray]; rfl) (by kernel_rfl) (by kernel_rfl) (by kernel_rfl) (by intro _ _ _ h; exact h) (Or.inl ⟨by rfl, ?_⟩) (by assumption) ?_
      rotate_left
      · (intro w hSw; (try dsimp only at hSw); go_simp; all_goals with_reducible rfl)
      (try simp only [Act.put, List.setIfInBounds_toArray, List.set_cons_zero, List.set_cons_succ])
      refine wpAnyH_ready (rs := [13]) (by kernel_rfl) (by simp) ?_
      refine (AllReadyH.cons (by rw [List.getElem?_toArray]; rfl) (fun K hK => ?_) AllReadyH.nil)
      go_simp
      (clear a0 a1 a2 a3 a4 d0 d1 d2 d3 d4 k0 k1 k2 k3 k4 k5 k6); (clear r0 r1 r2 r3 r4 t0 t1 t2 t3 t4 u0 u1 u2 u3 u4 u5 u6); (replace RP := (((RP.set0 (.int .i64 s)).set1 (.int .i64 g)).set2 (.slice A m c))); (replace RI := (((RI.setO n20 0 (.int .i64 s)).setO n20 1 (.int .i64 g)).setO n20 2 (.slice A m c))); (replace RD := (((RD.setO n21 0 (.int .i64 s)).setO n21 1 (.int .i64 g)).setO n21 2 (.slice A m c))); (replace KB := (((KB.setO n2k 0 (.int .i64 s)).setO n2k 1 (.int .i64 g)).setO n2k 2 (.slice A m c))); (replace KD := (((KD.setO n2d 0 (.int .i64 s)).setO n2d 1 (.int .i64 g)).setO n2d 2 (.slice A m c))); (replace KN := (((KN.setO n2n 0 (.int .i64 s)).setO n2n 1 (.int .i64 g)).setO n2n 2 (.slice A m c))); (replace OW := own_butK OW ((((But.refl j2 vx).setCell 0 (.int .i64 s)).setCell 1 (.int .i64 g)).setCell 2 (.slice A m c)) h2b); (replace B := (((B.setCell (p := ⟨j2, 0, none⟩) h2w (.int .i64 s)).setCell (p := ⟨j2, 1, none⟩) h2w (.int .i64 g)).setCell (p := ⟨j2, 2, none⟩) h2w (.slice A m c))); (generalize (((vx.setCell ⟨j2, 0, none⟩ (.int .i64 s)).setCell ⟨j2, 1, none⟩ (.int .i64 g)).setCell ⟨j2, 2, none⟩ (.slice A m c)) = vx at *); (obtain ⟨r0, r1, r2, r3, r4⟩ := id RI); (obtain ⟨t0, t1, t2, t3, t4⟩ := id RD); (obtain ⟨u0, u1, u2, u3, u4, u5, u6⟩ := id RP); (obtain ⟨a0, a1, a2, a3, a4⟩ := id KN); (obtain ⟨d0, d1, d2, d3, d4⟩ := id KD); (obtain ⟨k0, k1, k2, k3, k4, k5, k6⟩ := id KB)
      refine hK.out _ _ ?_ (fun hHeld => ?_)
      · exact ⟨a1, a2, d1, d2, k1, k2, k3⟩
      clear hK K
      (try simp only [Act.put, List.setIfInBounds_toArray, List.set_cons_zero, List.set_cons_succ])
      refine wpAnyH_take (i := 14) (v := ?_) (by rw [List.getElem?_toArray]; rfl) (by kernel_rfl) (by kernel_rfl) (by kernel_rfl) (by intro _ _ _ h; exact h) (Or.inl ⟨by rfl, ?_⟩) (by assumption) ?_
      rotate_left
      · (intro w hSw; (try dsimp only at hSw); go_simp; all_goals with_reducible rfl)
      (try simp only [Act.put, List.setIfInBounds_toArray, List.set_cons_zero, List.set_cons_succ])
      refine wpAnyH_done (by kernel_rfl) ?_ _
      go_wp2_with fail
      exact bodyPost_ret (v := (.tuple #[.agg #[.int .i64 lo, .int .i64 hi], .bool (!q9), .agg #[.int .i64 n, .int .i64 d], .int .i64 x, .agg #[.int .i64 s, .int .i64 g, .slice A m c], .int .i64 ow2])) (by simp (maxDischargeDepth := 6) [results, Tryd.results11, go_sem, *]) rfl ⟨lo, hi, !q9, n, d, x, s, g, A, m, c, M, ow2, rfl, hm13, own_baseI OW hwo, B⟩
  · obtain ⟨y1, y2, y3, y4⟩ := sa_yes hsa
    obtain ⟨iN, hiN, hin⟩ : ∃ iN : Nat, saI s g M m lo = (iN : Int) ∧ iN < m := ⟨_, y1, y3⟩
    rw [hiN]
    generalize saK s g M m lo = sK at *
    clear y1 y2 y3 y4 hsa hiN
    go_wp2_with fail
    refine (l1Once_any B0 p 6 _ cc).mono ?_
    rintro e vx ⟨q6, rfl, nc, bb⟩
    replace cc := nc
    clear nc
    replace RI := RI.but bb h0p
    replace RD := RD.but bb h1p
    replace RP := RP.but bb h2p
    replace KB := KB.but bb hkp
    replace KD := KD.but bb hdp
    replace KN := KN.but bb hnp
    replace OW := own_butK OW bb hpo
    replace B := B.trans (bb.below hwp B.size)
    clear bb
    cases q6
    · obtain ⟨b1, off, hA, hcs⟩ : ∃ b1 off, A = some ⟨b1, off, none⟩ ∧ Cs vx b1 off (m * 2) (MFSlot M) := by
        rcases ownS OW with q | q
        · exact absurd q (by omega)
        · exact q
      subst hA
      obtain ⟨oo, ll, hM⟩ := tupSlot M iN
      obtain ⟨c1, c2⟩ := hcs.elSlot hin hM
      have hli : (iN : Int) < (m : Int) := by omega
      clear hcs hM
      (obtain ⟨k0, k1, k2, k3, k4, k5, k6⟩ := id KB)
      go_wp2_with fail
      clear k0 k1 k2 k3 k4 k5 k6 c1 c2
      refine (l1Once_any B0 p 25 _ cc).mono ?_
      rintro e vx ⟨q25, rfl, nc, bb⟩
      replace cc := nc
      clear nc
      replace RI := RI.but bb h0p
      replace RD := RD.but bb h1p
      replace RP := RP.but bb h2p
      replace KB := KB.but bb hkp
      replace KD := KD.but bb hdp
      replace KN := KN.but bb hnp
      replace OW := own_butK OW bb hpo
      replace B := B.trans (bb.below hwp B.size)
      clear bb
      cases q25
      · (try go_wp2_with fail)
        have n0k : w.heap.size ≠ kp := by omega
        have n0d : w.heap.size ≠ kd := by omega
        have n0n : w.heap.size ≠ kn := by omega
        have n1k : j1 ≠ kp := by omega
        have n1d : j1 ≠ kd := by omega
        have n1n : j1 ≠ kn := by omega
        have n2k : j2 ≠ kp := by omega
        have n2d : j2 ≠ kd := by omega
        have n2n : j2 ≠ kn := by omega
        (obtain ⟨a0, a1, a2, a3, a4⟩ := id KN); (obtain ⟨d0, d1, d2, d3, d4⟩ := id KD); (obtain ⟨k0, k1, k2, k3, k4, k5, k6⟩ := id KB)
        go_upto_region 12 with fail
        refine wp_region_held_drew (S := (fun w' => w'.cell? ⟨kn, 0, none⟩ = some (.int .i64 lo) ∧ w'.cell? ⟨kn, 1, none⟩ = some (.int .i64 hi) ∧ w'.cell? ⟨kd, 0, none⟩ = some (.int .i64 n) ∧ w'.cell? ⟨kd, 1, none⟩ = some (.int .i64 d) ∧ w'.cell? ⟨kp, 0, none⟩ = some (.int .i64 s) ∧ w'.cell? ⟨kp, 1, none⟩ = some (.int .i64 g) ∧ w'.cell? ⟨kp, 2, none⟩ = some (.slice (some ⟨b1, off, none⟩) m c))) (by kernel_rfl) ?_ (fun hHeld => ?_)
        · exact ⟨a1, a2, d1, d2, k1, k2, k3⟩
        replace RI := RI.drew
        replace RD := RD.drew
        replace RP := RP.drew
        replace KB := KB.drew
        replace KD := KD.drew
        replace KN := KN.drew
        replace cc : CurOk vx.drew B0 p := cc
        replace OW : vx.drew.ownsRow w1.heap.size 42 2 (.slice (some ⟨b1, off, none⟩) m c) m (srow M m) := OW
        replace B := Below.drew B
        (clear a0 a1 a2 a3 a4 d0 d1 d2 d3 d4 k0 k1 k2 k3 k4 k5 k6)
        generalize vx.drew = vx at *
        (obtain ⟨a0, a1, a2, a3, a4⟩ := id KN); (obtain ⟨d0, d1, d2, d3, d4⟩ := id KD); (obtain ⟨k0, k1, k2, k3, k4, k5, k6⟩ := id KB)
        refine wpAnyH_take (i := 0) (v := ?_) (by rw [List.getElem?_toArray]; rfl) (by kernel_rfl) (by kernel_rfl) (by kernel_rfl) (by intro _ _ _ h; exact h) (Or.inl ⟨by rfl, ?_⟩) (by assumption) ?_
        rotate_left
        · (intro w hSw; (try dsimp only at hSw); go_simp; all_goals with_reducible rfl)
        (try simp only [Act.put, List.setIfInBounds_toArray, List.set_cons_zero, List.set_cons_succ])
        refine wpAnyH_take (i := 1) (v := ?_) (by rw [List.getElem?_toArray]; rfl) (by kernel_rfl) (by kernel_rfl) (by kernel_rfl) (by intro _ _ _ h; exact h) (Or.inl ⟨by rfl, ?_⟩) (by assumption) ?_
        rotate_left
        · (intro w hSw; (try dsimp only at hSw); go_simp; all_goals with_reducible rfl)
        (try simp only [Act.put, List.setIfInBounds_toArray, List.set_cons_zero, List.set_cons_succ])
        refine wpAnyH_take (i := 4) (v := ?_) (by rw [List.getElem?_toArray]; rfl) (by kernel_rfl) (by kernel_rfl) (by kernel_rfl) (by intro _ _ _ h; exact h) (Or.inl ⟨by rfl, ?_⟩) (by assumption) ?_
        rotate_left
        · (intro w hSw; (try dsimp only at hSw); go_simp; all_goals with_reducible rfl)
        (try simp only [Act.put, List.setIfInBounds_toArray, List.set_cons_zero, List.set_cons_succ])
        refine wpAnyH_take (i := 5) (v := ?_) (by rw [List.getElem?_toArray]; rfl) (by kernel_rfl) (by kernel_rfl) (by kernel_rfl) (by intro _ _ _ h; exact h) (Or.inl ⟨by rfl, ?_⟩) (by assumption) ?_
        rotate_left
        · (intro w hSw; (try dsimp only at hSw); go_simp; all_goals with_reducible rfl)
        (try simp only [Act.put, List.setIfInBounds_toArray, List.set_cons_zero, List.set_cons_succ])
        refine wpAnyH_take (i := 7) (v := ?_) (by rw [List.getElem?_toArray]; rfl) (by kernel_rfl) (by kernel_rfl) (by kernel_rfl) (by intro _ _ _ h; exact h) (Or.inl ⟨by rfl, ?_⟩) (by assumption) ?_
        rotate_left
        · (intro w hSw; (try dsimp only at hSw); go_simp; all_goals with_reducible rfl)
        (try simp only [Act.put, List.setIfInBounds_toArray, List.set_cons_zero, List.set_cons_succ])
        refine wpAnyH_take (i := 8) (v := ?_) (by rw [List.getElem?_toArray]; rfl) (by kernel_rfl) (by kernel_rfl) (by kernel_rfl) (by intro _ _ _ h; exact h) (Or.inl ⟨by rfl, ?_⟩) (by assumption) ?_
        rotate_left
        · (intro w hSw; (try dsimp only at hSw); go_simp; all_goals with_reducible rfl)
        (try simp only [Act.put, List.setIfInBounds_toArray, List.set_cons_zero, List.set_cons_succ])
        refine wpAnyH_ready (rs := [2]) (by kernel_rfl) (by simp) ?_
        refine (AllReadyH.cons (by rw [List.getElem?_toArray]; rfl) (fun K hK => ?_) AllReadyH.nil)
        go_simp
        refine (l1Once_any B0 p 9 _ cc).mono ?_; rintro e vx ⟨q9, rfl, nc, bb⟩; (clear a0 a1 a2 a3 a4 d0 d1 d2 d3 d4 k0 k1 k2 k3 k4 k5 k6); (replace cc := nc); (clear nc); (replace RI := RI.but bb h0p); (replace RD := RD.but bb h1p); (replace RP := RP.but bb h2p); (replace KB := KB.but bb hkp); (replace KD := KD.but bb hdp); (replace KN := KN.but bb hnp); (replace OW := own_butK OW bb hpo); (replace B := B.trans (bb.below hwp B.size)); (clear bb); (obtain ⟨a0, a1, a2, a3, a4⟩ := id KN); (obtain ⟨d0, d1, d2, d3, d4⟩ := id KD); (obtain ⟨k0, k1, k2, k3, k4, k5, k6⟩ := id KB)
        (try go_wp2_with fail)
        refine hK.out _ _ ?_ (fun hHeld => ?_)
        · exact ⟨a1, a2, d1, d2, k1, k2, k3⟩
        clear hK K
        (try simp only [Act.put, List.setIfInBounds_toArray, List.set_cons_zero, List.set_cons_succ])
        refine wpAnyH_take (i := 3) (v := ?_) (by rw [List.getElem?_toArray]; rfl) (by kernel_rfl) (by kernel_rfl) (by kernel_rfl) (by intro _ _ _ h; exact h) (Or.inl ⟨by rfl, ?_⟩) (by assumption) ?_
        rotate_left
        · (intro w hSw; (try dsimp only at hSw); go_simp; all_goals with_reducible rfl)
        (try simp only [Act.put, List.setIfInBounds_toArray, List.set_cons_zero, List.set_cons_succ])
        refine wpAnyH_ready (rs := [6]) (by kernel_rfl) (by simp) ?_
        refine (AllReadyH.cons (by rw [List.getElem?_toArray]; rfl) (fun K hK => ?_) AllReadyH.nil)
        go_simp
        refine (l14DrawLong_any B0 p _ cc).mono ?_; rintro e vx ⟨x, rfl, nc, bb⟩; (clear a0 a1 a2 a3 a4 d0 d1 d2 d3 d4 k0 k1 k2 k3 k4 k5 k6); (replace cc := nc); (clear nc); (replace RI := RI.but bb h0p); (replace RD := RD.but bb h1p); (replace RP := RP.but bb h2p); (replace KB := KB.but bb hkp); (replace KD := KD.but bb hdp); (replace KN := KN.but bb hnp); (replace OW := own_butK OW bb hpo); (replace B := B.trans (bb.below hwp B.size)); (clear bb); (obtain ⟨r0, r1, r2, r3, r4⟩ := id RI); (obtain ⟨t0, t1, t2, t3, t4⟩ := id RD); (obtain ⟨u0, u1, u2, u3, u4, u5, u6⟩ := id RP); (obtain ⟨a0, a1, a2, a3, a4⟩ := id KN); (obtain ⟨d0, d1, d2, d3, d4⟩ := id KD); (obtain ⟨k0, k1, k2, k3, k4, k5, k6⟩ := id KB)
        (try go_wp2_with fail)
        refine hK.out _ _ ?_ (fun hHeld => ?_)
        · exact ⟨a1, a2, d1, d2, k1, k2, k3⟩
        clear hK K
        (try simp only [Act.put, List.setIfInBounds_toArray, List.set_cons_zero, List.set_cons_succ])
        refine wpAnyH_ready (rs := [9]) (by kernel_rfl) (by simp) ?_
        refine (AllReadyH.cons (by rw [List.getElem?_toArray]; rfl) (fun K hK => ?_) AllReadyH.nil)
        go_simp
        (clear a0 a1 a2 a3 a4 d0 d1 d2 d3 d4 k0 k1 k2 k3 k4 k5 k6); (clear r0 r1 r2 r3 r4 t0 t1 t2 t3 t4 u0 u1 u2 u3 u4 u5 u6); (replace RI := ((RI.set0 (.int .i64 lo)).set1 (.int .i64 hi))); (replace RD := ((RD.setO n01 0 (.int .i64 lo)).setO n01 1 (.int .i64 hi))); (replace RP := ((RP.setO n02 0 (.int .i64 lo)).setO n02 1 (.int .i64 hi))); (replace KB := ((KB.setO n0k 0 (.int .i64 lo)).setO n0k 1 (.int .i64 hi))); (replace KD := ((KD.setO n0d 0 (.int .i64 lo)).setO n0d 1 (.int .i64 hi))); (replace KN := ((KN.setO n0n 0 (.int .i64 lo)).setO n0n 1 (.int .i64 hi))); (replace OW := own_butK OW (((But.refl w.heap.size vx).setCell 0 (.int .i64 lo)).setCell 1 (.int .i64 hi)) h0b); (replace B := ((B.setCell (p := ⟨w.heap.size, 0, none⟩) h0w (.int .i64 lo)).setCell (p := ⟨w.heap.size, 1, none⟩) h0w (.int .i64 hi))); (clear cc); (generalize ((vx.setCell ⟨w.heap.size, 0, none⟩ (.int .i64 lo)).setCell ⟨w.heap.size, 1, none⟩ (.int .i64 hi)) = vx at *); (obtain ⟨r0, r1, r2, r3, r4⟩ := id RI); (obtain ⟨t0, t1, t2, t3, t4⟩ := id RD); (obtain ⟨u0, u1, u2, u3, u4, u5, u6⟩ := id RP); (obtain ⟨a0, a1, a2, a3, a4⟩ := id KN); (obtain ⟨d0, d1, d2, d3, d4⟩ := id KD); (obtain ⟨k0, k1, k2, k3, k4, k5, k6⟩ := id KB)
        refine hK.out _ _ ?_ (fun hHeld => ?_)
        · exact ⟨a1, a2, d1, d2, k1, k2, k3⟩
        clear hK K
        (try simp only [Act.put, List.setIfInBounds_toArray, List.set_cons_zero, List.set_cons_succ])
        refine wpAnyH_take (i := 10) (v := ?_) (by rw [List.getElem?_toArray]; rfl) (by kernel_rfl) (by kernel_rfl) (by kernel_rfl) (by intro _ _ _ h; exact h) (Or.inl ⟨by rfl, ?_⟩) (by assumption) ?_
        rotate_left
        · (intro w hSw; (try dsimp only at hSw); go_simp; all_goals with_reducible rfl)
        (try simp only [Act.put, List.setIfInBounds_toArray, List.set_cons_zero, List.set_cons_succ])
        refine wpAnyH_ready (rs := [11]) (by kernel_rfl) (by simp) ?_
        refine (AllReadyH.cons (by rw [List.getElem?_toArray]; rfl) (fun K hK => ?_) AllReadyH.nil)
        go_simp
        (clear a0 a1 a2 a3 a4 d0 d1 d2 d3 d4 k0 k1 k2 k3 k4 k5 k6); (clear r0 r1 r2 r3 r4 t0 t1 t2 t3 t4 u0 u1 u2 u3 u4 u5 u6); (replace RD := ((RD.set0 (.int .i64 n)).set1 (.int .i64 d))); (replace RI := ((RI.setO n10 0 (.int .i64 n)).setO n10 1 (.int .i64 d))); (replace RP := ((RP.setO n12 0 (.int .i64 n)).setO n12 1 (.int .i64 d))); (replace KB := ((KB.setO n1k 0 (.int .i64 n)).setO n1k 1 (.int .i64 d))); (replace KD := ((KD.setO n1d 0 (.int .i64 n)).setO n1d 1 (.int .i64 d))); (replace KN := ((KN.setO n1n 0 (.int .i64 n)).setO n1n 1 (.int .i64 d))); (replace OW := own_butK OW (((But.refl j1 vx).setCell 0 (.int .i64 n)).setCell 1 (.int .i64 d)) h1b); (replace B := ((B.setCell (p := ⟨j1, 0, none⟩) h1w (.int .i64 n)).setCell (p := ⟨j1, 1, none⟩) h1w (.int .i64 d))); (generalize ((vx.setCell ⟨j1, 0, none⟩ (.int .i64 n)).setCell ⟨j1, 1, none⟩ (.int .i64 d)) = vx at *); (obtain ⟨r0, r1, r2, r3, r4⟩ := id RI); (obtain ⟨t0, t1, t2, t3, t4⟩ := id RD); (obtain ⟨u0, u1, u2, u3, u4, u5, u6⟩ := id RP); (obtain ⟨a0, a1, a2, a3, a4⟩ := id KN); (obtain ⟨d0, d1, d2, d3, d4⟩ := id KD); (obtain ⟨k0, k1, k2, k3, k4, k5, k6⟩ := id KB)
        refine hK.out _ _ ?_ (fun hHeld => ?_)
        · exact ⟨a1, a2, d1, d2, k1, k2, k3⟩
        clear hK K
        (try simp only [Act.put, List.setIfInBounds_toArray, List.set_cons_zero, List.set_cons_succ])
        refine wpAnyH_take (i := 12) (v := ?_) (by rw [List.getElem?_toArray]; rfl) (by kernel_rfl) (by kernel_rfl) (by kernel_rfl) (by intro _ _ _ h; exact h) (Or.inl ⟨by rfl, ?_⟩) (by assumption) ?_
        rotate_left
        · (intro w hSw; (try dsimp only at hSw); go_simp; all_goals with_reducible rfl)
        (try simp only [Act.put, List.setIfInBounds_toArray, List.set_cons_zero, List.set_cons_succ])
        refine wpAnyH_ready (rs := [13]) (by kernel_rfl) (by simp) ?_
        refine (AllReadyH.cons (by rw [List.getElem?_toArray]; rfl) (fun K hK => ?_) AllReadyH.nil)
        go_simp
        (clear a0 a1 a2 a3 a4 d0 d1 d2 d3 d4 k0 k1 k2 k3 k4 k5 k6); (clear r0 r1 r2 r3 r4 t0 t1 t2 t3 t4 u0 u1 u2 u3 u4 u5 u6); (replace RP := (((RP.set0 (.int .i64 s)).set1 (.int .i64 g)).set2 (.slice (some ⟨b1, off, none⟩) m c))); (replace RI := (((RI.setO n20 0 (.int .i64 s)).setO n20 1 (.int .i64 g)).setO n20 2 (.slice (some ⟨b1, off, none⟩) m c))); (replace RD := (((RD.setO n21 0 (.int .i64 s)).setO n21 1 (.int .i64 g)).setO n21 2 (.slice (some ⟨b1, off, none⟩) m c))); (replace KB := (((KB.setO n2k 0 (.int .i64 s)).setO n2k 1 (.int .i64 g)).setO n2k 2 (.slice (some ⟨b1, off, none⟩) m c))); (replace KD := (((KD.setO n2d 0 (.int .i64 s)).setO n2d 1 (.int .i64 g)).setO n2d 2 (.slice (some ⟨b1, off, none⟩) m c))); (replace KN := (((KN.setO n2n 0 (.int .i64 s)).setO n2n 1 (.int .i64 g)).setO n2n 2 (.slice (some ⟨b1, off, none⟩) m c))); (replace OW := own_butK OW ((((But.refl j2 vx).setCell 0 (.int .i64 s)).setCell 1 (.int .i64 g)).setCell 2 (.slice (some ⟨b1, off, none⟩) m c)) h2b); (replace B := (((B.setCell (p := ⟨j2, 0, none⟩) h2w (.int .i64 s)).setCell (p := ⟨j2, 1, none⟩) h2w (.int .i64 g)).setCell (p := ⟨j2, 2, none⟩) h2w (.slice (some ⟨b1, off, none⟩) m c))); (generalize (((vx.setCell ⟨j2, 0, none⟩ (.int .i64 s)).setCell ⟨j2, 1, none⟩ (.int .i64 g)).setCell ⟨j2, 2, none⟩ (.slice (some ⟨b1, off, none⟩) m c)) = vx at *); (obtain ⟨r0, r1, r2, r3, r4⟩ := id RI); (obtain ⟨t0, t1, t2, t3, t4⟩ := id RD); (obtain ⟨u0, u1, u2, u3, u4, u5, u6⟩ := id RP); (obtain ⟨a0, a1, a2, a3, a4⟩ := id KN); (obtain ⟨d0, d1, d2, d3, d4⟩ := id KD); (obtain ⟨k0, k1, k2, k3, k4, k5, k6⟩ := id KB)
        refine hK.out _ _ ?_ (fun hHeld => ?_)
        · exact ⟨a1, a2, d1, d2, k1, k2, k3⟩
        clear hK K
        (try simp only [Act.put, List.setIfInBounds_toArray, List.set_cons_zero, List.set_cons_succ])
        refine wpAnyH_take (i := 14) (v := ?_) (by rw [List.getElem?_toArray]; rfl) (by kernel_rfl) (by kernel_rfl) (by kernel_rfl) (by intro _ _ _ h; exact h) (Or.inl ⟨by rfl, ?_⟩) (by assumption) ?_
        rotate_left
        · (intro w hSw; (try dsimp only at hSw); go_simp; all_goals with_reducible rfl)
        (try simp only [Act.put, List.setIfInBounds_toArray, List.set_cons_zero, List.set_cons_succ])
        refine wpAnyH_done (by kernel_rfl) ?_ _
        go_wp2_with fail
        exact bodyPost_ret (v := (.tuple #[.agg #[.int .i64 lo, .int .i64 hi], .bool (!q9), .agg #[.int .i64 n, .int .i64 d], .int .i64 x, .agg #[.int .i64 s, .int .i64 g, .slice (some ⟨b1, off, none⟩) m c], .int .i64 oo])) (by simp (maxDischargeDepth := 6) [results, Tryd.results11, go_sem, *]) rfl ⟨lo, hi, !q9, n, d, x, s, g, some ⟨b1, off, none⟩, m, c, M, oo, rfl, hm13, own_baseI OW hwo, B⟩
      · go_wp2_with fail
        refine (pick2 B0 p vx _ _ cc).mono ?_
        rintro e vx ⟨ow2, rfl, nc, bb⟩
        replace cc := nc
        clear nc
        replace RI := RI.but bb h0p
        replace RD := RD.but bb h1p
        replace RP := RP.but bb h2p
        replace KB := KB.but bb hkp
        replace KD := KD.but bb hdp
        replace KN := KN.but bb hnp
        replace OW := own_butK OW bb hpo
        replace B := B.trans (bb.below hwp B.size)
        clear bb
        have n0k : w.heap.size ≠ kp := by omega
        have n0d : w.heap.size ≠ kd := by omega
        have n0n : w.heap.size ≠ kn := by omega
        have n1k : j1 ≠ kp := by omega
        have n1d : j1 ≠ kd := by omega
        have n1n : j1 ≠ kn := by omega
        have n2k : j2 ≠ kp := by omega
        have n2d : j2 ≠ kd := by omega
        have n2n : j2 ≠ kn := by omega
        (obtain ⟨a0, a1, a2, a3, a4⟩ := id KN); (obtain ⟨d0, d1, d2, d3, d4⟩ := id KD); (obtain ⟨k0, k1, k2, k3, k4, k5, k6⟩ := id KB)
        go_upto_region 12 with fail
        refine wp_region_held_drew (S := (fun w' => w'.cell? ⟨kn, 0, none⟩ = some (.int .i64 lo) ∧ w'.cell? ⟨kn, 1, none⟩ = some (.int .i64 hi) ∧ w'.cell? ⟨kd, 0, none⟩ = some (.int .i64 n) ∧ w'.cell? ⟨kd, 1, none⟩ = some (.int .i64 d) ∧ w'.cell? ⟨kp, 0, none⟩ = some (.int .i64 s) ∧ w'.cell? ⟨kp, 1, none⟩ = some (.int .i64 g) ∧ w'.cell? ⟨kp, 2, none⟩ = some (.slice (some ⟨b1, off, none⟩) m c))) (by kernel_rfl) ?_ (fun hHeld => ?_)
        · exact ⟨a1, a2, d1, d2, k1, k2, k3⟩
        replace RI := RI.drew
        replace RD := RD.drew
        replace RP := RP.drew
        replace KB := KB.drew
        replace KD := KD.drew
        replace KN := KN.drew
        replace cc : CurOk vx.drew B0 p := cc
        replace OW : vx.drew.ownsRow w1.heap.size 42 2 (.slice (some ⟨b1, off, none⟩) m c) m (srow M m) := OW
        replace B := Below.drew B
        (clear a0 a1 a2 a3 a4 d0 d1 d2 d3 d4 k0 k1 k2 k3 k4 k5 k6)
        generalize vx.drew = vx at *
        (obtain ⟨a0, a1, a2, a3, a4⟩ := id KN); (obtain ⟨d0, d1, d2, d3, d4⟩ := id KD); (obtain ⟨k0, k1, k2, k3, k4, k5, k6⟩ := id KB)
        refine wpAnyH_take (i := 0) (v := ?_) (by rw [List.getElem?_toArray]; rfl) (by kernel_rfl) (by kernel_rfl) (by kernel_rfl) (by intro _ _ _ h; exact h) (Or.inl ⟨by rfl, ?_⟩) (by assumption) ?_
        rotate_left
        · (intro w hSw; (try dsimp only at hSw); go_simp; all_goals with_reducible rfl)
        (try simp only [Act.put, List.setIfInBounds_toArray, List.set_cons_zero, List.set_cons_succ])
        refine wpAnyH_take (i := 1) (v := ?_) (by rw [List.getElem?_toArray]; rfl) (by kernel_rfl) (by kernel_rfl) (by kernel_rfl) (by intro _ _ _ h; exact h) (Or.inl ⟨by rfl, ?_⟩) (by assumption) ?_
        rotate_left
        · (intro w hSw; (try dsimp only at hSw); go_simp; all_goals with_reducible rfl)
        (try simp only [Act.put, List.setIfInBounds_toArray, List.set_cons_zero, List.set_cons_succ])
        refine wpAnyH_take (i := 4) (v := ?_) (by rw [List.getElem?_toArray]; rfl) (by kernel_rfl) (by kernel_rfl) (by kernel_rfl) (by intro _ _ _ h; exact h) (Or.inl ⟨by rfl, ?_⟩) (by assumption) ?_
        rotate_left
        · (intro w hSw; (try dsimp only at hSw); go_simp; all_goals with_reducible rfl)
        (try simp only [Act.put, List.setIfInBounds_toArray, List.set_cons_zero, List.set_cons_succ])
        refine wpAnyH_take (i := 5) (v := ?_) (by rw [List.getElem?_toArray]; rfl) (by kernel_rfl) (by kernel_rfl) (by kernel_rfl) (by intro _ _ _ h; exact h) (Or.inl ⟨by rfl, ?_⟩) (by assumption) ?_
        rotate_left
        · (intro w hSw; (try dsimp only at hSw); go_simp; all_goals with_reducible rfl)
        (try simp only [Act.put, List.setIfInBounds_toArray, List.set_cons_zero, List.set_cons_succ])
        refine wpAnyH_take (i := 7) (v := ?_) (by rw [List.getElem?_toArray]; rfl) (by kernel_rfl) (by kernel_rfl) (by kernel_rfl) (by intro _ _ _ h; exact h) (Or.inl ⟨by rfl, ?_⟩) (by assumption) ?_
        rotate_left
        · (intro w hSw; (try dsimp only at hSw); go_simp; all_goals with_reducible rfl)
        (try simp only [Act.put, List.setIfInBounds_toArray, List.set_cons_zero, List.set_cons_succ])
        refine wpAnyH_take (i := 8) (v := ?_) (by rw [List.getElem?_toArray]; rfl) (by kernel_rfl) (by kernel_rfl) (by kernel_rfl) (by intro _ _ _ h; exact h) (Or.inl ⟨by rfl, ?_⟩) (by assumption) ?_
        rotate_left
        · (intro w hSw; (try dsimp only at hSw); go_simp; all_goals with_reducible rfl)
        (try simp only [Act.put, List.setIfInBounds_toArray, List.set_cons_zero, List.set_cons_succ])
        refine wpAnyH_ready (rs := [2]) (by kernel_rfl) (by simp) ?_
        refine (AllReadyH.cons (by rw [List.getElem?_toArray]; rfl) (fun K hK => ?_) AllReadyH.nil)
        go_simp
        refine (l1Once_any B0 p 9 _ cc).mono ?_; rintro e vx ⟨q9, rfl, nc, bb⟩; (clear a0 a1 a2 a3 a4 d0 d1 d2 d3 d4 k0 k1 k2 k3 k4 k5 k6); (replace cc := nc); (clear nc); (replace RI := RI.but bb h0p); (replace RD := RD.but bb h1p); (replace RP := RP.but bb h2p); (replace KB := KB.but bb hkp); (replace KD := KD.but bb hdp); (replace KN := KN.but bb hnp); (replace OW := own_butK OW bb hpo); (replace B := B.trans (bb.below hwp B.size)); (clear bb); (obtain ⟨a0, a1, a2, a3, a4⟩ := id KN); (obtain ⟨d0, d1, d2, d3, d4⟩ := id KD); (obtain ⟨k0, k1, k2, k3, k4, k5, k6⟩ := id KB)
        (try go_wp2_with fail)
        refine hK.out _ _ ?_ (fun hHeld => ?_)
        · exact ⟨a1, a2, d1, d2, k1, k2, k3⟩
        clear hK K
        (try simp only [Act.put, List.setIfInBounds_toArray, List.set_cons_zero, List.set_cons_succ])
        refine wpAnyH_take (i := 3) (v := ?_) (by rw [List.getElem?_toArray]; rfl) (by kernel_rfl) (by kernel_rfl) (by kernel_rfl) (by intro _ _ _ h; exact h) (Or.inl ⟨by rfl, ?_⟩) (by assumption) ?_
        rotate_left
        · (intro w hSw; (try dsimp only at hSw); go_simp; all_goals with_reducible rfl)
        (try simp only [Act.put, List.setIfInBounds_toArray, List.set_cons_zero, List.set_cons_succ])
        refine wpAnyH_ready (rs := [6]) (by kernel_rfl) (by simp) ?_
        refine (AllReadyH.cons (by rw [List.getElem?_toArray]; rfl) (fun K hK => ?_) AllReadyH.nil)
        go_simp
        refine (l14DrawLong_any B0 p _ cc).mono ?_; rintro e vx ⟨x, rfl, nc, bb⟩; (clear a0 a1 a2 a3 a4 d0 d1 d2 d3 d4 k0 k1 k2 k3 k4 k5 k6); (replace cc := nc); (clear nc); (replace RI := RI.but bb h0p); (replace RD := RD.but bb h1p); (replace RP := RP.but bb h2p); (replace KB := KB.but bb hkp); (replace KD := KD.but bb hdp); (replace KN := KN.but bb hnp); (replace OW := own_butK OW bb hpo); (replace B := B.trans (bb.below hwp B.size)); (clear bb); (obtain ⟨r0, r1, r2, r3, r4⟩ := id RI); (obtain ⟨t0, t1, t2, t3, t4⟩ := id RD); (obtain ⟨u0, u1, u2, u3, u4, u5, u6⟩ := id RP); (obtain ⟨a0, a1, a2, a3, a4⟩ := id KN); (obtain ⟨d0, d1, d2, d3, d4⟩ := id KD); (obtain ⟨k0, k1, k2, k3, k4, k5, k6⟩ := id KB)
        (try go_wp2_with fail)
        refine hK.out _ _ ?_ (fun hHeld => ?_)
        · exact ⟨a1, a2, d1, d2, k1, k2, k3⟩
        clear hK K
        (try simp only [Act.put, List.setIfInBounds_toArray, List.set_cons_zero, List.set_cons_succ])
        refine wpAnyH_ready (rs := [9]) (by kernel_rfl) (by simp) ?_
        refine (AllReadyH.cons (by rw [List.getElem?_toArray]; rfl) (fun K hK => ?_) AllReadyH.nil)
        go_simp
        (clear a0 a1 a2 a3 a4 d0 d1 d2 d3 d4 k0 k1 k2 k3 k4 k5 k6); (clear r0 r1 r2 r3 r4 t0 t1 t2 t3 t4 u0 u1 u2 u3 u4 u5 u6); (replace RI := ((RI.set0 (.int .i64 lo)).set1 (.int .i64 hi))); (replace RD := ((RD.setO n01 0 (.int .i64 lo)).setO n01 1 (.int .i64 hi))); (replace RP := ((RP.setO n02 0 (.int .i64 lo)).setO n02 1 (.int .i64 hi))); (replace KB := ((KB.setO n0k 0 (.int .i64 lo)).setO n0k 1 (.int .i64 hi))); (replace KD := ((KD.setO n0d 0 (.int .i64 lo)).setO n0d 1 (.int .i64 hi))); (replace KN := ((KN.setO n0n 0 (.int .i64 lo)).setO n0n 1 (.int .i64 hi))); (replace OW := own_butK OW (((But.refl w.heap.size vx).setCell 0 (.int .i64 lo)).setCell 1 (.int .i64 hi)) h0b); (replace B := ((B.setCell (p := ⟨w.heap.size, 0, none⟩) h0w (.int .i64 lo)).setCell (p := ⟨w.heap.size, 1, none⟩) h0w (.int .i64 hi))); (clear cc); (generalize ((vx.setCell ⟨w.heap.size, 0, none⟩ (.int .i64 lo)).setCell ⟨w.heap.size, 1, none⟩ (.int .i64 hi)) = vx at *); (obtain ⟨r0, r1, r2, r3, r4⟩ := id RI); (obtain ⟨t0, t1, t2, t3, t4⟩ := id RD); (obtain ⟨u0, u1, u2, u3, u4, u5, u6⟩ := id RP); (obtain ⟨a0, a1, a2, a3, a4⟩ := id KN); (obtain ⟨d0, d1, d2, d3, d4⟩ := id KD); (obtain ⟨k0, k1, k2, k3, k4, k5, k6⟩ := id KB)
        refine hK.out _ _ ?_ (fun hHeld => ?_)
        · exact ⟨a1, a2, d1, d2, k1, k2, k3⟩
        clear hK K
        (try simp only [Act.put, List.setIfInBounds_toArray, List.set_cons_zero, List.set_cons_succ])
        refine wpAnyH_take (i := 10) (v := ?_) (by rw [List.getElem?_toArray]; rfl) (by kernel_rfl) (by kernel_rfl) (by kernel_rfl) (by intro _ _ _ h; exact h) (Or.inl ⟨by rfl, ?_⟩) (by assumption) ?_
        rotate_left
        · (intro w hSw; (try dsimp only at hSw); go_simp; all_goals with_reducible rfl)
        (try simp only [Act.put, List.setIfInBounds_toArray, List.set_cons_zero, List.set_cons_succ])
        refine wpAnyH_ready (rs := [11]) (by kernel_rfl) (by simp) ?_
        refine (AllReadyH.cons (by rw [List.getElem?_toArray]; rfl) (fun K hK => ?_) AllReadyH.nil)
        go_simp
        (clear a0 a1 a2 a3 a4 d0 d1 d2 d3 d4 k0 k1 k2 k3 k4 k5 k6); (clear r0 r1 r2 r3 r4 t0 t1 t2 t3 t4 u0 u1 u2 u3 u4 u5 u6); (replace RD := ((RD.set0 (.int .i64 n)).set1 (.int .i64 d))); (replace RI := ((RI.setO n10 0 (.int .i64 n)).setO n10 1 (.int .i64 d))); (replace RP := ((RP.setO n12 0 (.int .i64 n)).setO n12 1 (.int .i64 d))); (replace KB := ((KB.setO n1k 0 (.int .i64 n)).setO n1k 1 (.int .i64 d))); (replace KD := ((KD.setO n1d 0 (.int .i64 n)).setO n1d 1 (.int .i64 d))); (replace KN := ((KN.setO n1n 0 (.int .i64 n)).setO n1n 1 (.int .i64 d))); (replace OW := own_butK OW (((But.refl j1 vx).setCell 0 (.int .i64 n)).setCell 1 (.int .i64 d)) h1b); (replace B := ((B.setCell (p := ⟨j1, 0, none⟩) h1w (.int .i64 n)).setCell (p := ⟨j1, 1, none⟩) h1w (.int .i64 d))); (generalize ((vx.setCell ⟨j1, 0, none⟩ (.int .i64 n)).setCell ⟨j1, 1, none⟩ (.int .i64 d)) = vx at *); (obtain ⟨r0, r1, r2, r3, r4⟩ := id RI); (obtain ⟨t0, t1, t2, t3, t4⟩ := id RD); (obtain ⟨u0, u1, u2, u3, u4, u5, u6⟩ := id RP); (obtain ⟨a0, a1, a2, a3, a4⟩ := id KN); (obtain ⟨d0, d1, d2, d3, d4⟩ := id KD); (obtain ⟨k0, k1, k2, k3, k4, k5, k6⟩ := id KB)
        refine hK.out _ _ ?_ (fun hHeld => ?_)
        · exact ⟨a1, a2, d1, d2, k1, k2, k3⟩
        clear hK K
        (try simp only [Act.put, List.setIfInBounds_toArray, List.set_cons_zero, List.set_cons_succ])
        refine wpAnyH_take (i := 12) (v := ?_) (by rw [List.getElem?_toArray]; rfl) (by kernel_rfl) (by kernel_rfl) (by kernel_rfl) (by intro _ _ _ h; exact h) (Or.inl ⟨by rfl, ?_⟩) (by assumption) ?_
        rotate_left
        · (intro w hSw; (try dsimp only at hSw); go_simp; all_goals with_reducible rfl)
        (try simp only [Act.put, List.setIfInBounds_toArray, List.set_cons_zero, List.set_cons_succ])
        refine wpAnyH_ready (rs := [13]) (by kernel_rfl) (by simp) ?_
        refine (AllReadyH.cons (by rw [List.getElem?_toArray]; rfl) (fun K hK => ?_) AllReadyH.nil)
        go_simp
        (clear a0 a1 a2 a3 a4 d0 d1 d2 d3 d4 k0 k1 k2 k3 k4 k5 k6); (clear r0 r1 r2 r3 r4 t0 t1 t2 t3 t4 u0 u1 u2 u3 u4 u5 u6); (replace RP := (((RP.set0 (.int .i64 s)).set1 (.int .i64 g)).set2 (.slice (some ⟨b1, off, none⟩) m c))); (replace RI := (((RI.setO n20 0 (.int .i64 s)).setO n20 1 (.int .i64 g)).setO n20 2 (.slice (some ⟨b1, off, none⟩) m c))); (replace RD := (((RD.setO n21 0 (.int .i64 s)).setO n21 1 (.int .i64 g)).setO n21 2 (.slice (some ⟨b1, off, none⟩) m c))); (replace KB := (((KB.setO n2k 0 (.int .i64 s)).setO n2k 1 (.int .i64 g)).setO n2k 2 (.slice (some ⟨b1, off, none⟩) m c))); (replace KD := (((KD.setO n2d 0 (.int .i64 s)).setO n2d 1 (.int .i64 g)).setO n2d 2 (.slice (some ⟨b1, off, none⟩) m c))); (replace KN := (((KN.setO n2n 0 (.int .i64 s)).setO n2n 1 (.int .i64 g)).setO n2n 2 (.slice (some ⟨b1, off, none⟩) m c))); (replace OW := own_butK OW ((((But.refl j2 vx).setCell 0 (.int .i64 s)).setCell 1 (.int .i64 g)).setCell 2 (.slice (some ⟨b1, off, none⟩) m c)) h2b); (replace B := (((B.setCell (p := ⟨j2, 0, none⟩) h2w (.int .i64 s)).setCell (p := ⟨j2, 1, none⟩) h2w (.int .i64 g)).setCell (p := ⟨j2, 2, none⟩) h2w (.slice (some ⟨b1, off, none⟩) m c))); (generalize (((vx.setCell ⟨j2, 0, none⟩ (.int .i64 s)).setCell ⟨j2, 1, none⟩ (.int .i64 g)).setCell ⟨j2, 2, none⟩ (.slice (some ⟨b1, off, none⟩) m c)) = vx at *); (obtain ⟨r0, r1, r2, r3, r4⟩ := id RI); (obtain ⟨t0, t1, t2, t3, t4⟩ := id RD); (obtain ⟨u0, u1, u2, u3, u4, u5, u6⟩ := id RP); (obtain ⟨a0, a1, a2, a3, a4⟩ := id KN); (obtain ⟨d0, d1, d2, d3, d4⟩ := id KD); (obtain ⟨k0, k1, k2, k3, k4, k5, k6⟩ := id KB)
        refine hK.out _ _ ?_ (fun hHeld => ?_)
        · exact ⟨a1, a2, d1, d2, k1, k2, k3⟩
        clear hK K
        (try simp only [Act.put, List.setIfInBounds_toArray, List.set_cons_zero, List.set_cons_succ])
        refine wpAnyH_take (i := 14) (v := ?_) (by rw [List.getElem?_toArray]; rfl) (by kernel_rfl) (by kernel_rfl) (by kernel_rfl) (by intro _ _ _ h; exact h) (Or.inl ⟨by rfl, ?_⟩) (by assumption) ?_
        rotate_left
        · (intro w hSw; (try dsimp only at hSw); go_simp; all_goals with_reducible rfl)
        (try simp only [Act.put, List.setIfInBounds_toArray, List.set_cons_zero, List.set_cons_succ])
        refine wpAnyH_done (by kernel_rfl) ?_ _
        go_wp2_with fail
        exact bodyPost_ret (v := (.tuple #[.agg #[.int .i64 lo, .int .i64 hi], .bool (!q9), .agg #[.int .i64 n, .int .i64 d], .int .i64 x, .agg #[.int .i64 s, .int .i64 g, .slice (some ⟨b1, off, none⟩) m c], .int .i64 ow2])) (by simp (maxDischargeDepth := 6) [results, Tryd.results11, go_sem, *]) rfl ⟨lo, hi, !q9, n, d, x, s, g, some ⟨b1, off, none⟩, m, c, M, ow2, rfl, hm13, own_baseI OW hwo, B⟩
    · go_wp2_with fail
      refine (l1Once_any B0 p 25 _ cc).mono ?_
      rintro e vx ⟨q25, rfl, nc, bb⟩
      replace cc := nc
      clear nc
      replace RI := RI.but bb h0p
      replace RD := RD.but bb h1p
      replace RP := RP.but bb h2p
      replace KB := KB.but bb hkp
      replace KD := KD.but bb hdp
      replace KN := KN.but bb hnp
      replace OW := own_butK OW bb hpo
      replace B := B.trans (bb.below hwp B.size)
      clear bb
      cases q25
      · (try go_wp2_with fail)
        have n0k : w.heap.size ≠ kp := by omega
        have n0d : w.heap.size ≠ kd := by omega
        have n0n : w.heap.size ≠ kn := by omega
        have n1k : j1 ≠ kp := by omega
        have n1d : j1 ≠ kd := by omega
        have n1n : j1 ≠ kn := by omega
        have n2k : j2 ≠ kp := by omega
        have n2d : j2 ≠ kd := by omega
        have n2n : j2 ≠ kn := by omega
        (obtain ⟨a0, a1, a2, a3, a4⟩ := id KN); (obtain ⟨d0, d1, d2, d3, d4⟩ := id KD); (obtain ⟨k0, k1, k2, k3, k4, k5, k6⟩ := id KB)
        go_upto_region 12 with fail
        refine wp_region_held_drew (S := (fun w' => w'.cell? ⟨kn, 0, none⟩ = some (.int .i64 lo) ∧ w'.cell? ⟨kn, 1, none⟩ = some (.int .i64 hi) ∧ w'.cell? ⟨kd, 0, none⟩ = some (.int .i64 n) ∧ w'.cell? ⟨kd, 1, none⟩ = some (.int .i64 d) ∧ w'.cell? ⟨kp, 0, none⟩ = some (.int .i64 s) ∧ w'.cell? ⟨kp, 1, none⟩ = some (.int .i64 g) ∧ w'.cell? ⟨kp, 2, none⟩ = some (.slice A m c))) (by kernel_rfl) ?_ (fun hHeld => ?_)
        · exact ⟨a1, a2, d1, d2, k1, k2, k3⟩
        replace RI := RI.drew
        replace RD := RD.drew
        replace RP := RP.drew
        replace KB := KB.drew
        replace KD := KD.drew
        replace KN := KN.drew
        replace cc : CurOk vx.drew B0 p := cc
        replace OW : vx.drew.ownsRow w1.heap.size 42 2 (.slice A m c) m (srow M m) := OW
        replace B := Below.drew B
        (clear a0 a1 a2 a3 a4 d0 d1 d2 d3 d4 k0 k1 k2 k3 k4 k5 k6)
        generalize vx.drew = vx at *
        (obtain ⟨a0, a1, a2, a3, a4⟩ := id KN); (obtain ⟨d0, d1, d2, d3, d4⟩ := id KD); (obtain ⟨k0, k1, k2, k3, k4, k5, k6⟩ := id KB)
        refine wpAnyH_take (i := 0) (v := ?_) (by rw [List.getElem?_toArray]; rfl) (by kernel_rfl) (by kernel_rfl) (by kernel_rfl) (by intro _ _ _ h; exact h) (Or.inl ⟨by rfl, ?_⟩) (by assumption) ?_
        rotate_left
        · (intro w hSw; (try dsimp only at hSw); go_simp; all_goals with_reducible rfl)
        (try simp only [Act.put, List.setIfInBounds_toArray, List.set_cons_zero, List.set_cons_succ])
        refine wpAnyH_take (i := 1) (v := ?_) (by rw [List.getElem?_toArray]; rfl) (by kernel_rfl) (by kernel_rfl) (by kernel_rfl) (by intro _ _ _ h; exact h) (Or.inl ⟨by rfl, ?_⟩) (by assumption) ?_
        rotate_left
        · (intro w hSw; (try dsimp only at hSw); go_simp; all_goals with_reducible rfl)
        (try simp only [Act.put, List.setIfInBounds_toArray, List.set_cons_zero, List.set_cons_succ])
        refine wpAnyH_take (i := 4) (v := ?_) (by rw [List.getElem?_toArray]; rfl) (by kernel_rfl) (by kernel_rfl) (by kernel_rfl) (by intro _ _ _ h; exact h) (Or.inl ⟨by rfl, ?_⟩) (by assumption) ?_
        rotate_left
        · (intro w hSw; (try dsimp only at hSw); go_simp; all_goals with_reducible rfl)
        (try simp only [Act.put, List.setIfInBounds_toArray, List.set_cons_zero, List.set_cons_succ])
        refine wpAnyH_take (i := 5) (v := ?_) (by rw [List.getElem?_toArray]; rfl) (by kernel_rfl) (by kernel_rfl) (by kernel_rfl) (by intro _ _ _ h; exact h) (Or.inl ⟨by rfl, ?_⟩) (by assumption) ?_
        rotate_left
        · (intro w hSw; (try dsimp only at hSw); go_simp; all_goals with_reducible rfl)
        (try simp only [Act.put, List.setIfInBounds_toArray, List.set_cons_zero, List.set_cons_succ])
        refine wpAnyH_take (i := 7) (v := ?_) (by rw [List.getElem?_toArray]; rfl) (by kernel_rfl) (by kernel_rfl) (by kernel_rfl) (by intro _ _ _ h; exact h) (Or.inl ⟨by rfl, ?_⟩) (by assumption) ?_
        rotate_left
        · (intro w hSw; (try dsimp only at hSw); go_simp; all_goals with_reducible rfl)
        (try simp only [Act.put, List.setIfInBounds_toArray, List.set_cons_zero, List.set_cons_succ])
        refine wpAnyH_take (i := 8) (v := ?_) (by rw [List.getElem?_toArray]; rfl) (by kernel_rfl) (by kernel_rfl) (by kernel_rfl) (by intro _ _ _ h; exact h) (Or.inl ⟨by rfl, ?_⟩) (by assumption) ?_
        rotate_left
        · (intro w hSw; (try dsimp only at hSw); go_simp; all_goals with_reducible rfl)
        (try simp only [Act.put, List.setIfInBounds_toArray, List.set_cons_zero, List.set_cons_succ])
        refine wpAnyH_ready (rs := [2]) (by kernel_rfl) (by simp) ?_
        refine (AllReadyH.cons (by rw [List.getElem?_toArray]; rfl) (fun K hK => ?_) AllReadyH.nil)
        go_simp
        refine (l1Once_any B0 p 9 _ cc).mono ?_; rintro e vx ⟨q9, rfl, nc, bb⟩; (clear a0 a1 a2 a3 a4 d0 d1 d2 d3 d4 k0 k1 k2 k3 k4 k5 k6); (replace cc := nc); (clear nc); (replace RI := RI.but bb h0p); (replace RD := RD.but bb h1p); (replace RP := RP.but bb h2p); (replace KB := KB.but bb hkp); (replace KD := KD.but bb hdp); (replace KN := KN.but bb hnp); (replace OW := own_butK OW bb hpo); (replace B := B.trans (bb.below hwp B.size)); (clear bb); (obtain ⟨a0, a1, a2, a3, a4⟩ := id KN); (obtain ⟨d0, d1, d2, d3, d4⟩ := id KD); (obtain ⟨k0, k1, k2, k3, k4, k5, k6⟩ := id KB)
        (try go_wp2_with fail)
        refine hK.out _ _ ?_ (fun hHeld => ?_)
        · exact ⟨a1, a2, d1, d2, k1, k2, k3⟩
        clear hK K
        (try simp only [Act.put, List.setIfInBounds_toArray, List.set_cons_zero, List.set_cons_succ])
        refine wpAnyH_take (i := 3) (v := ?_) (by rw [List.getElem?_toArray]; rfl) (by kernel_rfl) (by kernel_rfl) (by kernel_rfl) (by intro _ _ _ h; exact h) (Or.inl ⟨by rfl, ?_⟩) (by assumption) ?_
        rotate_left
        · (intro w hSw; (try dsimp only at hSw); go_simp; all_goals with_reducible rfl)
        (try simp only [Act.put, List.setIfInBounds_toArray, List.set_cons_zero, List.set_cons_succ])
        refine wpAnyH_ready (rs := [6]) (by kernel_rfl) (by simp) ?_
        refine (AllReadyH.cons (by rw [List.getElem?_toArray]; rfl) (fun K hK => ?_) AllReadyH.nil)
        go_simp
        refine (l14DrawLong_any B0 p _ cc).mono ?_; rintro e vx ⟨x, rfl, nc, bb⟩; (clear a0 a1 a2 a3 a4 d0 d1 d2 d3 d4 k0 k1 k2 k3 k4 k5 k6); (replace cc := nc); (clear nc); (replace RI := RI.but bb h0p); (replace RD := RD.but bb h1p); (replace RP := RP.but bb h2p); (replace KB := KB.but bb hkp); (replace KD := KD.but bb hdp); (replace KN := KN.but bb hnp); (replace OW := own_butK OW bb hpo); (replace B := B.trans (bb.below hwp B.size)); (clear bb); (obtain ⟨r0, r1, r2, r3, r4⟩ := id RI); (obtain ⟨t0, t1, t2, t3, t4⟩ := id RD); (obtain ⟨u0, u1, u2, u3, u4, u5, u6⟩ := id RP); (obtain ⟨a0, a1, a2, a3, a4⟩ := id KN); (obtain ⟨d0, d1, d2, d3, d4⟩ := id KD); (obtain ⟨k0, k1, k2, k3, k4, k5, k6⟩ := id KB)
        (try go_wp2_with fail)
        refine hK.out _ _ ?_ (fun hHeld => ?_)
        · exact ⟨a1, a2, d1, d2, k1, k2, k3⟩
        clear hK K
        (try simp only [Act.put, List.setIfInBounds_toArray, List.set_cons_zero, List.set_cons_succ])
        refine wpAnyH_ready (rs := [9]) (by kernel_rfl) (by simp) ?_
        refine (AllReadyH.cons (by rw [List.getElem?_toArray]; rfl) (fun K hK => ?_) AllReadyH.nil)
        go_simp
        (clear a0 a1 a2 a3 a4 d0 d1 d2 d3 d4 k0 k1 k2 k3 k4 k5 k6); (clear r0 r1 r2 r3 r4 t0 t1 t2 t3 t4 u0 u1 u2 u3 u4 u5 u6); (replace RI := ((RI.set0 (.int .i64 lo)).set1 (.int .i64 hi))); (replace RD := ((RD.setO n01 0 (.int .i64 lo)).setO n01 1 (.int .i64 hi))); (replace RP := ((RP.setO n02 0 (.int .i64 lo)).setO n02 1 (.int .i64 hi))); (replace KB := ((KB.setO n0k 0 (.int .i64 lo)).setO n0k 1 (.int .i64 hi))); (replace KD := ((KD.setO n0d 0 (.int .i64 lo)).setO n0d 1 (.int .i64 hi))); (replace KN := ((KN.setO n0n 0 (.int .i64 lo)).setO n0n 1 (.int .i64 hi))); (replace OW := own_butK OW (((But.refl w.heap.size vx).setCell 0 (.int .i64 lo)).setCell 1 (.int .i64 hi)) h0b); (replace B := ((B.setCell (p := ⟨w.heap.size, 0, none⟩) h0w (.int .i64 lo)).setCell (p := ⟨w.heap.size, 1, none⟩) h0w (.int .i64 hi))); (clear cc); (generalize ((vx.setCell ⟨w.heap.size, 0, none⟩ (.int .i64 lo)).setCell ⟨w.heap.size, 1, none⟩ (.int .i64 hi)) = vx at *); (obtain ⟨r0, r1, r2, r3, r4⟩ := id RI); (obtain ⟨t0, t1, t2, t3, t4⟩ := id RD); (obtain ⟨u0, u1, u2, u3, u4, u5, u6⟩ := id RP); (obtain ⟨a0, a1, a2, a3, a4⟩ := id KN); (obtain ⟨d0, d1, d2, d3, d4⟩ := id KD); (obtain ⟨k0, k1, k2, k3, k4, k5, k6⟩ := id KB)
        refine hK.out _ _ ?_ (fun hHeld => ?_)
        · exact ⟨a1, a2, d1, d2, k1, k2, k3⟩
        clear hK K
        (try simp only [Act.put, List.setIfInBounds_toArray, List.set_cons_zero, List.set_cons_succ])
        refine wpAnyH_take (i := 10) (v := ?_) (by rw [List.getElem?_toArray]; rfl) (by kernel_rfl) (by kernel_rfl) (by kernel_rfl) (by intro _ _ _ h; exact h) (Or.inl ⟨by rfl, ?_⟩) (by assumption) ?_
        rotate_left
        · (intro w hSw; (try dsimp only at hSw); go_simp; all_goals with_reducible rfl)
        (try simp only [Act.put, List.setIfInBounds_toArray, List.set_cons_zero, List.set_cons_succ])
        refine wpAnyH_ready (rs := [11]) (by kernel_rfl) (by simp) ?_
        refine (AllReadyH.cons (by rw [List.getElem?_toArray]; rfl) (fun K hK => ?_) AllReadyH.nil)
        go_simp
        (clear a0 a1 a2 a3 a4 d0 d1 d2 d3 d4 k0 k1 k2 k3 k4 k5 k6); (clear r0 r1 r2 r3 r4 t0 t1 t2 t3 t4 u0 u1 u2 u3 u4 u5 u6); (replace RD := ((RD.set0 (.int .i64 n)).set1 (.int .i64 d))); (replace RI := ((RI.setO n10 0 (.int .i64 n)).setO n10 1 (.int .i64 d))); (replace RP := ((RP.setO n12 0 (.int .i64 n)).setO n12 1 (.int .i64 d))); (replace KB := ((KB.setO n1k 0 (.int .i64 n)).setO n1k 1 (.int .i64 d))); (replace KD := ((KD.setO n1d 0 (.int .i64 n)).setO n1d 1 (.int .i64 d))); (replace KN := ((KN.setO n1n 0 (.int .i64 n)).setO n1n 1 (.int .i64 d))); (replace OW := own_butK OW (((But.refl j1 vx).setCell 0 (.int .i64 n)).setCell 1 (.int .i64 d)) h1b); (replace B := ((B.setCell (p := ⟨j1, 0, none⟩) h1w (.int .i64 n)).setCell (p := ⟨j1, 1, none⟩) h1w (.int .i64 d))); (generalize ((vx.setCell ⟨j1, 0, none⟩ (.int .i64 n)).setCell ⟨j1, 1, none⟩ (.int .i64 d)) = vx at *); (obtain ⟨r0, r1, r2, r3, r4⟩ := id RI); (obtain ⟨t0, t1, t2, t3, t4⟩ := id RD); (obtain ⟨u0, u1, u2, u3, u4, u5, u6⟩ := id RP); (obtain ⟨a0, a1, a2, a3, a4⟩ := id KN); (obtain ⟨d0, d1, d2, d3, d4⟩ := id KD); (obtain ⟨k0, k1, k2, k3, k4, k5, k6⟩ := id KB)
        refine hK.out _ _ ?_ (fun hHeld => ?_)
        · exact ⟨a1, a2, d1, d2, k1, k2, k3⟩
        clear hK K
        (try simp only [Act.put, List.setIfInBounds_toArray, List.set_cons_zero, List.set_cons_succ])
        refine wpAnyH_take (i := 12) (v := ?_) (by rw [List.getElem?_toArray]; rfl) (by kernel_rfl) (by kernel_rfl) (by kernel_rfl) (by intro _ _ _ h; exact h) (Or.inl ⟨by rfl, ?_⟩) (by assumption) ?_
        rotate_left
        · (intro w hSw; (try dsimp only at hSw); go_simp; all_goals with_reducible rfl)
        (try simp only [Act.put, List.setIfInBounds_toArray, List.set_cons_zero, List.set_cons_succ])
        refine wpAnyH_ready (rs := [13]) (by kernel_rfl) (by simp) ?_
        refine (AllReadyH.cons (by rw [List.getElem?_toArray]; rfl) (fun K hK => ?_) AllReadyH.nil)
        go_simp
        (clear a0 a1 a2 a3 a4 d0 d1 d2 d3 d4 k0 k1 k2 k3 k4 k5 k6); (clear r0 r1 r2 r3 r4 t0 t1 t2 t3 t4 u0 u1 u2 u3 u4 u5 u6); (replace RP := (((RP.set0 (.int .i64 s)).set1 (.int .i64 g)).set2 (.slice A m c))); (replace RI := (((RI.setO n20 0 (.int .i64 s)).setO n20 1 (.int .i64 g)).setO n20 2 (.slice A m c))); (replace RD := (((RD.setO n21 0 (.int .i64 s)).setO n21 1 (.int .i64 g)).setO n21 2 (.slice A m c))); (replace KB := (((KB.setO n2k 0 (.int .i64 s)).setO n2k 1 (.int .i64 g)).setO n2k 2 (.slice A m c))); (replace KD := (((KD.setO n2d 0 (.int .i64 s)).setO n2d 1 (.int .i64 g)).setO n2d 2 (.slice A m c))); (replace KN := (((KN.setO n2n 0 (.int .i64 s)).setO n2n 1 (.int .i64 g)).setO n2n 2 (.slice A m c))); (replace OW := own_butK OW ((((But.refl j2 vx).setCell 0 (.int .i64 s)).setCell 1 (.int .i64 g)).setCell 2 (.slice A m c)) h2b); (replace B := (((B.setCell (p := ⟨j2, 0, none⟩) h2w (.int .i64 s)).setCell (p := ⟨j2, 1, none⟩) h2w (.int .i64 g)).setCell (p := ⟨j2, 2, none⟩) h2w (.slice A m c))); (generalize (((vx.setCell ⟨j2, 0, none⟩ (.int .i64 s)).setCell ⟨j2, 1, none⟩ (.int .i64 g)).setCell ⟨j2, 2, none⟩ (.slice A m c)) = vx at *); (obtain ⟨r0, r1, r2, r3, r4⟩ := id RI); (obtain ⟨t0, t1, t2, t3, t4⟩ := id RD); (obtain ⟨u0, u1, u2, u3, u4, u5, u6⟩ := id RP); (obtain ⟨a0, a1, a2, a3, a4⟩ := id KN); (obtain ⟨d0, d1, d2, d3, d4⟩ := id KD); (obtain ⟨k0, k1, k2, k3, k4, k5, k6⟩ := id KB)
        refine hK.out _ _ ?_ (fun hHeld => ?_)
        · exact ⟨a1, a2, d1, d2, k1, k2, k3⟩
        clear hK K
        (try simp only [Act.put, List.setIfInBounds_toArray, List.set_cons_zero, List.set_cons_succ])
        refine wpAnyH_take (i := 14) (v := ?_) (by rw [List.getElem?_toArray]; rfl) (by kernel_rfl) (by kernel_rfl) (by kernel_rfl) (by intro _ _ _ h; exact h) (Or.inl ⟨by rfl, ?_⟩) (by assumption) ?_
        rotate_left
        · (intro w hSw; (try dsimp only at hSw); go_simp; all_goals with_reducible rfl)
        (try simp only [Act.put, List.setIfInBounds_toArray, List.set_cons_zero, List.set_cons_succ])
        refine wpAnyH_done (by kernel_rfl) ?_ _
        go_wp2_with fail
        exact bodyPost_ret (v := (.tuple #[.agg #[.int .i64 lo, .int .i64 hi], .bool (!q9), .agg #[.int .i64 n, .int .i64 d], .int .i64 x, .agg #[.int .i64 s, .int .i64 g, .slice A m c], .int .i64 ow])) (by simp (maxDischargeDepth := 6) [results, Tryd.results11, go_sem, *]) rfl ⟨lo, hi, !q9, n, d, x, s, g, A, m, c, M, ow, rfl, hm13, own_baseI OW hwo, B⟩
      · go_wp2_with fail
        refine (pick2 B0 p vx _ _ cc).mono ?_
        rintro e vx ⟨ow2, rfl, nc, bb⟩
        replace cc := nc
        clear nc
        replace RI := RI.but bb h0p
        replace RD := RD.but bb h1p
        replace RP := RP.but bb h2p
        replace KB := KB.but bb hkp
        replace KD := KD.but bb hdp
        replace KN := KN.but bb hnp
        replace OW := own_butK OW bb hpo
        replace B := B.trans (bb.below hwp B.size)
        clear bb
        have n0k : w.heap.size ≠ kp := by omega
        have n0d : w.heap.size ≠ kd := by omega
        have n0n : w.heap.size ≠ kn := by omega
        have n1k : j1 ≠ kp := by omega
        have n1d : j1 ≠ kd := by omega
        have n1n : j1 ≠ kn := by omega
        have n2k : j2 ≠ kp := by omega
        have n2d : j2 ≠ kd := by omega
        have n2n : j2 ≠ kn := by omega
        (obtain ⟨a0, a1, a2, a3, a4⟩ := id KN); (obtain ⟨d0, d1, d2, d3, d4⟩ := id KD); (obtain ⟨k0, k1, k2, k3, k4, k5, k6⟩ := id KB)
        go_upto_region 12 with fail
        refine wp_region_held_drew (S := (fun w' => w'.cell? ⟨kn, 0, none⟩ = some (.int .i64 lo) ∧ w'.cell? ⟨kn, 1, none⟩ = some (.int .i64 hi) ∧ w'.cell? ⟨kd, 0, none⟩ = some (.int .i64 n) ∧ w'.cell? ⟨kd, 1, none⟩ = some (.int .i64 d) ∧ w'.cell? ⟨kp, 0, none⟩ = some (.int .i64 s) ∧ w'.cell? ⟨kp, 1, none⟩ = some (.int .i64 g) ∧ w'.cell? ⟨kp, 2, none⟩ = some (.slice A m c))) (by kernel_rfl) ?_ (fun hHeld => ?_)
        · exact ⟨a1, a2, d1, d2, k1, k2, k3⟩
        replace RI := RI.drew
        replace RD := RD.drew
        replace RP := RP.drew
        replace KB := KB.drew
        replace KD := KD.drew
        replace KN := KN.drew
        replace cc : CurOk vx.drew B0 p := cc
        replace OW : vx.drew.ownsRow w1.heap.size 42 2 (.slice A m c) m (srow M m) := OW
        replace B := Below.drew B
        (clear a0 a1 a2 a3 a4 d0 d1 d2 d3 d4 k0 k1 k2 k3 k4 k5 k6)
        generalize vx.drew = vx at *
        (obtain ⟨a0, a1, a2, a3, a4⟩ := id KN); (obtain ⟨d0, d1, d2, d3, d4⟩ := id KD); (obtain ⟨k0, k1, k2, k3, k4, k5, k6⟩ := id KB)
        refine wpAnyH_take (i := 0) (v := ?_) (by rw [List.getElem?_toArray]; rfl) (by kernel_rfl) (by kernel_rfl) (by kernel_rfl) (by intro _ _ _ h; exact h) (Or.inl ⟨by rfl, ?_⟩) (by assumption) ?_
        rotate_left
        · (intro w hSw; (try dsimp only at hSw); go_simp; all_goals with_reducible rfl)
        (try simp only [Act.put, List.setIfInBounds_toArray, List.set_cons_zero, List.set_cons_succ])
        refine wpAnyH_take (i := 1) (v := ?_) (by rw [List.getElem?_toArray]; rfl) (by kernel_rfl) (by kernel_rfl) (by kernel_rfl) (by intro _ _ _ h; exact h) (Or.inl ⟨by rfl, ?_⟩) (by assumption) ?_
        rotate_left
        · (intro w hSw; (try dsimp only at hSw); go_simp; all_goals with_reducible rfl)
        (try simp only [Act.put, List.setIfInBounds_toArray, List.set_cons_zero, List.set_cons_succ])
        refine wpAnyH_take (i := 4) (v := ?_) (by rw [List.getElem?_toArray]; rfl) (by kernel_rfl) (by kernel_rfl) (by kernel_rfl) (by intro _ _ _ h; exact h) (Or.inl ⟨by rfl, ?_⟩) (by assumption) ?_
        rotate_left
        · (intro w hSw; (try dsimp only at hSw); go_simp; all_goals with_reducible rfl)
        (try simp only [Act.put, List.setIfInBounds_toArray, List.set_cons_zero, List.set_cons_succ])
        refine wpAnyH_take (i := 5) (v := ?_) (by rw [List.getElem?_toArray]; rfl) (by kernel_rfl) (by kernel_rfl) (by kernel_rfl) (by intro _ _ _ h; exact h) (Or.inl ⟨by rfl, ?_⟩) (by assumption) ?_
        rotate_left
        · (intro w hSw; (try dsimp only at hSw); go_simp; all_goals with_reducible rfl)
        (try simp only [Act.put, List.setIfInBounds_toArray, List.set_cons_zero, List.set_cons_succ])
        refine wpAnyH_take (i := 7) (v := ?_) (by rw [List.getElem?_toArray]; rfl) (by kernel_rfl) (by kernel_rfl) (by kernel_rfl) (by intro _ _ _ h; exact h) (Or.inl ⟨by rfl, ?_⟩) (by assumption) ?_
        rotate_left
        · (intro w hSw; (try dsimp only at hSw); go_simp; all_goals with_reducible rfl)
        (try simp only [Act.put, List.setIfInBounds_toArray, List.set_cons_zero, List.set_cons_succ])
        refine wpAnyH_take (i := 8) (v := ?_) (by rw [List.getElem?_toArray]; rfl) (by kernel_rfl) (by kernel_rfl) (by kernel_rfl) (by intro _ _ _ h; exact h) (Or.inl ⟨by rfl, ?_⟩) (by assumption) ?_
        rotate_left
        · (intro w hSw; (try dsimp only at hSw); go_simp; all_goals with_reducible rfl)
        (try simp only [Act.put, List.setIfInBounds_toArray, List.set_cons_zero, List.set_cons_succ])
        refine wpAnyH_ready (rs := [2]) (by kernel_rfl) (by simp) ?_
        refine (AllReadyH.cons (by rw [List.getElem?_toArray]; rfl) (fun K hK => ?_) AllReadyH.nil)
        go_simp
        refine (l1Once_any B0 p 9 _ cc).mono ?_; rintro e vx ⟨q9, rfl, nc, bb⟩; (clear a0 a1 a2 a3 a4 d0 d1 d2 d3 d4 k0 k1 k2 k3 k4 k5 k6); (replace cc := nc); (clear nc); (replace RI := RI.but bb h0p); (replace RD := RD.but bb h1p); (replace RP := RP.but bb h2p); (replace KB := KB.but bb hkp); (replace KD := KD.but bb hdp); (replace KN := KN.but bb hnp); (replace OW := own_butK OW bb hpo); (replace B := B.trans (bb.below hwp B.size)); (clear bb); (obtain ⟨a0, a1, a2, a3, a4⟩ := id KN); (obtain ⟨d0, d1, d2, d3, d4⟩ := id KD); (obtain ⟨k0, k1, k2, k3, k4, k5, k6⟩ := id KB)
        (try go_wp2_with fail)
        refine hK.out _ _ ?_ (fun hHeld => ?_)
        · exact ⟨a1, a2, d1, d2, k1, k2, k3⟩
        clear hK K
        (try simp only [Act.put, List.setIfInBounds_toArray, List.set_cons_zero, List.set_cons_succ])
        refine wpAnyH_take (i := 3) (v := ?_) (by rw [List.getElem?_toArray]; rfl) (by kernel_rfl) (by kernel_rfl) (by kernel_rfl) (by intro _ _ _ h; exact h) (Or.inl ⟨by rfl, ?_⟩) (by assumption) ?_
        rotate_left
        · (intro w hSw; (try dsimp only at hSw); go_simp; all_goals with_reducible rfl)
        (try simp only [Act.put, List.setIfInBounds_toArray, List.set_cons_zero, List.set_cons_succ])
        refine wpAnyH_ready (rs := [6]) (by kernel_rfl) (by simp) ?_
        refine (AllReadyH.cons (by rw [List.getElem?_toArray]; rfl) (fun K hK => ?_) AllReadyH.nil)
        go_simp
        refine (l14DrawLong_any B0 p _ cc).mono ?_; rintro e vx ⟨x, rfl, nc, bb⟩; (clear a0 a1 a2 a3 a4 d0 d1 d2 d3 d4 k0 k1 k2 k3 k4 k5 k6); (replace cc := nc); (clear nc); (replace RI := RI.but bb h0p); (replace RD := RD.but bb h1p); (replace RP := RP.but bb h2p); (replace KB := KB.but bb hkp); (replace KD := KD.but bb hdp); (replace KN := KN.but bb hnp); (replace OW := own_butK OW bb hpo); (replace B := B.trans (bb.below hwp B.size)); (clear bb); (obtain ⟨r0, r1, r2, r3, r4⟩ := id RI); (obtain ⟨t0, t1, t2, t3, t4⟩ := id RD); (obtain ⟨u0, u1, u2, u3, u4, u5, u6⟩ := id RP); (obtain ⟨a0, a1, a2, a3, a4⟩ := id KN); (obtain ⟨d0, d1, d2, d3, d4⟩ := id KD); (obtain ⟨k0, k1, k2, k3, k4, k5, k6⟩ := id KB)
        (try go_wp2_with fail)
        refine hK.out _ _ ?_ (fun hHeld => ?_)
        · exact ⟨a1, a2, d1, d2, k1, k2, k3⟩
        clear hK K
        (try simp only [Act.put, List.setIfInBounds_toArray, List.set_cons_zero, List.set_cons_succ])
        refine wpAnyH_ready (rs := [9]) (by kernel_rfl) (by simp) ?_
        refine (AllReadyH.cons (by rw [List.getElem?_toArray]; rfl) (fun K hK => ?_) AllReadyH.nil)
        go_simp
        (clear a0 a1 a2 a3 a4 d0 d1 d2 d3 d4 k0 k1 k2 k3 k4 k5 k6); (clear r0 r1 r2 r3 r4 t0 t1 t2 t3 t4 u0 u1 u2 u3 u4 u5 u6); (replace RI := ((RI.set0 (.int .i64 lo)).set1 (.int .i64 hi))); (replace RD := ((RD.setO n01 0 (.int .i64 lo)).setO n01 1 (.int .i64 hi))); (replace RP := ((RP.setO n02 0 (.int .i64 lo)).setO n02 1 (.int .i64 hi))); (replace KB := ((KB.setO n0k 0 (.int .i64 lo)).setO n0k 1 (.int .i64 hi))); (replace KD := ((KD.setO n0d 0 (.int .i64 lo)).setO n0d 1 (.int .i64 hi))); (replace KN := ((KN.setO n0n 0 (.int .i64 lo)).setO n0n 1 (.int .i64 hi))); (replace OW := own_butK OW (((But.refl w.heap.size vx).setCell 0 (.int .i64 lo)).setCell 1 (.int .i64 hi)) h0b); (replace B := ((B.setCell (p := ⟨w.heap.size, 0, none⟩) h0w (.int .i64 lo)).setCell (p := ⟨w.heap.size, 1, none⟩) h0w (.int .i64 hi))); (clear cc); (generalize ((vx.setCell ⟨w.heap.size, 0, none⟩ (.int .i64 lo)).setCell ⟨w.heap.size, 1, none⟩ (.int .i64 hi)) = vx at *); (obtain ⟨r0, r1, r2, r3, r4⟩ := id RI); (obtain ⟨t0, t1, t2, t3, t4⟩ := id RD); (obtain ⟨u0, u1, u2, u3, u4, u5, u6⟩ := id RP); (obtain ⟨a0, a1, a2, a3, a4⟩ := id KN); (obtain ⟨d0, d1, d2, d3, d4⟩ := id KD); (obtain ⟨k0, k1, k2, k3, k4, k5, k6⟩ := id KB)
        refine hK.out _ _ ?_ (fun hHeld => ?_)
        · exact ⟨a1, a2, d1, d2, k1, k2, k3⟩
        clear hK K
        (try simp only [Act.put, List.setIfInBounds_toArray, List.set_cons_zero, List.set_cons_succ])
        refine wpAnyH_take (i := 10) (v := ?_) (by rw [List.getElem?_toArray]; rfl) (by kernel_rfl) (by kernel_rfl) (by kernel_rfl) (by intro _ _ _ h; exact h) (Or.inl ⟨by rfl, ?_⟩) (by assumption) ?_
        rotate_left
        · (intro w hSw; (try dsimp only at hSw); go_simp; all_goals with_reducible rfl)
        (try simp only [Act.put, List.setIfInBounds_toArray, List.set_cons_zero, List.set_cons_succ])
        refine wpAnyH_ready (rs := [11]) (by kernel_rfl) (by simp) ?_
        refine (AllReadyH.cons (by rw [List.getElem?_toArray]; rfl) (fun K hK => ?_) AllReadyH.nil)
        go_simp
        (clear a0 a1 a2 a3 a4 d0 d1 d2 d3 d4 k0 k1 k2 k3 k4 k5 k6); (clear r0 r1 r2 r3 r4 t0 t1 t2 t3 t4 u0 u1 u2 u3 u4 u5 u6); (replace RD := ((RD.set0 (.int .i64 n)).set1 (.int .i64 d))); (replace RI := ((RI.setO n10 0 (.int .i64 n)).setO n10 1 (.int .i64 d))); (replace RP := ((RP.setO n12 0 (.int .i64 n)).setO n12 1 (.int .i64 d))); (replace KB := ((KB.setO n1k 0 (.int .i64 n)).setO n1k 1 (.int .i64 d))); (replace KD := ((KD.setO n1d 0 (.int .i64 n)).setO n1d 1 (.int .i64 d))); (replace KN := ((KN.setO n1n 0 (.int .i64 n)).setO n1n 1 (.int .i64 d))); (replace OW := own_butK OW (((But.refl j1 vx).setCell 0 (.int .i64 n)).setCell 1 (.int .i64 d)) h1b); (replace B := ((B.setCell (p := ⟨j1, 0, none⟩) h1w (.int .i64 n)).setCell (p := ⟨j1, 1, none⟩) h1w (.int .i64 d))); (generalize ((vx.setCell ⟨j1, 0, none⟩ (.int .i64 n)).setCell ⟨j1, 1, none⟩ (.int .i64 d)) = vx at *); (obtain ⟨r0, r1, r2, r3, r4⟩ := id RI); (obtain ⟨t0, t1, t2, t3, t4⟩ := id RD); (obtain ⟨u0, u1, u2, u3, u4, u5, u6⟩ := id RP); (obtain ⟨a0, a1, a2, a3, a4⟩ := id KN); (obtain ⟨d0, d1, d2, d3, d4⟩ := id KD); (obtain ⟨k0, k1, k2, k3, k4, k5, k6⟩ := id KB)
        refine hK.out _ _ ?_ (fun hHeld => ?_)
        · exact ⟨a1, a2, d1, d2, k1, k2, k3⟩
        clear hK K
        (try simp only [Act.put, List.setIfInBounds_toArray, List.set_cons_zero, List.set_cons_succ])
        refine wpAnyH_take (i := 12) (v := ?_) (by rw [List.getElem?_toArray]; rfl) (by kernel_rfl) (by kernel_rfl) (by kernel_rfl) (by intro _ _ _ h; exact h) (Or.inl ⟨by rfl, ?_⟩) (by assumption) ?_
        rotate_left
        · (intro w hSw; (try dsimp only at hSw); go_simp; all_goals with_reducible rfl)
        (try simp only [Act.put, List.setIfInBounds_toArray, List.set_cons_zero, List.set_cons_succ])
        refine wpAnyH_ready (rs := [13]) (by kernel_rfl) (by simp) ?_
        refine (AllReadyH.cons (by rw [List.getElem?_toArray]; rfl) (fun K hK => ?_) AllReadyH.nil)
        go_simp
        (clear a0 a1 a2 a3 a4 d0 d1 d2 d3 d4 k0 k1 k2 k3 k4 k5 k6); (clear r0 r1 r2 r3 r4 t0 t1 t2 t3 t4 u0 u1 u2 u3 u4 u5 u6); (replace RP := (((RP.set0 (.int .i64 s)).set1 (.int .i64 g)).set2 (.slice A m c))); (replace RI := (((RI.setO n20 0 (.int .i64 s)).setO n20 1 (.int .i64 g)).setO n20 2 (.slice A m c))); (replace RD := (((RD.setO n21 0 (.int .i64 s)).setO n21 1 (.int .i64 g)).setO n21 2 (.slice A m c))); (replace KB := (((KB.setO n2k 0 (.int .i64 s)).setO n2k 1 (.int .i64 g)).setO n2k 2 (.slice A m c))); (replace KD := (((KD.setO n2d 0 (.int .i64 s)).setO n2d 1 (.int .i64 g)).setO n2d 2 (.slice A m c))); (replace KN := (((KN.setO n2n 0 (.int .i64 s)).setO n2n 1 (.int .i64 g)).setO n2n 2 (.slice A m c))); (replace OW := own_butK OW ((((But.refl j2 vx).setCell 0 (.int .i64 s)).setCell 1 (.int .i64 g)).setCell 2 (.slice A m c)) h2b); (replace B := (((B.setCell (p := ⟨j2, 0, none⟩) h2w (.int .i64 s)).setCell (p := ⟨j2, 1, none⟩) h2w (.int .i64 g)).setCell (p := ⟨j2, 2, none⟩) h2w (.slice A m c))); (generalize (((vx.setCell ⟨j2, 0, none⟩ (.int .i64 s)).setCell ⟨j2, 1, none⟩ (.int .i64 g)).setCell ⟨j2, 2, none⟩ (.slice A m c)) = vx at *); (obtain ⟨r0, r1, r2, r3, r4⟩ := id RI); (obtain ⟨t0, t1, t2, t3, t4⟩ := id RD); (obtain ⟨u0, u1, u2, u3, u4, u5, u6⟩ := id RP); (obtain ⟨a0, a1, a2, a3, a4⟩ := id KN); (obtain ⟨d0, d1, d2, d3, d4⟩ := id KD); (obtain ⟨k0, k1, k2, k3, k4, k5, k6⟩ := id KB)
        refine hK.out _ _ ?_ (fun hHeld => ?_)
        · exact ⟨a1, a2, d1, d2, k1, k2, k3⟩
        clear hK K
        (try simp only [Act.put, List.setIfInBounds_toArray, List.set_cons_zero, List.set_cons_succ])
        refine wpAnyH_take (i := 14) (v := ?_) (by rw [List.getElem?_toArray]; rfl) (by kernel_rfl) (by kernel_rfl) (by kernel_rfl) (by intro _ _ _ h; exact h) (Or.inl ⟨by rfl, ?_⟩) (by assumption) ?_
        rotate_left
        · (intro w hSw; (try dsimp only at hSw); go_simp; all_goals with_reducible rfl)
        (try simp only [Act.put, List.setIfInBounds_toArray, List.set_cons_zero, List.set_cons_succ])
        refine wpAnyH_done (by kernel_rfl) ?_ _
        go_wp2_with fail
        exact bodyPost_ret (v := (.tuple #[.agg #[.int .i64 lo, .int .i64 hi], .bool (!q9), .agg #[.int .i64 n, .int .i64 d], .int .i64 x, .agg #[.int .i64 s, .int .i64 g, .slice A m c], .int .i64 ow2])) (by simp (maxDischargeDepth := 6) [results, Tryd.results11, go_sem, *]) rfl ⟨lo, hi, !q9, n, d, x, s, g, A, m, c, M, ow2, rfl, hm13, own_baseI OW hwo, B⟩
end Go.Proofs.YtcakhfobkbgfoaaDoor
