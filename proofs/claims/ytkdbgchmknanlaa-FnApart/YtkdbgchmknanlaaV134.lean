/- What DrawOccurrence leaves. -/
import Derived.Test.YtkdbgchmknanlaaV133
import Derived.Test.YtkdbgchmknanlaaB134
import Derived.Deep.RegionHeld3
import Derived.WalkKit
import Derived.WalkSpells
import Derived.WalkLawsBesides
import Derived.Deep.RegionHeld
namespace Go.Proofs.Ytkdbgchmknanlaa
open Go.RowKit
set_option linter.unusedVariables false
set_option maxRecDepth 100000 in
set_option maxHeartbeats 16000000 in
theorem DrawOccurrence_any (a : Option Addr) (l c0 : Nat) (w : World) (hl : l ≤ 1048576) (hcode : CodeB w w.heap.size a l) :
    Calls Try.prog 42 #[.slice a l c0] w fun e w' => ∃ (s g : Int) (A : Option Addr) (n c : Nat) (M : Nat → SlT) (i k : Int), e = .returned (.tuple #[.agg #[.int .i64 s, .int .i64 g, .slice A n c], .int .i64 i, .int .i64 k]) ∧ n ≤ 13 ∧ w'.ownsRow w.heap.size 60 2 (.slice A n c) n (srow M n) ∧ Below w.heap.size w w' := by
  have B := Below.nw w (.cells #[.int .i64 0, .int .i64 0, .slice none 0 0] 29)
  have R := Tx3.new w (.int .i64 0) (.int .i64 0) (.slice none 0 0) 29
  replace hcode := (hcode.below B).more B.size
  go_enter Try.func42, Try.ntmps42
  go_upto_region 1 with fail
  generalize w.alloc (.cells #[.int .i64 0, .int .i64 0, .slice none 0 0] 29) = v at *
  go_wp2_with fail
  refine (l1New_any a l c0 _ hl hcode).mono ?_
  rintro e w1 ⟨p, rfl, cc, nl⟩
  have hq := cc.lt
  have h1p : w.heap.size ≠ p := by have := R.1; omega
  have hwp : w.heap.size ≤ p := by have := B.size; omega
  clear hcode
  replace R := R.below nl
  replace B := B.trans (nl.mono B.size)
  clear nl
  generalize v.heap.size = B0 at *
  have hwo : w.heap.size < w1.heap.size := R.1
  have hpo : p < w1.heap.size := hq.1
  clear hq
  go_wp2_with fail
  refine (l13DrawAny_any B0 p _ cc).mono ?_
  rintro e w2 ⟨s, g, A, n, c, M, rfl, hn13, _, OW, nc, bb⟩
  replace cc := nc
  replace R := R.but bb h1p
  replace B := B.trans (bb.below hwp B.size)
  clear nc bb
  have nl := Below.nw w2 (.cells #[.int .i64 s, .int .i64 g, .slice A n c] 29)
  have KB := Tx3.new w2 (.int .i64 s) (.int .i64 g) (.slice A n c) 29
  have hkp : w2.heap.size ≠ p := Nat.ne_of_gt cc.lt.1
  replace cc := cc.below nl
  replace R := R.below nl
  replace OW := own_belK' OW nl
  replace B := B.trans (nl.mono B.size)
  clear nl
  go_upto_region 3 with fail
  generalize w2.alloc (.cells #[.int .i64 s, .int .i64 g, .slice A n c] 29) = w3 at *
  generalize w2.heap.size = kk at *
  have hwn : IntKind.i64.wrap ((n : Int) + 1) = (n : Int) + 1 := Go.IntWalk.i64_in _ ⟨by omega, by omega⟩
  obtain ⟨k0, k1, k2, k3, k4, k5, k6⟩ := id KB
  go_wp2_with fail
  refine (l1Below_any B0 p ((n : Int) + 1) _ cc).mono ?_
  rintro e v4 ⟨x, rfl, xl, xh, xp, xz, nc, bb⟩
  replace cc := nc
  replace R := R.but bb h1p; replace KB := KB.but bb hkp; replace OW := own_butK OW bb hpo; replace B := B.trans (bb.below hwp B.size); clear bb
  clear nc xz
  clear k0 k1 k2 k3 k4 k5 k6
  go_wp2_with fail
  refine (l1Below_any B0 p 20 _ cc).mono ?_
  rintro e v5 ⟨x2, rfl, x2l, x2h, x2p, x2z, nc, bb⟩
  replace cc := nc
  replace R := R.but bb h1p; replace KB := KB.but bb hkp; replace OW := own_butK OW bb hpo; replace B := B.trans (bb.below hwp B.size); clear bb
  clear nc x2z
  go_upto_region 4 with fail
  clear xl xh xp x2l x2h x2p hwn
  generalize x - x2 / 19 = ii at *
  go_wp2_with fail
  refine (l1Below_any B0 p 9 _ cc).mono ?_
  rintro e v6 ⟨k, rfl, kl, kh, kp, kz, nc, bb⟩
  replace cc := nc
  replace R := R.but bb h1p; replace KB := KB.but bb hkp; replace OW := own_butK OW bb hpo; replace B := B.trans (bb.below hwp B.size); clear bb
  clear nc kz
  clear kl kh kp
  go_wp2_with fail
  refine (l1Once_any B0 p 8 _ cc).mono ?_
  rintro e v7 ⟨oo, rfl, nc, bb⟩
  replace cc := nc
  replace R := R.but bb h1p; replace KB := KB.but bb hkp; replace OW := own_butK OW bb hpo; replace B := B.trans (bb.below hwp B.size); clear bb
  clear nc
  cases oo
  · go_upto_region 7 with fail
    have RS := OW
    have RR := ((R.set0 (.int .i64 s)).set1 (.int .i64 g)).set2 (.slice A n c)
    have OO := own_butK OW (((But.refl w.heap.size v7).setCell 0 (.int .i64 s)).setCell 1 (.int .i64 g) |>.setCell 2 (.slice A n c)) hwo
    have BB := ((B.setCell (p := ⟨w.heap.size, 0, none⟩) (Nat.le_refl _) (.int .i64 s)).setCell (p := ⟨w.heap.size, 1, none⟩) (Nat.le_refl _) (.int .i64 g)).setCell (p := ⟨w.heap.size, 2, none⟩) (Nat.le_refl _) (.slice A n c)
    obtain ⟨k0, k1, k2, k3, k4, k5, k6⟩ := id KB
    obtain ⟨r0, r1, r2, r3, r4, r5, r6⟩ := id R
    go_wp2_with fail
    clear k0 k1 k2 k3 k4 k5 k6
    clear r0 r1 r2 r3 r4 r5 r6
    generalize ((v7.setCell ⟨w.heap.size, 0, none⟩ (.int .i64 s)).setCell ⟨w.heap.size, 1, none⟩ (.int .i64 g)).setCell ⟨w.heap.size, 2, none⟩ (.slice A n c) = vz at *
    obtain ⟨r0, r1, r2, r3, r4, r5, r6⟩ := id RR
    exact bodyPost_ret (v := (.tuple #[.agg #[.int .i64 s, .int .i64 g, .slice A n c], .int .i64 ii, .int .i64 k])) (by simp (maxDischargeDepth := 6) [results, Try.results42, go_sem, *]) rfl ⟨s, g, A, n, c, M, ii, k, rfl, hn13, own_baseI OO (Nat.le_of_lt hwo), BB⟩
  · have hmn : n ≤ maxLen := by unfold maxLen; omega
    have CR := fun w' h => specRoundOf_any s g A n c M w' hmn h
    generalize rnI s g M n = rr at *
    have CX := fun w' => l1Max_any rr 1 w'
    have hmx : ¬ imx rr 1 = 0 := by unfold imx; split <;> omega
    generalize imx rr 1 = mx at *
    obtain ⟨k0, k1, k2, k3, k4, k5, k6⟩ := id KB
    go_upto_region 6 with fail
    refine wp_region_held_drew (S := (fun w' => w'.cell? ⟨kk, 0, none⟩ = some (.int .i64 s) ∧ w'.cell? ⟨kk, 1, none⟩ = some (.int .i64 g) ∧ w'.cell? ⟨kk, 2, none⟩ = some (.slice A n c))) (by kernel_rfl) ?_ (fun hHeld => ?_)
    · first | exact ⟨k1, k2, k3⟩ | (simp (maxDischargeDepth := 6) [go_sem, *]; done)
    clear k0 k1 k2 k3 k4 k5 k6
    replace R := R.drew
    replace KB := KB.drew
    replace cc : CurOk v7.drew B0 p := cc
    replace OW : v7.drew.ownsRow w1.heap.size 60 2 (.slice A n c) n (srow M n) := OW
    replace B := Below.drew B
    generalize v7.drew = vx at *
    obtain ⟨k0, k1, k2, k3, k4, k5, k6⟩ := id KB
    refine wpAnyH_take (i := 0) (v := ?_) (by rw [List.getElem?_toArray]; rfl) (by kernel_rfl) (by kernel_rfl) (by kernel_rfl) (by intro _ _ _ h; exact h) (Or.inl ⟨by rfl, ?_⟩) (by assumption) ?_
    rotate_left
    · (intro w hSw; (try dsimp only at hSw); go_simp; all_goals with_reducible rfl)
    (try simp only [Act.put, List.setIfInBounds_toArray, List.set_cons_zero, List.set_cons_succ])
    refine wpAnyH_take (i := 1) (v := ?_) (by rw [List.getElem?_toArray]; rfl) (by kernel_rfl) (by kernel_rfl) (by kernel_rfl) (by intro _ _ _ h; exact h) (Or.inl ⟨by rfl, ?_⟩) (by assumption) ?_
    rotate_left
    · (intro w hSw; (try dsimp only at hSw); go_simp; all_goals with_reducible rfl)
    (try simp only [Act.put, List.setIfInBounds_toArray, List.set_cons_zero, List.set_cons_succ])
    refine wpAnyH_take (i := 5) (v := ?_) (by rw [List.getElem?_toArray]; rfl) (by kernel_rfl) (by kernel_rfl) (by kernel_rfl) (by intro _ _ _ h; exact h) (Or.inl ⟨by rfl, ?_⟩) (by assumption) ?_
    rotate_left
    · (intro w hSw; (try dsimp only at hSw); go_simp; all_goals with_reducible rfl)
    (try simp only [Act.put, List.setIfInBounds_toArray, List.set_cons_zero, List.set_cons_succ])
    refine wpAnyH_ready (rs := [2]) (by kernel_rfl) (by simp) ?_
    refine (AllReadyH.cons (by rw [List.getElem?_toArray]; rfl) (fun K hK => ?_) AllReadyH.nil)
    go_simp
    refine (CR vx (ownS OW)).mono ?_; rintro e vx ⟨rfl, hbl⟩; (clear k0 k1 k2 k3 k4 k5 k6); (replace R := R.below hbl); (replace KB := KB.below hbl); (replace OW := own_belK' OW hbl); (replace cc := cc.below hbl); (replace B := B.trans (hbl.mono B.size)); (clear hbl); (obtain ⟨k0, k1, k2, k3, k4, k5, k6⟩ := id KB)
    (try go_wp2_with fail)
    refine hK.out _ _ ?_ (fun hHeld => ?_)
    · first | exact ⟨k1, k2, k3⟩ | (simp (maxDischargeDepth := 6) [go_sem, *]; done)
    clear hK K
    (try simp only [Act.put, List.setIfInBounds_toArray, List.set_cons_zero, List.set_cons_succ])
    refine wpAnyH_ready (rs := [3]) (by kernel_rfl) (by simp) ?_
    refine (AllReadyH.cons (by rw [List.getElem?_toArray]; rfl) (fun K hK => ?_) AllReadyH.nil)
    go_simp
    refine (CX vx).mono ?_; rintro e vx' ⟨rfl, rfl⟩
    (try go_wp2_with fail)
    refine hK.out _ _ ?_ (fun hHeld => ?_)
    · first | exact ⟨k1, k2, k3⟩ | (simp (maxDischargeDepth := 6) [go_sem, *]; done)
    clear hK K
    (try simp only [Act.put, List.setIfInBounds_toArray, List.set_cons_zero, List.set_cons_succ])
    refine wpAnyH_take (i := 4) (v := ?_) (by rw [List.getElem?_toArray]; rfl) (by kernel_rfl) (by kernel_rfl) (by kernel_rfl) (by intro _ _ _ h; exact h) (Or.inl ⟨by rfl, ?_⟩) (by assumption) ?_
    rotate_left
    · (intro w hSw; (try dsimp only at hSw); go_simp; all_goals with_reducible rfl)
    (try simp only [Act.put, List.setIfInBounds_toArray, List.set_cons_zero, List.set_cons_succ])
    refine wpAnyH_ready (rs := [6]) (by kernel_rfl) (by simp) ?_
    refine (AllReadyH.cons (by rw [List.getElem?_toArray]; rfl) (fun K hK => ?_) AllReadyH.nil)
    go_simp
    refine (CR vx (ownS OW)).mono ?_; rintro e vx ⟨rfl, hbl⟩; (clear k0 k1 k2 k3 k4 k5 k6); (replace R := R.below hbl); (replace KB := KB.below hbl); (replace OW := own_belK' OW hbl); (replace cc := cc.below hbl); (replace B := B.trans (hbl.mono B.size)); (clear hbl); (obtain ⟨k0, k1, k2, k3, k4, k5, k6⟩ := id KB)
    (try go_wp2_with fail)
    refine hK.out _ _ ?_ (fun hHeld => ?_)
    · first | exact ⟨k1, k2, k3⟩ | (simp (maxDischargeDepth := 6) [go_sem, *]; done)
    clear hK K
    (try simp only [Act.put, List.setIfInBounds_toArray, List.set_cons_zero, List.set_cons_succ])
    refine wpAnyH_ready (rs := [7]) (by kernel_rfl) (by simp) ?_
    refine (AllReadyH.cons (by rw [List.getElem?_toArray]; rfl) (fun K hK => ?_) AllReadyH.nil)
    go_simp
    refine (CX vx).mono ?_; rintro e vx' ⟨rfl, rfl⟩
    (try go_wp2_with fail)
    refine hK.out _ _ ?_ (fun hHeld => ?_)
    · first | exact ⟨k1, k2, k3⟩ | (simp (maxDischargeDepth := 6) [go_sem, *]; done)
    clear hK K
    (try simp only [Act.put, List.setIfInBounds_toArray, List.set_cons_zero, List.set_cons_succ])
    refine wpAnyH_take (i := 8) (v := ?_) (by rw [List.getElem?_toArray]; rfl) (by kernel_rfl) (by kernel_rfl) (by kernel_rfl) (by intro _ _ _ h; exact h) (Or.inl ⟨by rfl, ?_⟩) (by assumption) ?_
    rotate_left
    · (intro w hSw; (try dsimp only at hSw); go_simp; all_goals with_reducible rfl)
    (try simp only [Act.put, List.setIfInBounds_toArray, List.set_cons_zero, List.set_cons_succ])
    refine wpAnyH_take (i := 9) (v := ?_) (by rw [List.getElem?_toArray]; rfl) (by kernel_rfl) (by kernel_rfl) (by kernel_rfl) (by intro _ _ _ h; exact h) (Or.inl ⟨by rfl, ?_⟩) (by assumption) ?_
    rotate_left
    · (intro w hSw; (try dsimp only at hSw); go_simp; all_goals with_reducible rfl)
    (try simp only [Act.put, List.setIfInBounds_toArray, List.set_cons_zero, List.set_cons_succ])
    refine wpAnyH_ready (rs := [10]) (by kernel_rfl) (by simp) ?_
    refine (AllReadyH.cons (by rw [List.getElem?_toArray]; rfl) (fun K hK => ?_) AllReadyH.nil)
    go_simp
    (generalize IntKind.i64.wrap (IntKind.i64.wrap ((1000000000000 : Int).tdiv mx) - 1) = q2 at *); (generalize IntKind.i64.wrap ((1000000000000 : Int).tdiv mx) = q1 at *)
    refine hK.out _ _ ?_ (fun hHeld => ?_)
    · first | exact ⟨k1, k2, k3⟩ | (simp (maxDischargeDepth := 6) [go_sem, *]; done)
    clear hK K
    (try simp only [Act.put, List.setIfInBounds_toArray, List.set_cons_zero, List.set_cons_succ])
    refine wpAnyH_ready (rs := [11]) (by kernel_rfl) (by simp) ?_
    refine (AllReadyH.cons (by rw [List.getElem?_toArray]; rfl) (fun K hK => ?_) AllReadyH.nil)
    go_simp
    (clear k0 k1 k2 k3 k4 k5 k6); (have hpk := pickLit B0 p vx [-1, 1000000000000, 1000000000001, 9223372036854775807, q1, q2] cc (by simp) (by simp)); (simp only [List.map_cons, List.map_nil, List.length_cons, List.length_nil, Nat.zero_add, Nat.reduceAdd] at hpk); refine hpk.mono ?_; clear hpk; rintro e v9 ⟨y, rfl, nc, bb⟩; (replace cc := nc); replace R := R.but bb h1p; replace KB := KB.but bb hkp; replace OW := own_butK OW bb hpo; replace B := B.trans (bb.below hwp B.size); clear bb; (clear nc); (obtain ⟨k0, k1, k2, k3, k4, k5, k6⟩ := id KB)
    (try go_wp2_with fail)
    refine hK.out _ _ ?_ (fun hHeld => ?_)
    · first | exact ⟨k1, k2, k3⟩ | (simp (maxDischargeDepth := 6) [go_sem, *]; done)
    clear hK K
    (try simp only [Act.put, List.setIfInBounds_toArray, List.set_cons_zero, List.set_cons_succ])
    refine wpAnyH_take (i := 12) (v := ?_) (by rw [List.getElem?_toArray]; rfl) (by kernel_rfl) (by kernel_rfl) (by kernel_rfl) (by intro _ _ _ h; exact h) (Or.inl ⟨by rfl, ?_⟩) (by assumption) ?_
    rotate_left
    · (intro w hSw; (try dsimp only at hSw); go_simp; all_goals with_reducible rfl)
    (try simp only [Act.put, List.setIfInBounds_toArray, List.set_cons_zero, List.set_cons_succ])
    refine wpAnyH_done (by kernel_rfl) ?_ _
    clear k0 k1 k2 k3 k4 k5 k6
    generalize v9 = v10 at *
    go_upto_region 7 with fail
    have RS := OW
    have RR := ((R.set0 (.int .i64 s)).set1 (.int .i64 g)).set2 (.slice A n c)
    have OO := own_butK OW (((But.refl w.heap.size v10).setCell 0 (.int .i64 s)).setCell 1 (.int .i64 g) |>.setCell 2 (.slice A n c)) hwo
    have BB := ((B.setCell (p := ⟨w.heap.size, 0, none⟩) (Nat.le_refl _) (.int .i64 s)).setCell (p := ⟨w.heap.size, 1, none⟩) (Nat.le_refl _) (.int .i64 g)).setCell (p := ⟨w.heap.size, 2, none⟩) (Nat.le_refl _) (.slice A n c)
    obtain ⟨k0, k1, k2, k3, k4, k5, k6⟩ := id KB
    obtain ⟨r0, r1, r2, r3, r4, r5, r6⟩ := id R
    go_wp2_with fail
    clear k0 k1 k2 k3 k4 k5 k6
    clear r0 r1 r2 r3 r4 r5 r6
    generalize ((v10.setCell ⟨w.heap.size, 0, none⟩ (.int .i64 s)).setCell ⟨w.heap.size, 1, none⟩ (.int .i64 g)).setCell ⟨w.heap.size, 2, none⟩ (.slice A n c) = vz at *
    obtain ⟨r0, r1, r2, r3, r4, r5, r6⟩ := id RR
    exact bodyPost_ret (v := (.tuple #[.agg #[.int .i64 s, .int .i64 g, .slice A n c], .int .i64 ii, .int .i64 y])) (by simp (maxDischargeDepth := 6) [results, Try.results42, go_sem, *]) rfl ⟨s, g, A, n, c, M, ii, y, rfl, hn13, own_baseI OO (Nat.le_of_lt hwo), BB⟩
end Go.Proofs.Ytkdbgchmknanlaa
