/- What the draw of marks leaves. -/
import Derived.Test.YtdgfneloaopleaaV3
import Derived.Test.YtdgfneloaopleaaR3
import Derived.Test.YtdgfneloaopleaaU3
import Derived.Deep.OwnRows
import Derived.Deep.DeepCutAuto
import Derived.WalkKit
import Derived.WalkSpells
import Derived.WalkLawsBesides
import Derived.Deep.RegionHeld
import Derived.Deep.RegionHeld3
namespace Go.Proofs.Ytdgfneloaopleaa
open Go.RowKit
set_option linter.unusedVariables false
theorem prs_length (L : List (Int × Int)) : (prs L).length = L.length * 2 := by
  induction L with
  | nil => rfl
  | cons q L ih =>
    have e : prs (q :: L) = .int .i64 q.1 :: .int .i64 q.2 :: prs L := by simp [prs]
    rw [e]; simp [ih]; omega
theorem own_of_row {w : World} {base g T n cap : Nat} {h : Nat → Value} {xs : List Value} (hr : w.rowIs g T (cap * 2) h) (hb : base ≤ g) (hn : n ≤ cap) (hc : cap ≤ maxLen) (hx : xs.length = n * 2) (hq : ∀ j, j < n * 2 → xs[j]? = some (h j)) : w.ownsRow base T 2 (.slice (some ⟨g, 0, none⟩) n cap) n xs := by
  obtain ⟨c, h1, h2, h3⟩ := hr
  refine ⟨hx, .inr ⟨g, cap, c, rfl, hb, h1, hn, hc, h2, ?_⟩⟩
  apply List.ext_getElem?
  intro j
  by_cases hj : j < n * 2
  · rw [List.getElem?_take, if_pos hj, hq j hj]
    have := h3 j (by omega)
    simpa using this
  · rw [List.getElem?_take, if_neg hj, List.getElem?_eq_none (by omega)]
theorem arr_get {cur : Array Value} {j : Nat} (hj : j < cur.size) : cur[j]? = some (cur.getD j undef) := by
  rw [Array.getElem?_eq_getElem hj, Array.getD_eq_getD_getElem?, Array.getElem?_eq_getElem hj]; rfl
theorem set_getD {L : List (Int × Int)} {i q : Nat} (hi : i < L.length) (v : Int × Int) : (L.set i v).getD q (0, 0) = if i = q then v else L.getD q (0, 0) := by
  rw [List.getD_eq_getElem?_getD, List.getElem?_set, List.getD_eq_getElem?_getD]
  by_cases e : i = q
  · subst e; simp [hi]
  · simp [e]
theorem own_put {w : World} {base : Nat} {T : TypeId} {a : Option Addr} {c : Nat} {L : List (Int × Int)} (h : w.ownsRow base T 2 (.slice a L.length c) L.length (prs L)) {i : Nat} (hi : i < L.length) :
    ∃ g, a = some ⟨g, 0, none⟩ ∧ base ≤ g ∧ g < w.heap.size ∧ w.cell? ⟨g, i * 2 + 1, none⟩ = some (.int .i64 (L.getD i (0, 0)).2) ∧ w.frozen? ⟨g, i * 2 + 1, none⟩ = false ∧ ∀ z : Int, ∃ L' : List (Int × Int), L'.length = L.length ∧ (w.setCell ⟨g, i * 2 + 1, none⟩ (.int .i64 z)).ownsRow base T 2 (.slice a L.length c) L.length (prs L') := by
  rcases h.2 with ⟨_, h0⟩ | ⟨g, cap, cur, he, hb, hg, hn, hc, hs, ht⟩
  · omega
  simp at he
  obtain ⟨rfl, rfl⟩ := he
  have hr : w.rowIs g T (c * 2) (fun j => cur.getD j undef) := ⟨cur, hg, hs, fun j hj => arr_get (by omega)⟩
  have hx : ∀ j, j < L.length * 2 → (prs L)[j]? = some (cur.getD j undef) := fun j hj => by
    rw [← ht, List.getElem?_take, if_pos hj]
    have := arr_get (cur := cur) (j := j) (by omega)
    simpa using this
  refine ⟨g, rfl, hb, hr.lt, ?_, hr.frozen _, fun z => ⟨L.set i ((L.getD i (0, 0)).1, z), by simp, ?_⟩⟩
  · rw [hr.cell (by omega), ← hx (i * 2 + 1) (by omega)]
    exact (prs_at L i hi).2
  · refine own_of_row (hr.set (i * 2 + 1) (.int .i64 z)) hb hn hc (by rw [prs_length]; simp) fun j hj => ?_
    obtain ⟨q, hq⟩ : ∃ q, j = q * 2 ∨ j = q * 2 + 1 := ⟨j / 2, by omega⟩
    have hql : q < L.length := by omega
    have hp := prs_at (L.set i ((L.getD i (0, 0)).1, z)) q (by simpa using hql)
    have hp0 := prs_at L q hql
    have hxj := hx j hj
    rw [set_getD hi] at hp
    rcases hq with rfl | rfl
    · have e3 : ¬ q * 2 = i * 2 + 1 := by omega
      simp only [if_neg e3]
      rw [← hxj, hp.1, hp0.1]
      by_cases e4 : i = q
      · rw [if_pos e4, e4]
      · rw [if_neg e4]
    · by_cases e4 : i = q
      · have e3 : q * 2 + 1 = i * 2 + 1 := by omega
        simp only [if_pos e3]
        rw [hp.2, if_pos e4]
      · have e3 : ¬ q * 2 + 1 = i * 2 + 1 := by omega
        simp only [if_neg e3]
        rw [← hxj, hp.2, hp0.2, if_neg e4]
theorem infoMk : (Try.prog.info? 42).map (fun i => (i.zero, i.size, i.bytes)) = some (some (.agg #[.int .i64 0, .int .i64 0]), 2, 16) := by kernel_rfl
set_option maxRecDepth 100000 in
set_option maxHeartbeats 8000000 in
theorem l3DrawMarks_any (B p : Nat) (most : Int) (w : World) (hcur : CurOk w B p) (hm : most ≤ 100) :
    Calls Try.prog 38 #[.pointer (some ⟨p, 0, none⟩), .int .i64 most] w fun e w' => ∃ x y : Int, ∃ v : Value, ∃ L : List (Int × Int), e = .returned (.tuple #[.agg #[.int .i64 x, .int .i64 y], v]) ∧ w'.ownsRow (w.heap.size + 1) 42 2 v L.length (prs L) ∧ L.length ≤ 1000 ∧ CurOk w' B p ∧ But p w w' := by
  obtain ⟨i0, hi, hz0, hz1, hz2⟩ := info_parts infoMk
  have hpl := hcur.lt
  have hpw : w.heap.size ≠ p := by omega
  have hBw : B ≤ w.heap.size := by omega
  have A0 := Below.alc w (.cells #[.int .i64 0, .int .i64 0] 25)
  have R0 := Bx.new w 0 0 25
  go_enter Try.func38, Try.ntmps38
  go_wp2_with fail
  refine (l2DrawDrift_any B p _ (by exact hcur.below A0)).mono ?_
  rintro e w1 ⟨x0, y0, rfl, w1c, w1b⟩
  have R1 := R0.but w1b hpw
  have b1 : But p w w1 := (But.of_below A0).trans w1b
  have A1 := Below.alc w1 (.cells #[.int .i64 x0, .int .i64 y0] 25)
  have D1 := Bx.new w1 x0 y0 25
  have q1 := w1c.lt
  have hk : w1.heap.size ≠ p := by omega
  have hwk : w.heap.size < w1.heap.size := R1.1
  have hBk : B ≤ w1.heap.size := by omega
  have R1' := R1.below A1
  have b1' : But p w (w1.alloc (.cells #[.int .i64 x0, .int .i64 y0] 25)) := b1.alloc _
  have w1c' := w1c.below A1
  clear A0 R0 w1b R1 b1 A1 w1c hcur
  go_upto_region 2 with fail
  generalize w1.alloc (.cells #[.int .i64 x0, .int .i64 y0] 25) = v1 at *
  generalize w1.heap.size = k at *
  obtain ⟨d0, d1, d2, d3, d4⟩ := id D1
  go_cut [20] (fun s20 wx => ∃ q : Bool, s20 = .bool q ∧ Bx wx k x0 y0 ∧ Bx wx w.heap.size 0 0 ∧ CurOk wx B p ∧ But p w wx)
  case first =>
    go_wp2_with fail
    refine (specDriftOk_any _ _ _).mono ?_
    rintro e v2 ⟨rfl, hb⟩
    have R2 := R1'.below hb
    have D2 := D1.below hb
    have b2 : But p w v2 := b1'.trans (But.of_below hb)
    have w2c := w1c'.below hb
    clear hb R1' D1 b1' w1c' d0 d1 d2 d3 d4
    cases okD x0 y0
    · go_wp2_with fail
      refine (l1Once_any B p 5 _ w2c).mono ?_
      rintro e v3 ⟨o1, rfl, w3c, w3b⟩
      have R3 := R2.but w3b hpw
      have D3 := D2.but w3b hk
      have b3 : But p w v3 := b2.trans w3b
      clear R2 D2 b2 w3b w2c
      cases o1
      all_goals
        go_wp2_with fail
        go_meet
        case rel => exact ⟨_, rfl, D3, R3, w3c, b3⟩
    · go_wp2_with fail
      go_meet
      case rel => exact ⟨_, rfl, D2, R2, w2c, b2⟩
  case rest =>
    obtain ⟨q, rfl, D2, R2, w2c, b2⟩ := hcut
    clear R1' D1 b1' w1c' d0 d1 d2 d3 d4
    generalize wc = v2 at *
    obtain ⟨d0, d1, d2, d3, d4⟩ := id D2
    go_upto_if 20 with fail
    go_cut [] (fun wx => ∃ x y : Int, Bx wx k x y ∧ Bx wx w.heap.size 0 0 ∧ CurOk wx B p ∧ But p w wx)
    case first =>
      cases q
      · go_wp2_with fail
        go_meet
        case rel => exact ⟨_, _, D2, R2, w2c, b2⟩
      · go_wp2_with fail
        go_meet
        case rel => exact ⟨1, 50, D2.set2 1 50, R2.set2O (by omega) 1 50, (w2c.setOther hk hBk _ _).setOther hk hBk _ _, (b2.setNew (by omega) _ _).setNew (by omega) _ _⟩
    case rest =>
      obtain ⟨x, y, D3, R3, w3c, b3⟩ := hcut
      clear D2 R2 w2c b2 d0 d1 d2 d3 d4
      generalize wc = v3 at *
      have hk3 : k + 1 ≤ v3.heap.size := D3.1
      obtain ⟨d0, d1, d2, d3, d4⟩ := id D3
      go_upto_region 4 with fail
      refine wp_region_held_drew (S := (fun w' => w'.cell? ⟨k, 0, none⟩ = some (.int .i64 x) ∧ w'.cell? ⟨k, 1, none⟩ = some (.int .i64 y))) (by kernel_rfl) ?_ (fun hHeld => ?_)
      · simp (maxDischargeDepth := 6) [go_sem, *]
      refine wpAnyH_take (i := 0) (v := ?_) (by rw [List.getElem?_toArray]; rfl) (by kernel_rfl) (by kernel_rfl) (by kernel_rfl) (by intro _ _ _ h; exact h) (Or.inl ⟨by rfl, ?_⟩) (by assumption) ?_
      rotate_left
      · (intro w hSw; (try dsimp only at hSw); go_simp; all_goals with_reducible rfl)
      (try simp only [Act.put, List.setIfInBounds_toArray, List.set_cons_zero, List.set_cons_succ])
      refine wpAnyH_take (i := 1) (v := ?_) (by rw [List.getElem?_toArray]; rfl) (by kernel_rfl) (by kernel_rfl) (by kernel_rfl) (by intro _ _ _ h; exact h) (Or.inl ⟨by rfl, ?_⟩) (by assumption) ?_
      rotate_left
      · (intro w hSw; (try dsimp only at hSw); go_simp; all_goals with_reducible rfl)
      (try simp only [Act.put, List.setIfInBounds_toArray, List.set_cons_zero, List.set_cons_succ])
      refine wpAnyH_take (i := 3) (v := ?_) (by rw [List.getElem?_toArray]; rfl) (by kernel_rfl) (by kernel_rfl) (by kernel_rfl) (by intro _ _ _ h; exact h) (Or.inl ⟨by rfl, ?_⟩) (by assumption) ?_
      rotate_left
      · (intro w hSw; (try dsimp only at hSw); go_simp; all_goals with_reducible rfl)
      (try simp only [Act.put, List.setIfInBounds_toArray, List.set_cons_zero, List.set_cons_succ])
      refine wpAnyH_take (i := 6) (v := ?_) (by rw [List.getElem?_toArray]; rfl) (by kernel_rfl) (by kernel_rfl) (by kernel_rfl) (by intro _ _ _ h; exact h) (Or.inl ⟨by rfl, ?_⟩) (by assumption) ?_
      rotate_left
      · (intro w hSw; (try dsimp only at hSw); go_simp; all_goals with_reducible rfl)
      (try simp only [Act.put, List.setIfInBounds_toArray, List.set_cons_zero, List.set_cons_succ])
      refine wpAnyH_take (i := 7) (v := ?_) (by rw [List.getElem?_toArray]; rfl) (by kernel_rfl) (by kernel_rfl) (by kernel_rfl) (by intro _ _ _ h; exact h) (Or.inl ⟨by rfl, ?_⟩) (by assumption) ?_
      rotate_left
      · (intro w hSw; (try dsimp only at hSw); go_simp; all_goals with_reducible rfl)
      (try simp only [Act.put, List.setIfInBounds_toArray, List.set_cons_zero, List.set_cons_succ])
      refine wpAnyH_take (i := 8) (v := ?_) (by rw [List.getElem?_toArray]; rfl) (by kernel_rfl) (by kernel_rfl) (by kernel_rfl) (by intro _ _ _ h; exact h) (Or.inl ⟨by rfl, ?_⟩) (by assumption) ?_
      rotate_left
      · (intro w hSw; (try dsimp only at hSw); go_simp; all_goals with_reducible rfl)
      (try simp only [Act.put, List.setIfInBounds_toArray, List.set_cons_zero, List.set_cons_succ])
      refine wpAnyH_ready (rs := [2]) (by kernel_rfl) (by simp) ?_
      refine AllReadyH.cons (by rw [List.getElem?_toArray]; rfl) (fun K hK => ?_) AllReadyH.nil
      go_simp
      refine (l1Below_any B p 50 _ (by first | exact w3c | exact CurOk.drew w3c)).mono ?_; rintro e v4 ⟨t, rfl, -, -, -, -, w4c, w4b⟩; (first | replace w4b := But.undrewA w4b | skip); (have R4 := R3.but w4b hpw); (have D4 := D3.but w4b hk); (have b4 : But p w v4 := b3.trans w4b); clear R3 D3 b3 w3c d0 d1 d2 d3 d4; obtain ⟨d0, d1, d2, d3, d4⟩ := id D4; clear w4b
      (try go_wp2_with fail)
      refine hK.out _ _ ?_ (fun hHeld => ?_)
      · simp (maxDischargeDepth := 6) [go_sem, *]
      clear hK K
      (try simp only [Act.put, List.setIfInBounds_toArray, List.set_cons_zero, List.set_cons_succ])
      refine wpAnyH_ready (rs := [4]) (by kernel_rfl) (by simp) ?_
      refine AllReadyH.cons (by rw [List.getElem?_toArray]; rfl) (fun K hK => ?_) AllReadyH.nil
      go_simp
      refine (l1Below_any B p 50 _ (by first | exact w4c | exact CurOk.drew w4c)).mono ?_; rintro e v5 ⟨u, rfl, -, -, -, -, w5c, w5b⟩; (first | replace w5b := But.undrewA w5b | skip); (have R5 := R4.but w5b hpw); (have D5 := D4.but w5b hk); (have b5 : But p w v5 := b4.trans w5b); clear R4 D4 b4 w4c d0 d1 d2 d3 d4; obtain ⟨d0, d1, d2, d3, d4⟩ := id D5; clear w5b
      (try go_wp2_with fail)
      refine hK.out _ _ ?_ (fun hHeld => ?_)
      · simp (maxDischargeDepth := 6) [go_sem, *]
      clear hK K
      (try simp only [Act.put, List.setIfInBounds_toArray, List.set_cons_zero, List.set_cons_succ])
      refine wpAnyH_take (i := 5) (v := ?_) (by rw [List.getElem?_toArray]; rfl) (by kernel_rfl) (by kernel_rfl) (by kernel_rfl) (by intro _ _ _ h; exact h) (Or.inl ⟨by rfl, ?_⟩) (by assumption) ?_
      rotate_left
      · (intro w hSw; (try dsimp only at hSw); go_simp; all_goals with_reducible rfl)
      (try simp only [Act.put, List.setIfInBounds_toArray, List.set_cons_zero, List.set_cons_succ])
      refine wpAnyH_ready (rs := [9]) (by kernel_rfl) (by simp) ?_
      refine AllReadyH.cons (by rw [List.getElem?_toArray]; rfl) (fun K hK => ?_) AllReadyH.nil
      go_simp
      refine (l1Below_any B p _ _ (by first | exact w5c | exact CurOk.drew w5c)).mono ?_; rintro e v6 ⟨m, rfl, ml, mh, mp, mz, w6c, w6b⟩; (first | replace w6b := But.undrewA w6b | skip); (have R6 := R5.but w6b hpw); (have D6 := D5.but w6b hk); (have b6 : But p w v6 := b5.trans w6b); clear R5 D5 b5 w5c d0 d1 d2 d3 d4; obtain ⟨d0, d1, d2, d3, d4⟩ := id D6; clear w6b; (have hm1 : m ≤ 100 := by (by_cases h : 0 < most; (have := mp h; omega); (have := mz (by omega); omega))); clear mp mz
      (try go_wp2_with fail)
      refine hK.out _ _ ?_ (fun hHeld => ?_)
      · simp (maxDischargeDepth := 6) [go_sem, *]
      clear hK K
      (try simp only [Act.put, List.setIfInBounds_toArray, List.set_cons_zero, List.set_cons_succ])
      refine wpAnyH_ready (rs := [10]) (by kernel_rfl) (by simp) ?_
      refine AllReadyH.cons (by rw [List.getElem?_toArray]; rfl) (fun K hK => ?_) AllReadyH.nil
      go_simp
      refine (l3DrawStrides_any B p _ _ (by first | exact w6c | exact CurOk.drew w6c) (by omega)).mono ?_; rintro e v7 ⟨vs, LS, rfl, OS7, hLS, w7c, w7b⟩; (first | replace w7b := But.undrewA w7b | skip); (have R7 := R6.but w7b hpw); (have D7 := D6.but w7b hk); (have b7 : But p w v7 := b6.trans w7b); (have hs7 : k + 1 ≤ v7.heap.size := D7.1); clear R6 D6 b6 w6c d0 d1 d2 d3 d4; obtain ⟨d0, d1, d2, d3, d4⟩ := id D7; clear w7b; obtain ⟨a, cp, rfl, hmc, hcm, hsrc⟩ := own_src OS7; (have SR : Hid (Src v7 a LS.length fun i => LS.getD i (0, 0)) := hsrc); clear OS7 hsrc
      (try go_wp2_with fail)
      refine hK.out _ _ ?_ (fun hHeld => ?_)
      · simp (maxDischargeDepth := 6) [go_sem, *]
      clear hK K
      (try simp only [Act.put, List.setIfInBounds_toArray, List.set_cons_zero, List.set_cons_succ])
      refine wpAnyH_ready (rs := [11]) (by kernel_rfl) (by simp) ?_
      refine AllReadyH.cons (by rw [List.getElem?_toArray]; rfl) (fun K hK => ?_) AllReadyH.nil
      go_simp
      refine (specOscRun_any _ _ _ _ a _ cp _ _ (by unfold maxLen; omega) SR.out).mono ?_; rintro e v8 ⟨vm, rfl, OM, hb⟩; (have R8 := R7.below hb); (have D8 := D7.below hb); (have b8 : But p w v8 := b7.trans (But.of_below hb)); (have w8c := w7c.below hb); (have hL8 := runL_len x y t u (fun i => LS.getD i (0, 0)) LS.length); (replace OM := own_base OM hs7); clear hb R7 D7 b7 w7c SR d0 d1 d2 d3 d4; obtain ⟨d0, d1, d2, d3, d4⟩ := id D8
      (try go_wp2_with fail)
      refine hK.out _ _ ?_ (fun hHeld => ?_)
      · simp (maxDischargeDepth := 6) [go_sem, *]
      clear hK K
      (try simp only [Act.put, List.setIfInBounds_toArray, List.set_cons_zero, List.set_cons_succ])
      refine wpAnyH_take (i := 12) (v := ?_) (by rw [List.getElem?_toArray]; rfl) (by kernel_rfl) (by kernel_rfl) (by kernel_rfl) (by intro _ _ _ h; exact h) (Or.inl ⟨by rfl, ?_⟩) (by assumption) ?_
      rotate_left
      · (intro w hSw; (try dsimp only at hSw); go_simp; all_goals with_reducible rfl)
      (try simp only [Act.put, List.setIfInBounds_toArray, List.set_cons_zero, List.set_cons_succ])
      refine wpAnyH_take (i := 13) (v := ?_) (by rw [List.getElem?_toArray]; rfl) (by kernel_rfl) (by kernel_rfl) (by kernel_rfl) (by intro _ _ _ h; exact h) (Or.inl ⟨by rfl, ?_⟩) (by assumption) ?_
      rotate_left
      · (intro w hSw; (try dsimp only at hSw); go_simp; all_goals with_reducible rfl)
      (try simp only [Act.put, List.setIfInBounds_toArray, List.set_cons_zero, List.set_cons_succ])
      refine wpAnyH_take (i := 14) (v := ?_) (by rw [List.getElem?_toArray]; rfl) (by kernel_rfl) (by kernel_rfl) (by kernel_rfl) (by intro _ _ _ h; exact h) (Or.inl ⟨by rfl, ?_⟩) (by assumption) ?_
      rotate_left
      · (intro w hSw; (try dsimp only at hSw); go_simp; all_goals with_reducible rfl)
      (try simp only [Act.put, List.setIfInBounds_toArray, List.set_cons_zero, List.set_cons_succ])
      refine wpAnyH_take (i := 15) (v := ?_) (by rw [List.getElem?_toArray]; rfl) (by kernel_rfl) (by kernel_rfl) (by kernel_rfl) (by intro _ _ _ h; exact h) (Or.inl ⟨by rfl, ?_⟩) (by assumption) ?_
      rotate_left
      · (intro w hSw; (try dsimp only at hSw); go_simp; all_goals with_reducible rfl)
      (try simp only [Act.put, List.setIfInBounds_toArray, List.set_cons_zero, List.set_cons_succ])
      refine wpAnyH_take (i := 16) (v := ?_) (by rw [List.getElem?_toArray]; rfl) (by kernel_rfl) (by kernel_rfl) (by kernel_rfl) (by intro _ _ _ h; exact h) (Or.inl ⟨by rfl, ?_⟩) (by assumption) ?_
      rotate_left
      · (intro w hSw; (try dsimp only at hSw); go_simp; all_goals with_reducible rfl)
      (try simp only [Act.put, List.setIfInBounds_toArray, List.set_cons_zero, List.set_cons_succ])
      refine wpAnyH_done (by kernel_rfl) ?_ _
      generalize runL x y t u (fun i => LS.getD i (0, 0)) LS.length = LM at *
      generalize runD x y t u (fun i => LS.getD i (0, 0)) LS.length = DM at *
      go_upto_region 5 with fail
      clear d0 d1 d2 d3 d4
      obtain ⟨am, cm, rfl, hamc, hacm, hsm⟩ := own_src OM
      clear hsm
      go_cut [43] (fun s43 wx => ∃ q : Bool, s43 = .bool q ∧ (q = true → 0 < LM.length) ∧ Bx wx k x y ∧ Bx wx w.heap.size 0 0 ∧ CurOk wx B p ∧ But p w wx ∧ wx.ownsRow (k + 1) 42 2 (.slice am LM.length cm) LM.length (prs LM))
      case first =>
        by_cases h0 : 0 < LM.length
        · have h0' : decide (0 < (LM.length : Int)) = true := decide_eq_true (by omega)
          go_wp2_with fail
          refine (l1Once_any B p 5 _ w8c).mono ?_
          rintro e v9 ⟨o1, rfl, w9c, w9b⟩
          go_wp2_with fail
          go_meet
          case rel => exact ⟨o1, by first | rfl | simp, fun _ => h0, D8.but w9b hk, R8.but w9b hpw, w9c, b8.trans w9b, own_but OM w9b (by omega)⟩
        · have h0' : decide (0 < (LM.length : Int)) = false := decide_eq_false (by omega)
          go_wp2_with fail
          go_meet
          case rel => exact ⟨false, rfl, fun h => absurd h (by simp), D8, R8, w8c, b8, OM⟩
      case rest =>
        obtain ⟨q, rfl, hq, D9, R9, w9c, b9, O9⟩ := hcut
        clear D8 R8 w8c b8 OM
        generalize wc = v9 at *
        go_upto_if 43 with fail
        go_cut [] (fun wx => ∃ L' : List (Int × Int), L'.length = LM.length ∧ Bx wx k x y ∧ Bx wx w.heap.size 0 0 ∧ CurOk wx B p ∧ But p w wx ∧ wx.ownsRow (k + 1) 42 2 (.slice am LM.length cm) LM.length (prs L'))
        case first =>
          cases q
          · go_wp2_with fail
            go_meet
            case rel => exact ⟨LM, rfl, D9, R9, w9c, b9, O9⟩
          · have h0 := hq rfl
            go_wp2_with fail
            refine (l1Below_any B p _ _ w9c).mono ?_
            rintro e v10 ⟨ii, rfl, ii0, -, iip, -, w10c, w10b⟩
            have hii := iip (by omega)
            obtain ⟨i, rfl⟩ := Int.eq_ofNat_of_zero_le ii0
            have him : i < LM.length := by omega
            have hil : (i : Int) < (LM.length : Int) := by omega
            have O10 := own_but O9 w10b (by omega)
            have D10 := D9.but w10b hk
            have R10 := R9.but w10b hpw
            have b10 : But p w v10 := b9.trans w10b
            clear O9 D9 R9 b9 w9c w10b iip
            obtain ⟨g, rfl, hg0, hg1, c1, f1, -⟩ := own_put O10 him
            have hgp : g ≠ p := by omega
            have hBg : B ≤ g := by omega
            have hgw : w.heap.size ≤ g := by omega
            generalize (LM.getD i (0, 0)).2 = cc at *
            go_wp2_with fail
            go_region_with (go_at_call 25; refine (l1Below_any B p 9 _ (by first | exact w10c | exact CurOk.drew w10c)).mono ?_; rintro e v11 ⟨zz, rfl, zl, zh, zp, -, w11c, w11b⟩; (first | replace w11b := But.undrewA w11b | skip); (have O11 := own_but O10 w11b (by omega)); (have D11 := D10.but w11b hk); (have R11 := R10.but w11b hpw); (have b11 : But p w v11 := b10.trans w11b); (replace c1 := (w11b.cell (o := i * 2 + 1) hg1 hgp).trans c1); (replace f1 := (w11b.frozen (o := i * 2 + 1) hg1 hgp).trans f1); (replace hg1 := Nat.lt_of_lt_of_le hg1 w11b.2.2.2.1); clear O10 D10 R10 b10 w10c w11b)
            all_goals go_wp2_with fail
            all_goals go_meet
            all_goals case rel =>
              obtain ⟨g', he, -, -, -, -, hput⟩ := own_put O11 him
              simp at he
              subst he
              exact ⟨_, (hput _).choose_spec.1, by first | exact (D11.setO (by omega) _ _).drew | exact D11.setO (by omega) _ _, by first | exact (R11.setO (by omega) _ _).drew | exact R11.setO (by omega) _ _, by first | exact CurOk.drew (w11c.setOther hgp hBg _ _) | exact w11c.setOther hgp hBg _ _, by first | exact But.drew (b11.setNew hgw _ _) | exact b11.setNew hgw _ _, by first | exact own_drew (hput _).choose_spec.2 | exact (hput _).choose_spec.2⟩
        case rest =>
          obtain ⟨L1, hL1, D10, R10, w10c, b10, O10⟩ := hcut
          clear D9 R9 w9c b9 O9 hq
          generalize wc = v10 at *
          rw [← hL1] at O10
          have hL1' : L1.length ≤ 201 := by omega
          rw [← hL1]
          clear hL1
          go_wp2_with fail
          refine (l1Once_any B p 30 _ w10c).mono ?_
          rintro e v11 ⟨o2, rfl, w11c, w11b⟩
          have O11 := own_but O10 w11b (by omega)
          have D11 := D10.but w11b hk
          have R11 := R10.but w11b hpw
          have b11 : But p w v11 := b10.trans w11b
          clear O10 D10 R10 b10 w10c w11b
          go_upto_if 62 with fail
          go_cut [7] (fun s7 wx => ∃ L' : List (Int × Int), L'.length ≤ 202 ∧ Bx wx k x y ∧ Bx wx w.heap.size 0 0 ∧ CurOk wx B p ∧ But p w wx ∧ wx.ownsRow (k + 1) 42 2 s7 L'.length (prs L'))
          case first =>
            cases o2
            · go_wp2_with fail
              go_meet
              case rel => exact ⟨L1, by omega, D11, R11, w11c, b11, O11⟩
            · go_wp2_with fail
              refine (l2DrawCount_any B p _ w11c).mono ?_
              rintro e v12 ⟨xx, rfl, w12c, w12b⟩
              have O12 := own_but O11 w12b (by omega)
              have D12 := D11.but w12b hk
              have R12 := R11.but w12b hpw
              have b12 : But p w v12 := b11.trans w12b
              clear O11 D11 R11 b11 w11c w12b
              go_wp2_with fail
              refine (l2DrawCount_any B p _ w12c).mono ?_
              rintro e v13 ⟨yy, rfl, w13c, w13b⟩
              have O13 := own_but O12 w13b (by omega)
              have D13 := D12.but w13b hk
              have R13 := R12.but w13b hpw
              have b13 : But p w v13 := b12.trans w13b
              have s13 : k + 1 ≤ v13.heap.size := D13.1
              clear O12 D12 R12 b12 w12c w13b
              go_wp2_with (at_builtin; refine wpList_append_own _ rfl _ _ 31 rfl (k + 1) 42 i0 (.agg #[.int .i64 0, .int .i64 0]) 2 16 Try.underlying31 hi hz0 hz1 hz2 rfl (by decide) _ _ _ rfl (World.ownsRow.alloc O13 _) ⟨v13.heap.size, 0, none⟩ 1 1 [.int .i64 xx, .int .i64 yy] rfl rfl ?c1 ?c2 ?c3 ?c4 ?c5 ?_)
              case c1 => intro j u hj; exact pair_at v13 _ _ 42 j u hj
              case c2 => intro u hu; simp at hu; rcases hu with rfl | rfl <;> rfl
              case c3 => unfold maxLen; omega
              case c4 => omega
              case c5 => simp; omega
              · intro v' w9 hown' hgrow _
                have A9 := Below.alc v13 (.cells #[.int .i64 xx, .int .i64 yy] 42)
                have hsz : k + 1 ≤ (v13.alloc (.cells #[.int .i64 xx, .int .i64 yy] 42)).heap.size := by simp; omega
                have G9 := grown_below (World.ownsRow.alloc O13 _) hgrow hsz
                have w9c : CurOk w9 B p := CurOk.belowB (CurOk.below w13c A9) G9 (by omega)
                have b9 : But p w w9 := But.thenBelow (But.alloc b13 _) (G9.mono (by omega))
                have D9 := (D13.below A9).belowB G9 (by omega)
                have R9 := (R13.below A9).belowB G9 (by omega)
                have O9 : w9.ownsRow (k + 1) 42 2 v' (L1 ++ [(xx, yy)]).length (prs (L1 ++ [(xx, yy)])) := by rw [prs_add]; simpa using hown'
                clear hown' hgrow G9 A9 hsz O13 b13 w13c D13 R13
                go_wp2
                go_meet
                case rel => exact ⟨L1 ++ [(xx, yy)], by simp; omega, D9, R9, w9c, b9, O9⟩
          case rest =>
            obtain ⟨L2, hL2, D12, R12, w12c, b12, O12⟩ := hcut
            clear D11 R11 w11c b11 O11 hL1'
            generalize wc = v12 at *
            go_wp2_with fail
            refine (l1Once_any B p 30 _ w12c).mono ?_
            rintro e v13 ⟨o3, rfl, w13c, w13b⟩
            have O13 := own_but O12 w13b (by omega)
            have D13 := D12.but w13b hk
            have R13 := R12.but w13b hpw
            have b13 : But p w v13 := b12.trans w13b
            clear O12 D12 R12 b12 w12c w13b
            cases o3
            · obtain ⟨d0, d1, d2, d3, d4⟩ := id D13
              obtain ⟨r0, r1, r2, r3, r4⟩ := id R13
              have hne : ∀ g, u7.ownBlock = some g → g ≠ w.heap.size := fun g hg => by have := (O13.lt g hg).1; omega
              have O14 := own_set (own_set O13 hne 0 (.int .i64 x)) hne 1 (.int .i64 y)
              go_wp2_with fail
              exact bodyPost_ret (v := .tuple #[.agg #[.int .i64 x, .int .i64 y], u7]) (by simp (maxDischargeDepth := 6) [results, Try.results38, go_sem, *]) rfl ⟨x, y, u7, L2, rfl, own_base O14 (by omega), by omega, (w13c.setOther hpw hBw _ _).setOther hpw hBw _ _, (b13.setNew (Nat.le_refl _) _ _).setNew (Nat.le_refl _) _ _⟩
            · have s13 : k + 1 ≤ v13.heap.size := D13.1
              have A13 := Below.alc v13 (.cells #[] 42)
              have ON : (v13.alloc (.cells #[] 42)).ownsRow (k + 1) 42 2 (.slice (some ⟨v13.heap.size, 0, none⟩) 0 0) 0 [] := World.ownsRow_made v13 #[] 0 s13 (by simp [maxLen]) (by simp)
              have D14 := D13.below A13
              have R14 := R13.below A13
              have b14 : But p w (v13.alloc (.cells #[] 42)) := b13.alloc _
              have w14c := w13c.below A13
              clear A13 O13 D13 R13 b13 w13c
              go_wp2_with fail
              generalize v13.alloc (.cells #[] 42) = v14 at *
              go_loopw [7, 10] (fun v i wr => ∃ L' : List (Int × Int), L'.length ≤ 203 ∧ i = .int .i64 L'.length ∧ wr.ownsRow (k + 1) 42 2 v L'.length (prs L') ∧ Bx wr k x y ∧ Bx wr w.heap.size 0 0 ∧ CurOk wr B p ∧ But p w wr) (fun _ i _ => 203 - (intOf i).toNat)
              case atStart => exact ⟨[], by simp, rfl, ON, D14, R14, w14c, b14⟩
              case round =>
                obtain ⟨L3, hL3, rfl, O15, D15, R15, w15c, b15⟩ := hrel
                clear ON D14 R14 w14c b14
                go_wp2_with fail
                refine (l1Below_any B p 2 _ w15c).mono ?_
                rintro e v16 ⟨zz, rfl, zl, zh, zp, -, w16c, w16b⟩
                have hz := zp (by omega)
                have O16 := own_but O15 w16b (by omega)
                have D16 := D15.but w16b hk
                have R16 := R15.but w16b hpw
                have b16 : But p w v16 := b15.trans w16b
                have s16 : k + 1 ≤ v16.heap.size := D16.1
                clear O15 D15 R15 b15 w15c w16b zp
                by_cases hlt : (L3.length : Int) < 201 + zz
                · go_wp2_with (at_builtin; refine wpList_append_own _ rfl _ _ 31 rfl (k + 1) 42 i0 (.agg #[.int .i64 0, .int .i64 0]) 2 16 Try.underlying31 hi hz0 hz1 hz2 rfl (by decide) _ _ _ rfl (World.ownsRow.alloc O16 _) ⟨v16.heap.size, 0, none⟩ 1 1 [.int .i64 (L3.length : Int), .int .i64 (L3.length : Int)] rfl rfl ?c1 ?c2 ?c3 ?c4 ?c5 ?_)
                  case c1 => intro j u hj; exact pair_at v16 _ _ 42 j u hj
                  case c2 => intro u hu; simp at hu; rcases hu with rfl | rfl <;> rfl
                  case c3 => unfold maxLen; omega
                  case c4 => omega
                  case c5 => simp; omega
                  · intro v' w9 hown' hgrow _
                    have A9 := Below.alc v16 (.cells #[.int .i64 (L3.length : Int), .int .i64 (L3.length : Int)] 42)
                    have hsz : k + 1 ≤ (v16.alloc (.cells #[.int .i64 (L3.length : Int), .int .i64 (L3.length : Int)] 42)).heap.size := by simp; omega
                    have G9 := grown_below (World.ownsRow.alloc O16 _) hgrow hsz
                    have w9c : CurOk w9 B p := CurOk.belowB (CurOk.below w16c A9) G9 (by omega)
                    have b9 : But p w w9 := But.thenBelow (But.alloc b16 _) (G9.mono (by omega))
                    have D9 := (D16.below A9).belowB G9 (by omega)
                    have R9 := (R16.below A9).belowB G9 (by omega)
                    have O9 : w9.ownsRow (k + 1) 42 2 v' (L3 ++ [((L3.length : Int), (L3.length : Int))]).length (prs (L3 ++ [((L3.length : Int), (L3.length : Int))])) := by rw [prs_add]; simpa using hown'
                    clear hown' hgrow G9 A9 hsz O16 b16 w16c D16 R16
                    go_wp2
                    go_roundw
                    case rel => exact ⟨L3 ++ [((L3.length : Int), (L3.length : Int))], by simp; omega, by simp; try go_num, O9, D9, R9, w9c, b9⟩
                    case measure => simp [intOf]; omega
                · have hd : decide ((L3.length : Int) < 201 + zz) = false := decide_eq_false (by omega)
                  obtain ⟨d0, d1, d2, d3, d4⟩ := id D16
                  obtain ⟨r0, r1, r2, r3, r4⟩ := id R16
                  have hne : ∀ g, u7.ownBlock = some g → g ≠ w.heap.size := fun g hg => by have := (O16.lt g hg).1; omega
                  have O17 := own_set (own_set O16 hne 0 (.int .i64 x)) hne 1 (.int .i64 y)
                  go_wp2_with fail
                  exact bodyPost_ret (v := .tuple #[.agg #[.int .i64 x, .int .i64 y], u7]) (by simp (maxDischargeDepth := 6) [results, Try.results38, go_sem, *]) rfl ⟨x, y, u7, L3, rfl, own_base O17 (by omega), by omega, (w16c.setOther hpw hBw _ _).setOther hpw hBw _ _, (b16.setNew (Nat.le_refl _) _ _).setNew (Nat.le_refl _) _ _⟩
end Go.Proofs.Ytdgfneloaopleaa
