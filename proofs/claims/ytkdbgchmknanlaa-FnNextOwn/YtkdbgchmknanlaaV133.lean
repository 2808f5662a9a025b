/- The draw of any plan. -/
import Derived.Test.YtkdbgchmknanlaaV132
import Derived.Test.YtkdbgchmknanlaaK1
import Derived.Laws.OwnMore
import Derived.Deep.RegionHeld3
import Derived.WalkKit
import Derived.WalkSpells
import Derived.WalkLawsBesides
import Derived.Deep.RegionHeld
namespace Go.Proofs.Ytkdbgchmknanlaa
open Go.RowKit
set_option linter.unusedVariables false
theorem srow_at0 {M : Nat → SlT} {n : Nat} (hn : 1 ≤ n) : (srow M n)[0]? = some (.int .i64 (M 0).1) := by
  rw [srow, List.getElem?_map, List.getElem?_range (by omega)]
  rfl
theorem srow_at1 {M : Nat → SlT} {n : Nat} (hn : 1 ≤ n) : (srow M n)[1]? = some (.int .i64 (M 0).2) := by
  rw [srow, List.getElem?_map, List.getElem?_range (by omega)]
  rfl
theorem srow_set {M : Nat → SlT} {n j : Nat} {q : SlT} {u : Value} (hn : 1 ≤ n) (hj : j < 2) (hu : MCSlot q j = u) (ho : MCSlot q (1 - j) = MCSlot (M 0) (1 - j)) : (srow M n).set j u = srow (updS M q) n := by
  apply List.ext_getElem?
  intro i
  rw [List.getElem?_set, srow_len]
  by_cases hi : i < n * 2
  · rw [srow, srow, List.getElem?_map, List.getElem?_map, List.getElem?_range hi]
    by_cases e : j = i
    · subst e
      rw [if_pos rfl, if_pos hi]
      show some u = some (MCSlot (updS M q (j / 2)) (j % 2))
      rw [show j / 2 = 0 by omega, show j % 2 = j by omega, updS, if_pos rfl, hu]
    · rw [if_neg e]
      show some (MCSlot (M (i / 2)) (i % 2)) = some (MCSlot (updS M q (i / 2)) (i % 2))
      by_cases h0 : i / 2 = 0
      · rw [h0, updS, if_pos rfl, show i % 2 = 1 - j by omega, ho]
      · rw [updS, if_neg h0]
  · by_cases e : j = i
    · omega
    · rw [if_neg e, List.getElem?_eq_none (by rw [srow_len]; omega), List.getElem?_eq_none (by rw [srow_len]; omega)]
def lenAt (w : World) (j : Nat) : Nat := match w.cell? ⟨j, 2, none⟩ with | some (.slice _ n _) => n | _ => 0
theorem lenAt_is {w : World} {j : Nat} {a : Option Addr} {n c : Nat} (h : w.cell? ⟨j, 2, none⟩ = some (.slice a n c)) : lenAt w j = n := by unfold lenAt; rw [h]
section
variable {w0 w : World} {B p bt gb : Nat} {s g : Int} {n c : Nat} {M : Nat → SlT}
theorem Pw.putAt {j : Nat} {u : Value} {q : SlT} (h : Pw w0 B p bt w s g (some ⟨gb, 0, none⟩) n c M) (hp : p < w0.heap.size) (hn : 1 ≤ n) (hj : j < 2) (hgb : gb ≠ bt) (hu : MCSlot q j = u) (ho : MCSlot q (1 - j) = MCSlot (M 0) (1 - j)) : Pw w0 B p bt (w.setCell ⟨gb, j, none⟩ u) s g (some ⟨gb, 0, none⟩) n c (updS M q) := by
  have hl := World.ownsRow.lt h.2.1 gb (by simp [Value.ownBlock])
  have hO := (World.ownsRow.stored h.2.1 j u).1
  rw [srow_set hn hj hu ho] at hO
  have hc := h.2.2.1.lt
  have hb := But.one13 w gb j u
  have hpw := h.2.2.2.1
  exact ⟨h.1.but hb (Ne.symm hgb), hO, h.2.2.1.below13 (hb.below (B := w0.heap.size + 1) (by omega) (by omega)) (by omega), h.2.2.2.1.new13 hb (by omega), h.2.2.2.2.1.but hb (by omega), h.2.2.2.2.2⟩
theorem Pw.put0 (h : Pw w0 B p bt w s g (some ⟨gb, 0, none⟩) n c M) (hp : p < w0.heap.size) (hn : 1 ≤ n) (hgb : gb ≠ bt) (y : Int) : Pw w0 B p bt (w.setCell ⟨gb, 0, none⟩ (.int .i64 y)) s g (some ⟨gb, 0, none⟩) n c (updS M (y, (M 0).2)) := h.putAt hp hn (by decide) hgb rfl rfl
theorem Pw.put1 (h : Pw w0 B p bt w s g (some ⟨gb, 0, none⟩) n c M) (hp : p < w0.heap.size) (hn : 1 ≤ n) (hgb : gb ≠ bt) (y : Int) : Pw w0 B p bt (w.setCell ⟨gb, 1, none⟩ (.int .i64 y)) s g (some ⟨gb, 0, none⟩) n c (updS M ((M 0).1, y)) := h.putAt hp hn (by decide) hgb rfl rfl
end
set_option maxRecDepth 100000 in
set_option maxHeartbeats 16000000 in
theorem l13DrawAny_any (B p : Nat) (w : World) (hcur : CurOk w B p) :
    Calls Try.prog 69 #[.pointer (some ⟨p, 0, none⟩)] w fun e w' => PlanDrawn 13 w B p e w' := by
  obtain ⟨i0, hi, hz0, hz1, hz2⟩ := info13_parts
  have hpl := hcur.lt
  have hp : p < w.heap.size := hpl.1
  have hB : B ≤ p := hpl.2
  have hpw : w.heap.size ≠ p := by omega
  have A1 := Below.nw w (.cells #[.int .i64 0, .int .i64 0, .slice none 0 0] 29)
  have R := Tx3.new w (.int .i64 0) (.int .i64 0) (.slice none 0 0) 29
  have cc0 := hcur.below A1
  have b0 : But p w _ := But.of_below A1
  have hsz : (w.alloc (.cells #[.int .i64 0, .int .i64 0, .slice none 0 0] 29)).heap.size = w.heap.size + 1 := by simp
  clear A1 hcur hpl
  go_enter Try.func69, Try.ntmps69
  go_upto_region 1 with fail
  generalize w.alloc (.cells #[.int .i64 0, .int .i64 0, .slice none 0 0] 29) = v at *
  go_wp2_with fail
  refine (l13DrawPlan_any B p _ cc0).mono ?_
  rintro e v1 ⟨s, g, A, n, c, M, rfl, hn12, hn1, OW, cc, bb⟩
  replace hn1 := hn1 rfl
  rw [hsz] at OW
  replace R := R.but bb hpw
  replace b0 := b0.trans bb
  clear bb cc0 hsz
  have A2 := Below.nw v1 (.cells #[.int .i64 s, .int .i64 g, .slice A n c] 29)
  have T : Pw w B p v1.heap.size (v1.alloc (.cells #[.int .i64 s, .int .i64 g, .slice A n c] 29)) s g A n c M := ⟨Tx3.new v1 _ _ _ _, own_belK' OW A2, cc.below A2, b0.trans (But.of_below A2), R.below A2, fun q hq => Nat.ne_of_lt (World.ownsRow.lt OW q hq).2⟩
  have hbt : w.heap.size < v1.heap.size := R.1
  clear A2 b0 R cc OW
  go_upto_region 2 with fail
  generalize v1.heap.size = bt at *
  generalize v1.alloc (.cells #[.int .i64 s, .int .i64 g, .slice A n c] 29) = v2 at *
  go_wp2_with fail
  refine (l1Below_any B p 25 _ T.2.2.1).mono ?_; rintro e v3 ⟨r, rfl, rl, rh, rp, rz, cc, bb⟩; replace T := T.but cc bb hp hbt; clear cc bb rz
  clear rp rh rl
  by_cases h0 : r = 0
  · subst h0
    go_wp2_with fail
    refine (l2DrawCount_any B p _ T.2.2.1).mono ?_
    rintro e v4 ⟨y, rfl, cc, bb⟩
    replace T := T.but cc bb hp hbt
    clear cc bb
    have T2 := T.set0 hp hB hbt y
    obtain ⟨n0, n1, n2, n3, n4, n5, n6⟩ := id T.1
    go_upto_region 16 with fail
    clear n0 n1 n2 n3 n4 n5 n6
    generalize v4.setCell ⟨bt, 0, none⟩ (.int .i64 y) = v5 at *
    clear T
    have T := T2
    clear T2
    have RS := T.result hp hB (u0 := .int .i64 y) (u1 := .int .i64 g) (u2 := .slice A n c)
    have RR := ((T.2.2.2.2.1.set0 (.int .i64 y)).set1 (.int .i64 g)).set2 (.slice A n c)
    obtain ⟨n0, n1, n2, n3, n4, n5, n6⟩ := id T.1
    obtain ⟨r0, r1, r2, r3, r4, r5, r6⟩ := id T.2.2.2.2.1
    go_wp2_with fail
    clear n0 n1 n2 n3 n4 n5 n6
    clear r0 r1 r2 r3 r4 r5 r6
    generalize ((v5.setCell ⟨w.heap.size, 0, none⟩ (.int .i64 y)).setCell ⟨w.heap.size, 1, none⟩ (.int .i64 g)).setCell ⟨w.heap.size, 2, none⟩ (.slice A n c) = vz at *
    obtain ⟨r0, r1, r2, r3, r4, r5, r6⟩ := id RR
    exact bodyPost_ret (v := (.agg #[.int .i64 y, .int .i64 g, .slice A n c])) (by simp (maxDischargeDepth := 6) [results, Try.results69, go_sem, *]) rfl ⟨y, g, A, n, c, M, rfl, by omega, fun q => absurd q (by decide), RS⟩
  by_cases h1 : r = 1
  · subst h1
    go_wp2_with fail
    have hpk := pickLit B p v3 [-1, 100000, 100001] T.2.2.1 (by simp) (by simp); simp only [List.map_cons, List.map_nil, List.length_cons, List.length_nil, Nat.zero_add, Nat.reduceAdd] at hpk; refine hpk.mono ?_; clear hpk; rintro e v4 ⟨y, rfl, cc, bb⟩
    replace T := T.but cc bb hp hbt
    clear cc bb
    have T2 := T.set1 hp hB hbt y
    obtain ⟨n0, n1, n2, n3, n4, n5, n6⟩ := id T.1
    go_upto_region 16 with fail
    clear n0 n1 n2 n3 n4 n5 n6
    generalize v4.setCell ⟨bt, 1, none⟩ (.int .i64 y) = v5 at *
    clear T
    have T := T2
    clear T2
    have RS := T.result hp hB (u0 := .int .i64 s) (u1 := .int .i64 y) (u2 := .slice A n c)
    have RR := ((T.2.2.2.2.1.set0 (.int .i64 s)).set1 (.int .i64 y)).set2 (.slice A n c)
    obtain ⟨n0, n1, n2, n3, n4, n5, n6⟩ := id T.1
    obtain ⟨r0, r1, r2, r3, r4, r5, r6⟩ := id T.2.2.2.2.1
    go_wp2_with fail
    clear n0 n1 n2 n3 n4 n5 n6
    clear r0 r1 r2 r3 r4 r5 r6
    generalize ((v5.setCell ⟨w.heap.size, 0, none⟩ (.int .i64 s)).setCell ⟨w.heap.size, 1, none⟩ (.int .i64 y)).setCell ⟨w.heap.size, 2, none⟩ (.slice A n c) = vz at *
    obtain ⟨r0, r1, r2, r3, r4, r5, r6⟩ := id RR
    exact bodyPost_ret (v := (.agg #[.int .i64 s, .int .i64 y, .slice A n c])) (by simp (maxDischargeDepth := 6) [results, Try.results69, go_sem, *]) rfl ⟨s, y, A, n, c, M, rfl, by omega, fun q => absurd q (by decide), RS⟩
  by_cases h2 : r = 2
  · subst h2
    obtain ⟨gb, rfl, hgb⟩ : ∃ gb, A = some ⟨gb, 0, none⟩ ∧ gb ≠ bt := by
      rcases T.2.1.2 with ⟨he, h0⟩ | ⟨gb, cap, cur, he, _⟩
      · omega
      · simp at he
        obtain ⟨rfl, rfl⟩ := he
        exact ⟨gb, rfl, T.2.2.2.2.2 gb (by simp [Value.ownBlock])⟩
    have hn1i : 0 < n := hn1
    obtain ⟨n0, n1, n2, n3, n4, n5, n6⟩ := id T.1
    go_upto_region 8 with fail
    refine wp_region_held_drew (S := (fun w' => w'.cell? ⟨bt, 2, none⟩ = some (.slice (some ⟨gb, 0, none⟩) n c))) (by kernel_rfl) ?_ (fun hHeld => ?_)
    · first | exact n3 | (simp (maxDischargeDepth := 6) [go_sem, *]; done)
    clear n0 n1 n2 n3 n4 n5 n6
    replace T := T.drew
    generalize v3.drew = vx at *
    (obtain ⟨n0, n1, n2, n3, n4, n5, n6⟩ := id T.1)
    refine wpAnyH_take (i := 0) (v := ?_) (by rw [List.getElem?_toArray]; rfl) (by kernel_rfl) (by kernel_rfl) (by kernel_rfl) (by intro _ _ _ h; exact h) (Or.inl ⟨by rfl, ?_⟩) (by assumption) ?_
    rotate_left
    · (intro w hSw; (try dsimp only at hSw); go_simp; all_goals with_reducible rfl)
    (try simp only [Act.put, List.setIfInBounds_toArray, List.set_cons_zero, List.set_cons_succ])
    refine wpAnyH_take (i := 1) (v := ?_) (by rw [List.getElem?_toArray]; rfl) (by kernel_rfl) (by kernel_rfl) (by kernel_rfl) (by intro _ _ _ h; exact h) (Or.inl ⟨by rfl, ?_⟩) (by assumption) ?_
    rotate_left
    · (intro w hSw; (try dsimp only at hSw); go_simp; all_goals with_reducible rfl)
    (try simp only [Act.put, List.setIfInBounds_toArray, List.set_cons_zero, List.set_cons_succ])
    refine wpAnyH_take (i := 2) (v := ?_) (by rw [List.getElem?_toArray]; rfl) (by kernel_rfl) (by kernel_rfl) (by kernel_rfl) (by intro _ _ _ h; exact h) (Or.inl ⟨by rfl, ?_⟩) (by assumption) ?_
    rotate_left
    · (intro w hSw; (try dsimp only at hSw); go_simp; all_goals with_reducible rfl)
    (try simp only [Act.put, List.setIfInBounds_toArray, List.set_cons_zero, List.set_cons_succ])
    refine wpAnyH_ready (rs := [3]) (by kernel_rfl) (by simp) ?_
    refine (AllReadyH.cons (by rw [List.getElem?_toArray]; rfl) (fun K hK => ?_) AllReadyH.nil)
    go_simp
    skip
    refine hK.out _ _ ?_ (fun hHeld => ?_)
    · first | exact n3 | (simp (maxDischargeDepth := 6) [go_sem, *]; done)
    clear hK K
    (try simp only [Act.put, List.setIfInBounds_toArray, List.set_cons_zero, List.set_cons_succ])
    refine wpAnyH_ready (rs := [4]) (by kernel_rfl) (by simp) ?_
    refine (AllReadyH.cons (by rw [List.getElem?_toArray]; rfl) (fun K hK => ?_) AllReadyH.nil)
    go_simp
    (clear n0 n1 n2 n3 n4 n5 n6); have hpk := pickLit B p vx [-1, 8, 7] T.2.2.1 (by simp) (by simp); simp only [List.map_cons, List.map_nil, List.length_cons, List.length_nil, Nat.zero_add, Nat.reduceAdd] at hpk; refine hpk.mono ?_; clear hpk; rintro e v4 ⟨y, rfl, cc, bb⟩; (replace T := T.but cc bb hp hbt); (clear cc bb); (have FE := World.ownsRow.frozenAt T.2.1 0); (have hce : v4.cell? ⟨gb, 0, none⟩ = some (.int .i64 (M 0).1) := (World.ownsRow.cellAt T.2.1 0 (by omega)).trans (srow_at0 hn1)); (obtain ⟨n0, n1, n2, n3, n4, n5, n6⟩ := id T.1)
    (try go_wp2_with fail)
    refine hK.out _ _ ?_ (fun hHeld => ?_)
    · first | exact n3 | (simp (maxDischargeDepth := 6) [go_sem, *]; done)
    clear hK K
    (try simp only [Act.put, List.setIfInBounds_toArray, List.set_cons_zero, List.set_cons_succ])
    refine wpAnyH_take (i := 5) (v := ?_) (by rw [List.getElem?_toArray]; rfl) (by kernel_rfl) (by kernel_rfl) (by kernel_rfl) (by intro _ _ _ h; exact h) (Or.inl ⟨by rfl, ?_⟩) (by assumption) ?_
    rotate_left
    · (intro w hSw; (try dsimp only at hSw); go_simp; all_goals with_reducible rfl)
    (try simp only [Act.put, List.setIfInBounds_toArray, List.set_cons_zero, List.set_cons_succ])
    refine wpAnyH_take (i := 6) (v := ?_) (by rw [List.getElem?_toArray]; rfl) (by kernel_rfl) (by kernel_rfl) (by kernel_rfl) (by intro _ _ _ h; exact h) (Or.inl ⟨by rfl, ?_⟩) (by assumption) ?_
    rotate_left
    · (intro w hSw; (try dsimp only at hSw); go_simp; all_goals with_reducible rfl)
    (try simp only [Act.put, List.setIfInBounds_toArray, List.set_cons_zero, List.set_cons_succ])
    refine wpAnyH_ready (rs := [7]) (by kernel_rfl) (by simp) ?_
    refine (AllReadyH.cons (by rw [List.getElem?_toArray]; rfl) (fun K hK => ?_) AllReadyH.nil)
    go_simp
    (clear n0 n1 n2 n3 n4 n5 n6); (clear FE hce); (have T2 := T.put0 hp hn1 hgb y); (generalize v4.setCell ⟨gb, 0, none⟩ (.int .i64 y) = v5 at *); (obtain ⟨n0, n1, n2, n3, n4, n5, n6⟩ := id T2.1)
    refine hK.out _ _ ?_ (fun hHeld => ?_)
    · first | exact n3 | (simp (maxDischargeDepth := 6) [go_sem, *]; done)
    clear hK K
    (try simp only [Act.put, List.setIfInBounds_toArray, List.set_cons_zero, List.set_cons_succ])
    refine wpAnyH_done (by kernel_rfl) ?_ _
    clear n0 n1 n2 n3 n4 n5 n6 T
    have T := T2
    clear T2
    have RS := T.result hp hB (u0 := .int .i64 s) (u1 := .int .i64 g) (u2 := .slice (some ⟨gb, 0, none⟩) n c)
    have RR := ((T.2.2.2.2.1.set0 (.int .i64 s)).set1 (.int .i64 g)).set2 (.slice (some ⟨gb, 0, none⟩) n c)
    obtain ⟨n0, n1, n2, n3, n4, n5, n6⟩ := id T.1
    obtain ⟨r0, r1, r2, r3, r4, r5, r6⟩ := id T.2.2.2.2.1
    go_wp2_with fail
    clear n0 n1 n2 n3 n4 n5 n6
    clear r0 r1 r2 r3 r4 r5 r6
    generalize ((v5.setCell ⟨w.heap.size, 0, none⟩ (.int .i64 s)).setCell ⟨w.heap.size, 1, none⟩ (.int .i64 g)).setCell ⟨w.heap.size, 2, none⟩ (.slice (some ⟨gb, 0, none⟩) n c) = vz at *
    obtain ⟨r0, r1, r2, r3, r4, r5, r6⟩ := id RR
    exact bodyPost_ret (v := (.agg #[.int .i64 s, .int .i64 g, .slice (some ⟨gb, 0, none⟩) n c])) (by simp (maxDischargeDepth := 6) [results, Try.results69, go_sem, *]) rfl ⟨s, g, (some ⟨gb, 0, none⟩), n, c, (updS M (y, (M 0).2)), rfl, by omega, fun q => absurd q (by decide), RS⟩
  by_cases h3 : r = 3
  · subst h3
    obtain ⟨gb, rfl, hgb⟩ : ∃ gb, A = some ⟨gb, 0, none⟩ ∧ gb ≠ bt := by
      rcases T.2.1.2 with ⟨he, h0⟩ | ⟨gb, cap, cur, he, _⟩
      · omega
      · simp at he
        obtain ⟨rfl, rfl⟩ := he
        exact ⟨gb, rfl, T.2.2.2.2.2 gb (by simp [Value.ownBlock])⟩
    have hn1i : 0 < n := hn1
    obtain ⟨n0, n1, n2, n3, n4, n5, n6⟩ := id T.1
    go_upto_region 10 with fail
    refine wp_region_held_drew (S := (fun w' => w'.cell? ⟨bt, 2, none⟩ = some (.slice (some ⟨gb, 0, none⟩) n c))) (by kernel_rfl) ?_ (fun hHeld => ?_)
    · first | exact n3 | (simp (maxDischargeDepth := 6) [go_sem, *]; done)
    clear n0 n1 n2 n3 n4 n5 n6
    replace T := T.drew
    generalize v3.drew = vx at *
    (obtain ⟨n0, n1, n2, n3, n4, n5, n6⟩ := id T.1)
    refine wpAnyH_take (i := 0) (v := ?_) (by rw [List.getElem?_toArray]; rfl) (by kernel_rfl) (by kernel_rfl) (by kernel_rfl) (by intro _ _ _ h; exact h) (Or.inl ⟨by rfl, ?_⟩) (by assumption) ?_
    rotate_left
    · (intro w hSw; (try dsimp only at hSw); go_simp; all_goals with_reducible rfl)
    (try simp only [Act.put, List.setIfInBounds_toArray, List.set_cons_zero, List.set_cons_succ])
    refine wpAnyH_take (i := 1) (v := ?_) (by rw [List.getElem?_toArray]; rfl) (by kernel_rfl) (by kernel_rfl) (by kernel_rfl) (by intro _ _ _ h; exact h) (Or.inl ⟨by rfl, ?_⟩) (by assumption) ?_
    rotate_left
    · (intro w hSw; (try dsimp only at hSw); go_simp; all_goals with_reducible rfl)
    (try simp only [Act.put, List.setIfInBounds_toArray, List.set_cons_zero, List.set_cons_succ])
    refine wpAnyH_take (i := 2) (v := ?_) (by rw [List.getElem?_toArray]; rfl) (by kernel_rfl) (by kernel_rfl) (by kernel_rfl) (by intro _ _ _ h; exact h) (Or.inl ⟨by rfl, ?_⟩) (by assumption) ?_
    rotate_left
    · (intro w hSw; (try dsimp only at hSw); go_simp; all_goals with_reducible rfl)
    (try simp only [Act.put, List.setIfInBounds_toArray, List.set_cons_zero, List.set_cons_succ])
    refine wpAnyH_ready (rs := [3]) (by kernel_rfl) (by simp) ?_
    refine (AllReadyH.cons (by rw [List.getElem?_toArray]; rfl) (fun K hK => ?_) AllReadyH.nil)
    go_simp
    skip
    refine hK.out _ _ ?_ (fun hHeld => ?_)
    · first | exact n3 | (simp (maxDischargeDepth := 6) [go_sem, *]; done)
    clear hK K
    (try simp only [Act.put, List.setIfInBounds_toArray, List.set_cons_zero, List.set_cons_succ])
    refine wpAnyH_ready (rs := [4]) (by kernel_rfl) (by simp) ?_
    refine (AllReadyH.cons (by rw [List.getElem?_toArray]; rfl) (fun K hK => ?_) AllReadyH.nil)
    go_simp
    (clear n0 n1 n2 n3 n4 n5 n6); have hpk := pickLit B p vx [0, 1000000, 1000001] T.2.2.1 (by simp) (by simp); simp only [List.map_cons, List.map_nil, List.length_cons, List.length_nil, Nat.zero_add, Nat.reduceAdd] at hpk; refine hpk.mono ?_; clear hpk; rintro e v4 ⟨y, rfl, cc, bb⟩; (replace T := T.but cc bb hp hbt); (clear cc bb); (have FE := World.ownsRow.frozenAt T.2.1 1); (have hce : v4.cell? ⟨gb, 1, none⟩ = some (.int .i64 (M 0).2) := (World.ownsRow.cellAt T.2.1 1 (by omega)).trans (srow_at1 hn1)); (obtain ⟨n0, n1, n2, n3, n4, n5, n6⟩ := id T.1)
    (try go_wp2_with fail)
    refine hK.out _ _ ?_ (fun hHeld => ?_)
    · first | exact n3 | (simp (maxDischargeDepth := 6) [go_sem, *]; done)
    clear hK K
    (try simp only [Act.put, List.setIfInBounds_toArray, List.set_cons_zero, List.set_cons_succ])
    refine wpAnyH_take (i := 5) (v := ?_) (by rw [List.getElem?_toArray]; rfl) (by kernel_rfl) (by kernel_rfl) (by kernel_rfl) (by intro _ _ _ h; exact h) (Or.inl ⟨by rfl, ?_⟩) (by assumption) ?_
    rotate_left
    · (intro w hSw; (try dsimp only at hSw); go_simp; all_goals with_reducible rfl)
    (try simp only [Act.put, List.setIfInBounds_toArray, List.set_cons_zero, List.set_cons_succ])
    refine wpAnyH_take (i := 6) (v := ?_) (by rw [List.getElem?_toArray]; rfl) (by kernel_rfl) (by kernel_rfl) (by kernel_rfl) (by intro _ _ _ h; exact h) (Or.inl ⟨by rfl, ?_⟩) (by assumption) ?_
    rotate_left
    · (intro w hSw; (try dsimp only at hSw); go_simp; all_goals with_reducible rfl)
    (try simp only [Act.put, List.setIfInBounds_toArray, List.set_cons_zero, List.set_cons_succ])
    refine wpAnyH_ready (rs := [7]) (by kernel_rfl) (by simp) ?_
    refine (AllReadyH.cons (by rw [List.getElem?_toArray]; rfl) (fun K hK => ?_) AllReadyH.nil)
    go_simp
    (clear n0 n1 n2 n3 n4 n5 n6); (clear FE hce); (have T2 := T.put1 hp hn1 hgb y); (generalize v4.setCell ⟨gb, 1, none⟩ (.int .i64 y) = v5 at *); (obtain ⟨n0, n1, n2, n3, n4, n5, n6⟩ := id T2.1)
    refine hK.out _ _ ?_ (fun hHeld => ?_)
    · first | exact n3 | (simp (maxDischargeDepth := 6) [go_sem, *]; done)
    clear hK K
    (try simp only [Act.put, List.setIfInBounds_toArray, List.set_cons_zero, List.set_cons_succ])
    refine wpAnyH_done (by kernel_rfl) ?_ _
    clear n0 n1 n2 n3 n4 n5 n6 T
    have T := T2
    clear T2
    have RS := T.result hp hB (u0 := .int .i64 s) (u1 := .int .i64 g) (u2 := .slice (some ⟨gb, 0, none⟩) n c)
    have RR := ((T.2.2.2.2.1.set0 (.int .i64 s)).set1 (.int .i64 g)).set2 (.slice (some ⟨gb, 0, none⟩) n c)
    obtain ⟨n0, n1, n2, n3, n4, n5, n6⟩ := id T.1
    obtain ⟨r0, r1, r2, r3, r4, r5, r6⟩ := id T.2.2.2.2.1
    go_wp2_with fail
    clear n0 n1 n2 n3 n4 n5 n6
    clear r0 r1 r2 r3 r4 r5 r6
    generalize ((v5.setCell ⟨w.heap.size, 0, none⟩ (.int .i64 s)).setCell ⟨w.heap.size, 1, none⟩ (.int .i64 g)).setCell ⟨w.heap.size, 2, none⟩ (.slice (some ⟨gb, 0, none⟩) n c) = vz at *
    obtain ⟨r0, r1, r2, r3, r4, r5, r6⟩ := id RR
    exact bodyPost_ret (v := (.agg #[.int .i64 s, .int .i64 g, .slice (some ⟨gb, 0, none⟩) n c])) (by simp (maxDischargeDepth := 6) [results, Try.results69, go_sem, *]) rfl ⟨s, g, (some ⟨gb, 0, none⟩), n, c, (updS M ((M 0).1, y)), rfl, by omega, fun q => absurd q (by decide), RS⟩
  by_cases h4 : r = 4
  · subst h4
    have T2 := T.empty hp hB hbt (fun _ => zSl)
    obtain ⟨n0, n1, n2, n3, n4, n5, n6⟩ := id T.1
    go_upto_region 16 with fail
    clear n0 n1 n2 n3 n4 n5 n6
    generalize v3.setCell ⟨bt, 2, none⟩ (.slice none 0 0) = v5 at *
    clear T
    have T := T2
    clear T2
    have RS := T.result hp hB (u0 := .int .i64 s) (u1 := .int .i64 g) (u2 := .slice none 0 0)
    have RR := ((T.2.2.2.2.1.set0 (.int .i64 s)).set1 (.int .i64 g)).set2 (.slice none 0 0)
    obtain ⟨n0, n1, n2, n3, n4, n5, n6⟩ := id T.1
    obtain ⟨r0, r1, r2, r3, r4, r5, r6⟩ := id T.2.2.2.2.1
    go_wp2_with fail
    clear n0 n1 n2 n3 n4 n5 n6
    clear r0 r1 r2 r3 r4 r5 r6
    generalize ((v5.setCell ⟨w.heap.size, 0, none⟩ (.int .i64 s)).setCell ⟨w.heap.size, 1, none⟩ (.int .i64 g)).setCell ⟨w.heap.size, 2, none⟩ (.slice none 0 0) = vz at *
    obtain ⟨r0, r1, r2, r3, r4, r5, r6⟩ := id RR
    exact bodyPost_ret (v := (.agg #[.int .i64 s, .int .i64 g, .slice none 0 0])) (by simp (maxDischargeDepth := 6) [results, Try.results69, go_sem, *]) rfl ⟨s, g, none, 0, 0, (fun _ => zSl), rfl, by omega, fun q => absurd q (by decide), RS⟩
  by_cases h5 : r = 5
  · subst h5
    go_wp2_with fail
    have hn13 : n ≤ 13 := by omega
    clear hn12 hn1
    go_loopw [] (fun wr => ∃ (A : Option Addr) (n c : Nat) (M : Nat → SlT), n ≤ 13 ∧ Pw w B p bt wr s g A n c M) (fun wr => 13 - lenAt wr bt)
    case atStart => exact ⟨A, n, c, M, hn13, T⟩
    case round =>
      clear T hn13
      obtain ⟨A, n, c, M, hn13, T⟩ := hrel
      have hlen : lenAt wr bt = n := lenAt_is T.1.2.2.2.1
      by_cases hlt : n ≤ 12
      · have hli : (n : Int) ≤ (12 : Int) := by omega
        have own1 := World.ownsRow.alloc T.2.1 (.cells #[.int .i64 0, .int .i64 1] 60)
        have A6 := Below.nw wr (.cells #[.int .i64 0, .int .i64 1] 60)
        have T2 := T.below A6
        have HN2 : Hid (∀ j u, [Value.int .i64 0, .int .i64 1][j]? = some u → (wr.alloc (.cells #[.int .i64 0, .int .i64 1] 60)).cell? ((⟨wr.heap.size, 0, none⟩ : Addr).add j) = some u) := slot_at wr 0 1
        have hs6 : w.heap.size + 1 ≤ (wr.alloc (.cells #[.int .i64 0, .int .i64 1] 60)).heap.size := by have := A6.size; have := T.1.1; omega
        obtain ⟨n0, n1, n2, n3, n4, n5, n6⟩ := id T.1
        go_wp2_with (at_builtin; refine wpList_append_new rfl _ _ 27 rfl (w.heap.size + 1) 60 i0 (.agg #[.int .i64 0, .int .i64 0]) 2 16 Try.underlying27 hi hz0 hz1 hz2 rfl (by decide) _ _ _ rfl own1 ⟨wr.heap.size, 0, none⟩ 1 1 [.int .i64 0, .int .i64 1] rfl rfl HN2.out (slot_one _ _) (by unfold maxLen; omega) (by omega) hs6 ?_; intro vq wq hown2 hgrow hfr; (rw [← srow_ins M n (0, 1)] at hown2); (obtain ⟨a3, c3, rfl, _, _, _⟩ := ownF_src hown2); (have T3 := T2.grow hp hB hbt hgrow hown2 hfr); (have KQ := T2.1.kept hgrow (fun e => T2.2.2.2.2.2 bt e.symm rfl)); clear n0 n1 n2 n3 n4 n5 n6; (clear hown2 hgrow hfr own1 HN2 A6 T2 hs6); (obtain ⟨n0, n1, n2, n3, n4, n5, n6⟩ := id KQ))
        go_roundw
        case rel => exact ⟨a3, n + 1, c3, _, by omega, T3⟩
        case measure => rw [hlen, lenAt_is T3.1.2.2.2.1]; omega
      · have hli : ¬ (n : Int) ≤ (12 : Int) := by omega
        have RS := T.result hp hB (u0 := .int .i64 s) (u1 := .int .i64 g) (u2 := .slice A n c)
        have RR := ((T.2.2.2.2.1.set0 (.int .i64 s)).set1 (.int .i64 g)).set2 (.slice A n c)
        obtain ⟨n0, n1, n2, n3, n4, n5, n6⟩ := id T.1
        obtain ⟨r0, r1, r2, r3, r4, r5, r6⟩ := id T.2.2.2.2.1
        go_wp2_with fail
        clear n0 n1 n2 n3 n4 n5 n6
        clear r0 r1 r2 r3 r4 r5 r6
        generalize ((wr.setCell ⟨w.heap.size, 0, none⟩ (.int .i64 s)).setCell ⟨w.heap.size, 1, none⟩ (.int .i64 g)).setCell ⟨w.heap.size, 2, none⟩ (.slice A n c) = vz at *
        obtain ⟨r0, r1, r2, r3, r4, r5, r6⟩ := id RR
        exact bodyPost_ret (v := (.agg #[.int .i64 s, .int .i64 g, .slice A n c])) (by simp (maxDischargeDepth := 6) [results, Try.results69, go_sem, *]) rfl ⟨s, g, A, n, c, M, rfl, by omega, fun q => absurd q (by decide), RS⟩
  · go_upto_region 16 with fail
    have RS := T.result hp hB (u0 := .int .i64 s) (u1 := .int .i64 g) (u2 := .slice A n c)
    have RR := ((T.2.2.2.2.1.set0 (.int .i64 s)).set1 (.int .i64 g)).set2 (.slice A n c)
    obtain ⟨n0, n1, n2, n3, n4, n5, n6⟩ := id T.1
    obtain ⟨r0, r1, r2, r3, r4, r5, r6⟩ := id T.2.2.2.2.1
    go_wp2_with fail
    clear n0 n1 n2 n3 n4 n5 n6
    clear r0 r1 r2 r3 r4 r5 r6
    generalize ((v3.setCell ⟨w.heap.size, 0, none⟩ (.int .i64 s)).setCell ⟨w.heap.size, 1, none⟩ (.int .i64 g)).setCell ⟨w.heap.size, 2, none⟩ (.slice A n c) = vz at *
    obtain ⟨r0, r1, r2, r3, r4, r5, r6⟩ := id RR
    exact bodyPost_ret (v := (.agg #[.int .i64 s, .int .i64 g, .slice A n c])) (by simp (maxDischargeDepth := 6) [results, Try.results69, go_sem, *]) rfl ⟨s, g, A, n, c, M, rfl, by omega, fun q => absurd q (by decide), RS⟩
end Go.Proofs.Ytkdbgchmknanlaa
