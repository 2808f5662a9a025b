/- The draw of any plan. What the draw of a list of intervals leaves: a row of pairs in memory of its own. The walk of the exact law of MsgOk. Contracts of PutNum. What the laws make of bytes, and whether two rows of them are the same. What the check of bytes is, and the contract of spec.Check8. What a packed message is. What the draw of a message of chapter 4 leaves: some text. Contracts of GetNum. Contracts of GetNum in the program. A reader that gives up: giveUp, codeOf; what a reader is in memory. Contracts of the reader: num. Contracts of the reader: field, take, kind. The contract of impl.checkOf (the check by a function), and the walk of the exact law of Check8. Contracts of impl.checked. What Unpack comes to. Contracts of the reader: msg. What the draw of a message of chapter 4 leaves: some message. -/
import Derived.Test.YtdahabbdhjgpdaaDoorMH6
import Derived.Laws.OwnMore
import Derived.Deep.RegionHeld3
import Derived.WalkKit
import Derived.WalkSpells
import Derived.WalkLawsBesides
import Derived.Deep.RegionHeld
import Derived.Test.YtdahabbdhjgpdaaDoorMH1
import Derived.Deep.QuietTactic
import Derived.BigQuiet
import Derived.Test.YtdahabbdhjgpdaaDoorMH4
import Derived.Lib.AppendStr
import Derived.Laws.IdiomStrings
import Derived.Laws.BytesArg
import Derived.Defers
import Derived.Recover
import Derived.Deep.DeepCutAuto
namespace Go.Proofs.YtdahabbdhjgpdaaDoor
open Go.RowKit
set_option linter.unusedVariables false
theorem srow_at0 {M : Nat → SlT} {n : Nat} (hn : 1 ≤ n) : (srow M n)[0]? = some (.int .i64 (M 0).1) := by
  rw [srow, List.getElem?_map, List.getElem?_range (by omega)]
  rfl
theorem srow_at1 {M : Nat → SlT} {n : Nat} (hn : 1 ≤ n) : (srow M n)[1]? = some (.int .i64 (M 0).2) := by
  rw [srow, List.getElem?_map, List.getElem?_range (by omega)]
  rfl
theorem srow_set {M : Nat → SlT} {n j : Nat} {q : SlT} {u : Value} (hn : 1 ≤ n) (hj : j < 2) (hu : MCSlot q j = u) (ho : MCSlot q (1 - j) = MCSlot (M 0) (1 - j)) : (srow M n).set j u = srow (updS M q) n := by
  apply List.ext_getElem?
  intro i
  rw [List.getElem?_set, srow_len]
  by_cases hi : i < n * 2
  · rw [srow, srow, List.getElem?_map, List.getElem?_map, List.getElem?_range hi]
    by_cases e : j = i
    · subst e
      rw [if_pos rfl, if_pos hi]
      show some u = some (MCSlot (updS M q (j / 2)) (j % 2))
      rw [show j / 2 = 0 by omega, show j % 2 = j by omega, updS, if_pos rfl, hu]
    · rw [if_neg e]
      show some (MCSlot (M (i / 2)) (i % 2)) = some (MCSlot (updS M q (i / 2)) (i % 2))
      by_cases h0 : i / 2 = 0
      · rw [h0, updS, if_pos rfl, show i % 2 = 1 - j by omega, ho]
      · rw [updS, if_neg h0]
  · by_cases e : j = i
    · omega
    · rw [if_neg e, List.getElem?_eq_none (by rw [srow_len]; omega), List.getElem?_eq_none (by rw [srow_len]; omega)]
def lenAt (w : World) (j : Nat) : Nat := match w.cell? ⟨j, 2, none⟩ with | some (.slice _ n _) => n | _ => 0
theorem lenAt_is {w : World} {j : Nat} {a : Option Addr} {n c : Nat} (h : w.cell? ⟨j, 2, none⟩ = some (.slice a n c)) : lenAt w j = n := by unfold lenAt; rw [h]
section
variable {w0 w : World} {B p bt gb : Nat} {s g : Int} {n c : Nat} {M : Nat → SlT}
theorem Pw.putAt {j : Nat} {u : Value} {q : SlT} (h : Pw w0 B p bt w s g (some ⟨gb, 0, none⟩) n c M) (hp : p < w0.heap.size) (hn : 1 ≤ n) (hj : j < 2) (hgb : gb ≠ bt) (hu : MCSlot q j = u) (ho : MCSlot q (1 - j) = MCSlot (M 0) (1 - j)) : Pw w0 B p bt (w.setCell ⟨gb, j, none⟩ u) s g (some ⟨gb, 0, none⟩) n c (updS M q) := by
  have hl := World.ownsRow.lt h.2.1 gb (by simp [Value.ownBlock])
  have hO := (World.ownsRow.stored h.2.1 j u).1
  rw [srow_set hn hj hu ho] at hO
  have hc := h.2.2.1.lt
  have hb := But.one13 w gb j u
  have hpw := h.2.2.2.1
  exact ⟨h.1.but hb (Ne.symm hgb), hO, h.2.2.1.below13 (hb.below (B := w0.heap.size + 1) (by omega) (by omega)) (by omega), h.2.2.2.1.new13 hb (by omega), h.2.2.2.2.1.but hb (by omega), h.2.2.2.2.2⟩
theorem Pw.put0 (h : Pw w0 B p bt w s g (some ⟨gb, 0, none⟩) n c M) (hp : p < w0.heap.size) (hn : 1 ≤ n) (hgb : gb ≠ bt) (y : Int) : Pw w0 B p bt (w.setCell ⟨gb, 0, none⟩ (.int .i64 y)) s g (some ⟨gb, 0, none⟩) n c (updS M (y, (M 0).2)) := h.putAt hp hn (by decide) hgb rfl rfl
theorem Pw.put1 (h : Pw w0 B p bt w s g (some ⟨gb, 0, none⟩) n c M) (hp : p < w0.heap.size) (hn : 1 ≤ n) (hgb : gb ≠ bt) (y : Int) : Pw w0 B p bt (w.setCell ⟨gb, 1, none⟩ (.int .i64 y)) s g (some ⟨gb, 0, none⟩) n c (updS M ((M 0).1, y)) := h.putAt hp hn (by decide) hgb rfl rfl
end
set_option maxRecDepth 100000 in
set_option maxHeartbeats 16000000 in
theorem l13DrawAny_any (B p : Nat) (w : World) (hcur : CurOk w B p) :
    Calls Tryd.prog 38 #[.pointer (some ⟨p, 0, none⟩)] w fun e w' => PlanDrawn 13 w B p e w' := by
  obtain ⟨i0, hi, hz0, hz1, hz2⟩ := info13_parts
  have hpl := hcur.lt
  have hp : p < w.heap.size := hpl.1
  have hB : B ≤ p := hpl.2
  have hpw : w.heap.size ≠ p := by omega
  have A1 := Below.nw w (.cells #[.int .i64 0, .int .i64 0, .slice none 0 0] 27)
  have R := Tx3.new w (.int .i64 0) (.int .i64 0) (.slice none 0 0) 27
  have cc0 := hcur.below A1
  have b0 : But p w _ := But.of_below A1
  have hsz : (w.alloc (.cells #[.int .i64 0, .int .i64 0, .slice none 0 0] 27)).heap.size = w.heap.size + 1 := by simp
  clear A1 hcur hpl
  go_enter Tryd.func38, Tryd.ntmps38
  go_upto_region 1 with fail
  generalize w.alloc (.cells #[.int .i64 0, .int .i64 0, .slice none 0 0] 27) = v at *
  go_wp2_with fail
  refine (l13DrawPlan_any B p _ cc0).mono ?_
  rintro e v1 ⟨s, g, A, n, c, M, rfl, hn12, hn1, OW, cc, bb⟩
  replace hn1 := hn1 rfl
  rw [hsz] at OW
  replace R := R.but bb hpw
  replace b0 := b0.trans bb
  clear bb cc0 hsz
  have A2 := Below.nw v1 (.cells #[.int .i64 s, .int .i64 g, .slice A n c] 27)
  have T : Pw w B p v1.heap.size (v1.alloc (.cells #[.int .i64 s, .int .i64 g, .slice A n c] 27)) s g A n c M := ⟨Tx3.new v1 _ _ _ _, own_belK' OW A2, cc.below A2, b0.trans (But.of_below A2), R.below A2, fun q hq => Nat.ne_of_lt (World.ownsRow.lt OW q hq).2⟩
  have hbt : w.heap.size < v1.heap.size := R.1
  clear A2 b0 R cc OW
  go_upto_region 2 with fail
  generalize v1.heap.size = bt at *
  generalize v1.alloc (.cells #[.int .i64 s, .int .i64 g, .slice A n c] 27) = v2 at *
  go_wp2_with fail
  refine (l1Below_any B p 25 _ T.2.2.1).mono ?_; rintro e v3 ⟨r, rfl, rl, rh, rp, rz, cc, bb⟩; replace T := T.but cc bb hp hbt; clear cc bb rz
  clear rp rh rl
  by_cases h0 : r = 0
  · subst h0
    go_wp2_with fail
    refine (l2DrawCount_any B p _ T.2.2.1).mono ?_
    rintro e v4 ⟨y, rfl, cc, bb⟩
    replace T := T.but cc bb hp hbt
    clear cc bb
    have T2 := T.set0 hp hB hbt y
    obtain ⟨n0, n1, n2, n3, n4, n5, n6⟩ := id T.1
    go_upto_region 16 with fail
    clear n0 n1 n2 n3 n4 n5 n6
    generalize v4.setCell ⟨bt, 0, none⟩ (.int .i64 y) = v5 at *
    clear T
    have T := T2
    clear T2
    have RS := T.result hp hB (u0 := .int .i64 y) (u1 := .int .i64 g) (u2 := .slice A n c)
    have RR := ((T.2.2.2.2.1.set0 (.int .i64 y)).set1 (.int .i64 g)).set2 (.slice A n c)
    obtain ⟨n0, n1, n2, n3, n4, n5, n6⟩ := id T.1
    obtain ⟨r0, r1, r2, r3, r4, r5, r6⟩ := id T.2.2.2.2.1
    go_wp2_with fail
    clear n0 n1 n2 n3 n4 n5 n6
    clear r0 r1 r2 r3 r4 r5 r6
    generalize ((v5.setCell ⟨w.heap.size, 0, none⟩ (.int .i64 y)).setCell ⟨w.heap.size, 1, none⟩ (.int .i64 g)).setCell ⟨w.heap.size, 2, none⟩ (.slice A n c) = vz at *
    obtain ⟨r0, r1, r2, r3, r4, r5, r6⟩ := id RR
    exact bodyPost_ret (v := (.agg #[.int .i64 y, .int .i64 g, .slice A n c])) (by simp (maxDischargeDepth := 6) [results, Tryd.results38, go_sem, *]) rfl ⟨y, g, A, n, c, M, rfl, by omega, fun q => absurd q (by decide), RS⟩
  by_cases h1 : r = 1
  · subst h1
    go_wp2_with fail
    have hpk := pickLit B p v3 [-1, 100000, 100001] T.2.2.1 (by simp) (by simp); simp only [List.map_cons, List.map_nil, List.length_cons, List.length_nil, Nat.zero_add, Nat.reduceAdd] at hpk; refine hpk.mono ?_; clear hpk; rintro e v4 ⟨y, rfl, cc, bb⟩
    replace T := T.but cc bb hp hbt
    clear cc bb
    have T2 := T.set1 hp hB hbt y
    obtain ⟨n0, n1, n2, n3, n4, n5, n6⟩ := id T.1
    go_upto_region 16 with fail
    clear n0 n1 n2 n3 n4 n5 n6
    generalize v4.setCell ⟨bt, 1, none⟩ (.int .i64 y) = v5 at *
    clear T
    have T := T2
    clear T2
    have RS := T.result hp hB (u0 := .int .i64 s) (u1 := .int .i64 y) (u2 := .slice A n c)
    have RR := ((T.2.2.2.2.1.set0 (.int .i64 s)).set1 (.int .i64 y)).set2 (.slice A n c)
    obtain ⟨n0, n1, n2, n3, n4, n5, n6⟩ := id T.1
    obtain ⟨r0, r1, r2, r3, r4, r5, r6⟩ := id T.2.2.2.2.1
    go_wp2_with fail
    clear n0 n1 n2 n3 n4 n5 n6
    clear r0 r1 r2 r3 r4 r5 r6
    generalize ((v5.setCell ⟨w.heap.size, 0, none⟩ (.int .i64 s)).setCell ⟨w.heap.size, 1, none⟩ (.int .i64 y)).setCell ⟨w.heap.size, 2, none⟩ (.slice A n c) = vz at *
    obtain ⟨r0, r1, r2, r3, r4, r5, r6⟩ := id RR
    exact bodyPost_ret (v := (.agg #[.int .i64 s, .int .i64 y, .slice A n c])) (by simp (maxDischargeDepth := 6) [results, Tryd.results38, go_sem, *]) rfl ⟨s, y, A, n, c, M, rfl, by omega, fun q => absurd q (by decide), RS⟩
  by_cases h2 : r = 2
  · subst h2
    obtain ⟨gb, rfl, hgb⟩ : ∃ gb, A = some ⟨gb, 0, none⟩ ∧ gb ≠ bt := by
      rcases T.2.1.2 with ⟨he, h0⟩ | ⟨gb, cap, cur, he, _⟩
      · omega
      · simp at he
        obtain ⟨rfl, rfl⟩ := he
        exact ⟨gb, rfl, T.2.2.2.2.2 gb (by simp [Value.ownBlock])⟩
    have hn1i : 0 < n := hn1
    obtain ⟨n0, n1, n2, n3, n4, n5, n6⟩ := id T.1
    go_upto_region 8 with fail
    refine wp_region_held_drew (S := (fun w' => w'.cell? ⟨bt, 2, none⟩ = some (.slice (some ⟨gb, 0, none⟩) n c))) (by kernel_rfl) ?_ (fun hHeld => ?_)
    · first | exact n3 | (simp (maxDischargeDepth := 6) [go_sem, *]; done)
    clear n0 n1 n2 n3 n4 n5 n6
    replace T := T.drew
    generalize v3.drew = vx at *
    (obtain ⟨n0, n1, n2, n3, n4, n5, n6⟩ := id T.1)
    refine wpAnyH_take (i := 0) (v := ?_) (by rw [List.getElem?_toArray]; rfl) (by kernel_rfl) (by kernel_rfl) (by kernel_rfl) (by intro _ _ _ h; exact h) (Or.inl ⟨by rfl, ?_⟩) (by assumption) ?_
    rotate_left
    · (intro w hSw; (try dsimp only at hSw); go_simp; all_goals with_reducible rfl)
    (try simp only [Act.put, List.setIfInBounds_toArray, List.set_cons_zero, List.set_cons_succ])
    refine wpAnyH_take (i := 1) (v := ?_) (by rw [List.getElem?_toArray]; rfl) (by kernel_rfl) (by kernel_rfl) (by kernel_rfl) (by intro _ _ _ h; exact h) (Or.inl ⟨by rfl, ?_⟩) (by assumption) ?_
    rotate_left
    · (intro w hSw; (try dsimp only at hSw); go_simp; all_goals with_reducible rfl)
    (try simp only [Act.put, List.setIfInBounds_toArray, List.set_cons_zero, List.set_cons_succ])
    refine wpAnyH_take (i := 2) (v := ?_) (by rw [List.getElem?_toArray]; rfl) (by kernel_rfl) (by kernel_rfl) (by kernel_rfl) (by intro _ _ _ h; exact h) (Or.inl ⟨by rfl, ?_⟩) (by assumption) ?_
    rotate_left
    · (intro w hSw; (try dsimp only at hSw); go_simp; all_goals with_reducible rfl)
    (try simp only [Act.put, List.setIfInBounds_toArray, List.set_cons_zero, List.set_cons_succ])
    refine wpAnyH_ready (rs := [3]) (by kernel_rfl) (by simp) ?_
    refine (AllReadyH.cons (by rw [List.getElem?_toArray]; rfl) (fun K hK => ?_) AllReadyH.nil)
    go_simp
    skip
    refine hK.out _ _ ?_ (fun hHeld => ?_)
    · first | exact n3 | (simp (maxDischargeDepth := 6) [go_sem, *]; done)
    clear hK K
    (try simp only [Act.put, List.setIfInBounds_toArray, List.set_cons_zero, List.set_cons_succ])
    refine wpAnyH_ready (rs := [4]) (by kernel_rfl) (by simp) ?_
    refine (AllReadyH.cons (by rw [List.getElem?_toArray]; rfl) (fun K hK => ?_) AllReadyH.nil)
    go_simp
    (clear n0 n1 n2 n3 n4 n5 n6); have hpk := pickLit B p vx [-1, 8, 7] T.2.2.1 (by simp) (by simp); simp only [List.map_cons, List.map_nil, List.length_cons, List.length_nil, Nat.zero_add, Nat.reduceAdd] at hpk; refine hpk.mono ?_; clear hpk; rintro e v4 ⟨y, rfl, cc, bb⟩; (replace T := T.but cc bb hp hbt); (clear cc bb); (have FE := World.ownsRow.frozenAt T.2.1 0); (have hce : v4.cell? ⟨gb, 0, none⟩ = some (.int .i64 (M 0).1) := (World.ownsRow.cellAt T.2.1 0 (by omega)).trans (srow_at0 hn1)); (obtain ⟨n0, n1, n2, n3, n4, n5, n6⟩ := id T.1)
    (try go_wp2_with fail)
    refine hK.out _ _ ?_ (fun hHeld => ?_)
    · first | exact n3 | (simp (maxDischargeDepth := 6) [go_sem, *]; done)
    clear hK K
    (try simp only [Act.put, List.setIfInBounds_toArray, List.set_cons_zero, List.set_cons_succ])
    refine wpAnyH_take (i := 5) (v := ?_) (by rw [List.getElem?_toArray]; rfl) (by kernel_rfl) (by kernel_rfl) (by kernel_rfl) (by intro _ _ _ h; exact h) (Or.inl ⟨by rfl, ?_⟩) (by assumption) ?_
    rotate_left
    · (intro w hSw; (try dsimp only at hSw); go_simp; all_goals with_reducible rfl)
    (try simp only [Act.put, List.setIfInBounds_toArray, List.set_cons_zero, List.set_cons_succ])
    refine wpAnyH_take (i := 6) (v := ?_) (by rw [List.getElem?_toArray]; rfl) (by kernel_rfl) (by kernel_rfl) (by kernel_rfl) (by intro _ _ _ h; exact h) (Or.inl ⟨by rfl, ?_⟩) (by assumption) ?_
    rotate_left
    · (intro w hSw; (try dsimp only at hSw); go_simp; all_goals with_reducible rfl)
    (try simp only [Act.put, List.setIfInBounds_toArray, List.set_cons_zero, List.set_cons_succ])
    refine wpAnyH_ready (rs := [7]) (by kernel_rfl) (by simp) ?_
    refine (AllReadyH.cons (by rw [List.getElem?_toArray]; rfl) (fun K hK => ?_) AllReadyH.nil)
    go_simp
    (clear n0 n1 n2 n3 n4 n5 n6); (clear FE hce); (have T2 := T.put0 hp hn1 hgb y); (generalize v4.setCell ⟨gb, 0, none⟩ (.int .i64 y) = v5 at *); (obtain ⟨n0, n1, n2, n3, n4, n5, n6⟩ := id T2.1)
    refine hK.out _ _ ?_ (fun hHeld => ?_)
    · first | exact n3 | (simp (maxDischargeDepth := 6) [go_sem, *]; done)
    clear hK K
    (try simp only [Act.put, List.setIfInBounds_toArray, List.set_cons_zero, List.set_cons_succ])
    refine wpAnyH_done (by kernel_rfl) ?_ _
    clear n0 n1 n2 n3 n4 n5 n6 T
    have T := T2
    clear T2
    have RS := T.result hp hB (u0 := .int .i64 s) (u1 := .int .i64 g) (u2 := .slice (some ⟨gb, 0, none⟩) n c)
    have RR := ((T.2.2.2.2.1.set0 (.int .i64 s)).set1 (.int .i64 g)).set2 (.slice (some ⟨gb, 0, none⟩) n c)
    obtain ⟨n0, n1, n2, n3, n4, n5, n6⟩ := id T.1
    obtain ⟨r0, r1, r2, r3, r4, r5, r6⟩ := id T.2.2.2.2.1
    go_wp2_with fail
    clear n0 n1 n2 n3 n4 n5 n6
    clear r0 r1 r2 r3 r4 r5 r6
    generalize ((v5.setCell ⟨w.heap.size, 0, none⟩ (.int .i64 s)).setCell ⟨w.heap.size, 1, none⟩ (.int .i64 g)).setCell ⟨w.heap.size, 2, none⟩ (.slice (some ⟨gb, 0, none⟩) n c) = vz at *
    obtain ⟨r0, r1, r2, r3, r4, r5, r6⟩ := id RR
    exact bodyPost_ret (v := (.agg #[.int .i64 s, .int .i64 g, .slice (some ⟨gb, 0, none⟩) n c])) (by simp (maxDischargeDepth := 6) [results, Tryd.results38, go_sem, *]) rfl ⟨s, g, (some ⟨gb, 0, none⟩), n, c, (updS M (y, (M 0).2)), rfl, by omega, fun q => absurd q (by decide), RS⟩
  by_cases h3 : r = 3
  · subst h3
    obtain ⟨gb, rfl, hgb⟩ : ∃ gb, A = some ⟨gb, 0, none⟩ ∧ gb ≠ bt := by
      rcases T.2.1.2 with ⟨he, h0⟩ | ⟨gb, cap, cur, he, _⟩
      · omega
      · simp at he
        obtain ⟨rfl, rfl⟩ := he
        exact ⟨gb, rfl, T.2.2.2.2.2 gb (by simp [Value.ownBlock])⟩
    have hn1i : 0 < n := hn1
    obtain ⟨n0, n1, n2, n3, n4, n5, n6⟩ := id T.1
    go_upto_region 10 with fail
    refine wp_region_held_drew (S := (fun w' => w'.cell? ⟨bt, 2, none⟩ = some (.slice (some ⟨gb, 0, none⟩) n c))) (by kernel_rfl) ?_ (fun hHeld => ?_)
    · first | exact n3 | (simp (maxDischargeDepth := 6) [go_sem, *]; done)
    clear n0 n1 n2 n3 n4 n5 n6
    replace T := T.drew
    generalize v3.drew = vx at *
    (obtain ⟨n0, n1, n2, n3, n4, n5, n6⟩ := id T.1)
    refine wpAnyH_take (i := 0) (v := ?_) (by rw [List.getElem?_toArray]; rfl) (by kernel_rfl) (by kernel_rfl) (by kernel_rfl) (by intro _ _ _ h; exact h) (Or.inl ⟨by rfl, ?_⟩) (by assumption) ?_
    rotate_left
    · (intro w hSw; (try dsimp only at hSw); go_simp; all_goals with_reducible rfl)
    (try simp only [Act.put, List.setIfInBounds_toArray, List.set_cons_zero, List.set_cons_succ])
    refine wpAnyH_take (i := 1) (v := ?_) (by rw [List.getElem?_toArray]; rfl) (by kernel_rfl) (by kernel_rfl) (by kernel_rfl) (by intro _ _ _ h; exact h) (Or.inl ⟨by rfl, ?_⟩) (by assumption) ?_
    rotate_left
    · (intro w hSw; (try dsimp only at hSw); go_simp; all_goals with_reducible rfl)
    (try simp only [Act.put, List.setIfInBounds_toArray, List.set_cons_zero, List.set_cons_succ])
    refine wpAnyH_take (i := 2) (v := ?_) (by rw [List.getElem?_toArray]; rfl) (by kernel_rfl) (by kernel_rfl) (by kernel_rfl) (by intro _ _ _ h; exact h) (Or.inl ⟨by rfl, ?_⟩) (by assumption) ?_
    rotate_left
    · (intro w hSw; (try dsimp only at hSw); go_simp; all_goals with_reducible rfl)
    (try simp only [Act.put, List.setIfInBounds_toArray, List.set_cons_zero, List.set_cons_succ])
    refine wpAnyH_ready (rs := [3]) (by kernel_rfl) (by simp) ?_
    refine (AllReadyH.cons (by rw [List.getElem?_toArray]; rfl) (fun K hK => ?_) AllReadyH.nil)
    go_simp
    skip
    refine hK.out _ _ ?_ (fun hHeld => ?_)
    · first | exact n3 | (simp (maxDischargeDepth := 6) [go_sem, *]; done)
    clear hK K
    (try simp only [Act.put, List.setIfInBounds_toArray, List.set_cons_zero, List.set_cons_succ])
    refine wpAnyH_ready (rs := [4]) (by kernel_rfl) (by simp) ?_
    refine (AllReadyH.cons (by rw [List.getElem?_toArray]; rfl) (fun K hK => ?_) AllReadyH.nil)
    go_simp
    (clear n0 n1 n2 n3 n4 n5 n6); have hpk := pickLit B p vx [0, 1000000, 1000001] T.2.2.1 (by simp) (by simp); simp only [List.map_cons, List.map_nil, List.length_cons, List.length_nil, Nat.zero_add, Nat.reduceAdd] at hpk; refine hpk.mono ?_; clear hpk; rintro e v4 ⟨y, rfl, cc, bb⟩; (replace T := T.but cc bb hp hbt); (clear cc bb); (have FE := World.ownsRow.frozenAt T.2.1 1); (have hce : v4.cell? ⟨gb, 1, none⟩ = some (.int .i64 (M 0).2) := (World.ownsRow.cellAt T.2.1 1 (by omega)).trans (srow_at1 hn1)); (obtain ⟨n0, n1, n2, n3, n4, n5, n6⟩ := id T.1)
    (try go_wp2_with fail)
    refine hK.out _ _ ?_ (fun hHeld => ?_)
    · first | exact n3 | (simp (maxDischargeDepth := 6) [go_sem, *]; done)
    clear hK K
    (try simp only [Act.put, List.setIfInBounds_toArray, List.set_cons_zero, List.set_cons_succ])
    refine wpAnyH_take (i := 5) (v := ?_) (by rw [List.getElem?_toArray]; rfl) (by kernel_rfl) (by kernel_rfl) (by kernel_rfl) (by intro _ _ _ h; exact h) (Or.inl ⟨by rfl, ?_⟩) (by assumption) ?_
    rotate_left
    · (intro w hSw; (try dsimp only at hSw); go_simp; all_goals with_reducible rfl)
    (try simp only [Act.put, List.setIfInBounds_toArray, List.set_cons_zero, List.set_cons_succ])
    refine wpAnyH_take (i := 6) (v := ?_) (by rw [List.getElem?_toArray]; rfl) (by kernel_rfl) (by kernel_rfl) (by kernel_rfl) (by intro _ _ _ h; exact h) (Or.inl ⟨by rfl, ?_⟩) (by assumption) ?_
    rotate_left
    · (intro w hSw; (try dsimp only at hSw); go_simp; all_goals with_reducible rfl)
    (try simp only [Act.put, List.setIfInBounds_toArray, List.set_cons_zero, List.set_cons_succ])
    refine wpAnyH_ready (rs := [7]) (by kernel_rfl) (by simp) ?_
    refine (AllReadyH.cons (by rw [List.getElem?_toArray]; rfl) (fun K hK => ?_) AllReadyH.nil)
    go_simp
    (clear n0 n1 n2 n3 n4 n5 n6); (clear FE hce); (have T2 := T.put1 hp hn1 hgb y); (generalize v4.setCell ⟨gb, 1, none⟩ (.int .i64 y) = v5 at *); (obtain ⟨n0, n1, n2, n3, n4, n5, n6⟩ := id T2.1)
    refine hK.out _ _ ?_ (fun hHeld => ?_)
    · first | exact n3 | (simp (maxDischargeDepth := 6) [go_sem, *]; done)
    clear hK K
    (try simp only [Act.put, List.setIfInBounds_toArray, List.set_cons_zero, List.set_cons_succ])
    refine wpAnyH_done (by kernel_rfl) ?_ _
    clear n0 n1 n2 n3 n4 n5 n6 T
    have T := T2
    clear T2
    have RS := T.result hp hB (u0 := .int .i64 s) (u1 := .int .i64 g) (u2 := .slice (some ⟨gb, 0, none⟩) n c)
    have RR := ((T.2.2.2.2.1.set0 (.int .i64 s)).set1 (.int .i64 g)).set2 (.slice (some ⟨gb, 0, none⟩) n c)
    obtain ⟨n0, n1, n2, n3, n4, n5, n6⟩ := id T.1
    obtain ⟨r0, r1, r2, r3, r4, r5, r6⟩ := id T.2.2.2.2.1
    go_wp2_with fail
    clear n0 n1 n2 n3 n4 n5 n6
    clear r0 r1 r2 r3 r4 r5 r6
    generalize ((v5.setCell ⟨w.heap.size, 0, none⟩ (.int .i64 s)).setCell ⟨w.heap.size, 1, none⟩ (.int .i64 g)).setCell ⟨w.heap.size, 2, none⟩ (.slice (some ⟨gb, 0, none⟩) n c) = vz at *
    obtain ⟨r0, r1, r2, r3, r4, r5, r6⟩ := id RR
    exact bodyPost_ret (v := (.agg #[.int .i64 s, .int .i64 g, .slice (some ⟨gb, 0, none⟩) n c])) (by simp (maxDischargeDepth := 6) [results, Tryd.results38, go_sem, *]) rfl ⟨s, g, (some ⟨gb, 0, none⟩), n, c, (updS M ((M 0).1, y)), rfl, by omega, fun q => absurd q (by decide), RS⟩
  by_cases h4 : r = 4
  · subst h4
    have T2 := T.empty hp hB hbt (fun _ => zSl)
    obtain ⟨n0, n1, n2, n3, n4, n5, n6⟩ := id T.1
    go_upto_region 16 with fail
    clear n0 n1 n2 n3 n4 n5 n6
    generalize v3.setCell ⟨bt, 2, none⟩ (.slice none 0 0) = v5 at *
    clear T
    have T := T2
    clear T2
    have RS := T.result hp hB (u0 := .int .i64 s) (u1 := .int .i64 g) (u2 := .slice none 0 0)
    have RR := ((T.2.2.2.2.1.set0 (.int .i64 s)).set1 (.int .i64 g)).set2 (.slice none 0 0)
    obtain ⟨n0, n1, n2, n3, n4, n5, n6⟩ := id T.1
    obtain ⟨r0, r1, r2, r3, r4, r5, r6⟩ := id T.2.2.2.2.1
    go_wp2_with fail
    clear n0 n1 n2 n3 n4 n5 n6
    clear r0 r1 r2 r3 r4 r5 r6
    generalize ((v5.setCell ⟨w.heap.size, 0, none⟩ (.int .i64 s)).setCell ⟨w.heap.size, 1, none⟩ (.int .i64 g)).setCell ⟨w.heap.size, 2, none⟩ (.slice none 0 0) = vz at *
    obtain ⟨r0, r1, r2, r3, r4, r5, r6⟩ := id RR
    exact bodyPost_ret (v := (.agg #[.int .i64 s, .int .i64 g, .slice none 0 0])) (by simp (maxDischargeDepth := 6) [results, Tryd.results38, go_sem, *]) rfl ⟨s, g, none, 0, 0, (fun _ => zSl), rfl, by omega, fun q => absurd q (by decide), RS⟩
  by_cases h5 : r = 5
  · subst h5
    go_wp2_with fail
    have hn13 : n ≤ 13 := by omega
    clear hn12 hn1
    go_loopw [] (fun wr => ∃ (A : Option Addr) (n c : Nat) (M : Nat → SlT), n ≤ 13 ∧ Pw w B p bt wr s g A n c M) (fun wr => 13 - lenAt wr bt)
    case atStart => exact ⟨A, n, c, M, hn13, T⟩
    case round =>
      clear T hn13
      obtain ⟨A, n, c, M, hn13, T⟩ := hrel
      have hlen : lenAt wr bt = n := lenAt_is T.1.2.2.2.1
      by_cases hlt : n ≤ 12
      · have hli : (n : Int) ≤ (12 : Int) := by omega
        have own1 := World.ownsRow.alloc T.2.1 (.cells #[.int .i64 0, .int .i64 1] 72)
        have A6 := Below.nw wr (.cells #[.int .i64 0, .int .i64 1] 72)
        have T2 := T.below A6
        have HN2 : Hid (∀ j u, [Value.int .i64 0, .int .i64 1][j]? = some u → (wr.alloc (.cells #[.int .i64 0, .int .i64 1] 72)).cell? ((⟨wr.heap.size, 0, none⟩ : Addr).add j) = some u) := slot_at wr 0 1
        have hs6 : w.heap.size + 1 ≤ (wr.alloc (.cells #[.int .i64 0, .int .i64 1] 72)).heap.size := by have := A6.size; have := T.1.1; omega
        obtain ⟨n0, n1, n2, n3, n4, n5, n6⟩ := id T.1
        go_wp2_with (at_builtin; refine wpList_append_new rfl _ _ 25 rfl (w.heap.size + 1) 72 i0 (.agg #[.int .i64 0, .int .i64 0]) 2 16 Tryd.underlying25 hi hz0 hz1 hz2 rfl (by decide) _ _ _ rfl own1 ⟨wr.heap.size, 0, none⟩ 1 1 [.int .i64 0, .int .i64 1] rfl rfl HN2.out (slot_one _ _) (by unfold maxLen; omega) (by omega) hs6 ?_; intro vq wq hown2 hgrow hfr; (rw [← srow_ins M n (0, 1)] at hown2); (obtain ⟨a3, c3, rfl, _, _, _⟩ := ownF_src hown2); (have T3 := T2.grow hp hB hbt hgrow hown2 hfr); (have KQ := T2.1.kept hgrow (fun e => T2.2.2.2.2.2 bt e.symm rfl)); clear n0 n1 n2 n3 n4 n5 n6; (clear hown2 hgrow hfr own1 HN2 A6 T2 hs6); (obtain ⟨n0, n1, n2, n3, n4, n5, n6⟩ := id KQ))
        go_roundw
        case rel => exact ⟨a3, n + 1, c3, _, by omega, T3⟩
        case measure => rw [hlen, lenAt_is T3.1.2.2.2.1]; omega
      · have hli : ¬ (n : Int) ≤ (12 : Int) := by omega
        have RS := T.result hp hB (u0 := .int .i64 s) (u1 := .int .i64 g) (u2 := .slice A n c)
        have RR := ((T.2.2.2.2.1.set0 (.int .i64 s)).set1 (.int .i64 g)).set2 (.slice A n c)
        obtain ⟨n0, n1, n2, n3, n4, n5, n6⟩ := id T.1
        obtain ⟨r0, r1, r2, r3, r4, r5, r6⟩ := id T.2.2.2.2.1
        go_wp2_with fail
        clear n0 n1 n2 n3 n4 n5 n6
        clear r0 r1 r2 r3 r4 r5 r6
        generalize ((wr.setCell ⟨w.heap.size, 0, none⟩ (.int .i64 s)).setCell ⟨w.heap.size, 1, none⟩ (.int .i64 g)).setCell ⟨w.heap.size, 2, none⟩ (.slice A n c) = vz at *
        obtain ⟨r0, r1, r2, r3, r4, r5, r6⟩ := id RR
        exact bodyPost_ret (v := (.agg #[.int .i64 s, .int .i64 g, .slice A n c])) (by simp (maxDischargeDepth := 6) [results, Tryd.results38, go_sem, *]) rfl ⟨s, g, A, n, c, M, rfl, by omega, fun q => absurd q (by decide), RS⟩
  · go_upto_region 16 with fail
    have RS := T.result hp hB (u0 := .int .i64 s) (u1 := .int .i64 g) (u2 := .slice A n c)
    have RR := ((T.2.2.2.2.1.set0 (.int .i64 s)).set1 (.int .i64 g)).set2 (.slice A n c)
    obtain ⟨n0, n1, n2, n3, n4, n5, n6⟩ := id T.1
    obtain ⟨r0, r1, r2, r3, r4, r5, r6⟩ := id T.2.2.2.2.1
    go_wp2_with fail
    clear n0 n1 n2 n3 n4 n5 n6
    clear r0 r1 r2 r3 r4 r5 r6
    generalize ((v3.setCell ⟨w.heap.size, 0, none⟩ (.int .i64 s)).setCell ⟨w.heap.size, 1, none⟩ (.int .i64 g)).setCell ⟨w.heap.size, 2, none⟩ (.slice A n c) = vz at *
    obtain ⟨r0, r1, r2, r3, r4, r5, r6⟩ := id RR
    exact bodyPost_ret (v := (.agg #[.int .i64 s, .int .i64 g, .slice A n c])) (by simp (maxDischargeDepth := 6) [results, Tryd.results38, go_sem, *]) rfl ⟨s, g, A, n, c, M, rfl, by omega, fun q => absurd q (by decide), RS⟩
end Go.Proofs.YtdahabbdhjgpdaaDoor
namespace Go.Proofs.YtdahabbdhjgpdaaDoor
open Go.RowKit
set_option linter.unusedVariables false
def prs (L : List (Int × Int)) : List Value := L.flatMap fun p => [.int .i64 p.1, .int .i64 p.2]
theorem prs_add (L : List (Int × Int)) (x y : Int) : prs (L ++ [(x, y)]) = prs L ++ [.int .i64 x, .int .i64 y] := by simp [prs]
theorem But.grown {p : Nat} {w w' : World} (h : But p w w') : w.grownBy w' (some p) := ⟨h.1, h.2.1, h.2.2.1, h.2.2.2.1, fun k hk hp => h.2.2.2.2 k hk (fun e => hp (by rw [e]))⟩
theorem own_but {w w' : World} {base p : Nat} {e : TypeId} {size : Nat} {v : Value} {n : Nat} {xs : List Value} (h : w.ownsRow base e size v n xs) (hb : But p w w') (hp : p < base) : w'.ownsRow base e size v n xs :=
  h.kept hb.grown (by
    cases hv : v.ownBlock with
    | none => exact .inl rfl
    | some g => exact .inr (fun he => by have := (h.lt g hv).1; simp at he; omega))
theorem own_below {w w' : World} {base : Nat} {e : TypeId} {size : Nat} {v : Value} {n : Nat} {xs : List Value} (h : w.ownsRow base e size v n xs) (hb : Below w.heap.size w w') : w'.ownsRow base e size v n xs :=
  h.kept (row := none) ⟨hb.os, hb.tape, hb.output, hb.size, fun k hk _ => hb.block k hk⟩ (by
    cases hv : v.ownBlock with
    | none => exact .inl rfl
    | some g => exact .inr (by simp))
theorem own_set {w : World} {base : Nat} {e : TypeId} {size : Nat} {v : Value} {n : Nat} {xs : List Value} (h : w.ownsRow base e size v n xs) {k : Nat} (hk : ∀ g, v.ownBlock = some g → g ≠ k) (o : Nat) (u : Value) : (w.setCell ⟨k, o, none⟩ u).ownsRow base e size v n xs :=
  ownsRow_setCell_other h (by
    cases hv : v.ownBlock with
    | none => simp
    | some g => simp; exact hk g hv) u
theorem grown_below {w w' : World} {base : Nat} {e : TypeId} {size : Nat} {v : Value} {n : Nat} {xs : List Value} (h : w.ownsRow base e size v n xs) (hg : w.grownBy w' v.ownBlock) (hb : base ≤ w.heap.size) : Below base w w' :=
  ⟨hg.os, hg.tape, hg.output, hg.size, fun k hk => hg.block k (by omega) (fun he => by have := (h.lt k he.symm).1; omega)⟩
theorem CurOk.belowB {w w' : World} {B p base : Nat} (h : CurOk w B p) (hb : Below base w w') (hp : p < base) : CurOk w' B p := by
  obtain ⟨a, n, c, i, hh, h0, h1, h2, f0, f1, f2, hi, hn, hc, hB, hpw⟩ := h
  refine ⟨a, n, c, i, hh, ?_, ?_, ?_, ?_, ?_, ?_, hi, hn, hc.below (hb.mono (by omega)), hB, Nat.lt_of_lt_of_le hpw hb.size⟩
  · rw [hb.cell (p := ⟨p, 0, none⟩) hp]; exact h0
  · rw [hb.cell (p := ⟨p, 1, none⟩) hp]; exact h1
  · rw [hb.cell (p := ⟨p, 2, none⟩) hp]; exact h2
  · rw [hb.frozen (p := ⟨p, 0, none⟩) hp]; exact f0
  · rw [hb.frozen (p := ⟨p, 1, none⟩) hp]; exact f1
  · rw [hb.frozen (p := ⟨p, 2, none⟩) hp]; exact f2
theorem But.thenBelow {p : Nat} {a w w' : World} (h : But p a w) (hb : Below a.heap.size w w') : But p a w' :=
  ⟨hb.os.trans h.1, hb.tape.trans h.2.1, hb.output.trans h.2.2.1, Nat.le_trans h.2.2.2.1 hb.size, fun k hk hp => (hb.block k hk).trans (h.2.2.2.2 k hk hp)⟩
theorem pair_at (w : World) (a b : Int) (T : TypeId) (j : Nat) (u : Value) (h : [Value.int .i64 a, Value.int .i64 b][j]? = some u) : (w.alloc (.cells #[.int .i64 a, .int .i64 b] T)).cell? ((⟨w.heap.size, 0, none⟩ : Addr).add j) = some u := by
  match j, h with
  | 0, h => simp at h; subst h; simp [Addr.add]
  | 1, h => simp at h; subst h; simp [Addr.add]
end Go.Proofs.YtdahabbdhjgpdaaDoor
namespace Go.Proofs.YtdahabbdhjgpdaaDoor
open Go.RowKit
set_option linter.unusedVariables false
def Thaw8 (w : World) (j : Nat) : Prop := w.frozen? ⟨j, 0, none⟩ = false ∧ w.frozen? ⟨j, 1, none⟩ = false ∧ w.frozen? ⟨j, 2, none⟩ = false ∧ w.frozen? ⟨j, 3, none⟩ = false ∧ w.frozen? ⟨j, 4, none⟩ = false ∧ w.frozen? ⟨j, 5, none⟩ = false ∧ w.frozen? ⟨j, 6, none⟩ = false ∧ w.frozen? ⟨j, 7, none⟩ = false
theorem Thaw8.belowB {j B : Nat} {w w' : World} (h : Thaw8 w j) (hw : Below B w w') (hk : j < B) : Thaw8 w' j := by
  obtain ⟨h0, h1, h2, h3, h4, h5, h6, h7⟩ := h
  exact ⟨by rw [hw.frozen (p := ⟨j, 0, none⟩) hk]; exact h0, by rw [hw.frozen (p := ⟨j, 1, none⟩) hk]; exact h1, by rw [hw.frozen (p := ⟨j, 2, none⟩) hk]; exact h2, by rw [hw.frozen (p := ⟨j, 3, none⟩) hk]; exact h3, by rw [hw.frozen (p := ⟨j, 4, none⟩) hk]; exact h4, by rw [hw.frozen (p := ⟨j, 5, none⟩) hk]; exact h5, by rw [hw.frozen (p := ⟨j, 6, none⟩) hk]; exact h6, by rw [hw.frozen (p := ⟨j, 7, none⟩) hk]; exact h7⟩
theorem Thaw8.new (w : World) (k fr tuu no lo hi sl : Int) (s : ByteArray) (T : TypeId) : Thaw8 (w.alloc (.cells #[.int .i64 k, .int .i64 fr, .int .i64 tuu, .int .i64 no, .int .i64 lo, .int .i64 hi, .int .i64 sl, .string s] T)) w.heap.size := ⟨by simp, by simp, by simp, by simp, by simp, by simp, by simp, by simp⟩
theorem Thaw8.set {w : World} {j : Nat} (h : Thaw8 w j) (p : Addr) (u : Value) : Thaw8 (w.setCell p u) j := by
  obtain ⟨h0, h1, h2, h3, h4, h5, h6, h7⟩ := h
  exact ⟨by simpa using h0, by simpa using h1, by simpa using h2, by simpa using h3, by simpa using h4, by simpa using h5, by simpa using h6, by simpa using h7⟩
theorem Box8.alloc {j : Nat} {w : World} {k fr tuu no lo hi sl : Int} {s : ByteArray} (h : Box8 w j k fr tuu no lo hi sl s) (o : Obj) : Box8 (w.alloc o) j k fr tuu no lo hi sl s := h.below ((Below.refl _ _).alloc (Nat.le_refl _) _)
theorem Box8.setO {j b : Nat} {w : World} {k fr tuu no lo hi sl : Int} {s : ByteArray} (h : Box8 w j k fr tuu no lo hi sl s) (hk : b ≠ j) (o : Nat) (u : Value) : Box8 (w.setCell ⟨b, o, none⟩ u) j k fr tuu no lo hi sl s := by
  have hne : ∀ q, (⟨b, o, none⟩ : Addr) ≠ ⟨j, q, none⟩ := fun q e => hk (congrArg Addr.block e)
  obtain ⟨h0, h1, h2, h3, h4, h5, h6, h7, h8⟩ := h
  exact ⟨by simpa using h0, by rw [World.cell?_setCell_other _ _ _ _ (hne _)]; exact h1, by rw [World.cell?_setCell_other _ _ _ _ (hne _)]; exact h2, by rw [World.cell?_setCell_other _ _ _ _ (hne _)]; exact h3, by rw [World.cell?_setCell_other _ _ _ _ (hne _)]; exact h4, by rw [World.cell?_setCell_other _ _ _ _ (hne _)]; exact h5, by rw [World.cell?_setCell_other _ _ _ _ (hne _)]; exact h6, by rw [World.cell?_setCell_other _ _ _ _ (hne _)]; exact h7, by rw [World.cell?_setCell_other _ _ _ _ (hne _)]; exact h8⟩
theorem cell_set_off (w : World) (j a b : Nat) (u : Value) (h : a ≠ b) : (w.setCell ⟨j, a, none⟩ u).cell? ⟨j, b, none⟩ = w.cell? ⟨j, b, none⟩ := World.cell?_setCell_other _ _ _ _ (by intro e; exact h (congrArg Addr.off e))
theorem Box8.set0 {j : Nat} {w : World} {k fr tuu no lo hi sl : Int} {s : ByteArray} (h : Box8 w j k fr tuu no lo hi sl s) (x : Int) : Box8 (w.setCell ⟨j, 0, none⟩ (.int .i64 x)) j x fr tuu no lo hi sl s := by
  obtain ⟨h0, h1, h2, h3, h4, h5, h6, h7, h8⟩ := h
  exact ⟨by simpa using h0, World.cell?_setCell_same _ _ _ h1, by rw [cell_set_off _ _ _ _ _ (by decide)]; exact h2, by rw [cell_set_off _ _ _ _ _ (by decide)]; exact h3, by rw [cell_set_off _ _ _ _ _ (by decide)]; exact h4, by rw [cell_set_off _ _ _ _ _ (by decide)]; exact h5, by rw [cell_set_off _ _ _ _ _ (by decide)]; exact h6, by rw [cell_set_off _ _ _ _ _ (by decide)]; exact h7, by rw [cell_set_off _ _ _ _ _ (by decide)]; exact h8⟩
theorem Box8.set1 {j : Nat} {w : World} {k fr tuu no lo hi sl : Int} {s : ByteArray} (h : Box8 w j k fr tuu no lo hi sl s) (x : Int) : Box8 (w.setCell ⟨j, 1, none⟩ (.int .i64 x)) j k x tuu no lo hi sl s := by
  obtain ⟨h0, h1, h2, h3, h4, h5, h6, h7, h8⟩ := h
  exact ⟨by simpa using h0, by rw [cell_set_off _ _ _ _ _ (by decide)]; exact h1, World.cell?_setCell_same _ _ _ h2, by rw [cell_set_off _ _ _ _ _ (by decide)]; exact h3, by rw [cell_set_off _ _ _ _ _ (by decide)]; exact h4, by rw [cell_set_off _ _ _ _ _ (by decide)]; exact h5, by rw [cell_set_off _ _ _ _ _ (by decide)]; exact h6, by rw [cell_set_off _ _ _ _ _ (by decide)]; exact h7, by rw [cell_set_off _ _ _ _ _ (by decide)]; exact h8⟩
theorem Box8.set2 {j : Nat} {w : World} {k fr tuu no lo hi sl : Int} {s : ByteArray} (h : Box8 w j k fr tuu no lo hi sl s) (x : Int) : Box8 (w.setCell ⟨j, 2, none⟩ (.int .i64 x)) j k fr x no lo hi sl s := by
  obtain ⟨h0, h1, h2, h3, h4, h5, h6, h7, h8⟩ := h
  exact ⟨by simpa using h0, by rw [cell_set_off _ _ _ _ _ (by decide)]; exact h1, by rw [cell_set_off _ _ _ _ _ (by decide)]; exact h2, World.cell?_setCell_same _ _ _ h3, by rw [cell_set_off _ _ _ _ _ (by decide)]; exact h4, by rw [cell_set_off _ _ _ _ _ (by decide)]; exact h5, by rw [cell_set_off _ _ _ _ _ (by decide)]; exact h6, by rw [cell_set_off _ _ _ _ _ (by decide)]; exact h7, by rw [cell_set_off _ _ _ _ _ (by decide)]; exact h8⟩
theorem Box8.set3 {j : Nat} {w : World} {k fr tuu no lo hi sl : Int} {s : ByteArray} (h : Box8 w j k fr tuu no lo hi sl s) (x : Int) : Box8 (w.setCell ⟨j, 3, none⟩ (.int .i64 x)) j k fr tuu x lo hi sl s := by
  obtain ⟨h0, h1, h2, h3, h4, h5, h6, h7, h8⟩ := h
  exact ⟨by simpa using h0, by rw [cell_set_off _ _ _ _ _ (by decide)]; exact h1, by rw [cell_set_off _ _ _ _ _ (by decide)]; exact h2, by rw [cell_set_off _ _ _ _ _ (by decide)]; exact h3, World.cell?_setCell_same _ _ _ h4, by rw [cell_set_off _ _ _ _ _ (by decide)]; exact h5, by rw [cell_set_off _ _ _ _ _ (by decide)]; exact h6, by rw [cell_set_off _ _ _ _ _ (by decide)]; exact h7, by rw [cell_set_off _ _ _ _ _ (by decide)]; exact h8⟩
theorem Box8.set4 {j : Nat} {w : World} {k fr tuu no lo hi sl : Int} {s : ByteArray} (h : Box8 w j k fr tuu no lo hi sl s) (x : Int) : Box8 (w.setCell ⟨j, 4, none⟩ (.int .i64 x)) j k fr tuu no x hi sl s := by
  obtain ⟨h0, h1, h2, h3, h4, h5, h6, h7, h8⟩ := h
  exact ⟨by simpa using h0, by rw [cell_set_off _ _ _ _ _ (by decide)]; exact h1, by rw [cell_set_off _ _ _ _ _ (by decide)]; exact h2, by rw [cell_set_off _ _ _ _ _ (by decide)]; exact h3, by rw [cell_set_off _ _ _ _ _ (by decide)]; exact h4, World.cell?_setCell_same _ _ _ h5, by rw [cell_set_off _ _ _ _ _ (by decide)]; exact h6, by rw [cell_set_off _ _ _ _ _ (by decide)]; exact h7, by rw [cell_set_off _ _ _ _ _ (by decide)]; exact h8⟩
theorem Box8.set5 {j : Nat} {w : World} {k fr tuu no lo hi sl : Int} {s : ByteArray} (h : Box8 w j k fr tuu no lo hi sl s) (x : Int) : Box8 (w.setCell ⟨j, 5, none⟩ (.int .i64 x)) j k fr tuu no lo x sl s := by
  obtain ⟨h0, h1, h2, h3, h4, h5, h6, h7, h8⟩ := h
  exact ⟨by simpa using h0, by rw [cell_set_off _ _ _ _ _ (by decide)]; exact h1, by rw [cell_set_off _ _ _ _ _ (by decide)]; exact h2, by rw [cell_set_off _ _ _ _ _ (by decide)]; exact h3, by rw [cell_set_off _ _ _ _ _ (by decide)]; exact h4, by rw [cell_set_off _ _ _ _ _ (by decide)]; exact h5, World.cell?_setCell_same _ _ _ h6, by rw [cell_set_off _ _ _ _ _ (by decide)]; exact h7, by rw [cell_set_off _ _ _ _ _ (by decide)]; exact h8⟩
theorem Box8.set6 {j : Nat} {w : World} {k fr tuu no lo hi sl : Int} {s : ByteArray} (h : Box8 w j k fr tuu no lo hi sl s) (x : Int) : Box8 (w.setCell ⟨j, 6, none⟩ (.int .i64 x)) j k fr tuu no lo hi x s := by
  obtain ⟨h0, h1, h2, h3, h4, h5, h6, h7, h8⟩ := h
  exact ⟨by simpa using h0, by rw [cell_set_off _ _ _ _ _ (by decide)]; exact h1, by rw [cell_set_off _ _ _ _ _ (by decide)]; exact h2, by rw [cell_set_off _ _ _ _ _ (by decide)]; exact h3, by rw [cell_set_off _ _ _ _ _ (by decide)]; exact h4, by rw [cell_set_off _ _ _ _ _ (by decide)]; exact h5, by rw [cell_set_off _ _ _ _ _ (by decide)]; exact h6, World.cell?_setCell_same _ _ _ h7, by rw [cell_set_off _ _ _ _ _ (by decide)]; exact h8⟩
theorem Box8.set7 {j : Nat} {w : World} {k fr tuu no lo hi sl : Int} {s : ByteArray} (h : Box8 w j k fr tuu no lo hi sl s) (x : ByteArray) : Box8 (w.setCell ⟨j, 7, none⟩ (.string x)) j k fr tuu no lo hi sl x := by
  obtain ⟨h0, h1, h2, h3, h4, h5, h6, h7, h8⟩ := h
  exact ⟨by simpa using h0, by rw [cell_set_off _ _ _ _ _ (by decide)]; exact h1, by rw [cell_set_off _ _ _ _ _ (by decide)]; exact h2, by rw [cell_set_off _ _ _ _ _ (by decide)]; exact h3, by rw [cell_set_off _ _ _ _ _ (by decide)]; exact h4, by rw [cell_set_off _ _ _ _ _ (by decide)]; exact h5, by rw [cell_set_off _ _ _ _ _ (by decide)]; exact h6, by rw [cell_set_off _ _ _ _ _ (by decide)]; exact h7, World.cell?_setCell_same _ _ _ h8⟩
theorem Thaw8.alloc {j : Nat} {w : World} (h : Thaw8 w j) (hj : j < w.heap.size) (o : Obj) : Thaw8 (w.alloc o) j := h.belowB ((Below.refl w.heap.size w).alloc (Nat.le_refl _) _) hj
end Go.Proofs.YtdahabbdhjgpdaaDoor
namespace Go.Proofs.YtdahabbdhjgpdaaDoor
open Go.RowKit
set_option linter.unusedVariables false
end Go.Proofs.YtdahabbdhjgpdaaDoor
namespace Go.Proofs.YtdahabbdhjgpdaaDoor
open Go.RowKit
set_option linter.unusedVariables false
def rowObjB (n : Nat) : Obj := .cells (madeCells #[.int .u8 0] n) 5
theorem mk_rowB (n : Nat) (h : n ≤ 1048576) (w : World) : (Instr.makeSlice 22 (.int .i64 (n : Int)) (.int .i64 (n : Int))).run Tryd.prog w = .ok (.slice (some ⟨w.heap.size, 0, none⟩) n n) (w.alloc (rowObjB n)) := by
  obtain ⟨i, hi, hz⟩ := Option.map_eq_some_iff.1 infoByte
  simp only [Prod.mk.injEq] at hz
  obtain ⟨h1, h2, h3⟩ := hz
  have hr := run_make (P := Tryd.prog) w 22 5 i _ Tryd.underlying22 hi h1 .i64 .i64 n n (by omega) (Int.le_refl _) (by rw [h3]; omega) (by omega)
  simp only [Int.toNat_natCast, h2, Nat.mul_one] at hr
  exact hr
theorem rowObjB_is (w : World) (n : Nat) : (w.alloc (rowObjB n)).rowIs w.heap.size 5 n (fun _ => .int .u8 0) := by
  have h := World.rowIs_alloc w (madeCells #[.int .u8 0] n) 5 (fun _ => .int .u8 0) (fun i hi => by
    rw [size_madeCells] at hi
    simp [madeCells, hi, Nat.mod_one])
  rw [size_madeCells] at h
  exact h
def RowB (w : World) (b t n k : Nat) (f : Nat → Int) : Prop := ∃ g, w.rowIs b t n g ∧ ∀ j, j < k → g j = .int .u8 (f j)
theorem RowB.step {w : World} {b t n k : Nat} {f : Nat → Int} (h : RowB w b t n k f) : RowB (w.setCell ⟨b, k, none⟩ (.int .u8 (f k))) b t n (k + 1) f := by
  obtain ⟨g, hr, hg⟩ := h
  refine ⟨_, hr.set _ _, fun j hj => ?_⟩
  rcases Nat.lt_succ_iff_lt_or_eq.1 hj with h1 | h1
  · have e1 : ¬ j = k := by omega
    simp only [if_neg e1]
    exact hg j h1
  · subst h1
    simp only [if_true]
theorem RowB.below {w w' : World} {B b t n k : Nat} {f : Nat → Int} (h : RowB w b t n k f) (hb : Below B w w') (hB : b < B) : RowB w' b t n k f := by
  obtain ⟨g, hr, hg⟩ := h
  exact ⟨g, hr.of_block (hb.block b hB), hg⟩
theorem RowB.facts {w : World} {b t n k : Nat} {f : Nat → Int} (h : RowB w b t n k f) (hk : k < n) : b < w.heap.size ∧ (∃ v, w.cell? ⟨b, k, none⟩ = some v) ∧ w.frozen? ⟨b, k, none⟩ = false := by
  obtain ⟨g, hr, hg⟩ := h
  exact ⟨hr.lt, ⟨_, hr.cell (by omega)⟩, hr.frozen _⟩
theorem RowB.lt {w : World} {b t n k : Nat} {f : Nat → Int} (h : RowB w b t n k f) : b < w.heap.size := by obtain ⟨g, hr, hg⟩ := h; exact hr.lt
theorem RowB.byts {w : World} {b t N n : Nat} {f : Nat → Int} (h : RowB w b t N n f) (hn : n ≤ N) : Byts w b 0 n f := by
  obtain ⟨g, hr, hg⟩ := h
  exact ⟨hr.lt, fun i hi => by rw [Nat.zero_add, hr.cell (by omega), hg i hi]⟩
def fmb (i : Nat) : Int := IntKind.u8.wrap (1 + (i : Int))
theorem grownB_set {w wr : World} {b : Nat} (h : w.grownBy wr (some b)) (o : Nat) (u : Value) : w.grownBy (wr.setCell ⟨b, o, none⟩ u) (some b) :=
  ⟨h.os, h.tape, h.output, by rw [World.size_setCell]; exact h.size, fun k hk hp => (Below.heap_setCell wr ⟨b, o, none⟩ u k (fun e => hp (by rw [e]))).trans (h.block k hk hp)⟩
theorem grownB_belowB {w w' : World} {b B : Nat} (h : w.grownBy w' (some b)) (hB : B ≤ b) (hs : B ≤ w.heap.size) : Below B w w' := ⟨h.os, h.tape, h.output, h.size, fun k hk => h.block k (by omega) (fun e => by simp at e; omega)⟩
theorem ownB_rowB {w : World} {base : Nat} {T : TypeId} {g n cap : Nat} {xs : List Value} (h : w.ownsRow base T 1 (.slice (some ⟨g, 0, none⟩) n cap) n xs) : base ≤ g ∧ n ≤ cap ∧ RowB w g T cap 0 fmb := by
  rcases h.2 with ⟨h, _⟩ | ⟨g', cap', cur, he, h2, h3, h4, h5, h6, h7⟩
  · simp at h
  · simp at he
    obtain ⟨rfl, rfl⟩ := he
    exact ⟨h2, h4, _, ⟨cur, h3, by omega, fun i hi => by rw [Array.getElem?_eq_getElem (by omega)]; exact congrArg some (by rw [Array.getD_eq_getD_getElem?, Array.getElem?_eq_getElem (by omega)]; rfl : cur[i]'(by omega) = cur.getD i undef)⟩, fun j hj => absurd hj (Nat.not_lt_zero _)⟩
end Go.Proofs.YtdahabbdhjgpdaaDoor
namespace Go.Proofs.YtdahabbdhjgpdaaDoor
open Go.RowKit
set_option linter.unusedVariables false
theorem xor_i64 (a b : Nat) (ha : a < 256) (hb : b < 256) : bits .xor .i64 (a : Int) (b : Int) = ((a ^^^ b : Nat) : Int) := by
  have e : bits .xor .i64 (a : Int) (b : Int) = IntKind.i64.wrap ((BitVec.ofInt 64 (a : Int) ^^^ BitVec.ofInt 64 (b : Int)).toNat : Int) := rfl
  have h1 : (BitVec.ofInt 64 (a : Int) ^^^ BitVec.ofInt 64 (b : Int)).toNat = a ^^^ b := by
    rw [BitVec.toNat_xor, BitVec.ofInt_natCast, BitVec.ofInt_natCast, BitVec.toNat_ofNat, BitVec.toNat_ofNat, Nat.mod_eq_of_lt (show a < 2 ^ 64 by omega), Nat.mod_eq_of_lt (show b < 2 ^ 64 by omega)]
  have h2 : a ^^^ b < 2 ^ 8 := Nat.xor_lt_two_pow (by omega) (by omega)
  rw [e, h1, Go.IntWalk.i64_in _ ⟨by omega, by omega⟩]
theorem xor_bd {a b : Int} (a0 : 0 ≤ a) (a1 : a ≤ 255) (b0 : 0 ≤ b) (b1 : b ≤ 255) : 0 ≤ bits .xor .i64 a b ∧ bits .xor .i64 a b ≤ 255 := by
  obtain ⟨m, rfl⟩ := Int.eq_ofNat_of_zero_le a0
  obtain ⟨n, rfl⟩ := Int.eq_ofNat_of_zero_le b0
  rw [xor_i64 m n (by omega) (by omega)]
  have h2 : m ^^^ n < 2 ^ 8 := Nat.xor_lt_two_pow (by omega) (by omega)
  omega
theorem and255I (a : Int) (h0 : 0 ≤ a) (h1 : a ≤ 9223372036854775807) : bits .and .i64 a 255 = a % 256 := by
  obtain ⟨n, rfl⟩ := Int.eq_ofNat_of_zero_le h0
  have e : bits .and .i64 (n : Int) 255 = IntKind.i64.wrap ((BitVec.ofInt 64 (n : Int) &&& BitVec.ofInt 64 255).toNat : Int) := rfl
  have h1 : (BitVec.ofInt 64 (n : Int) &&& BitVec.ofInt 64 255).toNat = n % 256 := by
    rw [BitVec.toNat_and, BitVec.ofInt_natCast, BitVec.toNat_ofNat, Nat.mod_eq_of_lt (show n < 2 ^ 64 by omega)]
    exact Nat.and_two_pow_sub_one_eq_mod n 8
  rw [e, h1, Go.IntWalk.i64_in _ ⟨by omega, by omega⟩]
  omega
def dblI (n : Int) : Int := if 255 < 2 * n then bits .xor .i64 (2 * n % 256) 7 else 2 * n
def turnI : Nat → Int → Int
  | 0, n => n
  | k + 1, n => dblI (turnI k n)
def chk (f : Nat → Int) : Nat → Int
  | 0 => 90
  | i + 1 => turnI 8 (bits .xor .i64 (chk f i) (f i))
theorem dblI_bd {n : Int} (h0 : 0 ≤ n) (h1 : n ≤ 255) : 0 ≤ dblI n ∧ dblI n ≤ 255 := by
  unfold dblI
  split
  · exact xor_bd (by omega) (by omega) (by omega) (by omega)
  · omega
theorem turnI_bd {n : Int} (h0 : 0 ≤ n) (h1 : n ≤ 255) : ∀ k, 0 ≤ turnI k n ∧ turnI k n ≤ 255
  | 0 => ⟨h0, h1⟩
  | k + 1 => dblI_bd (turnI_bd h0 h1 k).1 (turnI_bd h0 h1 k).2
theorem chk_bd {f : Nat → Int} : ∀ {n : Nat}, (∀ i, i < n → 0 ≤ f i ∧ f i ≤ 255) → 0 ≤ chk f n ∧ chk f n ≤ 255
  | 0, _ => by simp [chk]
  | n + 1, h => by
    have a := chk_bd (f := f) (n := n) (fun i hi => h i (by omega))
    have b := xor_bd a.1 a.2 (h n (by omega)).1 (h n (by omega)).2
    exact turnI_bd b.1 b.2 8
theorem dblI_hi {n : Int} (h : 255 < 2 * n) : dblI n = bits .xor .i64 (2 * n % 256) 7 := if_pos h
theorem dblI_lo {n : Int} (h : ¬ 255 < 2 * n) : dblI n = 2 * n := if_neg h
theorem chk_congr {f g : Nat → Int} : ∀ {n : Nat}, (∀ i, i < n → f i = g i) → chk f n = chk g n
  | 0, _ => rfl
  | n + 1, h => by simp only [chk]; rw [chk_congr (n := n) (fun i hi => h i (by omega)), h n (by omega)]
end Go.Proofs.YtdahabbdhjgpdaaDoor
namespace Go.Proofs.YtdahabbdhjgpdaaDoor
open Go.RowKit
set_option linter.unusedVariables false
def strL (s : ByteArray) : List Int := s.data.toList.map fun b => (b.toNat : Int)
theorem strL_len (s : ByteArray) : (strL s).length = s.size := by rw [strL, List.length_map, Array.length_toList]; rfl
theorem strL_cells (s : ByteArray) : Go.Lib.strCells s = bts (strL s) := by rw [Go.Lib.strCells, bts, strL, List.map_map]; rfl
theorem strL_rng (s : ByteArray) : ∀ z ∈ strL s, 0 ≤ z ∧ z ≤ 255 := by
  intro z hz
  simp [strL] at hz
  obtain ⟨b, _, rfl⟩ := hz
  have := b.toNat_lt
  omega
def packB (k fr tuu no lo hi sl : Int) (s : ByteArray) : List Int :=
  k :: putL fr ++ (if k = 3 then putL sl ++ putL s.size ++ strL s else putL tuu ++ putL no) ++ (if k = 2 then putL (foldI lo) ++ putL (foldI hi) else [])
def addChk (L : List Int) : List Int := L ++ [chk (fun i => L.getD i 0) L.length]
def packL (k fr tuu no lo hi sl : Int) (s : ByteArray) : List Int := addChk (packB k fr tuu no lo hi sl s)
def packR (k fr tuu no lo hi sl : Int) (s : ByteArray) : List Int := if msgB k fr tuu no lo hi sl s then packL k fr tuu no lo hi sl s else []
theorem bts_app (L M : List Int) : bts (L ++ M) = bts L ++ bts M := by simp [bts]
theorem bts_one (M : List Int) : ∀ u ∈ bts M, u.oneCell' = true := by
  intro u hu
  simp [bts] at hu
  obtain ⟨z, _, rfl⟩ := hu
  rfl
theorem putL_ne {x : Int} (h : 0 ≤ x) : putL x ≠ [] := by
  rw [putL, if_neg (by omega)]
  intro e
  unfold putN at e
  split at e <;> simp at e
theorem ownB_some {w : World} {base : Nat} {T : TypeId} {v : Value} {L : List Int} (h : w.ownsRow base T 1 v L.length (bts L)) (hne : L ≠ []) : ∃ g c, v = .slice (some ⟨g, 0, none⟩) L.length c := by
  rcases h.2 with ⟨_, h0⟩ | ⟨g, cap, cur, rfl, _⟩
  · exact absurd (List.eq_nil_of_length_eq_zero h0) hne
  · exact ⟨g, cap, rfl⟩
theorem ownB_cells {w : World} {base g c : Nat} {T : TypeId} {L : List Int} (h : w.ownsRow base T 1 (.slice (some ⟨g, 0, none⟩) L.length c) L.length (bts L)) : ∀ j u, (bts L)[j]? = some u → w.cell? ((⟨g, 0, none⟩ : Addr).add j) = some u := h.cells rfl
theorem ownB_one (w : World) (base : Nat) (T : TypeId) (x : Int) (hb : base ≤ w.heap.size) : (w.alloc (.cells #[.int .u8 x] T)).ownsRow base T 1 (.slice (some ⟨w.heap.size, 0, none⟩) 1 1) [x].length (bts [x]) :=
  ⟨by simp [bts], .inr ⟨w.heap.size, 1, _, rfl, hb, heap_alloc_new w _, Nat.le_refl _, by simp [maxLen], by simp, by simp [bts]⟩⟩
theorem ownB_base {w : World} {base base' : Nat} {e : TypeId} {size : Nat} {v : Value} {n : Nat} {xs : List Value} (h : w.ownsRow base e size v n xs) (hb : base' ≤ base) : w.ownsRow base' e size v n xs := by
  refine ⟨h.1, ?_⟩
  rcases h.2 with h | ⟨g, cap, cur, h1, h2, h3⟩
  · exact .inl h
  · exact .inr ⟨g, cap, cur, h1, by omega, h3⟩
theorem Box8.drew {j : Nat} {w : World} {k fr tuu no lo hi sl : Int} {s : ByteArray} (h : Box8 w j k fr tuu no lo hi sl s) : Box8 w.drew j k fr tuu no lo hi sl s := h
theorem rng_app {L M : List Int} (h : ∀ y ∈ L, 0 ≤ y ∧ y ≤ 255) (h' : ∀ y ∈ M, 0 ≤ y ∧ y ≤ 255) : ∀ y ∈ L ++ M, 0 ≤ y ∧ y ≤ 255 := fun y hy => by
  rcases List.mem_append.1 hy with k | k
  · exact h y k
  · exact h' y k
theorem rng_at {L : List Int} (h : ∀ y ∈ L, 0 ≤ y ∧ y ≤ 255) : ∀ i, i < L.length → 0 ≤ L.getD i 0 ∧ L.getD i 0 ≤ 255 := fun i hi => h _ (by
  rw [List.getD_eq_getElem?_getD, List.getElem?_eq_getElem hi]; exact List.getElem_mem hi)
theorem msgB_from {k fr tuu no lo hi sl : Int} {s : ByteArray} (h : msgB k fr tuu no lo hi sl s = true) : 0 ≤ fr ∧ fr ≤ 7 ∧ 1 ≤ k ∧ k ≤ 3 ∧ s.size ≤ 24 := by
  have hf : nodB fr = true := by
    cases e : nodB fr
    · rw [msg_from e] at h; cases h
    · rfl
  have hz : s.size ≤ 24 := Decidable.not_not.1 fun e => by rw [msg_long e] at h; cases h
  have hk : k = 1 ∨ k = 2 ∨ k = 3 := by
    unfold msgB at h
    split at h
    · omega
    · split at h
      · omega
      · split at h
        · omega
        · cases h
  simp [nodB] at hf
  omega
theorem msgB_pair {k fr tuu no lo hi sl : Int} {s : ByteArray} (h : msgB k fr tuu no lo hi sl s = true) (hk : k ≠ 3) : 0 ≤ tuu ∧ tuu ≤ 7 ∧ 0 ≤ no ∧ no ≤ 100000999 := by
  have ha : adB fr tuu no = true := by
    unfold msgB at h
    split at h
    · simp at h; exact h.1.1.1.1
    · split at h
      · simp at h; exact h.1.1.1
      · first | (cases h; done) | (rw [if_neg hk] at h; cases h)
  simp [adB, nodB] at ha
  omega
theorem msgB_said {fr tuu no lo hi sl : Int} {s : ByteArray} (h : msgB 2 fr tuu no lo hi sl s = true) : okI lo hi = true := by
  simp [msgB] at h; exact h.1.1.2
theorem msgB_slot {fr tuu no lo hi sl : Int} {s : ByteArray} (h : msgB 3 fr tuu no lo hi sl s = true) : 0 ≤ sl ∧ sl ≤ 15 := by
  simp [msgB] at h; omega
theorem foldI_bd (x : Int) : 0 ≤ foldI x ∧ foldI x ≤ 2000000000000 := by
  unfold foldI
  split
  · split <;> omega
  · omega
theorem row_cells (w : World) (s : ByteArray) (cap : Nat) (T : TypeId) (fz : Nat × Nat) : ∀ j u, (bts (strL s))[j]? = some u → (w.drew.alloc (.cells (bytesRow s cap) T fz)).cell? ((⟨w.heap.size, 0, none⟩ : Addr).add j) = some u := by
  intro j u hu
  have hj : j < s.data.size := by
    have := (List.getElem?_eq_some_iff.1 hu).1
    rw [bts_len, strL_len] at this
    exact this
  have e : (⟨w.heap.size, 0, none⟩ : Addr).add j = ⟨w.drew.heap.size, j, none⟩ := by
    unfold Addr.add
    split
    · next h => subst h; rfl
    · simp
  rw [e, World.cell?_alloc_mark, bytesRow_at s cap j hj]
  have : (bts (strL s))[j]? = some (.int .u8 (s.data[j].toNat : Int)) := by simp [bts, strL]; exact ⟨_, Array.getElem?_eq_getElem hj, rfl⟩
  rw [this] at hu
  exact hu
theorem len3 (A B C : List Int) : (A ++ B ++ C).length = (A ++ B).length + C.length := List.length_append
theorem bts3 (A B C : List Int) : bts (A ++ B ++ C) = bts (A ++ B) ++ bts C := bts_app _ _
theorem packR_len (k fr tuu no lo hi sl : Int) (s : ByteArray) (hs : s.size ≤ 1048576) : (packR k fr tuu no lo hi sl s).length ≤ 1048676 := by
  have a := putL_len fr
  have b := putL_len tuu
  have c := putL_len no
  have d := putL_len sl
  have e := putL_len s.size
  have f := putL_len (foldI lo)
  have g := putL_len (foldI hi)
  have h := strL_len s
  unfold packR packL addChk packB
  split
  · split <;> split <;> simp <;> omega
  · simp
theorem packR_short (k fr tuu no lo hi sl : Int) (s : ByteArray) : (packR k fr tuu no lo hi sl s).length ≤ 100 := by
  cases hm : msgB k fr tuu no lo hi sl s
  · simp [packR, hm]
  · have hk := (msgB_from hm).2.2.2.2
    have a := putL_len fr
    have b := putL_len tuu
    have c := putL_len no
    have d := putL_len sl
    have e := putL_len s.size
    have f := putL_len (foldI lo)
    have g := putL_len (foldI hi)
    have h := strL_len s
    unfold packR packL addChk packB
    rw [if_pos hm]
    split <;> split <;> simp <;> omega
end Go.Proofs.YtdahabbdhjgpdaaDoor
namespace Go.Proofs.YtdahabbdhjgpdaaDoor
open Go.RowKit
set_option linter.unusedVariables false
set_option maxHeartbeats 4000000 in
theorem l4DrawBody_any (B p : Nat) (most : Int) (w : World) (hcur : CurOk w B p) (h0 : 0 ≤ most) (h1 : most ≤ 99) :
    Calls Tryd.prog 93 #[.pointer (some ⟨p, 0, none⟩), .int .i64 most] w fun e w' => ∃ s : ByteArray, e = .returned (.string s) ∧ s.size ≤ 100 ∧ CurOk w' B p ∧ But p w w' := by
  obtain ⟨i0, hi, hz0, hz1, hz2⟩ := info_parts infoByte
  have hpl := hcur.lt
  have A1 := Below.al w (.cells #[] 5)
  have o0 : (w.alloc (.cells #[] 5)).ownsRow w.heap.size 5 1 (.slice (some ⟨w.heap.size, 0, none⟩) 0 0) 0 [] := World.ownsRow_made w #[] 0 (Nat.le_refl _) (by simp [maxLen]) (by simp)
  go_enter Tryd.func93, Tryd.ntmps93
  go_wp2_with fail
  refine (l1Below_any B p _ _ (hcur.below A1)).mono ?_
  rintro e w1 ⟨x, rfl, xl, xh, xp, xz, w1c, w1b⟩
  have hx := xp (by omega)
  have o1 := own_but o0 w1b (by omega)
  have b1 : But p w w1 := (But.of_below A1).trans w1b
  clear xp xz o0 A1 w1b hcur
  go_wp2_with fail
  go_loopw [5, 7] (fun v i wr => ∃ L : List Int, (L.length : Int) ≤ x ∧ i = .int .i64 L.length ∧ wr.ownsRow w.heap.size 5 1 v L.length (bts L) ∧ CurOk wr B p ∧ But p w wr) (fun _ i _ => x.toNat - (intOf i).toNat)
  case atStart => exact ⟨[], by simpa using xl, rfl, o1, w1c, b1⟩
  case round =>
    obtain ⟨L, hk, rfl, hown, wrc, wrb⟩ := hrel
    clear o1 w1c b1
    by_cases hlt : (L.length : Int) < x
    · go_wp2_with fail
      have hp := pickIn B p wr [97, 98, 99, 32, 48, 0, 255, 128, 34, 92] wrc (by simp) (by simp); simp only [List.map_cons, List.map_nil, List.length_cons, List.length_nil, Nat.zero_add, Nat.reduceAdd] at hp; refine hp.mono ?_; clear hp; rintro e w3 ⟨y, rfl, ym, w3c, w3b⟩
      have y0 : 0 ≤ y ∧ y ≤ 255 := by simp at ym; omega
      have hyw : IntKind.u8.wrap y = y := Go.IntWalk.u8_in _ ⟨by omega, by omega⟩
      have o3 := own_but hown w3b (by omega)
      have b3 : But p w w3 := wrb.trans w3b
      clear ym hown wrc wrb w3b
      have hsz : w.heap.size ≤ (w3.alloc (.cells #[.int .u8 y] 5)).heap.size := by have := b3.2.2.2.1; simp; omega
      have A3 := Below.al w3 (.cells #[.int .u8 y] 5)
      go_wp2_with (at_builtin; refine wpList_append_own _ rfl _ _ 22 rfl w.heap.size 5 i0 (.int .u8 0) 1 1 Tryd.underlying22 hi hz0 hz1 hz2 rfl (by decide) _ _ _ rfl (World.ownsRow.alloc o3 _) ⟨w3.heap.size, 0, none⟩ 1 1 [.int .u8 y] rfl rfl (fun j u hj => byte_at w3 _ 5 j u hj) (by intro u hu; simp at hu; subst hu; rfl) (by unfold maxLen; omega) (by omega) hsz ?_; intro v' w4 hown' hgrow _)
      have G4 := grownB_below (World.ownsRow.alloc o3 _) hgrow hsz
      have w4c : CurOk w4 B p := CurOk.belowB (CurOk.below w3c A3) G4 (by omega)
      have b4 : But p w w4 := But.thenBelow (But.alloc b3 _) G4
      have R4 : w4.ownsRow w.heap.size 5 1 v' (L ++ [y]).length (bts (L ++ [y])) := by rw [bts_add]; simpa using hown'
      clear hown' hgrow G4 A3 hsz o3 b3 w3c
      (try go_wp2_with fail)
      go_roundw
      case rel => exact ⟨L ++ [y], by simp; omega, by simp; try go_num, R4, w4c, b4⟩
      case measure => simp [intOf]; omega
    · obtain ⟨a, c, rfl, hc, hcm, hs⟩ := ownB_src hown
      have HCV : ∃ s : ByteArray, s.size ≤ 100 ∧ (convert 22 9 (.slice a L.length c)).run Tryd.prog wr = .ok (.string s) wr := by
        rcases hown.2 with ⟨he, h0⟩ | ⟨g, cap, cur, he, _⟩
        · simp at he
          obtain ⟨rfl, _, _⟩ := he
          exact ⟨ByteArray.empty, by simp, run_convert_bytes_nil wr 22 5 Tryd.underlying22 Tryd.underlying5 _ _ 9 Tryd.underlying9⟩
        · simp at he
          obtain ⟨rfl, rfl⟩ := he
          refine ⟨strOfNums L, by rw [strOfNums_size]; omega, run_convert_bytes_arg wr 22 5 Tryd.underlying22 Tryd.underlying5 g 0 L.length c L rfl (fun i hi => ?_) 9 Tryd.underlying9⟩
          rcases hs with q | ⟨b', off', q1, q2⟩
          · omega
          · simp at q1
            obtain ⟨rfl, rfl⟩ := q1
            exact q2.2 i hi
      obtain ⟨s, hs100, hcv⟩ := HCV
      clear hs hown
      go_wp2_with fail
      go_ret
      exact ⟨s, rfl, hs100, wrc, wrb⟩
end Go.Proofs.YtdahabbdhjgpdaaDoor
namespace Go.Proofs.YtdahabbdhjgpdaaDoor
open Go.RowKit
set_option linter.unusedVariables false
def getS (f : Nat → Int) (n a : Nat) : Nat → Nat → Int → Int × Int × Bool
  | 0, _, _ => (0, 0, false)
  | m + 1, k, X => if a + k < n then (if f (a + k) < 128 then (if f (a + k) = 0 ∧ 0 < k then (0, 0, false) else (X + f (a + k) % 128 * 128 ^ k, (a : Int) + k + 1, true)) else getS f n a m (k + 1) (X + f (a + k) % 128 * 128 ^ k)) else (0, 0, false)
def getI (f : Nat → Int) (n : Nat) (at' : Int) : Int × Int × Bool := if 0 ≤ at' ∧ at' < n then getS f n at'.toNat 9 0 0 else (0, 0, false)
section
variable {f : Nat → Int} {n a m k : Nat} {X : Int}
theorem getS_end (h : ¬ a + k < n) : getS f n a m k X = (0, 0, false) := by
  cases m with
  | zero => rfl
  | succ m => rw [getS, if_neg h]
theorem getS_long (h : a + k < n) (hz : f (a + k) = 0) (hk : 0 < k) : getS f n a m k X = (0, 0, false) := by
  cases m with
  | zero => rfl
  | succ m => rw [getS, if_pos h, if_pos (by omega), if_pos ⟨hz, hk⟩]
theorem getS_told (h : a + k < n) (h1 : f (a + k) < 128) (hz : ¬ (f (a + k) = 0 ∧ 0 < k)) : getS f n a (m + 1) k X = (X + f (a + k) % 128 * 128 ^ k, (a : Int) + k + 1, true) := by
  rw [getS, if_pos h, if_pos h1, if_neg hz]
theorem getS_on (h : a + k < n) (h1 : ¬ f (a + k) < 128) : getS f n a (m + 1) k X = getS f n a m (k + 1) (X + f (a + k) % 128 * 128 ^ k) := by
  rw [getS, if_pos h, if_neg h1]
end
theorem pow128_le {k m : Nat} (h : k ≤ m) : (128 : Int) ^ k ≤ 128 ^ m := by
  obtain ⟨d, rfl⟩ := Nat.exists_eq_add_of_le h
  rw [Int.pow_add]
  have h1 : (0 : Int) < 128 ^ k := Int.pow_pos (by omega)
  have h2 : (0 : Int) < 128 ^ d := Int.pow_pos (by omega)
  have := Int.mul_le_mul_of_nonneg_left (show (1 : Int) ≤ 128 ^ d by omega) (Int.le_of_lt h1)
  simpa using this
theorem pow128_9 : (128 : Int) ^ 9 = 9223372036854775808 := by decide
theorem gstep {X z : Int} {k : Nat} (hk : k < 9) (h0 : 0 ≤ X) (h1 : X < 128 ^ k) (z0 : 0 ≤ z) (z1 : z ≤ 127) :
    0 ≤ z * 128 ^ k ∧ X + z * 128 ^ k < 128 ^ (k + 1) ∧ X + z * 128 ^ k ≤ 9223372036854775807 ∧ (128 : Int) ^ k ≤ 72057594037927936 ∧ 1 ≤ (128 : Int) ^ k := by
  have hp : (0 : Int) < 128 ^ k := Int.pow_pos (by omega)
  have a1 : 0 ≤ z * 128 ^ k := Int.mul_nonneg z0 (Int.le_of_lt hp)
  have a2 : z * 128 ^ k ≤ 127 * 128 ^ k := Int.mul_le_mul_of_nonneg_right z1 (Int.le_of_lt hp)
  have a3 := pow128_le (show k + 1 ≤ 9 by omega)
  have a4 := pow128_le (show k ≤ 8 by omega)
  have a5 : (128 : Int) ^ 8 = 72057594037927936 := by decide
  rw [pow128_9, Int.pow_succ] at a3
  rw [Int.pow_succ]
  refine ⟨a1, by omega, by omega, by omega, by omega⟩
theorem pow27 (k : Nat) : (2 : Int) ^ (7 * k) = 128 ^ k := by rw [Int.pow_mul]; rfl
theorem or_step {X z : Int} {k : Nat} (hk : k < 9) (h0 : 0 ≤ X) (h1 : X < 128 ^ k) (z0 : 0 ≤ z) (z1 : z ≤ 127) : bits .or .i64 X (z * 2 ^ (7 * k)) = X + z * 128 ^ k := by
  have hg := gstep hk h0 h1 z0 z1
  obtain ⟨Xn, rfl⟩ := Int.eq_ofNat_of_zero_le h0
  obtain ⟨zn, rfl⟩ := Int.eq_ofNat_of_zero_le z0
  have e : ((128 : Int) ^ k) = ((2 ^ (7 * k) : Nat) : Int) := by rw [← pow27, Int.natCast_pow]; rfl
  rw [e] at h1 hg ⊢
  have h3 := hg.2.2.1
  rw [← Int.natCast_mul] at h3
  have := or_join Xn zn (7 * k) (Int.ofNat_lt.1 h1) (by omega)
  rw [pow27, e, ← Int.natCast_mul, ← Int.natCast_add]
  exact this
end Go.Proofs.YtdahabbdhjgpdaaDoor
namespace Go.Proofs.YtdahabbdhjgpdaaDoor
open Go.RowKit
set_option linter.unusedVariables false
end Go.Proofs.YtdahabbdhjgpdaaDoor
namespace Go.Proofs.YtdahabbdhjgpdaaDoor
open Go.RowKit
set_option linter.unusedVariables false
def Rd (w : World) (p : Nat) (a : Option Addr) (m c : Nat) (f : Nat → Int) (x : Int) : Prop :=
  p < w.heap.size ∧ w.cell? ⟨p, 0, none⟩ = some (.slice a m c) ∧ w.cell? ⟨p, 1, none⟩ = some (.int .i64 x) ∧ w.frozen? ⟨p, 1, none⟩ = false ∧ 0 ≤ x ∧ x ≤ m ∧ m ≤ c ∧ c ≤ maxLen ∧ SrcB w a m f ∧ (∀ b o, a = some ⟨b, o, none⟩ → b < p) ∧ ∀ i, i < m → 0 ≤ f i ∧ f i ≤ 255
theorem SrcB.but {w w' : World} {p : Nat} {a : Option Addr} {n : Nat} {f : Nat → Int} (h : SrcB w a n f) (hb : But p w w') (hp : ∀ b o, a = some ⟨b, o, none⟩ → b < p) : SrcB w' a n f := by
  rcases h with h | ⟨b, off, h1, h2⟩
  · exact .inl h
  · have := hp b off h1
    exact .inr ⟨b, off, h1, Nat.lt_of_lt_of_le h2.1 hb.2.2.2.1, fun i hi => by rw [hb.cell h2.1 (by omega)]; exact h2.2 i hi⟩
theorem Rd.below {w w' : World} {p : Nat} {a : Option Addr} {m c : Nat} {f : Nat → Int} {x : Int} (h : Rd w p a m c f x) (hb : Below w.heap.size w w') : Rd w' p a m c f x := by
  obtain ⟨h0, h1, h2, h3, h4, h5, h6, h7, h8, h9, h10⟩ := h
  exact ⟨Nat.lt_of_lt_of_le h0 hb.size, by rw [hb.cell (p := ⟨p, 0, none⟩) h0]; exact h1, by rw [hb.cell (p := ⟨p, 1, none⟩) h0]; exact h2, by rw [hb.frozen (p := ⟨p, 1, none⟩) h0]; exact h3, h4, h5, h6, h7, h8.below hb, h9, h10⟩
theorem Rd.drew {w : World} {p : Nat} {a : Option Addr} {m c : Nat} {f : Nat → Int} {x : Int} (h : Rd w p a m c f x) : Rd w.drew p a m c f x := h
theorem Rd.set {w : World} {p : Nat} {a : Option Addr} {m c : Nat} {f : Nat → Int} {x : Int} (h : Rd w p a m c f x) (y : Int) (y0 : 0 ≤ y) (y1 : y ≤ m) : Rd (w.setCell ⟨p, 1, none⟩ (.int .i64 y)) p a m c f y := by
  obtain ⟨h0, h1, h2, h3, h4, h5, h6, h7, h8, h9, h10⟩ := h
  exact ⟨by simpa using h0, by rw [World.cell?_setCell_other _ _ _ _ (by simp)]; exact h1, World.cell?_setCell_same _ _ _ h2, by simpa using h3, y0, y1, h6, h7, h8.but ((But.refl p w).setCell 1 _) h9, h9, h10⟩
theorem getS_bd {f : Nat → Int} {n a : Nat} : ∀ {m k : Nat} {X : Int}, (∀ i, i < n → 0 ≤ f i) → 0 ≤ X → (getS f n a m k X).2.2 = true → 0 ≤ (getS f n a m k X).1 ∧ (a : Int) < (getS f n a m k X).2.1 ∧ (getS f n a m k X).2.1 ≤ n
  | 0, k, X, hf, h0, h => by simp [getS] at h
  | m + 1, k, X, hf, h0, h => by
    have hp : (0 : Int) < 128 ^ k := Int.pow_pos (by omega)
    by_cases h1 : a + k < n
    · have hfk := hf (a + k) h1
      have hz : 0 ≤ X + f (a + k) % 128 * 128 ^ k := by
        have : 0 ≤ f (a + k) % 128 * 128 ^ k := Int.mul_nonneg (by omega) (by omega)
        omega
      by_cases h2 : f (a + k) < 128
      · by_cases h3 : f (a + k) = 0 ∧ 0 < k
        · rw [getS_long h1 h3.1 h3.2] at h; cases h
        · rw [getS_told h1 h2 h3]
          exact ⟨hz, by show (a : Int) < a + k + 1; omega, by show (a : Int) + k + 1 ≤ n; omega⟩
      · rw [getS_on h1 h2] at h ⊢
        exact getS_bd hf hz h
    · rw [getS_end h1] at h; cases h
theorem getI_bd {f : Nat → Int} {n : Nat} {x : Int} (hf : ∀ i, i < n → 0 ≤ f i) (h : (getI f n x).2.2 = true) : 0 ≤ (getI f n x).1 ∧ x < (getI f n x).2.1 ∧ (getI f n x).2.1 ≤ n := by
  unfold getI at h ⊢
  split at h
  · next hx =>
    rw [if_pos hx]
    have := getS_bd hf (Int.le_refl 0) h
    have e : ((x.toNat : Nat) : Int) = x := Int.toNat_of_nonneg hx.1
    rw [e] at this
    exact this
  · cases h
end Go.Proofs.YtdahabbdhjgpdaaDoor
namespace Go.Proofs.YtdahabbdhjgpdaaDoor
open Go.RowKit
set_option linter.unusedVariables false
end Go.Proofs.YtdahabbdhjgpdaaDoor
namespace Go.Proofs.YtdahabbdhjgpdaaDoor
open Go.RowKit
set_option linter.unusedVariables false
def fldB (f : Nat → Int) (m : Nat) (x : Int) : Bool := (getI f m x).2.2 && decide ((getI f m x).1 ≤ 4000000000000)
theorem Rd.some {w : World} {p : Nat} {a : Option Addr} {m c : Nat} {f : Nat → Int} {x : Int} (h : Rd w p a m c f x) (hm : 1 ≤ m) : ∃ b off, a = some ⟨b, off, none⟩ ∧ b < p := by
  obtain ⟨h0, h1, h2, h3, h4, h5, h6, h7, h8, h9, h10⟩ := h
  rcases h8 with h8 | ⟨b, off, h8, _⟩
  · omega
  · exact ⟨b, off, h8, h9 b off h8⟩
theorem SrcB.cut {w : World} {b off m X N : Nat} {f : Nat → Int} (h : SrcB w (some ⟨b, off, none⟩) m f) (hn : X + N ≤ m) : SrcB w (some ⟨b, off + X, none⟩) N (fun i => f (X + i)) := by
  rcases h with h | ⟨b', off', h1, h2⟩
  · exact .inl (by omega)
  · simp at h1
    obtain ⟨rfl, rfl⟩ := h1
    exact .inr ⟨b, off + X, rfl, h2.1, fun i hi => by rw [Nat.add_assoc]; exact h2.2 (X + i) (by omega)⟩
end Go.Proofs.YtdahabbdhjgpdaaDoor
namespace Go.Proofs.YtdahabbdhjgpdaaDoor
open Go.RowKit
set_option linter.unusedVariables false
theorem turn_step (n : Int) (k : Nat) : turnI (k + 1) n = dblI (turnI k n) := rfl
end Go.Proofs.YtdahabbdhjgpdaaDoor
namespace Go.Proofs.YtdahabbdhjgpdaaDoor
open Go.RowKit
set_option linter.unusedVariables false
end Go.Proofs.YtdahabbdhjgpdaaDoor
namespace Go.Proofs.YtdahabbdhjgpdaaDoor
open Go.RowKit
set_option linter.unusedVariables false
def ats (f : Nat → Int) (m : Nat) : Nat → Int
  | 0 => 1
  | j + 1 => (getI f m (ats f m j)).2.1
def val (f : Nat → Int) (m : Nat) (j : Nat) : Int := (getI f m (ats f m j)).1
def fldC (f : Nat → Int) (m : Nat) (x : Int) : Bool := (getI f m x).2.2 && decide ((getI f m x).1 ≤ 4000000000000)
def okA (f : Nat → Int) (m : Nat) : Nat → Bool
  | 0 => true
  | j + 1 => okA f m j && fldC f m (ats f m j)
def endI (x : Int) : Int := if 2000000000000 < x then 1000000000001 else unfI x
def strF (f : Nat → Int) (X N : Nat) : ByteArray := strOfNums ((List.range N).map fun i => f (X + i))
def MT : Type := Int × Int × Int × Int × Int × Int × Int × ByteArray
def zT : MT := (0, 0, 0, 0, 0, 0, 0, ⟨#[]⟩)
def msgT (M : MT) : Bool := msgB M.1 M.2.1 M.2.2.1 M.2.2.2.1 M.2.2.2.2.1 M.2.2.2.2.2.1 M.2.2.2.2.2.2.1 M.2.2.2.2.2.2.2
def fin (m : Nat) (M : MT) (x : Int) : Int × MT := if x < m then (6, zT) else if msgT M then (0, M) else (5, zT)
def unp3 (f : Nat → Int) (m : Nat) : Int × MT := if okA f m 3 then (if (m : Int) - ats f m 3 < val f m 2 then (4, zT) else fin m (3, val f m 0, 0, 0, 0, 0, val f m 1, strF f (ats f m 3).toNat (val f m 2).toNat) (ats f m 3 + val f m 2)) else (4, zT)
def unp2 (f : Nat → Int) (m : Nat) : Int × MT := if okA f m 5 then fin m (2, val f m 0, val f m 1, val f m 2, endI (val f m 3), endI (val f m 4), 0, ⟨#[]⟩) (ats f m 5) else (4, zT)
def unp1 (f : Nat → Int) (m : Nat) : Int × MT := if okA f m 3 then fin m (1, val f m 0, val f m 1, val f m 2, 0, 0, 0, ⟨#[]⟩) (ats f m 3) else (4, zT)
def unp (f : Nat → Int) (n : Nat) : Int × MT :=
  if n < 2 then (1, zT) else if ¬ chk f (n - 1) = f (n - 1) then (2, zT) else if ¬ (1 ≤ f 0 ∧ f 0 ≤ 3) then (3, zT)
  else if f 0 = 3 then unp3 f (n - 1) else if f 0 = 2 then unp2 f (n - 1) else unp1 f (n - 1)
def mv (M : MT) : Value := .agg #[.int .i64 M.1, .int .i64 M.2.1, .int .i64 M.2.2.1, .int .i64 M.2.2.2.1, .int .i64 M.2.2.2.2.1, .int .i64 M.2.2.2.2.2.1, .int .i64 M.2.2.2.2.2.2.1, .string M.2.2.2.2.2.2.2]
def uv (r : Int × MT) : Value := .tuple #[mv r.2, .int .i64 r.1]
theorem ats_bd {f : Nat → Int} {m : Nat} (hf : ∀ i, i < m → 0 ≤ f i) : ∀ {j : Nat}, okA f m j = true → 1 ≤ ats f m j ∧ (1 ≤ j → ats f m j ≤ m)
  | 0, _ => by simp [ats]
  | j + 1, h => by
    simp only [okA, fldC, Bool.and_eq_true] at h
    have a := ats_bd hf h.1
    have b := getI_bd hf h.2.1
    exact ⟨by simp only [ats]; omega, fun _ => b.2.2⟩
theorem val_bd {f : Nat → Int} {m : Nat} (hf : ∀ i, i < m → 0 ≤ f i) {n : Nat} : ∀ {j : Nat}, okA f m n = true → j < n → 0 ≤ val f m j ∧ val f m j ≤ 4000000000000 := by
  induction n with
  | zero => intro j _ h; omega
  | succ n ih =>
    intro j h hj
    simp only [okA, fldC, Bool.and_eq_true, decide_eq_true_eq] at h
    by_cases e : j = n
    · subst e
      exact ⟨(getI_bd hf h.2.1).1, h.2.2⟩
    · exact ih h.1 (by omega)
theorem okA_le {f : Nat → Int} {m : Nat} {n : Nat} (h : okA f m n = true) : ∀ {j : Nat}, j ≤ n → okA f m j = true := by
  induction n with
  | zero => intro j hj; have : j = 0 := by omega
            subst this; exact h
  | succ n ih =>
    intro j hj
    by_cases e : j = n + 1
    · subst e; exact h
    · simp only [okA, Bool.and_eq_true] at h
      exact ih h.1 (by omega)
theorem okA_no {f : Nat → Int} {m j : Nat} (h : fldC f m (ats f m j) = false) : ∀ n, j < n → okA f m n = false
  | 0, hn => absurd hn (Nat.not_lt_zero _)
  | n + 1, hn => by
    by_cases e : j = n
    · subst e; simp [okA, h]
    · simp [okA, okA_no h n (by omega)]
theorem Thaw8.drew {j : Nat} {w : World} (h : Thaw8 w j) : Thaw8 w.drew j := h
theorem Byts.drew {b off n : Nat} {w : World} {f : Nat → Int} (h : Byts w b off n f) : Byts w.drew b off n f := h
theorem fin_long {m : Nat} {M : MT} {x : Int} (h : x < m) : fin m M x = (6, zT) := if_pos h
theorem fin_bad {m : Nat} {M : MT} {x : Int} (h : ¬ x < m) (hb : msgT M = false) : fin m M x = (5, zT) := by rw [fin, if_neg h, hb]; rfl
theorem fin_well {m : Nat} {M : MT} {x : Int} (h : ¬ x < m) (hb : msgT M = true) : fin m M x = (0, M) := by rw [fin, if_neg h, hb]; rfl
end Go.Proofs.YtdahabbdhjgpdaaDoor
namespace Go.Proofs.YtdahabbdhjgpdaaDoor
open Go.RowKit
set_option linter.unusedVariables false
theorem But.alcH {p : Nat} {a w : World} (h : But p a w) (o : Obj) : But p a (w.alloc o) :=
  ⟨h.1, h.2.1, h.2.2.1, by rw [World.size_alloc]; have := h.2.2.2.1; omega, fun k hk hp => (((Below.refl w.heap.size w).alloc (Nat.le_refl _) o).block k (Nat.lt_of_lt_of_le hk h.2.2.2.1)).trans (h.2.2.2.2 k hk hp)⟩
theorem But.newH {p j : Nat} {a w : World} (h : But p a w) (hj : a.heap.size ≤ j) (o : Nat) (u : Value) : But p a (w.setCell ⟨j, o, none⟩ u) :=
  ⟨h.1, h.2.1, h.2.2.1, by rw [World.size_setCell]; exact h.2.2.2.1, fun k hk hp => (Below.heap_setCell w ⟨j, o, none⟩ u k (by intro e; have : k = j := e; omega)).trans (h.2.2.2.2 k hk hp)⟩
theorem Box8.but {p j : Nat} {w w' : World} {k fr tuu no lo hi sl : Int} {s : ByteArray} (h : Box8 w j k fr tuu no lo hi sl s) (hb : But p w w') (hj : j ≠ p) : Box8 w' j k fr tuu no lo hi sl s := by
  obtain ⟨h0, h1, h2, h3, h4, h5, h6, h7, h8⟩ := h
  exact ⟨Nat.lt_of_lt_of_le h0 hb.2.2.2.1, by rw [hb.cell h0 hj]; exact h1, by rw [hb.cell h0 hj]; exact h2, by rw [hb.cell h0 hj]; exact h3, by rw [hb.cell h0 hj]; exact h4, by rw [hb.cell h0 hj]; exact h5, by rw [hb.cell h0 hj]; exact h6, by rw [hb.cell h0 hj]; exact h7, by rw [hb.cell h0 hj]; exact h8⟩
theorem Thaw8.but {p j : Nat} {w w' : World} (h : Thaw8 w j) (hb : But p w w') (h0 : j < w.heap.size) (hj : j ≠ p) : Thaw8 w' j := by
  obtain ⟨f0, f1, f2, f3, f4, f5, f6, f7⟩ := h
  exact ⟨by rw [hb.frozen h0 hj]; exact f0, by rw [hb.frozen h0 hj]; exact f1, by rw [hb.frozen h0 hj]; exact f2, by rw [hb.frozen h0 hj]; exact f3, by rw [hb.frozen h0 hj]; exact f4, by rw [hb.frozen h0 hj]; exact f5, by rw [hb.frozen h0 hj]; exact f6, by rw [hb.frozen h0 hj]; exact f7⟩
theorem Rd.setO {w : World} {p j : Nat} {a : Option Addr} {m c : Nat} {f : Nat → Int} {x : Int} (h : Rd w p a m c f x) (hj : p < j) (o : Nat) (u : Value) : Rd (w.setCell ⟨j, o, none⟩ u) p a m c f x := by
  obtain ⟨h0, h1, h2, h3, h4, h5, h6, h7, h8, h9, h10⟩ := h
  have hne : ∀ q, (⟨j, o, none⟩ : Addr) ≠ ⟨p, q, none⟩ := fun q e => by have : j = p := congrArg Addr.block e; omega
  refine ⟨by simpa using h0, by rw [World.cell?_setCell_other _ _ _ _ (hne _)]; exact h1, by rw [World.cell?_setCell_other _ _ _ _ (hne _)]; exact h2, by simpa using h3, h4, h5, h6, h7, ?_, h9, h10⟩
  rcases h8 with h8 | ⟨b, off, h8, hB⟩
  · exact .inl h8
  · have := h9 b off h8
    exact .inr ⟨b, off, h8, by simpa using hB.1, fun i hi => by rw [World.cell?_setCell_other _ _ _ _ (fun e => by have : j = b := congrArg Addr.block e; omega)]; exact hB.2 i hi⟩
end Go.Proofs.YtdahabbdhjgpdaaDoor
namespace Go.Proofs.YtdahabbdhjgpdaaDoor
open Go.RowKit
set_option linter.unusedVariables false
def MsgIn (w : World) (j : Nat) : Prop := ∃ (k fr tu no lo hi sl : Int) (s : ByteArray), Box8 w j k fr tu no lo hi sl s ∧ Thaw8 w j ∧ s.size ≤ 100
theorem MsgIn.but {p j : Nat} {w w' : World} (h : MsgIn w j) (hb : But p w w') (hj : j ≠ p) : MsgIn w' j := by
  obtain ⟨k, fr, tu, no, lo, hi, sl, s, a, t, hs⟩ := h
  exact ⟨k, fr, tu, no, lo, hi, sl, s, a.but hb hj, t.but hb a.1 hj, hs⟩
theorem MsgIn.below {j : Nat} {w w' : World} (h : MsgIn w j) (hb : Below w.heap.size w w') : MsgIn w' j := by
  obtain ⟨k, fr, tu, no, lo, hi, sl, s, a, t, hs⟩ := h
  exact ⟨k, fr, tu, no, lo, hi, sl, s, a.below hb, t.belowB hb a.1, hs⟩
theorem MsgIn.setO {j b : Nat} {w : World} (h : MsgIn w j) (hb : b ≠ j) (o : Nat) (u : Value) : MsgIn (w.setCell ⟨b, o, none⟩ u) j := by
  obtain ⟨k, fr, tu, no, lo, hi, sl, s, a, t, hs⟩ := h
  exact ⟨k, fr, tu, no, lo, hi, sl, s, a.setO hb o u, t.set _ _, hs⟩
theorem MsgIn.setS {j : Nat} {w : World} (h : MsgIn w j) (s' : ByteArray) (hs' : s'.size ≤ 100) : MsgIn (w.setCell ⟨j, 7, none⟩ (.string s')) j := by
  obtain ⟨k, fr, tu, no, lo, hi, sl, s, a, t, hs⟩ := h
  exact ⟨k, fr, tu, no, lo, hi, sl, s', a.set7 s', t.set _ _, hs'⟩
theorem MsgIn.setI {j : Nat} {w : World} (h : MsgIn w j) (o : Nat) (ho : o ≤ 6) (x : Int) : MsgIn (w.setCell ⟨j, o, none⟩ (.int .i64 x)) j := by
  obtain ⟨k, fr, tu, no, lo, hi, sl, s, a, t, hs⟩ := h
  have e : o = 0 ∨ o = 1 ∨ o = 2 ∨ o = 3 ∨ o = 4 ∨ o = 5 ∨ o = 6 := by omega
  rcases e with rfl | rfl | rfl | rfl | rfl | rfl | rfl
  · exact ⟨x, fr, tu, no, lo, hi, sl, s, a.set0 x, t.set _ _, hs⟩
  · exact ⟨k, x, tu, no, lo, hi, sl, s, a.set1 x, t.set _ _, hs⟩
  · exact ⟨k, fr, x, no, lo, hi, sl, s, a.set2 x, t.set _ _, hs⟩
  · exact ⟨k, fr, tu, x, lo, hi, sl, s, a.set3 x, t.set _ _, hs⟩
  · exact ⟨k, fr, tu, no, x, hi, sl, s, a.set4 x, t.set _ _, hs⟩
  · exact ⟨k, fr, tu, no, lo, x, sl, s, a.set5 x, t.set _ _, hs⟩
  · exact ⟨k, fr, tu, no, lo, hi, x, s, a.set6 x, t.set _ _, hs⟩
def St (w0 : World) (B p j : Nat) (w : World) : Prop := CurOk w B p ∧ But p w0 w ∧ MsgIn w j ∧ w0.heap.size < j ∧ Box8 w w0.heap.size 0 0 0 0 0 0 0 ⟨#[]⟩ ∧ Thaw8 w w0.heap.size ∧ p < w0.heap.size ∧ B ≤ p
theorem St.but {w0 w w' : World} {B p j : Nat} (h : St w0 B p j w) (hc : CurOk w' B p) (hb : But p w w') : St w0 B p j w' := by
  obtain ⟨a1, a2, a3, a4, a5, a6, a7, a8⟩ := h
  exact ⟨hc, a2.trans hb, a3.but hb (by omega), a4, a5.but hb (by omega), a6.but hb a5.1 (by omega), a7, a8⟩
theorem St.below {w0 w w' : World} {B p j : Nat} (h : St w0 B p j w) (hb : Below w.heap.size w w') : St w0 B p j w' := by
  obtain ⟨a1, a2, a3, a4, a5, a6, a7, a8⟩ := h
  exact ⟨a1.below hb, a2.trans (But.of_below hb), a3.below hb, a4, a5.below hb, a6.belowB hb a5.1, a7, a8⟩
theorem St.drew {w0 w : World} {B p j : Nat} (h : St w0 B p j w) : St w0 B p j w.drew := h
theorem St.setI {w0 w : World} {B p j : Nat} (h : St w0 B p j w) (o : Nat) (ho : o ≤ 6) (x : Int) : St w0 B p j (w.setCell ⟨j, o, none⟩ (.int .i64 x)) := by
  obtain ⟨a1, a2, a3, a4, a5, a6, a7, a8⟩ := h
  exact ⟨a1.setOther (by omega) (by omega) _ _, a2.setNew (by omega) _ _, a3.setI o ho x, a4, a5.setO (by omega) _ _, a6.set _ _, a7, a8⟩
theorem St.setS {w0 w : World} {B p j : Nat} (h : St w0 B p j w) (s' : ByteArray) (hs' : s'.size ≤ 100) : St w0 B p j (w.setCell ⟨j, 7, none⟩ (.string s')) := by
  obtain ⟨a1, a2, a3, a4, a5, a6, a7, a8⟩ := h
  exact ⟨a1.setOther (by omega) (by omega) _ _, a2.setNew (by omega) _ _, a3.setS s' hs', a4, a5.setO (by omega) _ _, a6.set _ _, a7, a8⟩
theorem St.setO {w0 w : World} {B p j : Nat} (h : St w0 B p j w) {k : Nat} (hk : w0.heap.size < k) (hj : k ≠ j) (o : Nat) (u : Value) : St w0 B p j (w.setCell ⟨k, o, none⟩ u) := by
  obtain ⟨a1, a2, a3, a4, a5, a6, a7, a8⟩ := h
  exact ⟨a1.setOther (by omega) (by omega) _ _, a2.setNew (by omega) _ _, a3.setO hj _ _, a4, a5.setO (by omega) _ _, a6.set _ _, a7, a8⟩
theorem St.start {w0 w : World} {B p : Nat} (c : CurOk w B p) (b : But p w0 w) (r : Box8 w w0.heap.size 0 0 0 0 0 0 0 ⟨#[]⟩) (t : Thaw8 w w0.heap.size) (hp : p < w0.heap.size) (k fr tu no lo hi sl : Int) (s : ByteArray) (hs : s.size ≤ 100) (T : TypeId) : St w0 B p w.heap.size (w.alloc (.cells #[.int .i64 k, .int .i64 fr, .int .i64 tu, .int .i64 no, .int .i64 lo, .int .i64 hi, .int .i64 sl, .string s] T)) :=
  ⟨c.below (Below.al _ _), b.alloc _, ⟨k, fr, tu, no, lo, hi, sl, s, Box8.new _ _ _ _ _ _ _ _ _ _, Thaw8.new _ _ _ _ _ _ _ _ _ _, hs⟩, r.1, r.alloc _, t.alloc r.1 _, hp, c.lt.2⟩
theorem cur8 {w : World} {B p J : Nat} (h : CurOk w B p) (hJ : J ≠ p) (hB : B ≤ J) (k fr tu no lo hi sl : Int) (s : ByteArray) : CurOk ((((((((w.setCell ⟨J, 0, none⟩ (.int .i64 k)).setCell ⟨J, 1, none⟩ (.int .i64 fr)).setCell ⟨J, 2, none⟩ (.int .i64 tu)).setCell ⟨J, 3, none⟩ (.int .i64 no)).setCell ⟨J, 4, none⟩ (.int .i64 lo)).setCell ⟨J, 5, none⟩ (.int .i64 hi)).setCell ⟨J, 6, none⟩ (.int .i64 sl)).setCell ⟨J, 7, none⟩ (.string s)) B p :=
  (((((((h.setOther hJ hB _ _).setOther hJ hB _ _).setOther hJ hB _ _).setOther hJ hB _ _).setOther hJ hB _ _).setOther hJ hB _ _).setOther hJ hB _ _).setOther hJ hB _ _
theorem but8 {w0 w : World} {p J : Nat} (h : But p w0 w) (hJ : w0.heap.size ≤ J) (k fr tu no lo hi sl : Int) (s : ByteArray) : But p w0 ((((((((w.setCell ⟨J, 0, none⟩ (.int .i64 k)).setCell ⟨J, 1, none⟩ (.int .i64 fr)).setCell ⟨J, 2, none⟩ (.int .i64 tu)).setCell ⟨J, 3, none⟩ (.int .i64 no)).setCell ⟨J, 4, none⟩ (.int .i64 lo)).setCell ⟨J, 5, none⟩ (.int .i64 hi)).setCell ⟨J, 6, none⟩ (.int .i64 sl)).setCell ⟨J, 7, none⟩ (.string s)) :=
  (((((((h.setNew hJ _ _).setNew hJ _ _).setNew hJ _ _).setNew hJ _ _).setNew hJ _ _).setNew hJ _ _).setNew hJ _ _).setNew hJ _ _
theorem box8 {w : World} {J : Nat} {k' fr' tu' no' lo' hi' sl' : Int} {s' : ByteArray} (r : Box8 w J k' fr' tu' no' lo' hi' sl' s') (k fr tu no lo hi sl : Int) (s : ByteArray) : Box8 ((((((((w.setCell ⟨J, 0, none⟩ (.int .i64 k)).setCell ⟨J, 1, none⟩ (.int .i64 fr)).setCell ⟨J, 2, none⟩ (.int .i64 tu)).setCell ⟨J, 3, none⟩ (.int .i64 no)).setCell ⟨J, 4, none⟩ (.int .i64 lo)).setCell ⟨J, 5, none⟩ (.int .i64 hi)).setCell ⟨J, 6, none⟩ (.int .i64 sl)).setCell ⟨J, 7, none⟩ (.string s)) J k fr tu no lo hi sl s :=
  (((((((r.set0 k).set1 fr).set2 tu).set3 no).set4 lo).set5 hi).set6 sl).set7 s
set_option maxHeartbeats 8000000 in
theorem l4DrawRight_any (B p : Nat) (w : World) (hcur : CurOk w B p) :
    Calls Tryd.prog 72 #[.pointer (some ⟨p, 0, none⟩)] w fun e w' => ∃ (k fr tu no lo hi sl : Int) (s : ByteArray), e = .returned (.agg #[.int .i64 k, .int .i64 fr, .int .i64 tu, .int .i64 no, .int .i64 lo, .int .i64 hi, .int .i64 sl, .string s]) ∧ s.size ≤ 100 ∧ CurOk w' B p ∧ But p w w' := by
  have hpl := hcur.lt
  have A1 := Below.al w (.cells #[.int .i64 0, .int .i64 0, .int .i64 0, .int .i64 0, .int .i64 0, .int .i64 0, .int .i64 0, .string ⟨#[]⟩] 31)
  have R := Box8.new w 0 0 0 0 0 0 0 ⟨#[]⟩ 31
  have T := Thaw8.new w 0 0 0 0 0 0 0 ⟨#[]⟩ 31
  go_enter Tryd.func72, Tryd.ntmps72
  go_wp2_with fail
  refine (l1Below_any B p 3 _ (hcur.below A1)).mono ?_
  rintro e w1 ⟨x, rfl, xl, xh, xp, xz, c1, b1⟩
  have hx := xp (by omega)
  replace T := T.but b1 R.1 (by omega)
  replace R := R.but b1 (by omega)
  replace b1 := (But.of_below A1).trans b1
  clear xp xz A1 hcur
  go_wp2_with fail
  refine (l1Below_any B p 8 _ c1).mono ?_
  rintro e w2 ⟨y, rfl, yl, yh, yp, yz, c2, b2⟩
  replace T := T.but b2 R.1 (by omega)
  replace R := R.but b2 (by omega)
  replace b2 := b1.trans b2
  have S := St.start c2 b2 R T hpl.1 (1 + x) y 0 0 0 0 0 ⟨#[]⟩ (by decide) 31
  clear yp yz b1 c1 c2 b2 R T
  by_cases hk : x = 2
  · subst hk
    go_wp2_with fail
    refine (l1Below_any B p 16 _ S.1).mono ?_
    rintro e w3 ⟨z, rfl, zl, zh, zp, zz, c, b⟩
    replace S := S.but c b
    clear zp zz b c
    obtain ⟨-, -, ⟨k, fr, tu, no, lo, hi, sl, s, ⟨a0, a1, a2, a3, a4, a5, a6, a7, a8⟩, ⟨t0, t1, t2, t3, t4, t5, t6, t7⟩, -⟩, -, -, -, -, -⟩ := id S
    replace S := S.setI 6 (by omega) z
    go_wp2_with fail
    clear a0 a1 a2 a3 a4 a5 a6 a7 a8 t0 t1 t2 t3 t4 t5 t6 t7
    refine (l4DrawBody_any B p 6 _ S.1 (by omega) (by omega)).mono ?_
    rintro e w4 ⟨s', rfl, hs', c, b⟩
    replace S := S.but c b
    clear b c
    obtain ⟨-, -, ⟨k, fr, tu, no, lo, hi, sl, s, ⟨a0, a1, a2, a3, a4, a5, a6, a7, a8⟩, ⟨t0, t1, t2, t3, t4, t5, t6, t7⟩, -⟩, -, -, -, -, -⟩ := id S
    replace S := S.setS s' hs'
    go_wp2_with fail
    clear a0 a1 a2 a3 a4 a5 a6 a7 a8 t0 t1 t2 t3 t4 t5 t6 t7
    refine (l1Once_any B p 15 _ S.1).mono ?_
    rintro e w5 ⟨oo, rfl, c, b⟩
    replace S := S.but c b
    clear b c
    cases oo
    · go_upto_region 7 with fail
      obtain ⟨hc, hb, ⟨k, fr, tu, no, lo, hi, sl, s, bx, tx, hs⟩, hj, r, t, hp, hB⟩ := S
      have Q := box8 r k fr tu no lo hi sl s
      have QC := cur8 (J := w.heap.size) hc (by omega) (by omega) k fr tu no lo hi sl s
      have QB := but8 (J := w.heap.size) hb (Nat.le_refl _) k fr tu no lo hi sl s
      obtain ⟨a0, a1, a2, a3, a4, a5, a6, a7, a8⟩ := bx
      obtain ⟨r0, r1, r2, r3, r4, r5, r6, r7, r8⟩ := r
      obtain ⟨t0, t1, t2, t3, t4, t5, t6, t7⟩ := t
      go_wp2_with fail
      generalize ((((((((w5.setCell ⟨w.heap.size, 0, none⟩ (.int .i64 k)).setCell ⟨w.heap.size, 1, none⟩ (.int .i64 fr)).setCell ⟨w.heap.size, 2, none⟩ (.int .i64 tu)).setCell ⟨w.heap.size, 3, none⟩ (.int .i64 no)).setCell ⟨w.heap.size, 4, none⟩ (.int .i64 lo)).setCell ⟨w.heap.size, 5, none⟩ (.int .i64 hi)).setCell ⟨w.heap.size, 6, none⟩ (.int .i64 sl)).setCell ⟨w.heap.size, 7, none⟩ (.string s)) = wq at *
      obtain ⟨q0, q1, q2, q3, q4, q5, q6, q7, q8⟩ := Q
      exact bodyPost_ret (v := .agg #[.int .i64 k, .int .i64 fr, .int .i64 tu, .int .i64 no, .int .i64 lo, .int .i64 hi, .int .i64 sl, .string s]) (by simp (maxDischargeDepth := 6) [results, Tryd.results72, go_sem, q1, q2, q3, q4, q5, q6, q7, q8]) rfl ⟨_, _, _, _, _, _, _, _, rfl, hs, QC, QB⟩
    · obtain ⟨-, -, ⟨k, fr, tu, no, lo, hi, sl, s, ⟨a0, a1, a2, a3, a4, a5, a6, a7, a8⟩, ⟨t0, t1, t2, t3, t4, t5, t6, t7⟩, -⟩, -, -, -, -, -⟩ := id S
      replace S := S.setS ⟨#[97, 98, 99, 100, 101, 102, 103, 104, 105, 106, 107, 108, 109, 110, 111, 112, 113, 114, 115, 116, 117, 118, 119, 120]⟩ (by decide)
      go_upto_region 7 with fail
      clear a0 a1 a2 a3 a4 a5 a6 a7 a8 t0 t1 t2 t3 t4 t5 t6 t7
      generalize w5.setCell ⟨w2.heap.size, 7, none⟩ (.string ⟨#[97, 98, 99, 100, 101, 102, 103, 104, 105, 106, 107, 108, 109, 110, 111, 112, 113, 114, 115, 116, 117, 118, 119, 120]⟩) = wz at *
      obtain ⟨hc, hb, ⟨k, fr, tu, no, lo, hi, sl, s, bx, tx, hs⟩, hj, r, t, hp, hB⟩ := S
      have Q := box8 r k fr tu no lo hi sl s
      have QC := cur8 (J := w.heap.size) hc (by omega) (by omega) k fr tu no lo hi sl s
      have QB := but8 (J := w.heap.size) hb (Nat.le_refl _) k fr tu no lo hi sl s
      obtain ⟨a0, a1, a2, a3, a4, a5, a6, a7, a8⟩ := bx
      obtain ⟨r0, r1, r2, r3, r4, r5, r6, r7, r8⟩ := r
      obtain ⟨t0, t1, t2, t3, t4, t5, t6, t7⟩ := t
      go_wp2_with fail
      generalize ((((((((wz.setCell ⟨w.heap.size, 0, none⟩ (.int .i64 k)).setCell ⟨w.heap.size, 1, none⟩ (.int .i64 fr)).setCell ⟨w.heap.size, 2, none⟩ (.int .i64 tu)).setCell ⟨w.heap.size, 3, none⟩ (.int .i64 no)).setCell ⟨w.heap.size, 4, none⟩ (.int .i64 lo)).setCell ⟨w.heap.size, 5, none⟩ (.int .i64 hi)).setCell ⟨w.heap.size, 6, none⟩ (.int .i64 sl)).setCell ⟨w.heap.size, 7, none⟩ (.string s)) = wq at *
      obtain ⟨q0, q1, q2, q3, q4, q5, q6, q7, q8⟩ := Q
      exact bodyPost_ret (v := .agg #[.int .i64 k, .int .i64 fr, .int .i64 tu, .int .i64 no, .int .i64 lo, .int .i64 hi, .int .i64 sl, .string s]) (by simp (maxDischargeDepth := 6) [results, Tryd.results72, go_sem, q1, q2, q3, q4, q5, q6, q7, q8]) rfl ⟨_, _, _, _, _, _, _, _, rfl, hs, QC, QB⟩
  · have hk1 : ¬ 1 + x = 3 := by omega
    have hJM : w.heap.size < w2.heap.size := S.2.2.2.1
    go_upto_region 8 with fail
    generalize w2.alloc (.cells #[.int .i64 (1 + x), .int .i64 y, .int .i64 0, .int .i64 0, .int .i64 0, .int .i64 0, .int .i64 0, .string ⟨#[]⟩] 31) = wm at *
    obtain ⟨-, -, ⟨k, fr, tu, no, lo, hi, sl, s, ⟨a0, a1, a2, a3, a4, a5, a6, a7, a8⟩, ⟨t0, t1, t2, t3, t4, t5, t6, t7⟩, -⟩, -, -, -, -, -⟩ := id S
    refine wp_region_held_drew (S := (fun w' => w'.cell? ⟨w2.heap.size, 1, none⟩ = some (.int .i64 fr))) (by kernel_rfl) ?_ (fun hHeld => ?_)
    · first | exact a2 | (simp (maxDischargeDepth := 6) [go_sem, *]; done)
    refine wpAnyH_take (i := 0) (v := ?_) (by rw [List.getElem?_toArray]; rfl) (by kernel_rfl) (by kernel_rfl) (by kernel_rfl) (by intro _ _ _ h; exact h) (Or.inl ⟨by rfl, ?_⟩) (by assumption) ?_
    rotate_left
    · (intro w hSw; (try dsimp only at hSw); go_simp; all_goals with_reducible rfl)
    (try simp only [Act.put, List.setIfInBounds_toArray, List.set_cons_zero, List.set_cons_succ])
    refine wpAnyH_take (i := 1) (v := ?_) (by rw [List.getElem?_toArray]; rfl) (by kernel_rfl) (by kernel_rfl) (by kernel_rfl) (by intro _ _ _ h; exact h) (Or.inl ⟨by rfl, ?_⟩) (by assumption) ?_
    rotate_left
    · (intro w hSw; (try dsimp only at hSw); go_simp; all_goals with_reducible rfl)
    (try simp only [Act.put, List.setIfInBounds_toArray, List.set_cons_zero, List.set_cons_succ])
    refine wpAnyH_take (i := 2) (v := ?_) (by rw [List.getElem?_toArray]; rfl) (by kernel_rfl) (by kernel_rfl) (by kernel_rfl) (by intro _ _ _ h; exact h) (Or.inl ⟨by rfl, ?_⟩) (by assumption) ?_
    rotate_left
    · (intro w hSw; (try dsimp only at hSw); go_simp; all_goals with_reducible rfl)
    (try simp only [Act.put, List.setIfInBounds_toArray, List.set_cons_zero, List.set_cons_succ])
    refine wpAnyH_take (i := 3) (v := ?_) (by rw [List.getElem?_toArray]; rfl) (by kernel_rfl) (by kernel_rfl) (by kernel_rfl) (by intro _ _ _ h; exact h) (Or.inl ⟨by rfl, ?_⟩) (by assumption) ?_
    rotate_left
    · (intro w hSw; (try dsimp only at hSw); go_simp; all_goals with_reducible rfl)
    (try simp only [Act.put, List.setIfInBounds_toArray, List.set_cons_zero, List.set_cons_succ])
    refine wpAnyH_ready (rs := [4]) (by kernel_rfl) (by simp) ?_
    refine AllReadyH.cons (by rw [List.getElem?_toArray]; rfl) (fun K hK => ?_) AllReadyH.nil
    go_simp
    refine (l1Below_any B p 7 _ (CurOk.drew S.1)).mono ?_; rintro e w3 ⟨z, rfl, zl, zh, zp, zz, c, b⟩; (have hz := zp (by omega)); (have a2' := (b.cell (k := w2.heap.size) (o := 1) a0 (by omega)).trans a2); (replace S := S.drew.but c b); clear zp zz b c; clear a0 a1 a2 a3 a4 a5 a6 a7 a8 t0 t1 t2 t3 t4 t5 t6 t7; obtain ⟨-, -, ⟨k', fr', tu', no', lo', hi', sl', s', ⟨a0, a1, -, a3, a4, a5, a6, a7, a8⟩, ⟨t0, t1, t2, t3, t4, t5, t6, t7⟩, -⟩, -, -, -, -, -⟩ := id S; (have a2 := a2'); clear a2'
    (try go_wp2_with fail)
    refine hK.out _ _ ?_ (fun hHeld => ?_)
    · first | exact a2 | (simp (maxDischargeDepth := 6) [go_sem, *]; done)
    clear hK K
    (try simp only [Act.put, List.setIfInBounds_toArray, List.set_cons_zero, List.set_cons_succ])
    refine wpAnyH_take (i := 5) (v := ?_) (by rw [List.getElem?_toArray]; rfl) (by kernel_rfl) (by kernel_rfl) (by kernel_rfl) (by intro _ _ _ h; exact h) (Or.inl ⟨by rfl, ?_⟩) (by assumption) ?_
    rotate_left
    · (intro w hSw; (try dsimp only at hSw); go_simp; all_goals with_reducible rfl)
    (try simp only [Act.put, List.setIfInBounds_toArray, List.set_cons_zero, List.set_cons_succ])
    refine wpAnyH_take (i := 6) (v := ?_) (by rw [List.getElem?_toArray]; rfl) (by kernel_rfl) (by kernel_rfl) (by kernel_rfl) (by intro _ _ _ h; exact h) (Or.inl ⟨by rfl, ?_⟩) (by assumption) ?_
    rotate_left
    · (intro w hSw; (try dsimp only at hSw); go_simp; all_goals with_reducible rfl)
    (try simp only [Act.put, List.setIfInBounds_toArray, List.set_cons_zero, List.set_cons_succ])
    refine wpAnyH_take (i := 7) (v := ?_) (by rw [List.getElem?_toArray]; rfl) (by kernel_rfl) (by kernel_rfl) (by kernel_rfl) (by intro _ _ _ h; exact h) (Or.inl ⟨by rfl, ?_⟩) (by assumption) ?_
    rotate_left
    · (intro w hSw; (try dsimp only at hSw); go_simp; all_goals with_reducible rfl)
    (try simp only [Act.put, List.setIfInBounds_toArray, List.set_cons_zero, List.set_cons_succ])
    refine wpAnyH_ready (rs := [8]) (by kernel_rfl) (by simp) ?_
    refine AllReadyH.cons (by rw [List.getElem?_toArray]; rfl) (fun K hK => ?_) AllReadyH.nil
    go_simp
    refine hK.out _ _ ?_ (fun hHeld => ?_)
    · first | exact a2 | (simp (maxDischargeDepth := 6) [go_sem, *]; done)
    clear hK K
    (try simp only [Act.put, List.setIfInBounds_toArray, List.set_cons_zero, List.set_cons_succ])
    refine wpAnyH_done (by kernel_rfl) ?_ _
    go_wp2_with fail
    clear a0 a1 a2 a3 a4 a5 a6 a7 a8 t0 t1 t2 t3 t4 t5 t6 t7
    refine (l1Below_any B p 4000 _ (S.setI 2 (by omega) _).1).mono ?_
    rintro e w4 ⟨n4, rfl, nl, nh, np, nz, c, b⟩
    replace S := (S.setI 2 (by omega) _).but c b
    clear b c np nz hHeld
    obtain ⟨-, -, ⟨k, fr, tu, no, lo, hi, sl, s, ⟨a0, a1, a2, a3, a4, a5, a6, a7, a8⟩, ⟨t0, t1, t2, t3, t4, t5, t6, t7⟩, -⟩, -, -, -, -, -⟩ := id S
    go_wp2_with fail
    clear a0 a1 a2 a3 a4 a5 a6 a7 a8 t0 t1 t2 t3 t4 t5 t6 t7
    refine (l1Once_any B p 12 _ (S.setI 3 (by omega) _).1).mono ?_
    rintro e w5 ⟨oo, rfl, c, b⟩
    replace S := (S.setI 3 (by omega) _).but c b
    clear b c
    cases oo
    · go_upto_region 12 with fail
      obtain ⟨-, -, ⟨k, fr, tu, no, lo, hi, sl, s, ⟨a0, a1, a2, a3, a4, a5, a6, a7, a8⟩, ⟨t0, t1, t2, t3, t4, t5, t6, t7⟩, -⟩, -, -, -, -, -⟩ := id S
      by_cases hk2 : k = 2
      · subst hk2
        go_wp2_with fail
        clear a0 a1 a2 a3 a4 a5 a6 a7 a8 t0 t1 t2 t3 t4 t5 t6 t7
        refine (l1DrawIval_any B p _ S.1).mono ?_
        rintro e w7 ⟨lo', hi', rfl, c, b⟩
        replace S := S.but c b
        clear b c
        have hA : w2.heap.size < w7.heap.size ∧ w.heap.size < w7.heap.size := by
          obtain ⟨-, -, ⟨k, fr, tu, no, lo, hi, sl, s, a, -, -⟩, -, r, -, -, -⟩ := id S
          exact ⟨a.1, r.1⟩
        have N := Box.new w7 lo' hi' 29
        replace S := S.below (Below.al w7 (.cells #[.int .i64 lo', .int .i64 hi'] 29))
        go_wp2_with fail
        refine (specIvalOk_any _ _ _).mono ?_
        rintro e w8 ⟨rfl, b⟩
        replace S := S.below b
        replace N := N.below b
        clear b
        obtain ⟨-, -, ⟨k, fr, tu, no, lo, hi, sl, s, ⟨a0, a1, a2, a3, a4, a5, a6, a7, a8⟩, ⟨t0, t1, t2, t3, t4, t5, t6, t7⟩, -⟩, -, -, -, -, -⟩ := id S
        obtain ⟨g1, g2, g3, g4, g5⟩ := N
        cases hok : okI lo' hi'
        · go_upto_region 17 with fail
          clear a0 a1 a2 a3 a4 a5 a6 a7 a8 t0 t1 t2 t3 t4 t5 t6 t7
          clear g1 g2 g3 g4 g5
          replace S := (((S.setO (k := w7.heap.size) hA.2 (by omega) 0 (.int .i64 (-64))).setO (k := w7.heap.size) hA.2 (by omega) 1 (.int .i64 64)).setI 4 (by omega) (-64)).setI 5 (by omega) 64
          generalize ((((w8.setCell ⟨w7.heap.size, 0, none⟩ (.int .i64 (-64))).setCell ⟨w7.heap.size, 1, none⟩ (.int .i64 64)).setCell ⟨w2.heap.size, 4, none⟩ (.int .i64 (-64))).setCell ⟨w2.heap.size, 5, none⟩ (.int .i64 64)) = wz at *
          obtain ⟨hc, hb, ⟨k, fr, tu, no, lo, hi, sl, s, bx, tx, hs⟩, hj, r, t, hp, hB⟩ := S
          have Q := box8 r k fr tu no lo hi sl s
          have QC := cur8 (J := w.heap.size) hc (by omega) (by omega) k fr tu no lo hi sl s
          have QB := but8 (J := w.heap.size) hb (Nat.le_refl _) k fr tu no lo hi sl s
          obtain ⟨a0, a1, a2, a3, a4, a5, a6, a7, a8⟩ := bx
          obtain ⟨r0, r1, r2, r3, r4, r5, r6, r7, r8⟩ := r
          obtain ⟨t0, t1, t2, t3, t4, t5, t6, t7⟩ := t
          go_wp2_with fail
          generalize ((((((((wz.setCell ⟨w.heap.size, 0, none⟩ (.int .i64 k)).setCell ⟨w.heap.size, 1, none⟩ (.int .i64 fr)).setCell ⟨w.heap.size, 2, none⟩ (.int .i64 tu)).setCell ⟨w.heap.size, 3, none⟩ (.int .i64 no)).setCell ⟨w.heap.size, 4, none⟩ (.int .i64 lo)).setCell ⟨w.heap.size, 5, none⟩ (.int .i64 hi)).setCell ⟨w.heap.size, 6, none⟩ (.int .i64 sl)).setCell ⟨w.heap.size, 7, none⟩ (.string s)) = wq at *
          obtain ⟨q0, q1, q2, q3, q4, q5, q6, q7, q8⟩ := Q
          exact bodyPost_ret (v := .agg #[.int .i64 k, .int .i64 fr, .int .i64 tu, .int .i64 no, .int .i64 lo, .int .i64 hi, .int .i64 sl, .string s]) (by simp (maxDischargeDepth := 6) [results, Tryd.results72, go_sem, q1, q2, q3, q4, q5, q6, q7, q8]) rfl ⟨_, _, _, _, _, _, _, _, rfl, hs, QC, QB⟩
        · go_upto_region 17 with fail
          clear a0 a1 a2 a3 a4 a5 a6 a7 a8 t0 t1 t2 t3 t4 t5 t6 t7
          clear g1 g2 g3 g4 g5
          replace S := (S.setI 4 (by omega) lo').setI 5 (by omega) hi'
          generalize ((w8.setCell ⟨w2.heap.size, 4, none⟩ (.int .i64 lo')).setCell ⟨w2.heap.size, 5, none⟩ (.int .i64 hi')) = wz at *
          obtain ⟨hc, hb, ⟨k, fr, tu, no, lo, hi, sl, s, bx, tx, hs⟩, hj, r, t, hp, hB⟩ := S
          have Q := box8 r k fr tu no lo hi sl s
          have QC := cur8 (J := w.heap.size) hc (by omega) (by omega) k fr tu no lo hi sl s
          have QB := but8 (J := w.heap.size) hb (Nat.le_refl _) k fr tu no lo hi sl s
          obtain ⟨a0, a1, a2, a3, a4, a5, a6, a7, a8⟩ := bx
          obtain ⟨r0, r1, r2, r3, r4, r5, r6, r7, r8⟩ := r
          obtain ⟨t0, t1, t2, t3, t4, t5, t6, t7⟩ := t
          go_wp2_with fail
          generalize ((((((((wz.setCell ⟨w.heap.size, 0, none⟩ (.int .i64 k)).setCell ⟨w.heap.size, 1, none⟩ (.int .i64 fr)).setCell ⟨w.heap.size, 2, none⟩ (.int .i64 tu)).setCell ⟨w.heap.size, 3, none⟩ (.int .i64 no)).setCell ⟨w.heap.size, 4, none⟩ (.int .i64 lo)).setCell ⟨w.heap.size, 5, none⟩ (.int .i64 hi)).setCell ⟨w.heap.size, 6, none⟩ (.int .i64 sl)).setCell ⟨w.heap.size, 7, none⟩ (.string s)) = wq at *
          obtain ⟨q0, q1, q2, q3, q4, q5, q6, q7, q8⟩ := Q
          exact bodyPost_ret (v := .agg #[.int .i64 k, .int .i64 fr, .int .i64 tu, .int .i64 no, .int .i64 lo, .int .i64 hi, .int .i64 sl, .string s]) (by simp (maxDischargeDepth := 6) [results, Tryd.results72, go_sem, q1, q2, q3, q4, q5, q6, q7, q8]) rfl ⟨_, _, _, _, _, _, _, _, rfl, hs, QC, QB⟩
      · go_upto_region 17 with fail
        clear a0 a1 a2 a3 a4 a5 a6 a7 a8 t0 t1 t2 t3 t4 t5 t6 t7
        obtain ⟨hc, hb, ⟨k, fr, tu, no, lo, hi, sl, s, bx, tx, hs⟩, hj, r, t, hp, hB⟩ := S
        have Q := box8 r k fr tu no lo hi sl s
        have QC := cur8 (J := w.heap.size) hc (by omega) (by omega) k fr tu no lo hi sl s
        have QB := but8 (J := w.heap.size) hb (Nat.le_refl _) k fr tu no lo hi sl s
        obtain ⟨a0, a1, a2, a3, a4, a5, a6, a7, a8⟩ := bx
        obtain ⟨r0, r1, r2, r3, r4, r5, r6, r7, r8⟩ := r
        obtain ⟨t0, t1, t2, t3, t4, t5, t6, t7⟩ := t
        go_wp2_with fail
        generalize ((((((((w5.setCell ⟨w.heap.size, 0, none⟩ (.int .i64 k)).setCell ⟨w.heap.size, 1, none⟩ (.int .i64 fr)).setCell ⟨w.heap.size, 2, none⟩ (.int .i64 tu)).setCell ⟨w.heap.size, 3, none⟩ (.int .i64 no)).setCell ⟨w.heap.size, 4, none⟩ (.int .i64 lo)).setCell ⟨w.heap.size, 5, none⟩ (.int .i64 hi)).setCell ⟨w.heap.size, 6, none⟩ (.int .i64 sl)).setCell ⟨w.heap.size, 7, none⟩ (.string s)) = wq at *
        obtain ⟨q0, q1, q2, q3, q4, q5, q6, q7, q8⟩ := Q
        exact bodyPost_ret (v := .agg #[.int .i64 k, .int .i64 fr, .int .i64 tu, .int .i64 no, .int .i64 lo, .int .i64 hi, .int .i64 sl, .string s]) (by simp (maxDischargeDepth := 6) [results, Tryd.results72, go_sem, q1, q2, q3, q4, q5, q6, q7, q8]) rfl ⟨_, _, _, _, _, _, _, _, rfl, hs, QC, QB⟩
    · go_wp2_with fail
      have hp := pickLit B p w5 [0, 127, 128, 16383, 16384, 100000999] S.1 (by simp) (by simp)
      simp only [List.map_cons, List.map_nil, List.length_cons, List.length_nil, Nat.zero_add, Nat.reduceAdd] at hp
      refine hp.mono ?_
      clear hp
      rintro e w6 ⟨v, rfl, c, b⟩
      replace S := S.but c b
      clear b c
      obtain ⟨-, -, ⟨k, fr, tu, no, lo, hi, sl, s, ⟨a0, a1, a2, a3, a4, a5, a6, a7, a8⟩, ⟨t0, t1, t2, t3, t4, t5, t6, t7⟩, -⟩, -, -, -, -, -⟩ := id S
      go_upto_region 12 with fail
      clear a0 a1 a2 a3 a4 a5 a6 a7 a8 t0 t1 t2 t3 t4 t5 t6 t7
      replace S := S.setI 3 (by omega) v
      generalize w6.setCell ⟨w2.heap.size, 3, none⟩ (.int .i64 v) = wy at *
      obtain ⟨-, -, ⟨k, fr, tu, no, lo, hi, sl, s, ⟨a0, a1, a2, a3, a4, a5, a6, a7, a8⟩, ⟨t0, t1, t2, t3, t4, t5, t6, t7⟩, -⟩, -, -, -, -, -⟩ := id S
      by_cases hk2 : k = 2
      · subst hk2
        go_wp2_with fail
        clear a0 a1 a2 a3 a4 a5 a6 a7 a8 t0 t1 t2 t3 t4 t5 t6 t7
        refine (l1DrawIval_any B p _ S.1).mono ?_
        rintro e w7 ⟨lo', hi', rfl, c, b⟩
        replace S := S.but c b
        clear b c
        have hA : w2.heap.size < w7.heap.size ∧ w.heap.size < w7.heap.size := by
          obtain ⟨-, -, ⟨k, fr, tu, no, lo, hi, sl, s, a, -, -⟩, -, r, -, -, -⟩ := id S
          exact ⟨a.1, r.1⟩
        have N := Box.new w7 lo' hi' 29
        replace S := S.below (Below.al w7 (.cells #[.int .i64 lo', .int .i64 hi'] 29))
        go_wp2_with fail
        refine (specIvalOk_any _ _ _).mono ?_
        rintro e w8 ⟨rfl, b⟩
        replace S := S.below b
        replace N := N.below b
        clear b
        obtain ⟨-, -, ⟨k, fr, tu, no, lo, hi, sl, s, ⟨a0, a1, a2, a3, a4, a5, a6, a7, a8⟩, ⟨t0, t1, t2, t3, t4, t5, t6, t7⟩, -⟩, -, -, -, -, -⟩ := id S
        obtain ⟨g1, g2, g3, g4, g5⟩ := N
        cases hok : okI lo' hi'
        · go_upto_region 17 with fail
          clear a0 a1 a2 a3 a4 a5 a6 a7 a8 t0 t1 t2 t3 t4 t5 t6 t7
          clear g1 g2 g3 g4 g5
          replace S := (((S.setO (k := w7.heap.size) hA.2 (by omega) 0 (.int .i64 (-64))).setO (k := w7.heap.size) hA.2 (by omega) 1 (.int .i64 64)).setI 4 (by omega) (-64)).setI 5 (by omega) 64
          generalize ((((w8.setCell ⟨w7.heap.size, 0, none⟩ (.int .i64 (-64))).setCell ⟨w7.heap.size, 1, none⟩ (.int .i64 64)).setCell ⟨w2.heap.size, 4, none⟩ (.int .i64 (-64))).setCell ⟨w2.heap.size, 5, none⟩ (.int .i64 64)) = wz at *
          obtain ⟨hc, hb, ⟨k, fr, tu, no, lo, hi, sl, s, bx, tx, hs⟩, hj, r, t, hp, hB⟩ := S
          have Q := box8 r k fr tu no lo hi sl s
          have QC := cur8 (J := w.heap.size) hc (by omega) (by omega) k fr tu no lo hi sl s
          have QB := but8 (J := w.heap.size) hb (Nat.le_refl _) k fr tu no lo hi sl s
          obtain ⟨a0, a1, a2, a3, a4, a5, a6, a7, a8⟩ := bx
          obtain ⟨r0, r1, r2, r3, r4, r5, r6, r7, r8⟩ := r
          obtain ⟨t0, t1, t2, t3, t4, t5, t6, t7⟩ := t
          go_wp2_with fail
          generalize ((((((((wz.setCell ⟨w.heap.size, 0, none⟩ (.int .i64 k)).setCell ⟨w.heap.size, 1, none⟩ (.int .i64 fr)).setCell ⟨w.heap.size, 2, none⟩ (.int .i64 tu)).setCell ⟨w.heap.size, 3, none⟩ (.int .i64 no)).setCell ⟨w.heap.size, 4, none⟩ (.int .i64 lo)).setCell ⟨w.heap.size, 5, none⟩ (.int .i64 hi)).setCell ⟨w.heap.size, 6, none⟩ (.int .i64 sl)).setCell ⟨w.heap.size, 7, none⟩ (.string s)) = wq at *
          obtain ⟨q0, q1, q2, q3, q4, q5, q6, q7, q8⟩ := Q
          exact bodyPost_ret (v := .agg #[.int .i64 k, .int .i64 fr, .int .i64 tu, .int .i64 no, .int .i64 lo, .int .i64 hi, .int .i64 sl, .string s]) (by simp (maxDischargeDepth := 6) [results, Tryd.results72, go_sem, q1, q2, q3, q4, q5, q6, q7, q8]) rfl ⟨_, _, _, _, _, _, _, _, rfl, hs, QC, QB⟩
        · go_upto_region 17 with fail
          clear a0 a1 a2 a3 a4 a5 a6 a7 a8 t0 t1 t2 t3 t4 t5 t6 t7
          clear g1 g2 g3 g4 g5
          replace S := (S.setI 4 (by omega) lo').setI 5 (by omega) hi'
          generalize ((w8.setCell ⟨w2.heap.size, 4, none⟩ (.int .i64 lo')).setCell ⟨w2.heap.size, 5, none⟩ (.int .i64 hi')) = wz at *
          obtain ⟨hc, hb, ⟨k, fr, tu, no, lo, hi, sl, s, bx, tx, hs⟩, hj, r, t, hp, hB⟩ := S
          have Q := box8 r k fr tu no lo hi sl s
          have QC := cur8 (J := w.heap.size) hc (by omega) (by omega) k fr tu no lo hi sl s
          have QB := but8 (J := w.heap.size) hb (Nat.le_refl _) k fr tu no lo hi sl s
          obtain ⟨a0, a1, a2, a3, a4, a5, a6, a7, a8⟩ := bx
          obtain ⟨r0, r1, r2, r3, r4, r5, r6, r7, r8⟩ := r
          obtain ⟨t0, t1, t2, t3, t4, t5, t6, t7⟩ := t
          go_wp2_with fail
          generalize ((((((((wz.setCell ⟨w.heap.size, 0, none⟩ (.int .i64 k)).setCell ⟨w.heap.size, 1, none⟩ (.int .i64 fr)).setCell ⟨w.heap.size, 2, none⟩ (.int .i64 tu)).setCell ⟨w.heap.size, 3, none⟩ (.int .i64 no)).setCell ⟨w.heap.size, 4, none⟩ (.int .i64 lo)).setCell ⟨w.heap.size, 5, none⟩ (.int .i64 hi)).setCell ⟨w.heap.size, 6, none⟩ (.int .i64 sl)).setCell ⟨w.heap.size, 7, none⟩ (.string s)) = wq at *
          obtain ⟨q0, q1, q2, q3, q4, q5, q6, q7, q8⟩ := Q
          exact bodyPost_ret (v := .agg #[.int .i64 k, .int .i64 fr, .int .i64 tu, .int .i64 no, .int .i64 lo, .int .i64 hi, .int .i64 sl, .string s]) (by simp (maxDischargeDepth := 6) [results, Tryd.results72, go_sem, q1, q2, q3, q4, q5, q6, q7, q8]) rfl ⟨_, _, _, _, _, _, _, _, rfl, hs, QC, QB⟩
      · go_upto_region 17 with fail
        clear a0 a1 a2 a3 a4 a5 a6 a7 a8 t0 t1 t2 t3 t4 t5 t6 t7
        obtain ⟨hc, hb, ⟨k, fr, tu, no, lo, hi, sl, s, bx, tx, hs⟩, hj, r, t, hp, hB⟩ := S
        have Q := box8 r k fr tu no lo hi sl s
        have QC := cur8 (J := w.heap.size) hc (by omega) (by omega) k fr tu no lo hi sl s
        have QB := but8 (J := w.heap.size) hb (Nat.le_refl _) k fr tu no lo hi sl s
        obtain ⟨a0, a1, a2, a3, a4, a5, a6, a7, a8⟩ := bx
        obtain ⟨r0, r1, r2, r3, r4, r5, r6, r7, r8⟩ := r
        obtain ⟨t0, t1, t2, t3, t4, t5, t6, t7⟩ := t
        go_wp2_with fail
        generalize ((((((((wy.setCell ⟨w.heap.size, 0, none⟩ (.int .i64 k)).setCell ⟨w.heap.size, 1, none⟩ (.int .i64 fr)).setCell ⟨w.heap.size, 2, none⟩ (.int .i64 tu)).setCell ⟨w.heap.size, 3, none⟩ (.int .i64 no)).setCell ⟨w.heap.size, 4, none⟩ (.int .i64 lo)).setCell ⟨w.heap.size, 5, none⟩ (.int .i64 hi)).setCell ⟨w.heap.size, 6, none⟩ (.int .i64 sl)).setCell ⟨w.heap.size, 7, none⟩ (.string s)) = wq at *
        obtain ⟨q0, q1, q2, q3, q4, q5, q6, q7, q8⟩ := Q
        exact bodyPost_ret (v := .agg #[.int .i64 k, .int .i64 fr, .int .i64 tu, .int .i64 no, .int .i64 lo, .int .i64 hi, .int .i64 sl, .string s]) (by simp (maxDischargeDepth := 6) [results, Tryd.results72, go_sem, q1, q2, q3, q4, q5, q6, q7, q8]) rfl ⟨_, _, _, _, _, _, _, _, rfl, hs, QC, QB⟩
end Go.Proofs.YtdahabbdhjgpdaaDoor
