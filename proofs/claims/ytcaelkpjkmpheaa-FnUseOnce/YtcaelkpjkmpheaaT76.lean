/- What is left when an ask is used; laws.sameAsks. -/
import Derived.Test.YtcaelkpjkmpheaaD9
import Derived.Test.YtcaelkpjkmpheaaA8
import Derived.Test.YtcaelkpjkmpheaaT73
import Derived.Deep.RegionHeld3
import Derived.Deep.DeepCutAuto
import Derived.WalkKit
import Derived.WalkSpells
import Derived.WalkLawsBesides
import Derived.Deep.RegionHeld
namespace Go.Proofs.Ytcaelkpjkmpheaa
open Go.RowKit
set_option linter.unusedVariables false
theorem tOk_all {ep us : Int} {M : Nat → KT} : ∀ {n : Nat}, (∀ k, k < n → elB ep us M k = true) → tOk ep us M n = true
  | 0, _ => rfl
  | n + 1, h => by
    rw [tOk, tOk_all fun k hk => h k (by omega), h n (by omega)]; rfl
theorem cut_lo {M : Nat → KT} {i j : Nat} (h : j < i) : cutK M i j = M j := if_pos h
theorem cut_hi {M : Nat → KT} {i j : Nat} (h : ¬ j < i) : cutK M i j = M (j + 1) := if_neg h
theorem cut_is (M : Nat → KT) (i j : Nat) : ∃ m, cutK M i j = M m ∧ j ≤ m ∧ m ≤ j + 1 ∧ (j < i → m = j) ∧ (¬ j < i → m = j + 1) := by
  by_cases h : j < i
  · exact ⟨j, cut_lo h, by omega, by omega, fun _ => rfl, fun q => absurd h q⟩
  · exact ⟨j + 1, cut_hi h, by omega, by omega, fun q => absurd q h, fun _ => rfl⟩
theorem cut_asc {ep us : Int} {M : Nat → KT} {n i : Nat} (ht : tOk ep us M n = true) {j k : Nat} (hjk : j < k) (hk : k < n - 1) : (cutK M i j).1 < (cutK M i k).1 := by
  obtain ⟨m, e, h1, h2, h3, h4⟩ := cut_is M i j
  obtain ⟨m', e', h1', h2', h3', h4'⟩ := cut_is M i k
  rw [e, e']
  refine tOk_asc ht m m' ?_ (by omega)
  by_cases a : j < i
  · have := h3 a; omega
  · have := h4 a; have := h4' (by omega); omega
theorem cut_el {ep us : Int} {M : Nat → KT} {n i : Nat} (ht : tOk ep us M n = true) {k : Nat} (hk : k < n - 1) : elB ep us (cutK M i) k = true := by
  have hl : lsB (cutK M i) k = true := by
    cases k with
    | zero => rfl
    | succ k => exact decide_eq_true (cut_asc ht (Nat.lt_succ_self k) hk)
  obtain ⟨m, e, h1, h2, _, _⟩ := cut_is M i k
  have h := tOk_el ht (show m < n by omega)
  simp only [elB, Bool.and_eq_true] at h ⊢
  rw [e]
  exact ⟨⟨h.1.1, hl⟩, h.2⟩
theorem cut_tab {ep us : Int} {M : Nat → KT} {n i : Nat} (h : tabB ep us M n = true) : tabB ep us (cutK M i) (n - 1) = true := by
  have ht := tabB_tOk h
  have h2 := h
  simp only [tabB, Bool.and_eq_true, decide_eq_true_eq] at h2
  exact tabB_ok h2.1.1.1 h2.1.1.2 (by omega) (tOk_all fun k hk => cut_el ht hk)
theorem cut_no {ep us : Int} {M : Nat → KT} {n i : Nat} {x : Int} (h : tabB ep us M n = true) (hi : i < n) (hx : (M i).1 = x) : ∀ j, j < n - 1 → (cutK M i j).1 ≠ x := by
  intro j hj
  have A := tOk_asc (tabB_tOk h)
  by_cases a : j < i
  · rw [cut_lo a]; have := A j i a hi; omega
  · rw [cut_hi a]; have := A i (j + 1) (by omega) (by omega); omega
theorem wtN_congr {x : Int} {M H : Nat → KT} : ∀ {n : Nat}, (∀ j, j < n → M j = H j) → wtN x M n = wtN x H n
  | 0, _ => rfl
  | n + 1, h => by rw [wtN, wtN, wtN_congr fun j hj => h j (by omega), h n (by omega)]
theorem cut_wt {M : Nat → KT} {i : Nat} {y : Int} (hy : (M i).2.1 = y) : ∀ {n : Nat}, i < n → wtN y M n = wtN y (cutK M i) (n - 1) + 1
  | 0, h => by omega
  | m + 1, h => by
    by_cases e : i = m
    · subst e
      rw [wtN, if_pos hy, Nat.add_sub_cancel, wtN_congr (M := cutK M i) (H := M) fun j hj => cut_lo hj]
    · obtain ⟨q, rfl⟩ : ∃ q, m = q + 1 := ⟨m - 1, by omega⟩
      have ih := cut_wt hy (n := q + 1) (by omega)
      rw [Nat.add_sub_cancel] at ih ⊢
      rw [wtN, ih, wtN, cut_hi (by omega)]
      omega
theorem use_again {ep us : Int} {M : Nat → KT} {n i : Nat} {x y : Int} (h : tabB ep us M n = true) (hi : i < n) (hx : (M i).1 = x) : UseIs ep us (cutK M i) (n - 1) x y ep us (n - 1) (cutK M i) 0 0 0 0 4 :=
  .inr (.inl ⟨cut_tab h, cut_no h hi hx, rfl, rfl, rfl, rfl, rfl, rfl, rfl, rfl, rfl⟩)
theorem cut_wtI {ep us : Int} {M : Nat → KT} {n i : Nat} {y : Int} (h : tabB ep us M n = true) (hi : i < n) (hy : (M i).2.1 = y) : wtI ep us (cutK M i) (n - 1) y = wtI ep us M n y - 1 := by
  rw [wtI, wtI, cut_tab h, h, cond_true, cond_true, cut_wt hy hi]
  omega
set_option maxHeartbeats 8000000 in
theorem sameAsks_some (b off b' off' n c c' : Nat) (M : Nat → KT) (w : World) (hn : n ≤ 900) (hf : Cs w b off (n * 4) (MFAsk M)) (hg : Cs w b' off' (n * 4) (MFAsk M)) :
    Calls Try.prog 19 #[.slice (some ⟨b, off, none⟩) n c, .slice (some ⟨b', off', none⟩) n c'] w fun e w' => e = .returned (.bool true) ∧ Below w.heap.size w w' := by
  go_enter Try.func19, Try.ntmps19
  go_wp2_with fail
  go_loopw [5] (fun i wr => ∃ k : Nat, k ≤ n ∧ i = .int .i64 k ∧ Below w.heap.size w wr) (fun i _ => n - (intOf i).toNat)
  case atStart => exact ⟨0, Nat.zero_le _, rfl, Below.refl _ _⟩
  case round =>
    obtain ⟨k, hk, rfl, hB⟩ := hrel
    by_cases hlt : k < n
    · obtain ⟨x0, x1, x2, x3, hM⟩ := tupAsk M k
      obtain ⟨c0, c1, c2, c3⟩ := (hf.below hB hf.1).elAsk hlt hM
      obtain ⟨d0, d1, d2, d3⟩ := (hg.below hB hg.1).elAsk hlt hM
      have hb1 : b < wr.drew.heap.size := Nat.lt_of_lt_of_le hf.1 hB.size
      have hb2 : b' < wr.drew.heap.size := Nat.lt_of_lt_of_le hg.1 hB.size
      have hli : (k : Int) < (n : Int) := by omega
      clear hM
      go_wp2_with fail
      refine wp_region_held_drew (S := (fun w' => w'.cell? ⟨b, off + k * 4, none⟩ = some (.int .i64 x0) ∧ w'.cell? ⟨b, off + k * 4 + 1, none⟩ = some (.int .i64 x1) ∧ w'.cell? ⟨b, off + k * 4 + 2, none⟩ = some (.int .i64 x2) ∧ w'.cell? ⟨b, off + k * 4 + 3, none⟩ = some (.int .i64 x3) ∧ w'.cell? ⟨b', off' + k * 4, none⟩ = some (.int .i64 x0) ∧ w'.cell? ⟨b', off' + k * 4 + 1, none⟩ = some (.int .i64 x1) ∧ w'.cell? ⟨b', off' + k * 4 + 2, none⟩ = some (.int .i64 x2) ∧ w'.cell? ⟨b', off' + k * 4 + 3, none⟩ = some (.int .i64 x3))) (by kernel_rfl) ?_ (fun hHeld => ?_)
      · first | exact ⟨c0, c1, c2, c3, d0, d1, d2, d3⟩ | (simp (maxDischargeDepth := 6) [go_sem, *]; done)
      refine wpAnyH_take (i := 0) (v := ?_) (by rw [List.getElem?_toArray]; rfl) (by kernel_rfl) (by kernel_rfl) (by kernel_rfl) (by intro _ _ _ h; exact h) (Or.inl ⟨by rfl, ?_⟩) (by assumption) ?_
      rotate_left
      · (intro w hSw; (try dsimp only at hSw); go_simp; all_goals with_reducible rfl)
      (try simp only [Act.put, List.setIfInBounds_toArray, List.set_cons_zero, List.set_cons_succ])
      refine wpAnyH_take (i := 1) (v := ?_) (by rw [List.getElem?_toArray]; rfl) (by kernel_rfl) (by kernel_rfl) (by kernel_rfl) (by intro _ _ _ h; exact h) (Or.inl ⟨by rfl, ?_⟩) (by assumption) ?_
      rotate_left
      · (intro w hSw; (try dsimp only at hSw); go_simp; all_goals with_reducible rfl)
      (try simp only [Act.put, List.setIfInBounds_toArray, List.set_cons_zero, List.set_cons_succ])
      refine wpAnyH_take (i := 2) (v := ?_) (by rw [List.getElem?_toArray]; rfl) (by kernel_rfl) (by kernel_rfl) (by kernel_rfl) (by intro _ _ _ h; exact h) (Or.inl ⟨by rfl, ?_⟩) (by assumption) ?_
      rotate_left
      · (intro w hSw; (try dsimp only at hSw); go_simp; all_goals with_reducible rfl)
      (try simp only [Act.put, List.setIfInBounds_toArray, List.set_cons_zero, List.set_cons_succ])
      refine wpAnyH_take (i := 3) (v := ?_) (by rw [List.getElem?_toArray]; rfl) (by kernel_rfl) (by kernel_rfl) (by kernel_rfl) (by intro _ _ _ h; exact h) (Or.inl ⟨by rfl, ?_⟩) (by assumption) ?_
      rotate_left
      · (intro w hSw; (try dsimp only at hSw); go_simp; all_goals with_reducible rfl)
      (try simp only [Act.put, List.setIfInBounds_toArray, List.set_cons_zero, List.set_cons_succ])
      refine wpAnyH_take (i := 4) (v := ?_) (by rw [List.getElem?_toArray]; rfl) (by kernel_rfl) (by kernel_rfl) (by kernel_rfl) (by intro _ _ _ h; exact h) (Or.inl ⟨by rfl, ?_⟩) (by assumption) ?_
      rotate_left
      · (intro w hSw; (try dsimp only at hSw); go_simp; all_goals with_reducible rfl)
      (try simp only [Act.put, List.setIfInBounds_toArray, List.set_cons_zero, List.set_cons_succ])
      refine wpAnyH_take (i := 5) (v := ?_) (by rw [List.getElem?_toArray]; rfl) (by kernel_rfl) (by kernel_rfl) (by kernel_rfl) (by intro _ _ _ h; exact h) (Or.inl ⟨by rfl, ?_⟩) (by assumption) ?_
      rotate_left
      · (intro w hSw; (try dsimp only at hSw); go_simp; all_goals with_reducible rfl)
      (try simp only [Act.put, List.setIfInBounds_toArray, List.set_cons_zero, List.set_cons_succ])
      refine wpAnyH_take (i := 6) (v := ?_) (by rw [List.getElem?_toArray]; rfl) (by kernel_rfl) (by kernel_rfl) (by kernel_rfl) (by intro _ _ _ h; exact h) (Or.inl ⟨by rfl, ?_⟩) (by assumption) ?_
      rotate_left
      · (intro w hSw; (try dsimp only at hSw); go_simp; all_goals with_reducible rfl)
      (try simp only [Act.put, List.setIfInBounds_toArray, List.set_cons_zero, List.set_cons_succ])
      refine wpAnyH_take (i := 7) (v := ?_) (by rw [List.getElem?_toArray]; rfl) (by kernel_rfl) (by kernel_rfl) (by kernel_rfl) (by intro _ _ _ h; exact h) (Or.inl ⟨by rfl, ?_⟩) (by assumption) ?_
      rotate_left
      · (intro w hSw; (try dsimp only at hSw); go_simp; all_goals with_reducible rfl)
      (try simp only [Act.put, List.setIfInBounds_toArray, List.set_cons_zero, List.set_cons_succ])
      refine wpAnyH_take (i := 8) (v := ?_) (by rw [List.getElem?_toArray]; rfl) (by kernel_rfl) (by kernel_rfl) (by kernel_rfl) (by intro _ _ _ h; exact h) (Or.inl ⟨by rfl, ?_⟩) (by assumption) ?_
      rotate_left
      · (intro w hSw; (try dsimp only at hSw); go_simp; all_goals with_reducible rfl)
      (try simp only [Act.put, List.setIfInBounds_toArray, List.set_cons_zero, List.set_cons_succ])
      refine wpAnyH_done (by kernel_rfl) ?_ _
      (try go_wp2_with fail)
      go_roundw
      case rel => exact ⟨k + 1, by omega, by go_num, Below.drew hB⟩
      case measure => simp [intOf]; omega
    · have hkk : k = n := by omega
      subst hkk
      go_wp2_with fail
      go_ret
      exact ⟨rfl, hB⟩
theorem sameAsks_zero (a a' : Option Addr) (c c' : Nat) (w : World) :
    Calls Try.prog 19 #[.slice a 0 c, .slice a' 0 c'] w fun e w' => e = .returned (.bool true) ∧ Below w.heap.size w w' := by
  go_enter Try.func19, Try.ntmps19
  go_wp2_with fail
  go_loopw [5] (fun i wr => i = .int .i64 0 ∧ w = wr) (fun i _ => 0)
  case atStart => exact ⟨rfl, rfl⟩
  case round =>
    obtain ⟨rfl, rfl⟩ := hrel
    go_wp2_with fail
    go_ret
    exact ⟨rfl, Below.refl _ _⟩
theorem sameAsks_own {w : World} {b1 b2 n c c' : Nat} {a a' : Option Addr} {M : Nat → KT} (hn : n ≤ 900) (h1 : w.ownsRow b1 34 4 (.slice a n c) n (krow M n)) (h2 : w.ownsRow b2 34 4 (.slice a' n c') n (krow M n)) :
    Calls Try.prog 19 #[.slice a n c, .slice a' n c'] w fun e w' => e = .returned (.bool true) ∧ Below w.heap.size w w' := by
  by_cases h0 : n = 0
  · subst h0
    exact sameAsks_zero a a' c c' w
  · obtain ⟨b, off, rfl, C1⟩ := own_at7 h1 (by omega)
    obtain ⟨b', off', rfl, C2⟩ := own_at7 h2 (by omega)
    exact sameAsks_some b off b' off' n c c' M w hn C1 C2
end Go.Proofs.Ytcaelkpjkmpheaa
