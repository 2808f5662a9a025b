/- What is heard behind a frame: lists. -/
import Derived.Test.YtdahabbdhjgpdaaS173
import Derived.Test.YtdahabbdhjgpdaaS174
import Derived.WalkKit
import Derived.WalkSpells
import Derived.WalkLawsBesides
import Derived.Deep.RegionHeld
namespace Go.Proofs.Ytdahabbdhjgpdaa
open Go.RowKit
set_option linter.unusedVariables false
/- Rows of pairs: joined, taken, dropped, one changed. -/
theorem vrow_len (L : List VT) : (vrow L).length = L.length * 2 := by unfold vrow; simp
theorem vrow_one (p : VT) : vrow [p] = [Value.int .i64 p.1, Value.int .i64 p.2] := by
  have h := vrow_snoc [] p
  simpa [vrow] using h
theorem vrow_app : ∀ (B A : List VT), vrow (A ++ B) = vrow A ++ vrow B
  | [], A => by simp [vrow]
  | p :: B, A => by
    have h1 := vrow_app B (A ++ [p])
    have h2 := vrow_app B [p]
    rw [vrow_snoc, List.append_assoc, List.append_assoc] at h1
    rw [show p :: B = [p] ++ B from rfl, h1, h2, vrow_one]
theorem vrow_take (L : List VT) (i : Nat) (hi : i ≤ L.length) : (vrow L).take (i * 2) = vrow (L.take i) := by
  have h : vrow L = vrow (L.take i) ++ vrow (L.drop i) := by rw [← vrow_app, List.take_append_drop]
  rw [h]
  have e : (vrow (L.take i)).length = i * 2 := by rw [vrow_len, List.length_take]; omega
  rw [← e, List.take_left]
theorem vrow_drop (L : List VT) (i : Nat) (hi : i ≤ L.length) : (vrow L).drop (i * 2) = vrow (L.drop i) := by
  have h : vrow L = vrow (L.take i) ++ vrow (L.drop i) := by rw [← vrow_app, List.take_append_drop]
  rw [h]
  have e : (vrow (L.take i)).length = i * 2 := by rw [vrow_len, List.length_take]; omega
  rw [← e, List.drop_left]
theorem vrow_put (L : List VT) (i : Nat) (hi : i ≤ L.length) (x0 x1 : Int) : (vrow L).take (i * 2) ++ ([Value.int .i64 x0, Value.int .i64 x1] ++ (vrow L).drop (i * 2)) = vrow (L.take i ++ (x0, x1) :: L.drop i) := by
  rw [vrow_take L i hi, vrow_drop L i hi, vrow_app, show (x0, x1) :: L.drop i = [(x0, x1)] ++ L.drop i from rfl, vrow_app, vrow_one]
theorem vrow_oneC (L : List VT) : ∀ u ∈ vrow L, u.oneCell' = true := by
  intro u hu
  unfold vrow at hu
  exact hrow_one (gV L) L.length u hu
/- What stands behind one that is heard. -/
theorem lsV_snoc (M : Nat → VT) (k : Nat) : lsV M (k + 1) = lsV M k ++ [M k] := by unfold lsV; rw [List.range_succ, List.map_append]; rfl
theorem hp_low {M : Nat → VT} {sl c : Int} : ∀ {k : Nat}, (∀ j, j < k → (M j).1 < sl) → hpS M sl c k = (false, lsV M k)
  | 0, _ => rfl
  | k + 1, h => by
    have h1 := hp_low (c := c) (k := k) fun j hj => h j (by omega)
    have h2 := h k (by omega)
    rw [hpS, h1, lsV_snoc]
    simp only [Bool.false_or, Bool.not_false, Bool.true_and]
    rw [decide_eq_false (show ¬ sl ≤ (M k).1 by omega), decide_eq_false (show ¬ (M k).1 = sl by omega)]
    simp
theorem hp_end {M : Nat → VT} {sl c : Int} {n : Nat} (h : ∀ j, j < n → (M j).1 < sl) : hpL M n sl c = lsV M n ++ [(sl, c)] := by
  unfold hpL
  rw [hp_low h]
theorem hp_high {M : Nat → VT} {sl c : Int} {T : List VT} {i : Nat} (hT : hpS M sl c (i + 1) = (true, T ++ (lsV M (i + 1)).drop (i + 1))) : ∀ {k : Nat}, i + 1 ≤ k → (∀ j, i < j → j < k → sl < (M j).1) → hpS M sl c k = (true, T ++ (lsV M k).drop (i + 1))
  | 0, h, _ => by omega
  | k + 1, h, ha => by
    by_cases e : i = k
    · subst e; exact hT
    · have h1 := hp_high hT (k := k) (by omega) fun j h1 h2 => ha j h1 (by omega)
      have h2 := ha k (by omega) (by omega)
      rw [hpS, h1, lsV_snoc, List.drop_append_of_le_length (by rw [lsV_len]; omega)]
      simp only [Bool.true_or, Bool.not_true, Bool.false_and]
      rw [decide_eq_false (show ¬ (M k).1 = sl by omega)]
      simp
theorem hp_eq {M : Nat → VT} {sl c : Int} {n i : Nat} (hi : i < n) (h : ∀ j, j < i → (M j).1 < sl) (he : (M i).1 = sl) (ha : ∀ j, i < j → j < n → sl < (M j).1) : hpL M n sl c = (lsV M n).set i (sl, c) := by
  have h1 : hpS M sl c (i + 1) = (true, (lsV M i ++ [(sl, c)]) ++ (lsV M (i + 1)).drop (i + 1)) := by
    rw [hpS, hp_low h, List.drop_of_length_le (by rw [lsV_len]; omega)]
    simp only [Bool.false_or, Bool.not_false, Bool.true_and]
    rw [decide_eq_true (show sl ≤ (M i).1 by omega), decide_eq_true he]
  unfold hpL
  rw [hp_high h1 (k := n) hi ha]
  simp only [List.append_nil]
  have e : lsV M i = (lsV M n).take i := by
    unfold lsV
    rw [← List.map_take, List.take_range]
    congr 2; omega
  rw [e, List.set_eq_take_append_cons_drop, if_pos (by rw [lsV_len]; exact hi), List.append_assoc]
  rfl
theorem hp_gt {M : Nat → VT} {sl c : Int} {n i : Nat} (hi : i < n) (h : ∀ j, j < i → (M j).1 < sl) (he : sl < (M i).1) (ha : ∀ j, i < j → j < n → sl < (M j).1) : hpL M n sl c = (lsV M n).take i ++ (sl, c) :: (lsV M n).drop i := by
  have h1 : hpS M sl c (i + 1) = (true, (lsV M i ++ [(sl, c)] ++ [M i]) ++ (lsV M (i + 1)).drop (i + 1)) := by
    rw [hpS, hp_low h, List.drop_of_length_le (by rw [lsV_len]; omega)]
    simp only [Bool.false_or, Bool.not_false, Bool.true_and]
    rw [decide_eq_true (show sl ≤ (M i).1 by omega), decide_eq_false (show ¬ (M i).1 = sl by omega)]
    simp
  unfold hpL
  rw [hp_high h1 (k := n) hi ha]
  simp only [List.append_nil]
  have e : lsV M i = (lsV M n).take i := by
    unfold lsV
    rw [← List.map_take, List.take_range]
    congr 2; omega
  have e2 : (lsV M n).drop i = M i :: (lsV M n).drop (i + 1) := by
    rw [List.drop_eq_getElem_cons (by rw [lsV_len]; exact hi)]
    congr 1
    unfold lsV; simp
  rw [e, e2]
  simp
/- One of a row of one's own, changed. -/
theorem own_set2 {w : World} {base g n cap : Nat} {L : List VT} (h : w.ownsRow base 54 2 (.slice (some ⟨g, 0, none⟩) n cap) n (vrow L)) {i : Nat} (hi : i < n) (x0 x1 : Int) :
    ((w.setCell ⟨g, i * 2, none⟩ (.int .i64 x0)).setCell ⟨g, i * 2 + 1, none⟩ (.int .i64 x1)).ownsRow base 54 2 (.slice (some ⟨g, 0, none⟩) n cap) n (vrow (L.set i (x0, x1))) := by
  have hn : L.length = n := by have := h.1; rw [vrow_len] at this; omega
  rcases h.2 with ⟨q, _⟩ | ⟨g', cap', cur, he, hb, hg, hnc, hc, hs, ht⟩
  · simp at q
  simp at he
  obtain ⟨rfl, rfl⟩ := he
  have h1 : (w.setCell ⟨g, i * 2, none⟩ (.int .i64 x0)).heap[g]? = some (.cells (cur.setIfInBounds (i * 2) (.int .i64 x0)) 54 (0, 0)) := by
    rw [setCell_eq_setRow w g (i * 2) cur 54 (0, 0) _ hg]; exact setRow_heap w g cur _ 54 _ hg
  have h2 : ((w.setCell ⟨g, i * 2, none⟩ (.int .i64 x0)).setCell ⟨g, i * 2 + 1, none⟩ (.int .i64 x1)).heap[g]? = some (.cells ((cur.setIfInBounds (i * 2) (.int .i64 x0)).setIfInBounds (i * 2 + 1) (.int .i64 x1)) 54 (0, 0)) := by
    rw [setCell_eq_setRow _ g (i * 2 + 1) _ 54 (0, 0) _ h1]; exact setRow_heap _ g _ _ 54 _ h1
  refine ⟨by rw [vrow_len, List.length_set, hn], .inr ⟨g, cap, _, rfl, hb, h2, hnc, hc, by simp [hs], ?_⟩⟩
  rw [List.set_eq_take_append_cons_drop, if_pos (by omega), show (x0, x1) :: L.drop (i + 1) = [(x0, x1)] ++ L.drop (i + 1) from rfl, vrow_app, vrow_app, vrow_one, ← vrow_take L i (by omega), ← vrow_drop L (i + 1) (by omega), ← ht]
  apply List.ext_getElem?
  intro j
  simp only [Array.toList_setIfInBounds, List.getElem?_take, List.getElem?_append, List.getElem?_set, List.length_take, List.length_set, List.getElem?_drop, Array.length_toList, List.length_cons, List.length_nil, hs]
  have k1 : min (i * 2) (min (n * 2) (cap * 2)) = i * 2 := by omega
  rw [k1]
  by_cases a1 : j < i * 2
  · rw [if_pos a1, if_pos (show j < n * 2 by omega), if_pos a1, if_neg (show ¬ i * 2 + 1 = j by omega), if_neg (show ¬ i * 2 = j by omega)]
    rw [if_pos (show j < n * 2 by omega)]
  · rw [if_neg a1]
    by_cases a2 : j = i * 2
    · subst a2
      rw [if_pos (show i * 2 < n * 2 by omega), if_neg (show ¬ i * 2 + 1 = i * 2 by omega), if_pos rfl, if_pos (show i * 2 < cap * 2 by omega), Nat.sub_self, if_pos (by omega)]
      rfl
    · by_cases a3 : j = i * 2 + 1
      · subst a3
        rw [if_pos (show i * 2 + 1 < n * 2 by omega), if_pos rfl, if_pos (show i * 2 + 1 < cap * 2 by omega), show i * 2 + 1 - i * 2 = 1 by omega, if_pos (by omega)]
        rfl
      · rw [if_neg (show ¬ i * 2 + 1 = j by omega), if_neg (show ¬ i * 2 = j by omega), if_neg (show ¬ j - i * 2 < 0 + 1 + 1 by omega)]
        rw [show (i + 1) * 2 + (j - i * 2 - (0 + 1 + 1)) = j by omega]
end Go.Proofs.Ytdahabbdhjgpdaa
