/- What SplitMsgs tells of joined messages, cut off anywhere. -/
import Derived.Test.YtbflhhifkhoapaaY4
import Derived.Test.YtbflhhifkhoapaaJ5
import Derived.WalkKit
import Derived.WalkSpells
import Derived.WalkLawsBesides
import Derived.Deep.QuietTactic
import Derived.BigQuiet
namespace Go.Proofs.Ytbflhhifkhoapaa
open Go.RowKit
set_option linter.unusedVariables false
theorem getS_congr {f g : Nat → Int} {n a : Nat} (h : ∀ i, i < n → f i = g i) : ∀ m k X, getS f n a m k X = getS g n a m k X
  | 0, _, _ => rfl
  | m + 1, k, X => by
    rw [getS, getS]
    by_cases hk : a + k < n
    · rw [if_pos hk, if_pos hk, h _ hk, getS_congr h m]
    · rw [if_neg hk, if_neg hk]
theorem getI_congr {f g : Nat → Int} {n : Nat} (h : ∀ i, i < n → f i = g i) (x : Int) : getI f n x = getI g n x := by
  rw [getI, getI, getS_congr h]
theorem ats_congr {f g : Nat → Int} {n : Nat} (h : ∀ i, i < n → f i = g i) : ∀ j, ats f n j = ats g n j
  | 0 => rfl
  | j + 1 => by rw [ats, ats, ats_congr h j, getI_congr h]
theorem val_congr {f g : Nat → Int} {n : Nat} (h : ∀ i, i < n → f i = g i) (j : Nat) : val f n j = val g n j := by rw [val, val, ats_congr h, getI_congr h]
theorem okA_congr {f g : Nat → Int} {n : Nat} (h : ∀ i, i < n → f i = g i) : ∀ j, okA f n j = okA g n j
  | 0 => rfl
  | j + 1 => by rw [okA, okA, okA_congr h j, fldC, fldC, ats_congr h, getI_congr h]
theorem unp3_congr {f g : Nat → Int} {n : Nat} (hf : ∀ i, i < n → 0 ≤ f i) (h : ∀ i, i < n → f i = g i) : unp3 f n = unp3 g n := by
  unfold unp3
  rw [← okA_congr h]
  by_cases hok : okA f n 3 = true
  · rw [if_pos hok, if_pos hok, ← ats_congr h, ← val_congr h]
    by_cases hs : (n : Int) - ats f n 3 < val f n 2
    · rw [if_pos hs, if_pos hs]
    · rw [if_neg hs, if_neg hs]
      have a := ats_bd hf hok
      have v := val_bd hf (j := 2) hok (by omega)
      have e : strF f (ats f n 3).toNat (val f n 2).toNat = strF g (ats f n 3).toNat (val f n 2).toNat := by
        unfold strF
        congr 1
        apply List.map_congr_left
        intro i hi
        have := List.mem_range.1 hi
        exact h _ (by omega)
      rw [e, ← val_congr h, ← val_congr h]
  · rw [if_neg hok, if_neg hok]
theorem unp_congr {f g : Nat → Int} {n : Nat} (hf : ∀ i, i < n → 0 ≤ f i) (h : ∀ i, i < n → f i = g i) : unp f n = unp g n := by
  unfold unp
  by_cases h2 : n < 2
  · rw [if_pos h2, if_pos h2]
  have h' : ∀ i, i < n - 1 → f i = g i := fun i hi => h i (by omega)
  have e1 : unp1 f (n - 1) = unp1 g (n - 1) := by unfold unp1; rw [okA_congr h', val_congr h', val_congr h', val_congr h', ats_congr h']
  have e2 : unp2 f (n - 1) = unp2 g (n - 1) := by unfold unp2; rw [okA_congr h', val_congr h', val_congr h', val_congr h', val_congr h', val_congr h', ats_congr h']
  have e3 := unp3_congr (fun i hi => hf i (by omega)) h'
  rw [if_neg h2, if_neg h2, chk_congr h', h (n - 1) (by omega), h 0 (by omega), e1, e2, e3]
theorem putL_one {x : Int} (h0 : 0 ≤ x) (h1 : x ≤ 127) : putL x = [x] := by rw [putL, if_neg (by omega), putN_end (by omega)]
theorem getI_one {f : Nat → Int} {n x : Nat} (hx : x < n) (h0 : 0 ≤ f x) (h1 : f x ≤ 127) : getI f n (x : Int) = (f x, ((x + 1 : Nat) : Int), true) := by
  rw [getI, if_pos ⟨by omega, by omega⟩, Int.toNat_natCast, getS_told (m := 8) (by omega) (by rw [Nat.add_zero]; omega) (by omega)]
  rw [Nat.add_zero]
  have : f x % 128 = f x := by omega
  simp [this]
theorem pkL_two (M : MT) : 2 ≤ (pkL M).length := packL_two _ _ _ _ _ _ _ _
theorem pkL_rng {M : MT} (h : msgT M = true) : ∀ z ∈ pkL M, 0 ≤ z ∧ z ≤ 255 := packL_rng _ _ _ _ _ _ _ _ (by have := msgB_from h; omega)
theorem unp_pkL {M : MT} (h : msgT M = true) : unp (fun i => (pkL M).getD i 0) (pkL M).length = (0, M) := unp_pack h
theorem jn_step {M : Nat → MT} {n : Nat} (h : msgT (M n) = true) : jn M (n + 1) = jn M n ++ (((pkL (M n)).length : Int) :: pkL (M n)) := by
  have := pkL_short h
  rw [jn, putL_one (by omega) (by omega), List.append_assoc]
  rfl
theorem okN_at {M : Nat → MT} : ∀ {n : Nat}, okN M n = true → ∀ i, i < n → msgT (M i) = true
  | 0, _, i, hi => absurd hi (Nat.not_lt_zero _)
  | n + 1, h, i, hi => by
    simp only [okN, Bool.and_eq_true] at h
    by_cases e : i = n
    · subst e; exact h.2
    · exact okN_at h.1 i (by omega)
theorem jn_split {M : Nat → MT} : ∀ {n : Nat}, okN M n = true → ∀ i, i < n → ∃ rest, jn M n = jn M i ++ (((pkL (M i)).length : Int) :: pkL (M i)) ++ rest
  | 0, _, i, hi => absurd hi (Nat.not_lt_zero _)
  | n + 1, h, i, hi => by
    have hn := h
    simp only [okN, Bool.and_eq_true] at h
    by_cases e : i = n
    · subst e; exact ⟨[], by rw [jn_step h.2, List.append_nil]⟩
    · obtain ⟨r, hr⟩ := jn_split h.1 i (by omega)
      exact ⟨r ++ (((pkL (M n)).length : Int) :: pkL (M n)), by rw [jn_step h.2, hr, List.append_assoc]⟩
theorem jn_up {M : Nat → MT} {n : Nat} (h : okN M n = true) (i : Nat) (hi : i < n) : (jn M (i + 1)).length = (jn M i).length + 1 + (pkL (M i)).length := by
  rw [jn_step (okN_at h i hi)]; simp; omega
theorem jn_mono {M : Nat → MT} {n : Nat} (h : okN M n = true) : ∀ {j i : Nat}, i ≤ j → j ≤ n → (jn M i).length ≤ (jn M j).length
  | 0, i, hi, _ => by have : i = 0 := by omega
                      subst this; exact Nat.le_refl _
  | j + 1, i, hi, hj => by
    by_cases e : i = j + 1
    · subst e; exact Nat.le_refl _
    · have a := jn_mono h (j := j) (i := i) (by omega) (by omega)
      have b := jn_up h j (by omega)
      omega
theorem jn_at {M : Nat → MT} {n : Nat} (h : okN M n = true) (i : Nat) (hi : i < n) : (jn M n).getD (jn M i).length 0 = ((pkL (M i)).length : Int) ∧ ∀ j, j < (pkL (M i)).length → (jn M n).getD ((jn M i).length + 1 + j) 0 = (pkL (M i)).getD j 0 := by
  obtain ⟨r, hr⟩ := jn_split h i hi
  rw [hr, List.append_assoc]
  refine ⟨by simp, fun j hj => ?_⟩
  simp only [List.getD_eq_getElem?_getD]
  rw [List.getElem?_append_right (by omega), show (jn M i).length + 1 + j - (jn M i).length = j + 1 by omega, List.cons_append, List.getElem?_cons_succ, List.getElem?_append_left hj]
/- What SplitMsgs tells of joined messages, cut off anywhere. -/
theorem spl_cut {M : Nat → MT} {n cut : Nat} (h : okN M n = true) (hn : n ≤ 40) (hc : cut ≤ (jn M n).length) : ∀ d i r, i + d = n → (jn M i).length ≤ cut → r + i = 40 →
    ∃ k q, i ≤ k ∧ k ≤ n ∧ (jn M k).length ≤ cut ∧ (k < n → cut < (jn M (k + 1)).length) ∧ (cut = (jn M n).length → q = 0 ∧ k = n) ∧ spl (fun i => (jn M n).getD i 0) cut r (jn M i).length = ((List.range' i (k - i)).map M, (jn M k).length, q)
  | 0, i, r, hd, hl, hr => by
    have e : i = n := by omega
    subst e
    exact ⟨i, 0, Nat.le_refl _, Nat.le_refl _, hl, fun q => absurd q (Nat.lt_irrefl _), fun _ => ⟨rfl, rfl⟩, by rw [spl_end (by omega)]; simp⟩
  | d + 1, i, r, hd, hl, hr => by
    have hi : i < n := by omega
    have up := jn_up h i hi
    have at1 := jn_at h i hi
    have hm := okN_at h i hi
    have p2 := pkL_two (M i)
    have ps := pkL_short hm
    by_cases hcut : (jn M (i + 1)).length ≤ cut
    · obtain ⟨r', rfl⟩ : ∃ r', r = r' + 1 := ⟨r - 1, by omega⟩
      obtain ⟨k, q, h1, h2, h3, h4, h5, h6⟩ := spl_cut h hn hc d (i + 1) r' (by omega) hcut (by omega)
      refine ⟨k, q, by omega, h2, h3, h4, h5, ?_⟩
      have hG : getI (fun i => (jn M n).getD i 0) cut ((jn M i).length : Int) = (((pkL (M i)).length : Int), (((jn M i).length + 1 : Nat) : Int), true) := by
        rw [getI_one (by omega) (by rw [at1.1]; omega) (by rw [at1.1]; omega), at1.1]
      have hU : unp (fun j => (fun i => (jn M n).getD i 0) ((jn M i).length + 1 + j)) (pkL (M i)).length = (0, M i) := by
        rw [← unp_pkL hm]
        refine unp_congr (fun j hj => ?_) (fun j hj => at1.2 j hj)
        show 0 ≤ (jn M n).getD ((jn M i).length + 1 + j) 0
        rw [at1.2 j hj]
        exact (rng_at (pkL_rng hm) j hj).1
      rw [spl_go (by omega) hG (by omega) hU, show (jn M i).length + 1 + (pkL (M i)).length = (jn M (i + 1)).length by omega, h6]
      have ek : k - i = (k - (i + 1)) + 1 := by omega
      rw [ek, List.range'_succ, List.map_cons]
    · refine ⟨i, if (jn M i).length < cut then (if r = 0 then 6 else 1) else 0, Nat.le_refl _, by omega, hl, fun _ => by omega, fun e => by have := jn_mono h (j := n) (i := i + 1) (by omega) (Nat.le_refl _); omega, ?_⟩
      rw [Nat.sub_self]
      by_cases hx : (jn M i).length < cut
      · rw [if_pos hx]
        match r, hr with
        | 0, _ => rw [spl_full hx]; rfl
        | r + 1, _ =>
          have hG : getI (fun i => (jn M n).getD i 0) cut ((jn M i).length : Int) = (((pkL (M i)).length : Int), (((jn M i).length + 1 : Nat) : Int), true) := by
            rw [getI_one (by omega) (by rw [at1.1]; omega) (by rw [at1.1]; omega), at1.1]
          rw [spl_short hx hG (by omega)]
          simp
      · rw [if_neg hx, spl_end hx]
        simp
end Go.Proofs.Ytbflhhifkhoapaa
