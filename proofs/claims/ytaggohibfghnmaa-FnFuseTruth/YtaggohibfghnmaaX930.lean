/- Runs and choices: both ways to the hull tell the same. -/
import Derived.Test.YtaggohibfghnmaaX921
import Derived.WalkKit
import Derived.WalkSpells
import Derived.WalkLawsBesides
import Derived.Deep.RegionHeld
namespace Go.Proofs.Ytaggohibfghnmaa
open Go.RowKit
set_option linter.unusedVariables false
/- How many hold a number, between two turns. -/
section
variable {f : Nat → Int × Int} {n : Nat} {k : Int}
theorem cov_same : ∀ {n : Nat}, allOk f n = true → ∀ {t s : Int}, (∀ i, i < n → (((f i).1 ≤ t ↔ (f i).1 ≤ s) ∧ ((f i).2 + 1 ≤ t ↔ (f i).2 + 1 ≤ s))) → cov f n t = cov f n s
  | 0, _, _, _, _ => rfl
  | n + 1, ho, t, s, h => by
    simp only [allOk, Bool.and_eq_true] at ho
    have ih := cov_same (n := n) ho.1 (t := t) (s := s) (fun i hi => h i (by omega))
    have ⟨h1, h2⟩ := h n (by omega)
    simp only [cov, ih]
    have e : holdsI (f n).1 (f n).2 t = holdsI (f n).1 (f n).2 s := by
      simp only [holdsI, ho.2, Bool.true_and]
      rw [decide_eq_decide]
      omega
    rw [e]
theorem cov_between (ho : allOk f n = true) {j : Nat} (hj : j + 1 < (trn f (2 * n)).length) {t : Int} (h1 : (trn f (2 * n)).getD j 0 ≤ t) (h2 : t < (trn f (2 * n)).getD (j + 1) 0) : cov f n t = cov f n ((trn f (2 * n)).getD j 0) := by
  have key : ∀ x, x ∈ trn f (2 * n) → (x ≤ t ↔ x ≤ (trn f (2 * n)).getD j 0) := fun x hx => by
    obtain ⟨q, hq, e⟩ := List.mem_iff_getElem.1 hx
    have eq : (trn f (2 * n)).getD q 0 = x := by simp [hq, e]
    rw [← eq]
    constructor
    · intro h
      by_cases c : q ≤ j
      · by_cases c2 : q = j
        · subst c2; exact Int.le_refl _
        · have := trn_lt (f := f) (m := 2 * n) (i := q) (j := j) (by omega) (by omega); omega
      · by_cases c2 : q = j + 1
        · subst c2; omega
        · have := trn_lt (f := f) (m := 2 * n) (i := j + 1) (j := q) (by omega) hq; omega
    · intro h; omega
  exact cov_same ho (fun i hi => ⟨key _ (trn_lo hi), key _ (trn_hi hi)⟩)
theorem cov_before (hl : 0 < (trn f (2 * n)).length) {t : Int} (h : t < (trn f (2 * n)).getD 0 0) : cov f n t = 0 := by
  have key : ∀ i, i < n → t < (f i).1 := fun i hi => by
    obtain ⟨q, hq, e⟩ := List.mem_iff_getElem.1 (trn_lo (f := f) hi)
    have eq : (trn f (2 * n)).getD q 0 = (f i).1 := by simp [hq, e]
    by_cases c : q = 0
    · subst c; omega
    · have := trn_lt (f := f) (m := 2 * n) (i := 0) (j := q) (by omega) hq; omega
  clear h hl
  induction n with
  | zero => rfl
  | succ n ih =>
    have h1 := key n (by omega)
    simp only [cov, ih (fun i hi => key i (by omega))]
    rw [if_neg]
    simp only [holdsI, Bool.and_eq_true, decide_eq_true_eq]
    omega
theorem cov_after {j : Nat} (hj : j + 1 = (trn f (2 * n)).length) {t : Int} (h : (trn f (2 * n)).getD j 0 ≤ t) : cov f n t = 0 := by
  refine cov_last fun i hi => ?_
  obtain ⟨q, hq, e⟩ := List.mem_iff_getElem.1 (trn_hi (f := f) hi)
  have eq : (trn f (2 * n)).getD q 0 = (f i).2 + 1 := by simp [hq, e]
  by_cases c : q = j
  · subst c; omega
  · have := trn_lt (f := f) (m := 2 * n) (i := q) (j := j) (by omega) (by omega); omega
/- What the runs say of the numbers up to a place p. -/
structure RInv (f : Nat → Int × Int) (n : Nat) (k : Int) (s : Bool × Int × List (Int × Int)) (p : Int) : Prop where
  beg : s.1 = true → k ≤ (cov f n p : Int) ∧ s.2.1 ≤ p ∧ (∀ t, s.2.1 ≤ t → t ≤ p → k ≤ (cov f n t : Int)) ∧ (cov f n (s.2.1 - 1) : Int) < k
  off : s.1 = false → (cov f n p : Int) < k
  run : ∀ r, r ∈ s.2.2 → (∀ t, r.1 ≤ t → t ≤ r.2 → k ≤ (cov f n t : Int)) ∧ (cov f n (r.1 - 1) : Int) < k ∧ (cov f n (r.2 + 1) : Int) < k
  all : ∀ t, t ≤ p → k ≤ (cov f n t : Int) → (∃ r, r ∈ s.2.2 ∧ r.1 ≤ t ∧ t ≤ r.2) ∨ (s.1 = true ∧ s.2.1 ≤ t)
theorem RInv.step {s : Bool × Int × List (Int × Int)} {p q : Int} (h : RInv f n k s p) (hpq : p < q) (hm : ∀ t, p ≤ t → t < q → cov f n t = cov f n p) : RInv f n k (rstep k s (q, (cov f n q : Int))) q := by
  obtain ⟨s1, s2, s3⟩ := s
  obtain ⟨h1, h2, h3, h4⟩ := h
  simp only at h1 h2 h3 h4
  by_cases hk : k ≤ (cov f n q : Int)
  · cases s1
    · have e : rstep k (false, s2, s3) (q, (cov f n q : Int)) = (true, q, s3) := by simp [rstep, hk]
      rw [e]
      have ho := h2 rfl
      have hq1 : cov f n (q - 1) = cov f n p := hm _ (by omega) (by omega)
      refine ⟨fun _ => ⟨hk, Int.le_refl _, fun t a b => ?_, ?_⟩, fun e => by simp at e, h3, fun t ht hc => ?_⟩
      · have : t = q := by simp only at a b; omega
        subst this; exact hk
      · simp only; rw [hq1]; exact ho
      · by_cases c : t ≤ p
        · rcases h4 t c hc with c2 | ⟨c2, _⟩
          · exact .inl c2
          · simp at c2
        · by_cases c2 : t < q
          · rw [hm t (by omega) c2] at hc; omega
          · exact .inr ⟨rfl, by simp only; omega⟩
    · have e : rstep k (true, s2, s3) (q, (cov f n q : Int)) = (true, s2, s3) := by
        have : ¬ (cov f n q : Int) < k := by omega
        simp [rstep, this]
      rw [e]
      obtain ⟨a1, a2, a3, a4⟩ := h1 rfl
      have hin : ∀ t, s2 ≤ t → t ≤ q → k ≤ (cov f n t : Int) := fun t b1 b2 => by
        by_cases c : t ≤ p
        · exact a3 t b1 c
        · by_cases c2 : t < q
          · rw [hm t (by omega) c2]; exact a1
          · have : t = q := by omega
            subst this; exact hk
      refine ⟨fun _ => ⟨hk, by simp only; omega, hin, a4⟩, fun e => by simp at e, h3, fun t ht hc => ?_⟩
      by_cases c : t ≤ p
      · exact h4 t c hc
      · exact .inr ⟨rfl, by simp only; omega⟩
  · have hlt : (cov f n q : Int) < k := by omega
    cases s1
    · have e : rstep k (false, s2, s3) (q, (cov f n q : Int)) = (false, s2, s3) := by simp [rstep, hk]
      rw [e]
      have ho := h2 rfl
      refine ⟨fun e => by simp at e, fun _ => hlt, h3, fun t ht hc => ?_⟩
      by_cases c : t ≤ p
      · exact h4 t c hc
      · by_cases c2 : t < q
        · rw [hm t (by omega) c2] at hc; omega
        · have : t = q := by omega
          subst this; omega
    · have e : rstep k (true, s2, s3) (q, (cov f n q : Int)) = (false, s2, s3 ++ [(s2, q - 1)]) := by simp [rstep, hlt]
      rw [e]
      obtain ⟨a1, a2, a3, a4⟩ := h1 rfl
      have hin : ∀ t, s2 ≤ t → t ≤ q - 1 → k ≤ (cov f n t : Int) := fun t b1 b2 => by
        by_cases c : t ≤ p
        · exact a3 t b1 c
        · rw [hm t (by omega) (by omega)]; exact a1
      refine ⟨fun e => by simp at e, fun _ => hlt, fun r hr => ?_, fun t ht hc => ?_⟩
      · simp only [List.mem_append, List.mem_singleton] at hr
        rcases hr with hr | rfl
        · exact h3 r hr
        · exact ⟨hin, a4, by simp only [Int.sub_add_cancel]; exact hlt⟩
      · by_cases c : t < q
        · by_cases c2 : t ≤ p
          · rcases h4 t c2 hc with ⟨r, hr, b⟩ | ⟨_, b⟩
            · exact .inl ⟨r, List.mem_append_left _ hr, b⟩
            · exact .inl ⟨(s2, q - 1), by simp, b, by simp only; omega⟩
          · exact .inl ⟨(s2, q - 1), by simp, by simp only; omega, by simp only; omega⟩
        · have : t = q := by omega
          subst this; omega
theorem rinv_at (ho : allOk f n = true) (h1 : 1 ≤ k) : ∀ {j : Nat}, j < (trn f (2 * n)).length → RInv f n k (rst k ((trs f n).take (j + 1))) ((trn f (2 * n)).getD j 0)
  | 0, hj => by
    have h0 : 0 < (trs f n).length := by rw [trs_len]; exact hj
    rw [take_add _ h0 (0, 0), rst_add, trs_at hj]
    have hz : ∀ t, t < (trn f (2 * n)).getD 0 0 → cov f n t = 0 := fun t ht => cov_before hj ht
    refine RInv.step (p := (trn f (2 * n)).getD 0 0 - 1) ⟨fun e => by simp [rst] at e, fun _ => by rw [hz _ (by omega)]; omega, fun r hr => by simp [rst] at hr, fun t ht hc => by rw [hz _ (by omega)] at hc; omega⟩ (by omega) (fun t a b => by rw [hz _ b, hz _ (by omega)])
  | j + 1, hj => by
    have h0 : j + 1 < (trs f n).length := by rw [trs_len]; exact hj
    rw [take_add _ h0 (0, 0), rst_add, trs_at hj]
    exact RInv.step (rinv_at ho h1 (j := j) (by omega)) (trn_lt (by omega) hj) (fun t a b => cov_between ho hj a b)
theorem rns_in (ho : allOk f n = true) (h1 : 1 ≤ k) : (∀ r, r ∈ rns f n k → (∀ t, r.1 ≤ t → t ≤ r.2 → k ≤ (cov f n t : Int)) ∧ (cov f n (r.1 - 1) : Int) < k ∧ (cov f n (r.2 + 1) : Int) < k) ∧ ∀ t, k ≤ (cov f n t : Int) → ∃ r, r ∈ rns f n k ∧ r.1 ≤ t ∧ t ≤ r.2 := by
  by_cases h0 : trn f (2 * n) = []
  · have hn : n = 0 := by
      by_cases c : n = 0
      · exact c
      · have := trn_lo (f := f) (n := n) (i := 0) (by omega)
        rw [h0] at this; simp at this
    subst hn
    rw [rns_none h0]
    exact ⟨fun r hr => by simp at hr, fun t ht => by simp [cov] at ht; omega⟩
  · have hp := List.length_pos_iff.2 h0
    have hv := rinv_at (k := k) ho h1 (j := (trn f (2 * n)).length - 1) (by omega)
    rw [List.take_of_length_le (by rw [trs_len]; omega)] at hv
    refine ⟨hv.run, fun t ht => ?_⟩
    have hj : (trn f (2 * n)).length - 1 + 1 = (trn f (2 * n)).length := by omega
    by_cases c : t ≤ (trn f (2 * n)).getD ((trn f (2 * n)).length - 1) 0
    · rcases hv.all t c ht with h | ⟨hb, _⟩
      · exact h
      · have := (hv.beg hb).1
        rw [trn_top hj] at this
        omega
    · rw [cov_after hj (by omega)] at ht; omega
/- The hull of the runs: from the first number to the last one that so many hold. -/
theorem hull_in (ho : allOk f n = true) (h1 : 1 ≤ k) (hne : 0 < (rns f n k).length) : k ≤ (cov f n (hlL (rns f n k)) : Int) ∧ k ≤ (cov f n (hlH (rns f n k)) : Int) ∧ (cov f n (hlL (rns f n k) - 1) : Int) < k ∧ (cov f n (hlH (rns f n k) + 1) : Int) < k ∧ ∀ t, k ≤ (cov f n t : Int) → hlL (rns f n k) ≤ t ∧ t ≤ hlH (rns f n k) := by
  obtain ⟨ha, hb⟩ := rns_in (k := k) ho h1
  obtain ⟨hp, hk⟩ := rns_ok (k := k) ho
  generalize rns f n k = L at *
  have mem : ∀ i, i < L.length → L.getD i (0, 0) ∈ L := fun i hi => by
    rw [List.getD_eq_getElem?_getD, List.getElem?_eq_getElem hi]; exact List.getElem_mem hi
  have m0 := ha _ (mem 0 hne)
  have m1 := ha _ (mem (L.length - 1) (by omega))
  have o0 := okI_t (ok_at hk hne)
  have o1 := okI_t (ok_at hk (i := L.length - 1) (by omega))
  refine ⟨m0.1 _ (Int.le_refl _) o0.1, m1.1 _ o1.1 (Int.le_refl _), m0.2.1, m1.2.2, fun t ht => ?_⟩
  obtain ⟨r, hr, r1, r2⟩ := hb t ht
  obtain ⟨q, hq, e⟩ := List.mem_iff_getElem.1 hr
  have eq : L.getD q (0, 0) = r := by simp [hq, e]
  rw [← eq] at r1 r2
  unfold hlL hlH
  constructor
  · by_cases c : q = 0
    · subst c; exact r1
    · have := asc_at hp (i := 0) (j := q) (by omega) hq; omega
  · by_cases c : q = L.length - 1
    · subst c; exact r2
    · have := asc_at hp (i := q) (j := L.length - 1) (by omega) (by omega); omega
/- Choices. -/
theorem cov_more (f : Nat → Int × Int) (t : Int) {i : Nat} : ∀ {n : Nat}, i ≤ n → cov f i t ≤ cov f n t ∧ cov f n t ≤ cov f i t + (n - i)
  | 0, h => by have : i = 0 := by omega
               subst this; simp
  | n + 1, h => by
    by_cases c : i = n + 1
    · subst c; simp
    · have ⟨h1, h2⟩ := cov_more f t (i := i) (n := n) (by omega)
      simp only [cov]
      split <;> omega
theorem first_hold (f : Nat → Int × Int) (t : Int) {i : Nat} : ∀ {n : Nat}, i ≤ n → cov f i t < cov f n t → ∃ d, i ≤ d ∧ d < n ∧ holdsI (f d).1 (f d).2 t = true ∧ cov f d t = cov f i t
  | 0, h, hc => by have : i = 0 := by omega
                   subst this; omega
  | n + 1, h, hc => by
    by_cases c : i = n + 1
    · subst c; omega
    · by_cases c2 : cov f i t < cov f n t
      · obtain ⟨d, a, b, e⟩ := first_hold f t (i := i) (n := n) (by omega) c2
        exact ⟨d, a, by omega, e⟩
      · have := (cov_more f t (i := i) (n := n) (by omega)).1
        simp only [cov] at hc
        split at hc
        · next hh => exact ⟨n, by omega, by omega, hh, by omega⟩
        · omega
theorem imn_cases (x y : Int) : (imn x y = x ∧ x ≤ y) ∨ (imn x y = y ∧ y ≤ x) := by unfold imn; split <;> omega
theorem imx_cases (x y : Int) : (imx x y = x ∧ y ≤ x) ∨ (imx x y = y ∧ x ≤ y) := by unfold imx; split <;> omega
/- What a hull H has of h, the numbers of met and how many of the sources from i on hold them. -/
structure CInv (f : Nat → Int × Int) (n : Nat) (k : Nat) (i : Nat) (met h H : Int × Int) : Prop where
  mono : H.1 ≤ h.1 ∧ h.2 ≤ H.2
  lo : H.1 = h.1 ∨ (met.1 ≤ H.1 ∧ H.1 ≤ met.2 ∧ cov f i H.1 + k ≤ cov f n H.1)
  hi : H.2 = h.2 ∨ (met.1 ≤ H.2 ∧ H.2 ≤ met.2 ∧ cov f i H.2 + k ≤ cov f n H.2)
theorem chs_in (ho : ∀ d, d < n → okI (f d).1 (f d).2 = true) : ∀ (k i : Nat) (met h : Int × Int), i ≤ n → okI met.1 met.2 = true → CInv f n k i met h (chs f n k i met h) ∧ ∀ t, met.1 ≤ t → t ≤ met.2 → cov f i t + k ≤ cov f n t → (chs f n k i met h).1 ≤ t ∧ t ≤ (chs f n k i met h).2
  | 0, i, met, h, hi, hm => by
    rw [chs_zero]
    have ⟨o1, o2, o3⟩ := okI_t hm
    have c1 := (cov_more f met.1 hi).1
    have c2 := (cov_more f met.2 hi).1
    unfold jn
    rcases imn_cases h.1 met.1 with ⟨e1, e2⟩ | ⟨e1, e2⟩ <;> rcases imx_cases h.2 met.2 with ⟨e3, e4⟩ | ⟨e3, e4⟩ <;> simp only [e1, e3] <;>
      refine ⟨⟨⟨by (try simp only); omega, by (try simp only); omega⟩, ?_, ?_⟩, fun t a b _ => ⟨by (try simp only); omega, by (try simp only); omega⟩⟩ <;>
      first | exact .inl rfl | exact .inr ⟨by (try simp only); omega, by (try simp only); omega, by simpa using c1⟩ | exact .inr ⟨by (try simp only); omega, by (try simp only); omega, by simpa using c2⟩
  | k + 1, i, met, h, hi, hm => by
    have ⟨o1, o2, o3⟩ := okI_t hm
    have key : ∀ j, j ≤ n - k - i → CInv f n (k + 1) i met h (chJ f n k i met h j) ∧ ∀ d, d < j → ∀ t, met.1 ≤ t → t ≤ met.2 → holdsI (f (i + d)).1 (f (i + d)).2 t = true → cov f (i + d + 1) t + k ≤ cov f n t → (chJ f n k i met h j).1 ≤ t ∧ t ≤ (chJ f n k i met h j).2 := by
      intro j
      induction j with
      | zero =>
        intro _
        rw [chJ_zero]
        exact ⟨⟨⟨Int.le_refl _, Int.le_refl _⟩, .inl rfl, .inl rfl⟩, fun d hd => absurd hd (Nat.not_lt_zero _)⟩
      | succ j ih =>
        intro hj
        obtain ⟨ic, ia⟩ := ih (by omega)
        rw [chJ_succ]
        generalize chJ f n k i met h j = X at *
        have hq := ho (i + j) (by omega)
        have ⟨q1, q2, q3⟩ := okI_t hq
        have hmt : ∀ t, (mt met (f (i + j))).1 ≤ t ∧ t ≤ (mt met (f (i + j))).2 ↔ (met.1 ≤ t ∧ t ≤ met.2) ∧ ((f (i + j)).1 ≤ t ∧ t ≤ (f (i + j)).2) := fun t => by
          unfold mt
          rcases imx_cases met.1 (f (i + j)).1 with ⟨e1, e2⟩ | ⟨e1, e2⟩ <;> rcases imn_cases met.2 (f (i + j)).2 with ⟨e3, e4⟩ | ⟨e3, e4⟩ <;> simp only [e1, e3] <;> omega
        have hstep : ∀ t, ((f (i + j)).1 ≤ t ∧ t ≤ (f (i + j)).2) → cov f (i + j + 1) t = cov f (i + j) t + 1 := fun t ht => by
          simp only [cov]
          rw [if_pos]
          simp only [holdsI, hq, Bool.true_and, decide_eq_true_eq]; exact ht
        unfold chA
        by_cases hok : okI (mt met (f (i + j))).1 (mt met (f (i + j))).2 = true
        · rw [if_pos hok]
          obtain ⟨rc, ra⟩ := chs_in ho k (i + j + 1) (mt met (f (i + j))) X (by omega) hok
          generalize chs f n k (i + j + 1) (mt met (f (i + j))) X = Y at *
          obtain ⟨⟨r1, r2⟩, r3, r4⟩ := rc
          obtain ⟨⟨a1, a2⟩, a3, a4⟩ := ic
          have lift : ∀ t, (mt met (f (i + j))).1 ≤ t → t ≤ (mt met (f (i + j))).2 → cov f (i + j + 1) t + k ≤ cov f n t → met.1 ≤ t ∧ t ≤ met.2 ∧ cov f i t + (k + 1) ≤ cov f n t := fun t b1 b2 b3 => by
            have ⟨c1, c2⟩ := (hmt t).1 ⟨b1, b2⟩
            have := hstep t c2
            have := (cov_more f t (i := i) (n := i + j) (by omega)).1
            exact ⟨c1.1, c1.2, by omega⟩
          refine ⟨⟨⟨by omega, by omega⟩, ?_, ?_⟩, fun d hd t t1 t2 t3 t4 => ?_⟩
          · rcases r3 with r3 | ⟨b1, b2, b3⟩
            · rw [r3]; exact a3
            · exact .inr (lift _ b1 b2 b3)
          · rcases r4 with r4 | ⟨b1, b2, b3⟩
            · rw [r4]; exact a4
            · exact .inr (lift _ b1 b2 b3)
          · by_cases c : d = j
            · subst c
              simp only [holdsI, hq, Bool.true_and, decide_eq_true_eq] at t3
              have := (hmt t).2 ⟨⟨t1, t2⟩, t3⟩
              exact ra t this.1 this.2 t4
            · have ⟨b1, b2⟩ := ia d (by omega) t t1 t2 t3 t4
              omega
        · rw [if_neg hok]
          have hno : ∀ t, ¬ ((mt met (f (i + j))).1 ≤ t ∧ t ≤ (mt met (f (i + j))).2) := fun t ht => by
            have h2 := okI_f (by simpa using hok)
            have ⟨c1, c2⟩ := (hmt t).1 ht
            have b1 : -1000000000000 ≤ (mt met (f (i + j))).1 := by unfold mt; rcases imx_cases met.1 (f (i + j)).1 with ⟨e, _⟩ | ⟨e, _⟩ <;> simp only [e] <;> omega
            have b2 : (mt met (f (i + j))).2 ≤ 1000000000000 := by unfold mt; rcases imn_cases met.2 (f (i + j)).2 with ⟨e, _⟩ | ⟨e, _⟩ <;> simp only [e] <;> omega
            exact h2 ⟨by omega, b1, b2⟩
          refine ⟨ic, fun d hd t t1 t2 t3 t4 => ?_⟩
          by_cases c : d = j
          · subst c
            simp only [holdsI, hq, Bool.true_and, decide_eq_true_eq] at t3
            exact absurd ((hmt t).2 ⟨⟨t1, t2⟩, t3⟩) (hno t)
          · exact ia d (by omega) t t1 t2 t3 t4
    rw [chs_succ]
    obtain ⟨kc, ka⟩ := key (n - k - i) (Nat.le_refl _)
    refine ⟨kc, fun t t1 t2 t3 => ?_⟩
    obtain ⟨d, d1, d2, d3, d4⟩ := first_hold f t hi (by omega)
    have hc : cov f (d + 1) t = cov f d t + 1 := by simp [cov, d3]
    have hb := (cov_more f t (i := d + 1) (n := n) (by omega)).2
    have := ka (d - i) (by omega) t t1 t2
    rw [show i + (d - i) = d by omega] at this
    exact this d3 (by omega)
end
theorem cov_hold {f : Nat → Int × Int} {t : Int} : ∀ {n : Nat}, 0 < cov f n t → ∃ d, d < n ∧ holdsI (f d).1 (f d).2 t = true := fun {n} h => by
  obtain ⟨d, _, h2, h3, _⟩ := first_hold f t (i := 0) (n := n) (Nat.zero_le _) (by simpa [cov] using h)
  exact ⟨d, h2, h3⟩
/- Both ways to the hull tell the same. -/
theorem hull_same (f : Nat → Int × Int) (n : Nat) (k : Int) : okI (hbS f n k).1 (hbS f n k).2 = hlB (rnL f n k) ∧ sel (okI (hbS f n k).1 (hbS f n k).2) (hbS f n k).1 = hlL (rnL f n k) ∧ sel (okI (hbS f n k).1 (hbS f n k).2) (hbS f n k).2 = hlH (rnL f n k) := by
  by_cases hg : srcB f n = true ∧ 1 ≤ k
  · obtain ⟨hs, h1⟩ := hg
    have ⟨hn, ho⟩ := srcB_le hs
    rw [hbS_yes hs h1, rnL_t hs h1]
    have hin := chs_in (n := n) (allOk_at ho) k.toNat 0 (-1000000000000, 1000000000000) (1000000000000, -1000000000000) (Nat.zero_le _) (by decide)
    obtain ⟨⟨hm, hl, hh⟩, hall⟩ := hin
    generalize chs f n k.toNat 0 (-1000000000000, 1000000000000) (1000000000000, -1000000000000) = H at *
    obtain ⟨Hl, Hh⟩ := H
    simp only [cov, Nat.zero_add] at hm hl hh hall ⊢
    have bd : ∀ t, k.toNat ≤ cov f n t → -1000000000000 ≤ t ∧ t ≤ 1000000000000 := fun t ht => by
      obtain ⟨d, h2, h3⟩ := cov_hold (f := f) (t := t) (n := n) (by omega)
      have ⟨a, b, c⟩ := okI_t (allOk_at ho d h2)
      simp only [holdsI, Bool.and_eq_true, decide_eq_true_eq] at h3
      omega
    by_cases hne : 0 < (rns f n k).length
    · obtain ⟨c1, c2, -, -, c5⟩ := hull_in ho h1 hne
      have a1 := hall _ (bd _ (by omega)).1 (bd _ (by omega)).2 (show k.toNat ≤ cov f n (hlL (rns f n k)) by omega)
      have a2 := hall _ (bd _ (by omega)).1 (bd _ (by omega)).2 (show k.toNat ≤ cov f n (hlH (rns f n k)) by omega)
      have b1 := bd _ (show k.toNat ≤ cov f n (hlL (rns f n k)) by omega)
      have b2 := bd _ (show k.toNat ≤ cov f n (hlH (rns f n k)) by omega)
      have eL : Hl = hlL (rns f n k) := by
        rcases hl with hl | ⟨_, _, hl⟩
        · have e9 : hlL (rns f n k) = Hl := by omega
          exact e9.symm
        · have := (c5 Hl (by omega)).1; omega
      have eH : Hh = hlH (rns f n k) := by
        rcases hh with hh | ⟨_, _, hh⟩
        · omega
        · have := (c5 Hh (by omega)).2; omega
      have hok : okI Hl Hh = true := decide_eq_true ⟨by omega, by omega, by omega⟩
      rw [hok]
      exact ⟨by simp [hlB, hne], by simpa [sel] using eL, by simpa [sel] using eH⟩
    · have e0 : rns f n k = [] := List.length_eq_zero_iff.1 (by omega)
      have hno : ∀ t, ¬ k.toNat ≤ cov f n t := fun t ht => by
        obtain ⟨r, hr, _⟩ := (rns_in (k := k) ho h1).2 t (by omega)
        rw [e0] at hr; simp at hr
      have eL : Hl = 1000000000000 := by
        rcases hl with hl | ⟨_, _, hl⟩
        · exact hl
        · exact absurd hl (hno _)
      have eH : Hh = -1000000000000 := by
        rcases hh with hh | ⟨_, _, hh⟩
        · exact hh
        · exact absurd hh (hno _)
      subst eL; subst eH
      rw [e0]
      exact ⟨rfl, rfl, rfl⟩
  · rw [hbS_no hg]
    have e : rnL f n k = [] := if_neg hg
    rw [e]
    exact ⟨rfl, rfl, rfl⟩
end Go.Proofs.Ytaggohibfghnmaa
