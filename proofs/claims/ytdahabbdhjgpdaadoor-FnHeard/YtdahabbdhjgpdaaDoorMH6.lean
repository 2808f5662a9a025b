/- Numbers of FnHeard. What FnHeard asks, of numbers alone. What the draws leave: times, intervals, the new cursor. What the draws leave: times, intervals, the new cursor. A struct of two ints in a block: what keeps it. What the draws of chapter 2 leave: a drift, a count. What the draws of numbers of chapter 4 leave. The draw of what was heard. OwnersOf in the specification. PlanMoved in the specification. Plans beside the cursor; the draw of a plan. -/
import Derived.Test.YtdahabbdhjgpdaaDoorMH5
import Derived.WalkKit
import Derived.WalkSpells
import Derived.WalkLawsBesides
import Derived.Deep.RegionHeld
import Derived.Test.YtdahabbdhjgpdaaDoorMH1
import Derived.Deep.QuietTactic
import Derived.BigQuiet
import Derived.Test.YtdahabbdhjgpdaaDoorMH2
import Derived.Deep.RegionHeld3
import Derived.Test.YtdahabbdhjgpdaaDoorMH3
import Derived.Deep.DeepAppendRoom
namespace Go.Proofs.YtdahabbdhjgpdaaDoor
open Go.RowKit
set_option linter.unusedVariables false
/- Numbers of FnHeard: what is heard behind a frame is right, has the frame's slot once, and the slot is lost once more than a round has gone by. -/
def HAsc (L : List VT) : Prop := L.Pairwise (fun a b => a.1 < b.1)
theorem asc_snoc {L : List VT} {y : VT} (h : HAsc L) (hy : ∀ x ∈ L, x.1 < y.1) : HAsc (L ++ [y]) := by
  unfold HAsc at h ⊢
  rw [List.pairwise_append]
  exact ⟨h, List.pairwise_singleton _ _, fun a ha b hb => by rw [List.mem_singleton] at hb; subst hb; exact hy a ha⟩
structure HInv (M : Nat → VT) (sl ct : Int) (k : Nat) : Prop where
  asc : HAsc (hpS M sl ct k).2
  ok : ∀ x ∈ (hpS M sl ct k).2, hrO x = true
  low : ∀ x ∈ (hpS M sl ct k).2, ∃ j, j < k ∧ x.1 ≤ (M j).1
  yes : (hpS M sl ct k).1 = true → (sl, ct) ∈ (hpS M sl ct k).2
  no : (hpS M sl ct k).1 = false → ∀ x ∈ (hpS M sl ct k).2, x.1 < sl
  one : ∀ x ∈ (hpS M sl ct k).2, x.1 = sl → x = (sl, ct)
theorem hInv {M : Nat → VT} {n : Nat} {sl ct : Int} (h : hrA M n = true) (hs : hrO (sl, ct) = true) : ∀ k, k ≤ n → HInv M sl ct k
  | 0, _ => ⟨List.Pairwise.nil, fun x hx => (by cases hx), fun x hx => (by cases hx), fun h => (by cases h), fun _ x hx => (by cases hx), fun x hx => (by cases hx)⟩
  | k + 1, hk => by
    have I := hInv (M := M) (sl := sl) (ct := ct) h hs k (by omega)
    have hMk := (hrA_at h (show k < n by omega)).1
    have hlt : ∀ x ∈ (hpS M sl ct k).2, x.1 < (M k).1 := fun x hx => by
      obtain ⟨j, hj, hx1⟩ := I.low x hx
      have := hr_asc h hj (show k < n by omega)
      omega
    obtain ⟨e1, e2⟩ := hpS_snoc M sl ct k _ _ rfl rfl
    generalize hLr : (hpS M sl ct k).2 = Lr at *
    generalize hpp : (hpS M sl ct k).1 = pp at *
    have iasc := I.asc
    have iok := I.ok
    have ilow := I.low
    have iyes := I.yes
    have ino := I.no
    have ione := I.one
    rw [hLr] at iasc iok ilow iyes ino ione
    rw [hpp] at iyes ino
    cases pp
    · by_cases h8 : sl ≤ (M k).1
      · by_cases h9 : (M k).1 = sl
        · have eL : (hpS M sl ct (k + 1)).2 = Lr ++ [(sl, ct)] := by rw [e2, decide_eq_true h8, decide_eq_true h9]; simp
          have eP : (hpS M sl ct (k + 1)).1 = true := by rw [e1, decide_eq_true h8]; rfl
          constructor
          · rw [eL]; exact asc_snoc iasc (ino rfl)
          · rw [eL]; intro x hx; rw [List.mem_append, List.mem_singleton] at hx; rcases hx with r | r; exact iok x r; rw [r]; exact hs
          · rw [eL]; intro x hx; rw [List.mem_append, List.mem_singleton] at hx
            rcases hx with r | r
            · obtain ⟨j, hj, q⟩ := ilow x r; exact ⟨j, by omega, q⟩
            · exact ⟨k, by omega, by rw [r]; exact h8⟩
          · rw [eL]; intro _; simp
          · rw [eP]; intro q; cases q
          · rw [eL]; intro x hx; rw [List.mem_append, List.mem_singleton] at hx; rcases hx with r | r; exact ione x r; intro _; exact r
        · have eL : (hpS M sl ct (k + 1)).2 = (Lr ++ [(sl, ct)]) ++ [M k] := by rw [e2, decide_eq_true h8, decide_eq_false h9]; rfl
          have eP : (hpS M sl ct (k + 1)).1 = true := by rw [e1, decide_eq_true h8]; rfl
          constructor
          · rw [eL]; refine asc_snoc (asc_snoc iasc (ino rfl)) fun x hx => ?_
            rw [List.mem_append, List.mem_singleton] at hx
            rcases hx with r | r
            · exact hlt x r
            · rw [r]; show sl < (M k).1; omega
          · rw [eL]; intro x hx; simp only [List.mem_append, List.mem_singleton] at hx; rcases hx with (r | r) | r; exact iok x r; rw [r]; exact hs; rw [r]; exact hMk
          · rw [eL]; intro x hx; simp only [List.mem_append, List.mem_singleton] at hx
            rcases hx with (r | r) | r
            · obtain ⟨j, hj, q⟩ := ilow x r; exact ⟨j, by omega, q⟩
            · exact ⟨k, by omega, by rw [r]; exact h8⟩
            · exact ⟨k, by omega, by rw [r]; exact Int.le_refl _⟩
          · rw [eL]; intro _; simp
          · rw [eP]; intro q; cases q
          · rw [eL]; intro x hx; simp only [List.mem_append, List.mem_singleton] at hx; rcases hx with (r | r) | r; exact ione x r; intro _; exact r; intro q; rw [r] at q; exact absurd q h9
      · have h9 : ¬ (M k).1 = sl := by omega
        have eL : (hpS M sl ct (k + 1)).2 = Lr ++ [M k] := by rw [e2, decide_eq_false h8, decide_eq_false h9]; simp
        have eP : (hpS M sl ct (k + 1)).1 = false := by rw [e1, decide_eq_false h8]; rfl
        constructor
        · rw [eL]; exact asc_snoc iasc hlt
        · rw [eL]; intro x hx; rw [List.mem_append, List.mem_singleton] at hx; rcases hx with r | r; exact iok x r; rw [r]; exact hMk
        · rw [eL]; intro x hx; rw [List.mem_append, List.mem_singleton] at hx
          rcases hx with r | r
          · obtain ⟨j, hj, q⟩ := ilow x r; exact ⟨j, by omega, q⟩
          · exact ⟨k, by omega, by rw [r]; exact Int.le_refl _⟩
        · rw [eP]; intro q; cases q
        · rw [eL]; intro _ x hx; rw [List.mem_append, List.mem_singleton] at hx; rcases hx with r | r; exact ino rfl x r; rw [r]; omega
        · rw [eL]; intro x hx; rw [List.mem_append, List.mem_singleton] at hx; rcases hx with r | r; exact ione x r; intro q; rw [r] at q; exact absurd q h9
    · have eP : (hpS M sl ct (k + 1)).1 = true := by rw [e1]; rfl
      by_cases h9 : (M k).1 = sl
      · have eL : (hpS M sl ct (k + 1)).2 = Lr := by rw [e2, decide_eq_true h9]; simp
        constructor
        · rw [eL]; exact iasc
        · rw [eL]; exact iok
        · rw [eL]; intro x hx; obtain ⟨j, hj, q⟩ := ilow x hx; exact ⟨j, by omega, q⟩
        · rw [eL]; intro _; exact iyes rfl
        · rw [eP]; intro q; cases q
        · rw [eL]; exact ione
      · have eL : (hpS M sl ct (k + 1)).2 = Lr ++ [M k] := by rw [e2, decide_eq_false h9]; simp
        constructor
        · rw [eL]; exact asc_snoc iasc hlt
        · rw [eL]; intro x hx; rw [List.mem_append, List.mem_singleton] at hx; rcases hx with r | r; exact iok x r; rw [r]; exact hMk
        · rw [eL]; intro x hx; rw [List.mem_append, List.mem_singleton] at hx
          rcases hx with r | r
          · obtain ⟨j, hj, q⟩ := ilow x r; exact ⟨j, by omega, q⟩
          · exact ⟨k, by omega, by rw [r]; exact Int.le_refl _⟩
        · rw [eL]; intro _; rw [List.mem_append]; exact .inl (iyes rfl)
        · rw [eP]; intro q; cases q
        · rw [eL]; intro x hx; rw [List.mem_append, List.mem_singleton] at hx; rcases hx with r | r; exact ione x r; intro q; rw [r] at q; exact absurd q h9
theorem hp_facts {M : Nat → VT} {n : Nat} {sl ct : Int} (h : hrA M n = true) (hs : hrO (sl, ct) = true) : HAsc (hpL M n sl ct) ∧ (∀ x ∈ hpL M n sl ct, hrO x = true) ∧ (sl, ct) ∈ hpL M n sl ct ∧ ∀ x ∈ hpL M n sl ct, x.1 = sl → x = (sl, ct) := by
  have I := hInv h hs n (Nat.le_refl _)
  unfold hpL
  cases hp : (hpS M sl ct n).1
  · simp only
    refine ⟨asc_snoc I.asc (I.no hp), fun x hx => ?_, by simp, fun x hx => ?_⟩
    · rw [List.mem_append, List.mem_singleton] at hx; rcases hx with r | r; exact I.ok x r; rw [r]; exact hs
    · rw [List.mem_append, List.mem_singleton] at hx; rcases hx with r | r; exact I.one x r; intro _; exact r
  · simp only [List.append_nil]
    exact ⟨I.asc, I.ok, I.yes hp, I.one⟩
theorem gV_at {L : List VT} {i : Nat} (h : i < L.length) : gV L i = L[i] := by unfold gV; simp [List.getD, h]
theorem asc_at {L : List VT} (h : HAsc L) {i j : Nat} (hij : i < j) (hj : j < L.length) : (gV L i).1 < (gV L j).1 := by
  rw [gV_at hj, gV_at (by omega)]
  exact List.pairwise_iff_getElem.1 h i j (by omega) hj hij
theorem asc_hrA {L : List VT} (h : HAsc L) (ho : ∀ x ∈ L, hrO x = true) : ∀ k, k ≤ L.length → hrA (gV L) k = true
  | 0, _ => rfl
  | k + 1, hk => by
    rw [hrA, asc_hrA h ho k (by omega), ho _ (by rw [gV_at (by omega)]; exact List.getElem_mem _)]
    by_cases e : k = 0
    · rw [decide_eq_true e]; rfl
    · rw [decide_eq_false e, decide_eq_true (asc_at h (show k - 1 < k by omega) (by omega))]; rfl
theorem asc_lenV {L : List VT} (h : HAsc L) (ho : ∀ x ∈ L, hrO x = true) : L.length ≤ 16 := by
  have key : ∀ k, k < L.length → (k : Int) ≤ (gV L k).1 := by
    intro k
    induction k with
    | zero => intro hk; have := (hrO_t (ho (gV L 0) (by rw [gV_at hk]; exact List.getElem_mem _))).1.1; simpa using this
    | succ k ih => intro hk; have h1 := ih (by omega); have h2 := asc_at h (show k < k + 1 by omega) hk; omega
  rcases Nat.lt_or_ge 16 L.length with q | q
  · have h1 := key 16 q
    have h2 := (hrO_t (ho (gV L 16) (by rw [gV_at q]; exact List.getElem_mem _))).1.2
    omega
  · exact q
theorem asc_hrB {L : List VT} (h : HAsc L) (ho : ∀ x ∈ L, hrO x = true) : hrB (gV L) L.length = true := by
  unfold hrB
  rw [decide_eq_true (asc_lenV h ho), asc_hrA h ho _ (Nat.le_refl _)]; rfl
theorem mem_at {L : List VT} {x : VT} (h : x ∈ L) : ∃ i, i < L.length ∧ gV L i = x := by
  obtain ⟨i, hi, e⟩ := List.mem_iff_getElem.1 h
  exact ⟨i, hi, by rw [gV_at hi]; exact e⟩
theorem at_mem {L : List VT} {i : Nat} (h : i < L.length) : gV L i ∈ L := by rw [gV_at h]; exact List.getElem_mem _
/- Whether a number is in a list. -/
theorem hasJ_mem (L : List Int) (x : Int) : hasJ (gI L) x L.length = true ↔ x ∈ L := by
  constructor
  · intro h
    obtain ⟨k, hk, e⟩ := hasJ_t h
    rw [← e]
    unfold gI
    rw [show L.getD k 0 = L[k] by simp [List.getD, hk]]
    exact List.getElem_mem _
  · intro h
    obtain ⟨k, hk, e⟩ := List.mem_iff_getElem.1 h
    refine hasJ_yes (k := k) ?_ hk
    unfold gI
    rw [show L.getD k 0 = L[k] by simp [List.getD, hk]]
    exact e
theorem fiL_mem {P : Nat → Bool} {g : Nat → Int} {x : Int} : ∀ {n : Nat}, x ∈ fiL P g n ↔ ∃ i, i < n ∧ P i = true ∧ g i = x
  | 0 => by simp [fiL]
  | n + 1 => by
    cases h : P n
    · rw [fiL_no h, fiL_mem]
      constructor
      · rintro ⟨i, hi, q⟩
        exact ⟨i, by omega, q⟩
      · rintro ⟨i, hi, q1, q2⟩
        rcases Nat.lt_or_ge i n with r | r
        · exact ⟨i, r, q1, q2⟩
        · have : i = n := by omega
          subst this
          rw [h] at q1
          cases q1
    · rw [fiL_yes h, List.mem_append, List.mem_singleton, fiL_mem]
      constructor
      · rintro (⟨i, hi, q⟩ | q)
        · exact ⟨i, by omega, q⟩
        · exact ⟨n, by omega, h, q.symm⟩
      · rintro ⟨i, hi, q1, q2⟩
        rcases Nat.lt_or_ge i n with r | r
        · exact .inl ⟨i, r, q1, q2⟩
        · have : i = n := by omega
          subst this; exact .inr q2.symm
theorem slJ_fiL (P : Nat → Bool) : ∀ n, slJ P n = fiL P (fun i => (i : Int)) n
  | 0 => rfl
  | n + 1 => by rw [slJ, fiL, slJ_fiL P n]
theorem slJ_mem {P : Nat → Bool} {x : Int} {n : Nat} : x ∈ slJ P n ↔ ∃ i, i < n ∧ P i = true ∧ ((i : Nat) : Int) = x := by rw [slJ_fiL]; exact fiL_mem
theorem ls_zero {nu de : Int} (h : okD nu de = true) : lsB nu de 0 = true ∧ lsT nu de 0 = 0 := by
  obtain ⟨h1, h2, h3, h4⟩ := okD_t h
  have e : upI (0 * de) (de + nu) = 0 := by
    unfold upI
    rw [Int.zero_mul]
    exact Int.ediv_eq_zero_of_lt (by omega) (by omega)
  have hb : lsB nu de 0 = true := by unfold lsB rB; rw [e, h]; rfl
  exact ⟨hb, by unfold lsT; rw [hb, e]; rfl⟩
theorem ls_late {nu de R : Int} (h : okD nu de = true) (hR : 0 ≤ R) (hl : lsB nu de (2 * R + 2) = true) : R < lsT nu de (2 * R + 2) := by
  obtain ⟨h1, h2, h3, h4⟩ := okD_t h
  have e : lsT nu de (2 * R + 2) = upI ((2 * R + 2) * de) (de + nu) := by unfold lsT; rw [hl]; rfl
  rw [e]
  have hm : 0 < de + nu := by omega
  have hlo : (2 * R + 2) * de ≤ upI ((2 * R + 2) * de) (de + nu) * (de + nu) := by
    unfold upI
    have := Int.lt_ediv_add_one_mul_self ((2 * R + 2) * de + (de + nu) - 1) hm
    have h5 := Int.add_mul (((2 * R + 2) * de + (de + nu) - 1) / (de + nu)) 1 (de + nu)
    omega
  rcases Int.lt_or_le R (upI ((2 * R + 2) * de) (de + nu)) with q | q
  · exact q
  · exfalso
    have h6 : upI ((2 * R + 2) * de) (de + nu) * (de + nu) ≤ R * (de + nu) := Int.mul_le_mul_of_nonneg_right q (by omega)
    have h7 : R * (2 * (de + nu)) ≤ R * (3 * de) := Int.mul_le_mul_of_nonneg_left (by omega) hR
    have h8 : (2 * R + 2) * de = 2 * (R * de) + 2 * de := by rw [Int.add_mul, Int.mul_assoc]
    have h9 : R * (2 * (de + nu)) = 2 * (R * (de + nu)) := by rw [Int.mul_left_comm]
    have h10 : R * (3 * de) = 3 * (R * de) := by rw [Int.mul_left_comm]
    have h11 : 0 ≤ R * de := Int.mul_nonneg hR (by omega)
    omega
end Go.Proofs.YtdahabbdhjgpdaaDoor
namespace Go.Proofs.YtdahabbdhjgpdaaDoor
open Go.RowKit
set_option linter.unusedVariables false
theorem hg_t {M : Nat → VT} {n : Nat} {s g : Int} {PM : Nat → SlT} {m : Nat} {c : Int} (h : hgB M n s g PM m c = true) : hrB M n = true ∧ plB s g PM m = true ∧ okT c = true := by
  unfold hgB at h
  simp only [Bool.and_eq_true] at h
  exact h
theorem hm_t {PM : Nat → SlT} {m : Nat} {k fr tu no lo hi sl : Int} {b : ByteArray} (h : hmB PM m k fr tu no lo hi sl b = true) : (0 ≤ fr ∧ fr ≤ 7) ∧ (0 ≤ sl ∧ sl ≤ 15) ∧ sl < (m : Int) ∧ (PM sl.toNat).1 = fr := by
  unfold hmB at h
  simp only [Bool.and_eq_true, decide_eq_true_eq] at h
  obtain ⟨h1, rfl, h2, h3⟩ := h
  unfold msgB nodB at h1
  simp at h1
  exact ⟨by omega, by omega, h2, h3⟩
/- What FnHeard asks, of numbers alone. -/
structure HFacts (O : List VT) (s g : Int) (PM : Nat → SlT) (m : Nat) (nu de ct sl fr : Int) : Prop where
  now : hasJ (gI (nwL (gV O) O.length s g PM m nu de ct)) sl (nwL (gV O) O.length s g PM m nu de ct).length = true
  lost : hasJ (gI (loL (gV O) O.length s g PM m nu de ct)) sl (loL (gV O) O.length s g PM m nu de ct).length = false
  all : ∀ i : Nat, i < m → hasJ (gI (nwL (gV O) O.length s g PM m nu de ct)) (i : Int) (nwL (gV O) O.length s g PM m nu de ct).length = !hasJ (gI (loL (gV O) O.length s g PM m nu de ct)) (i : Int) (loL (gV O) O.length s g PM m nu de ct).length
  later : ct + 2 * rnI s g PM m + 2 ≤ 1000000000000 → hasJ (gI (loL (gV O) O.length s g PM m nu de (ct + 2 * rnI s g PM m + 2))) sl (loL (gV O) O.length s g PM m nu de (ct + 2 * rnI s g PM m + 2)).length = true
  own : hasJ (gI (onL (gV O) O.length s g PM m)) fr (onL (gV O) O.length s g PM m).length = true
  same : (unL (gV O) O.length (gV O) O.length) = []
theorem lo_mem {M : Nat → VT} {n : Nat} {s g : Int} {PM : Nat → SlT} {m : Nat} {nu de c : Int} (h : rtB M n s g PM m nu de c = true) {i : Nat} (hi : i < m) : ((i : Nat) : Int) ∈ loL M n s g PM m nu de c ↔ ¬ (i : Int) ∈ nwL M n s g PM m nu de c := by
  unfold loL
  rw [h]
  simp only
  rw [slJ_mem]
  constructor
  · rintro ⟨j, hj, hp, e⟩
    have : j = i := by omega
    subst this
    intro hm
    rw [← hasJ_mem] at hm
    unfold loP at hp
    rw [hm] at hp
    cases hp
  · intro hn
    refine ⟨i, hi, ?_, rfl⟩
    unfold loP
    rw [← hasJ_mem] at hn
    cases e : hasJ (gI (nwL M n s g PM m nu de c)) (i : Int) (nwL M n s g PM m nu de c).length
    · rfl
    · exact absurd e hn
theorem has_iff {L K : List Int} {x y : Int} (h : x ∈ L ↔ ¬ y ∈ K) : hasJ (gI L) x L.length = !hasJ (gI K) y K.length := by
  cases e : hasJ (gI K) y K.length
  · show hasJ (gI L) x L.length = true
    rw [hasJ_mem, h, ← hasJ_mem, e]; simp
  · cases f : hasJ (gI L) x L.length
    · rfl
    · rw [hasJ_mem] at e f
      exact absurd e (h.1 f)
theorem heard_facts {M : Nat → VT} {n : Nat} {s g : Int} {PM : Nat → SlT} {m : Nat} {k fr tu no lo hi sl : Int} {b : ByteArray} {ct nu de : Int} (h : hgB M n s g PM m ct = true) (hm : hmB PM m k fr tu no lo hi sl b = true) (hd : okD nu de = true) : HFacts (hpL M n sl ct) s g PM m nu de ct sl fr := by
  obtain ⟨h1, h2, h3⟩ := hg_t h
  obtain ⟨f1, f2, f3, f4⟩ := hm_t hm
  obtain ⟨i, rfl⟩ : ∃ i : Nat, sl = (i : Int) := ⟨sl.toNat, by omega⟩
  rw [Int.toNat_natCast] at f4
  have hc := okT_t16 h3
  have him : i < m := by omega
  have hs : hrO ((i : Int), ct) = true := by unfold hrO; rw [h3, decide_eq_true f2]; rfl
  obtain ⟨a1, a2, a3, a4⟩ := hp_facts (hrB_t h1).2 hs
  generalize hpL M n (i : Int) ct = O at *
  have hO := asc_hrB a1 a2
  have rt : ∀ c, okT c = true → rtB (gV O) O.length s g PM m nu de c = true := fun c q => by unfold rtB; rw [hO, h2, hd, q]; rfl
  obtain ⟨j, hj, ej⟩ := mem_at a3
  have hR := rnI_t h2
  have hRb := rn_bd h2
  have nmem : ((i : Nat) : Int) ∈ nwL (gV O) O.length s g PM m nu de ct := by
    unfold nwL
    rw [rt ct h3]
    simp only
    rw [fiL_mem]
    refine ⟨j, hj, ?_, by unfold slS; rw [ej]⟩
    unfold nwP
    rw [ej]
    simp only [Int.sub_self]
    rw [(ls_zero hd).1, (ls_zero hd).2, decide_eq_true (Int.le_refl _), decide_eq_true (by rw [hR]; omega)]; rfl
  have each := fun (q : Nat) (hq : q < m) => lo_mem (rt ct h3) hq
  constructor
  · rw [hasJ_mem]; exact nmem
  · cases e : hasJ (gI (loL (gV O) O.length s g PM m nu de ct)) (i : Int) (loL (gV O) O.length s g PM m nu de ct).length
    · rfl
    · rw [hasJ_mem] at e; exact absurd nmem ((each i him).1 e)
  · intro q hq
    have := has_iff (each q hq)
    rw [this, Bool.not_not]
  · intro hl
    have hct : okT (ct + 2 * rnI s g PM m + 2) = true := by unfold okT; rw [decide_eq_true]; rw [hR] at hl ⊢; omega
    rw [hasJ_mem, lo_mem (rt _ hct) him]
    unfold nwL
    rw [rt _ hct]
    simp only
    rw [fiL_mem]
    rintro ⟨q, hq, hp, e⟩
    have eq := a4 _ (at_mem hq) e
    unfold nwP at hp
    rw [eq] at hp
    simp only [Bool.and_eq_true, decide_eq_true_eq] at hp
    obtain ⟨_, p1, p2⟩ := hp
    rw [show ct + 2 * rnI s g PM m + 2 - ct = 2 * rnI s g PM m + 2 by omega] at p1 p2
    have := ls_late hd (show 0 ≤ rnI s g PM m by rw [hR]; omega) p1
    omega
  · rw [hasJ_mem]
    unfold onL
    rw [hO, h2]
    simp only [Bool.and_true]
    rw [slJ_mem]
    refine ⟨fr.toNat, by omega, ?_, by omega⟩
    unfold owP
    rw [show ((fr.toNat : Nat) : Int) = fr by omega]
    have hhas : hasJ (slS (gV O)) (i : Int) O.length = true := hasJ_yes (k := j) (by unfold slS; rw [ej]) hj
    have key : ∀ q, i < q → ofS (gV O) O.length PM fr q = true := by
      intro q
      induction q with
      | zero => intro hq; omega
      | succ q ih =>
        intro hq
        by_cases e : i = q
        · subst e; rw [ofS, hhas, f4]; simp
        · rw [ofS, ih (by omega)]; rfl
    exact key m him
  · unfold unL
    rw [hO]
    simp only [Bool.and_self]
    have none : ∀ q, slJ (unP (gV O) O.length (gV O) O.length) q = [] := by
      intro q
      induction q with
      | zero => rfl
      | succ q ih => rw [slJ_no (by unfold unP; simp), ih]
    exact none 16
/- A list of what was heard, and itself. -/
theorem hO_right {M : Nat → VT} {n : Nat} {s g : Int} {PM : Nat → SlT} {m : Nat} {k fr tu no lo hi sl : Int} {b : ByteArray} {ct : Int} (h : hgB M n s g PM m ct = true) (hm : hmB PM m k fr tu no lo hi sl b = true) : (hpL M n sl ct).length ≤ 16 := by
  obtain ⟨h1, h2, h3⟩ := hg_t h
  obtain ⟨f1, f2, f3, f4⟩ := hm_t hm
  obtain ⟨a1, a2, _, _⟩ := hp_facts (hrB_t h1).2 (show hrO (sl, ct) = true by unfold hrO; rw [h3, decide_eq_true f2]; rfl)
  exact asc_lenV a1 a2
end Go.Proofs.YtdahabbdhjgpdaaDoor
namespace Go.Proofs.YtdahabbdhjgpdaaDoor
open Go.RowKit
set_option linter.unusedVariables false
theorem pickLit (B p : Nat) (w : World) (L : List Int) (hcur : CurOk w B p) (h0 : 0 < L.length) (h1 : L.length ≤ 100) :
    Calls Tryd.prog 70 #[.pointer (some ⟨p, 0, none⟩), .slice (some ⟨w.heap.size, 0, none⟩) L.length L.length] (w.alloc (.cells (L.map (Value.int .i64)).toArray 3)) fun e w' => ∃ v : Int, e = .returned (.int .i64 v) ∧ CurOk w' B p ∧ But p w w' := by
  have hb : Below w.heap.size w (w.alloc (.cells (L.map (Value.int .i64)).toArray 3)) := (Below.refl _ _).alloc (Nat.le_refl _) _
  have hl := hcur.lt
  refine (l1PickInt_any B p w.heap.size 0 L.length L.length _ (hcur.below hb) h0 h1 (by simp) (by omega) (fun j hj => ⟨L[j], by simp [hj]⟩)).mono ?_
  rintro e w' ⟨j, v, hj, _, rfl, hc, hw⟩
  exact ⟨v, rfl, hc, (But.of_below hb).trans hw⟩
set_option maxHeartbeats 1000000 in
theorem l1DrawTime_any (B p : Nat) (w : World) (hcur : CurOk w B p) :
    Calls Tryd.prog 94 #[.pointer (some ⟨p, 0, none⟩)] w fun e w' => ∃ v : Int, e = .returned (.int .i64 v) ∧ CurOk w' B p ∧ But p w w' := by
  go_enter Tryd.func94, Tryd.ntmps94
  go_wp2_with fail
  refine (l1Below_any B p 12 _ hcur).mono ?_; rintro e w1 ⟨x, rfl, xl, xh, xp, xz, w1c, w1b⟩
  clear xp xz
  cases hx0 : (x == 0)
  · cases hx1 : (x == 1)
    · go_wp2_with fail
      refine (l1Below_any B p 120 _ w1c).mono ?_; rintro e w2 ⟨y, rfl, yl, yh, yp, yz, w2c, w2b⟩
      clear yp yz
      go_wp2_with fail
      go_ret
      exact ⟨_, rfl, w2c, w1b.trans w2b⟩
    · go_wp2_with fail
      refine (l1Below_any B p 1000000000 _ w1c).mono ?_; rintro e w2 ⟨y, rfl, yl, yh, yp, yz, w2c, w2b⟩
      clear yp yz
      go_wp2_with fail
      have hp := pickLit B p w2 [1, -1, 900] w2c (by decide) (by decide); simp only [List.map_cons, List.map_nil, List.length_cons, List.length_nil, Nat.zero_add, Nat.reduceAdd] at hp; refine hp.mono ?_; clear hp; rintro e w3 ⟨v, rfl, w3c, w3b⟩
      go_wp2_with fail
      go_ret
      exact ⟨_, rfl, w3c, (w1b.trans w2b).trans w3b⟩
  · go_wp2_with fail
    have hp := pickLit B p w1 [-1000000000000, 1000000000000, 999999999999, -999999999999, 0] w1c (by decide) (by decide); simp only [List.map_cons, List.map_nil, List.length_cons, List.length_nil, Nat.zero_add, Nat.reduceAdd] at hp; refine hp.mono ?_; clear hp; rintro e w3 ⟨v, rfl, w3c, w3b⟩
    go_wp2_with fail
    go_ret
    exact ⟨_, rfl, w3c, w1b.trans w3b⟩
def imnD (x y : Int) : Int := if x < y then x else y
set_option maxHeartbeats 400000 in
theorem l1MinD (x y : Int) (w : World) :
    Calls Tryd.prog 95 #[.int .i64 x, .int .i64 y] w fun e w' => ∃ v : Int, e = .returned (.int .i64 v) ∧ w = w' := by
  go_enter Tryd.func95, Tryd.ntmps95
  go_wp2
  all_goals go_ret
  all_goals exact ⟨_, rfl, rfl⟩
theorem CurOk.setOther {w : World} {B p : Nat} (h : CurOk w B p) {k : Nat} (hk : k ≠ p) (hB : B ≤ k) (o : Nat) (u : Value) : CurOk (w.setCell ⟨k, o, none⟩ u) B p := by
  obtain ⟨a, n, c, i, hh, h0, h1, h2, f0, f1, f2, hi, hn, hc, hBp, hp⟩ := h
  have hne : ∀ q, (⟨k, o, none⟩ : Addr) ≠ ⟨p, q, none⟩ := fun q e => hk (congrArg Addr.block e)
  refine ⟨a, n, c, i, hh, ?_, ?_, ?_, by simpa using f0, by simpa using f1, by simpa using f2, hi, hn, hc.below ((Below.refl _ _).setCell hB _), hBp, by simpa using hp⟩
  · rw [World.cell?_setCell_other _ _ _ _ (hne _)]; exact h0
  · rw [World.cell?_setCell_other _ _ _ _ (hne _)]; exact h1
  · rw [World.cell?_setCell_other _ _ _ _ (hne _)]; exact h2
theorem But.setNew {p : Nat} {a w : World} (h : But p a w) {k : Nat} (hk : a.heap.size ≤ k) (o : Nat) (u : Value) : But p a (w.setCell ⟨k, o, none⟩ u) :=
  ⟨h.1, h.2.1, h.2.2.1, by rw [World.size_setCell]; exact h.2.2.2.1, fun j hj hp => (Below.heap_setCell w ⟨k, o, none⟩ u j (by simp; omega)).trans (h.2.2.2.2 j hj hp)⟩
theorem But.alloc {p : Nat} {a w : World} (h : But p a w) (o : Obj) : But p a (w.alloc o) :=
  h.trans (But.of_below ((Below.refl _ _).alloc (Nat.le_refl _) _))
set_option maxHeartbeats 3200000 in
theorem l1DrawIval_any (B p : Nat) (w : World) (hcur : CurOk w B p) :
    Calls Tryd.prog 73 #[.pointer (some ⟨p, 0, none⟩)] w fun e w' => ∃ x y : Int, e = .returned (.agg #[.int .i64 x, .int .i64 y]) ∧ CurOk w' B p ∧ But p w w' := by
  have hpl := hcur.lt
  have hpw : w.heap.size ≠ p := by omega
  have A1 : Below w.heap.size w (w.alloc (.cells #[.int .i64 0, .int .i64 0] 29)) := (Below.refl _ _).alloc (Nat.le_refl _) _
  go_enter Tryd.func73, Tryd.ntmps73
  go_wp2_with fail
  refine (l1DrawTime_any B p _ (by exact hcur.below A1)).mono ?_
  rintro e w1 ⟨lo, rfl, w1c, w1b⟩
  have s1 : w.heap.size + 1 ≤ w1.heap.size := by have := w1b.2.2.2.1; simpa using this
  have r10 : w1.cell? ⟨w.heap.size, 0, none⟩ = some (.int .i64 0) := by rw [w1b.cell (by simp) hpw]; simp [go_sem]
  have r11 : w1.cell? ⟨w.heap.size, 1, none⟩ = some (.int .i64 0) := by rw [w1b.cell (by simp) hpw]; simp [go_sem]
  have q10 : w1.frozen? ⟨w.heap.size, 0, none⟩ = false := by rw [w1b.frozen (by simp) hpw]; simp [go_sem]
  have q11 : w1.frozen? ⟨w.heap.size, 1, none⟩ = false := by rw [w1b.frozen (by simp) hpw]; simp [go_sem]
  have b1 : But p w w1 := (But.of_below A1).trans w1b
  go_wp2_with fail
  refine (l1Below_any B p 60 _ w1c).mono ?_; rintro e w2 ⟨x, rfl, xl, xh, xp, xz, w2c, w2b⟩
  clear xp xz
  have s2 : w1.heap.size ≤ w2.heap.size := w2b.2.2.2.1
  have l2 : w.heap.size < w2.heap.size := by omega
  have r20 : w2.cell? ⟨w.heap.size, 0, none⟩ = some (.int .i64 0) := by rw [w2b.cell (by omega) hpw]; exact r10
  have r21 : w2.cell? ⟨w.heap.size, 1, none⟩ = some (.int .i64 0) := by rw [w2b.cell (by omega) hpw]; exact r11
  have q20 : w2.frozen? ⟨w.heap.size, 0, none⟩ = false := by rw [w2b.frozen (by omega) hpw]; exact q10
  have q21 : w2.frozen? ⟨w.heap.size, 1, none⟩ = false := by rw [w2b.frozen (by omega) hpw]; exact q11
  have b2 : But p w w2 := b1.trans w2b
  clear r10 r11 q10 q11
  go_wp2_with fail
  refine (l1MinD _ _ _).mono ?_
  rintro e w' ⟨hi, rfl, rfl⟩
  go_wp2_with fail
  have hpl2 := w2c.lt
  have A2 : Below w2.heap.size w2 (w2.alloc (.cells #[.int .i64 lo, .int .i64 hi] 29)) := (Below.refl _ _).alloc (Nat.le_refl _) _
  have hkp : w2.heap.size ≠ p := by omega
  refine (l1Below_any B p 30 _ (by exact w2c.below A2)).mono ?_
  rintro e w3 ⟨y, rfl, yl, yh, yp, yz, w3c, w3b⟩
  clear yp yz
  have s3 : w2.heap.size + 1 ≤ w3.heap.size := by have := w3b.2.2.2.1; simpa using this
  have l3 : w.heap.size < w3.heap.size := by omega
  have k3 : w2.heap.size < w3.heap.size := by omega
  have r30 : w3.cell? ⟨w.heap.size, 0, none⟩ = some (.int .i64 0) := by rw [w3b.cell (by simp; omega) hpw, World.cell?_alloc_lt _ _ _ (by simp; omega)]; exact r20
  have r31 : w3.cell? ⟨w.heap.size, 1, none⟩ = some (.int .i64 0) := by rw [w3b.cell (by simp; omega) hpw, World.cell?_alloc_lt _ _ _ (by simp; omega)]; exact r21
  have q30 : w3.frozen? ⟨w.heap.size, 0, none⟩ = false := by rw [w3b.frozen (by simp; omega) hpw, World.frozen?_alloc_old _ _ _ (by simp; omega)]; exact q20
  have q31 : w3.frozen? ⟨w.heap.size, 1, none⟩ = false := by rw [w3b.frozen (by simp; omega) hpw, World.frozen?_alloc_old _ _ _ (by simp; omega)]; exact q21
  have a30 : w3.cell? ⟨w2.heap.size, 0, none⟩ = some (.int .i64 lo) := by rw [w3b.cell (by simp) hkp]; simp [go_sem]
  have a31 : w3.cell? ⟨w2.heap.size, 1, none⟩ = some (.int .i64 hi) := by rw [w3b.cell (by simp) hkp]; simp [go_sem]
  have z30 : w3.frozen? ⟨w2.heap.size, 0, none⟩ = false := by rw [w3b.frozen (by simp) hkp]; simp [go_sem]
  have z31 : w3.frozen? ⟨w2.heap.size, 1, none⟩ = false := by rw [w3b.frozen (by simp) hkp]; simp [go_sem]
  have b3 : But p w w3 := (b2.alloc _).trans w3b
  have hwk : w.heap.size ≠ w2.heap.size := by omega
  have hBw : B ≤ w.heap.size := by omega
  have hBk : B ≤ w2.heap.size := by omega
  have hwk' : w.heap.size ≤ w2.heap.size := by omega
  clear r20 r21 q20 q21 w1b w2b w3b A1 A2 b1 b2 hcur w1c w2c
  cases hy0 : (y == 0)
  · cases hy1 : (y == 1)
    · cases hy2 : (y == 2)
      · go_wp2_with fail
        exact bodyPost_ret (v := .agg #[.int .i64 lo, .int .i64 hi]) (by simp (maxDischargeDepth := 6) [results, Tryd.results73, go_sem, *]) rfl ⟨_, _, rfl, ((w3c.setOther hpw hBw _ _).setOther hpw hBw _ _), ((b3.setNew (Nat.le_refl _) _ _).setNew (Nat.le_refl _) _ _)⟩
      · go_wp2_with fail
        have hp := pickLit B p w3 [-1000000000000, -1000000000001, -9223372036854775807] w3c (by decide) (by decide); simp only [List.map_cons, List.map_nil, List.length_cons, List.length_nil, Nat.zero_add, Nat.reduceAdd] at hp; refine hp.mono ?_; clear hp; rintro e w4 ⟨v, rfl, w4c, w4b⟩
        have s4 : w3.heap.size ≤ w4.heap.size := w4b.2.2.2.1; (have l4 : w.heap.size < w4.heap.size := by omega); (have k4 : w2.heap.size < w4.heap.size := by omega); (have r40 : w4.cell? ⟨w.heap.size, 0, none⟩ = some (.int .i64 0) := by rw [w4b.cell l3 hpw]; exact r30); (have r41 : w4.cell? ⟨w.heap.size, 1, none⟩ = some (.int .i64 0) := by rw [w4b.cell l3 hpw]; exact r31); (have q40 : w4.frozen? ⟨w.heap.size, 0, none⟩ = false := by rw [w4b.frozen l3 hpw]; exact q30); (have q41 : w4.frozen? ⟨w.heap.size, 1, none⟩ = false := by rw [w4b.frozen l3 hpw]; exact q31); (have a40 : w4.cell? ⟨w2.heap.size, 0, none⟩ = some (.int .i64 lo) := by rw [w4b.cell k3 hkp]; exact a30); (have a41 : w4.cell? ⟨w2.heap.size, 1, none⟩ = some (.int .i64 hi) := by rw [w4b.cell k3 hkp]; exact a31); (have z40 : w4.frozen? ⟨w2.heap.size, 0, none⟩ = false := by rw [w4b.frozen k3 hkp]; exact z30); (have z41 : w4.frozen? ⟨w2.heap.size, 1, none⟩ = false := by rw [w4b.frozen k3 hkp]; exact z31); (have b4 : But p w w4 := b3.trans w4b); clear r30 r31 q30 q31 a30 a31 z30 z31 w4b w3c b3
        go_wp2_with fail
        exact bodyPost_ret (v := .agg #[.int .i64 v, .int .i64 hi]) (by simp (maxDischargeDepth := 6) [results, Tryd.results73, go_sem, *]) rfl ⟨_, _, rfl, (((w4c.setOther hkp hBk _ _).setOther hpw hBw _ _).setOther hpw hBw _ _), (((b4.setNew hwk' _ _).setNew (Nat.le_refl _) _ _).setNew (Nat.le_refl _) _ _)⟩
    · go_wp2_with fail
      have hp := pickLit B p w3 [1000000000000, 1000000000001, 9223372036854775807] w3c (by decide) (by decide); simp only [List.map_cons, List.map_nil, List.length_cons, List.length_nil, Nat.zero_add, Nat.reduceAdd] at hp; refine hp.mono ?_; clear hp; rintro e w4 ⟨v, rfl, w4c, w4b⟩
      have s4 : w3.heap.size ≤ w4.heap.size := w4b.2.2.2.1; (have l4 : w.heap.size < w4.heap.size := by omega); (have k4 : w2.heap.size < w4.heap.size := by omega); (have r40 : w4.cell? ⟨w.heap.size, 0, none⟩ = some (.int .i64 0) := by rw [w4b.cell l3 hpw]; exact r30); (have r41 : w4.cell? ⟨w.heap.size, 1, none⟩ = some (.int .i64 0) := by rw [w4b.cell l3 hpw]; exact r31); (have q40 : w4.frozen? ⟨w.heap.size, 0, none⟩ = false := by rw [w4b.frozen l3 hpw]; exact q30); (have q41 : w4.frozen? ⟨w.heap.size, 1, none⟩ = false := by rw [w4b.frozen l3 hpw]; exact q31); (have a40 : w4.cell? ⟨w2.heap.size, 0, none⟩ = some (.int .i64 lo) := by rw [w4b.cell k3 hkp]; exact a30); (have a41 : w4.cell? ⟨w2.heap.size, 1, none⟩ = some (.int .i64 hi) := by rw [w4b.cell k3 hkp]; exact a31); (have z40 : w4.frozen? ⟨w2.heap.size, 0, none⟩ = false := by rw [w4b.frozen k3 hkp]; exact z30); (have z41 : w4.frozen? ⟨w2.heap.size, 1, none⟩ = false := by rw [w4b.frozen k3 hkp]; exact z31); (have b4 : But p w w4 := b3.trans w4b); clear r30 r31 q30 q31 a30 a31 z30 z31 w4b w3c b3
      go_wp2_with fail
      exact bodyPost_ret (v := .agg #[.int .i64 lo, .int .i64 v]) (by simp (maxDischargeDepth := 6) [results, Tryd.results73, go_sem, *]) rfl ⟨_, _, rfl, (((w4c.setOther hkp hBk _ _).setOther hpw hBw _ _).setOther hpw hBw _ _), (((b4.setNew hwk' _ _).setNew (Nat.le_refl _) _ _).setNew (Nat.le_refl _) _ _)⟩
  · go_wp2_with fail
    exact bodyPost_ret (v := .agg #[.int .i64 lo, .int .i64 (wrap64 (lo - 1))]) (by simp (maxDischargeDepth := 6) [results, Tryd.results73, go_sem, *]) rfl ⟨_, _, rfl, (((w3c.setOther hkp hBk _ _).setOther hpw hBw _ _).setOther hpw hBw _ _), (((b3.setNew hwk' _ _).setNew (Nat.le_refl _) _ _).setNew (Nat.le_refl _) _ _)⟩
end Go.Proofs.YtdahabbdhjgpdaaDoor
namespace Go.Proofs.YtdahabbdhjgpdaaDoor
open Go.RowKit
set_option linter.unusedVariables false
theorem curNew (w : World) (a : Option Addr) (n c : Nat) (h : Int) (T : TypeId) (hn : n ≤ 1048576) (hcode : CodeB w w.heap.size a n) : CurOk (w.alloc (.cells #[.slice a n c, .int .i64 0, .int .i64 h] T)) w.heap.size w.heap.size :=
  ⟨a, n, c, 0, h, by simp, by simp, by simp, by simp, by simp, by simp, Nat.zero_le _, hn, hcode.below ((Below.refl _ _).alloc (Nat.le_refl _) _), Nat.le_refl _, by simp⟩
set_option maxHeartbeats 1000000 in
theorem l1New_any (a : Option Addr) (n c : Nat) (w : World) (hn : n ≤ 1048576) (hcode : CodeB w w.heap.size a n) :
    Calls Tryd.prog 36 #[.slice a n c] w fun e w' => ∃ p, e = .returned (.pointer (some ⟨p, 0, none⟩)) ∧ CurOk w' w.heap.size p ∧ Below w.heap.size w w' := by
  have HC : Hid (CodeB w w.heap.size a n) := hcode
  clear hcode
  go_enter Tryd.func36, Tryd.ntmps36
  go_wp2_with fail
  go_loop [3, 4] (fun hv i => ∃ k : Nat, ∃ h : Int, k ≤ n ∧ i = .int .i64 k ∧ hv = .int .i64 h) (fun _ i => n - (intOf i).toNat)
  case atStart => exact ⟨0, _, Nat.zero_le _, rfl, rfl⟩
  case round =>
    obtain ⟨k, h, hk, rfl, rfl⟩ := hrel
    by_cases hlt : k < n
    · have hli : (k : Int) < (n : Int) := by omega
      by_cases h4 : (k : Int) < 4000
      · rcases HC.out with h0 | ⟨b, off, rfl, hb, hz⟩
        · omega
        · obtain ⟨z, hz, z0, z1⟩ := hz k hlt
          go_wp2_with fail
          go_round
          case rel => exact ⟨k + 1, _, by omega, by go_num, rfl⟩
          case measure => simp [intOf]; omega
      · have hd : decide ((k : Int) < 4000) = false := by simp; omega
        go_wp2_with fail
        go_ret
        exact ⟨_, rfl, curNew _ _ _ _ _ _ hn HC.out, (Below.refl _ _).alloc (Nat.le_refl _) _⟩
    · have hd : decide ((k : Int) < (n : Int)) = false := by simp; omega
      go_wp2_with fail
      go_ret
      exact ⟨_, rfl, curNew _ _ _ _ _ _ hn HC.out, (Below.refl _ _).alloc (Nat.le_refl _) _⟩
end Go.Proofs.YtdahabbdhjgpdaaDoor
namespace Go.Proofs.YtdahabbdhjgpdaaDoor
open Go.RowKit
set_option linter.unusedVariables false
theorem CurOk.drew {w : World} {B p : Nat} (h : CurOk w B p) : CurOk w.drew B p := h
theorem But.drew {p : Nat} {a w : World} (h : But p a w) : But p a w.drew := h
def Box (w : World) (k : Nat) (x y : Int) : Prop := k < w.heap.size ∧ w.cell? ⟨k, 0, none⟩ = some (.int .i64 x) ∧ w.cell? ⟨k, 1, none⟩ = some (.int .i64 y) ∧ w.frozen? ⟨k, 0, none⟩ = false ∧ w.frozen? ⟨k, 1, none⟩ = false
theorem Box.but {p k : Nat} {w w' : World} {x y : Int} (h : Box w k x y) (hw : But p w w') (hk : k ≠ p) : Box w' k x y :=
  ⟨Nat.lt_of_lt_of_le h.1 hw.2.2.2.1, by rw [hw.cell h.1 hk]; exact h.2.1, by rw [hw.cell h.1 hk]; exact h.2.2.1, by rw [hw.frozen h.1 hk]; exact h.2.2.2.1, by rw [hw.frozen h.1 hk]; exact h.2.2.2.2⟩
theorem Box.below {k : Nat} {w w' : World} {x y : Int} (h : Box w k x y) (hw : Below w.heap.size w w') : Box w' k x y :=
  ⟨Nat.lt_of_lt_of_le h.1 hw.size, by rw [hw.cell (p := ⟨k, 0, none⟩) h.1]; exact h.2.1, by rw [hw.cell (p := ⟨k, 1, none⟩) h.1]; exact h.2.2.1, by rw [hw.frozen (p := ⟨k, 0, none⟩) h.1]; exact h.2.2.2.1, by rw [hw.frozen (p := ⟨k, 1, none⟩) h.1]; exact h.2.2.2.2⟩
theorem Box.alloc {k : Nat} {w : World} {x y : Int} (h : Box w k x y) (o : Obj) : Box (w.alloc o) k x y := h.below ((Below.refl _ _).alloc (Nat.le_refl _) _)
theorem Box.setOther {k j : Nat} {w : World} {x y : Int} (h : Box w k x y) (hk : j ≠ k) (o : Nat) (u : Value) : Box (w.setCell ⟨j, o, none⟩ u) k x y := by
  have hne : ∀ q, (⟨j, o, none⟩ : Addr) ≠ ⟨k, q, none⟩ := fun q e => hk (congrArg Addr.block e)
  exact ⟨by simpa using h.1, by rw [World.cell?_setCell_other _ _ _ _ (hne _)]; exact h.2.1, by rw [World.cell?_setCell_other _ _ _ _ (hne _)]; exact h.2.2.1, by simpa using h.2.2.2.1, by simpa using h.2.2.2.2⟩
theorem Box.set {k : Nat} {w : World} {x y : Int} (h : Box w k x y) (x' y' : Int) : Box ((w.setCell ⟨k, 0, none⟩ (.int .i64 x')).setCell ⟨k, 1, none⟩ (.int .i64 y')) k x' y' := by
  refine ⟨by simpa using h.1, ?_, ?_, by simpa using h.2.2.2.1, by simpa using h.2.2.2.2⟩
  · rw [World.cell?_setCell_other _ _ _ _ (by simp), World.cell?_setCell_same _ _ _ h.2.1]
  · exact World.cell?_setCell_same _ _ _ (by rw [World.cell?_setCell_other _ _ _ _ (by simp)]; exact h.2.2.1)
theorem Box.new (w : World) (x y : Int) (T : TypeId) : Box (w.alloc (.cells #[.int .i64 x, .int .i64 y] T)) w.heap.size x y := ⟨by simp, by simp, by simp, by simp, by simp⟩
theorem CodeB.more {w : World} {B B' : Nat} {a : Option Addr} {n : Nat} (h : CodeB w B a n) (hB : B ≤ B') : CodeB w B' a n := by
  rcases h with h | ⟨b, off, h1, h2, h3⟩
  · exact .inl h
  · exact .inr ⟨b, off, h1, by omega, h3⟩
/- What a new world holds after an alloc or a store, for go_wp2's simp. -/
theorem Below.al (w : World) (o : Obj) : Below w.heap.size w (w.alloc o) := (Below.refl _ _).alloc (Nat.le_refl _) _
end Go.Proofs.YtdahabbdhjgpdaaDoor
namespace Go.Proofs.YtdahabbdhjgpdaaDoor
open Go.RowKit
set_option linter.unusedVariables false
set_option maxHeartbeats 1000000 in
theorem l2DrawCount_any (B p : Nat) (w : World) (hcur : CurOk w B p) :
    Calls Tryd.prog 42 #[.pointer (some ⟨p, 0, none⟩)] w fun e w' => ∃ v : Int, e = .returned (.int .i64 v) ∧ CurOk w' B p ∧ But p w w' := by
  go_enter Tryd.func42, Tryd.ntmps42
  go_wp2_with fail
  refine (l1Below_any B p 14 _ hcur).mono ?_; rintro e w1 ⟨x, rfl, xl, xh, xp, xz, w1c, w1b⟩
  clear xp xz
  cases hx0 : (x == 0)
  · cases hx1 : (x == 1)
    · cases hx2 : (x == 2)
      · go_wp2_with fail
        refine (l1Below_any B p 5000 _ w1c).mono ?_; rintro e w2 ⟨y, rfl, yl, yh, yp, yz, w2c, w2b⟩
        clear yp yz
        go_wp2_with fail
        go_ret
        exact ⟨_, rfl, w2c, w1b.trans w2b⟩
      · go_wp2_with fail
        refine (l1Below_any B p 6 _ w1c).mono ?_; rintro e w2 ⟨y, rfl, yl, yh, yp, yz, w2c, w2b⟩
        clear yp yz
        go_wp2_with fail
        go_ret
        exact ⟨_, rfl, w2c, w1b.trans w2b⟩
    · go_wp2_with fail
      refine (l1Below_any B p 1000000000 _ w1c).mono ?_; rintro e w2 ⟨y, rfl, yl, yh, yp, yz, w2c, w2b⟩
      clear yp yz
      go_wp2_with fail
      go_ret
      exact ⟨_, rfl, w2c, w1b.trans w2b⟩
  · go_wp2_with fail
    have hp := pickLit B p w1 [-1, 0, 1000000000000, 1000000000001, 500000000000, 666666666666, 9223372036854775807] w1c (by decide) (by decide); simp only [List.map_cons, List.map_nil, List.length_cons, List.length_nil, Nat.zero_add, Nat.reduceAdd] at hp; refine hp.mono ?_; clear hp; rintro e w3 ⟨v, rfl, w3c, w3b⟩
    go_wp2_with fail
    go_ret
    exact ⟨_, rfl, w3c, w1b.trans w3b⟩
set_option maxHeartbeats 400000 in
theorem big_any (a : Option Addr) (n c : Nat) (w : World) :
    Calls Tryd.prog 8 #[.slice a n c] w fun e w' => e = .returned (.bool (decide (1048576 < (n : Int)))) ∧ w = w' := by
  go_enter Tryd.func8, Tryd.ntmps8
  go_wp2
  go_ret
  exact ⟨rfl, rfl⟩
set_option maxHeartbeats 400000 in
theorem at_any (a : Option Addr) (n c i B : Nat) (w : World) (hn : n ≤ 1048576) (hi : i ≤ 1000) (hcode : CodeB w B a n) :
    Calls Tryd.prog 13 #[.slice a n c, .int .i64 i] w fun e w' => ∃ x : Int, e = .returned (.int .i64 x) ∧ 0 ≤ x ∧ x ≤ 255 ∧ w = w' := by
  by_cases h : i < n
  · have hd : (i : Int) < (n : Int) := by omega
    rcases hcode with h0 | ⟨b, off, rfl, hb, hz⟩
    · omega
    · obtain ⟨z, hz, z0, z1⟩ := hz i h
      go_enter Tryd.func13, Tryd.ntmps13
      go_wp2_with fail
      go_ret
      exact ⟨z, rfl, z0, z1, rfl⟩
  · have hd : decide ((i : Int) < (n : Int)) = false := by simp; omega
    have hm := Int.emod_lt_of_pos ((i : Int) * 7 + n) (b := 256) (by omega)
    have hm0 := Int.emod_nonneg ((i : Int) * 7 + n) (b := 256) (by omega)
    clear hcode
    go_enter Tryd.func13, Tryd.ntmps13
    go_wp2_with fail
    go_ret
    exact ⟨_, rfl, by omega, by omega, rfl⟩
end Go.Proofs.YtdahabbdhjgpdaaDoor
namespace Go.Proofs.YtdahabbdhjgpdaaDoor
open Go.RowKit
set_option linter.unusedVariables false
theorem pickIn (B p : Nat) (w : World) (L : List Int) (hcur : CurOk w B p) (h0 : 0 < L.length) (h1 : L.length ≤ 100) :
    Calls Tryd.prog 70 #[.pointer (some ⟨p, 0, none⟩), .slice (some ⟨w.heap.size, 0, none⟩) L.length L.length] (w.alloc (.cells (L.map (Value.int .i64)).toArray 3)) fun e w' => ∃ v : Int, e = .returned (.int .i64 v) ∧ v ∈ L ∧ CurOk w' B p ∧ But p w w' := by
  have hb : Below w.heap.size w (w.alloc (.cells (L.map (Value.int .i64)).toArray 3)) := (Below.refl _ _).alloc (Nat.le_refl _) _
  have hl := hcur.lt
  refine (l1PickInt_any B p w.heap.size 0 L.length L.length _ (hcur.below hb) h0 h1 (by simp) (by omega) (fun j hj => ⟨L[j], by simp [hj]⟩)).mono ?_
  rintro e w' ⟨j, v, hj, hv, rfl, hc, hw⟩
  refine ⟨v, rfl, ?_, hc, (But.of_below hb).trans hw⟩
  simp [hj] at hv
  rw [← hv]
  exact List.getElem_mem hj
end Go.Proofs.YtdahabbdhjgpdaaDoor
namespace Go.Proofs.YtdahabbdhjgpdaaDoor
open Go.RowKit
set_option linter.unusedVariables false
theorem CurOk.below16 {w w' : World} {B p Q : Nat} (h : CurOk w B p) (hb : Below Q w w') (hq : p < Q) : CurOk w' B p := by
  obtain ⟨a, n, c, i, hh, h0, h1, h2, f0, f1, f2, hi, hn, hc, hB, hp⟩ := h
  refine ⟨a, n, c, i, hh, ?_, ?_, ?_, ?_, ?_, ?_, hi, hn, hc.below (hb.mono (by omega)), hB, Nat.lt_of_lt_of_le hp hb.size⟩
  · rw [hb.cell (p := ⟨p, 0, none⟩) hq]; exact h0
  · rw [hb.cell (p := ⟨p, 1, none⟩) hq]; exact h1
  · rw [hb.cell (p := ⟨p, 2, none⟩) hq]; exact h2
  · rw [hb.frozen (p := ⟨p, 0, none⟩) hq]; exact f0
  · rw [hb.frozen (p := ⟨p, 1, none⟩) hq]; exact f1
  · rw [hb.frozen (p := ⟨p, 2, none⟩) hq]; exact f2
/- A row of what was heard, of one's own, beside the cursor. -/
def Hw (w0 : World) (B p : Nat) (w : World) (v : Value) (L : List VT) : Prop := w.ownsRow w0.heap.size 80 2 v L.length (vrow L) ∧ CurOk w B p ∧ But p w0 w
theorem Hw.but {w0 w w' : World} {B p : Nat} {v : Value} {L : List VT} (h : Hw w0 B p w v L) (hp : p < w0.heap.size) (hc : CurOk w' B p) (hb : But p w w') : Hw w0 B p w' v L := ⟨own_butK h.1 hb hp, hc, h.2.2.trans hb⟩
theorem But.belowH {p : Nat} {w w' w'' : World} (h : But p w w') (hb : Below w.heap.size w' w'') : But p w w'' := ⟨hb.os.trans h.1, hb.tape.trans h.2.1, hb.output.trans h.2.2.1, Nat.le_trans h.2.2.2.1 hb.size, fun k hk hp => (hb.block k hk).trans (h.2.2.2.2 k hk hp)⟩
theorem Hw.grow {w0 w w' : World} {B p : Nat} {v v' : Value} {L L' : List VT} (h : Hw w0 B p w v L) (hp : p < w0.heap.size) (hO : w'.ownsRow w0.heap.size 80 2 v' L'.length (vrow L')) (hg : w.grownBy w' v.ownBlock) (hB : B ≤ p) : Hw w0 B p w' v' L' := by
  have hb := grown_belowK h.1 hg h.2.2.2.2.2.1
  exact ⟨hO, h.2.1.below16 hb hp, h.2.2.belowH hb⟩
set_option maxRecDepth 100000 in
set_option maxHeartbeats 16000000 in
theorem l16DrawHeard_any (B p : Nat) (w : World) (hcur : CurOk w B p) :
    Calls Tryd.prog 37 #[.pointer (some ⟨p, 0, none⟩)] w fun e w' => ∃ (v : Value) (L : List VT), e = .returned v ∧ L.length ≤ 8 ∧ Hw w B p w' v L := by
  have hpl := hcur.lt
  have hp : p < w.heap.size := hpl.1
  have hB : B ≤ p := hpl.2
  have T : Hw w B p (w.alloc (.cells #[] 80)) (.slice (some ⟨w.heap.size, 0, none⟩) 0 0) [] := ⟨made_heard w, hcur.below (Below.nw w _), But.of_below (Below.nw w _)⟩
  clear hpl hcur
  go_enter Tryd.func37, Tryd.ntmps37
  go_upto_region 2 with fail
  generalize w.alloc (.cells #[] 80) = v0 at *
  generalize (Value.slice (some ⟨w.heap.size, 0, none⟩) 0 0) = vs at *
  go_wp2_with fail
  go_loopw [3, 4] (fun s3 i wr => ∃ (q : Nat) (L : List VT), q ≤ 7 ∧ i = .int .i64 q ∧ L.length ≤ q ∧ Hw w B p wr s3 L) (fun _ i _ => 7 - (intOf i).toNat)
  case atStart => exact ⟨0, [], by decide, rfl, Nat.le_refl _, T⟩
  case round =>
    clear T
    obtain ⟨q, L, hq, rfl, hL, T⟩ := hrel
    by_cases hlt : q < 7
    · have hli : (q : Int) < 7 := by omega
      have HQ : Hid (q < 7) := hlt
      have HL : Hid (L.length ≤ q) := hL
      clear hlt hq
      go_wp2_with fail
      refine (l1Once_any B p 2 _ T.2.1).mono ?_
      rintro e v1 ⟨oo, rfl, cc, bb⟩
      replace T := T.but hp cc bb
      clear cc bb
      cases oo
      · have HT : Hid (Hw w B p v1 u3 L) := T
        clear T
        go_wp2_with fail
        go_roundw
        case rel => exact ⟨q + 1, L, HQ.out, by go_num, Nat.le_succ_of_le HL.out, HT.out⟩
        case measure => have hlt' := HQ.out; simp [intOf]; omega
      · go_wp2_with fail
        refine (l1Below_any B p 120 _ T.2.1).mono ?_
        rintro e v2 ⟨y, rfl, _, _, _, _, cc, bb⟩
        replace T := T.but hp cc bb
        clear cc bb
        have hbs : w.heap.size ≤ v2.heap.size := T.2.2.2.2.2.1
        have hlen : L.length ≤ 4096 := by omega
        go_wp2_with (at_builtin; refine add_heard rfl _ _ rfl w.heap.size L _ rfl T.1 rfl hlen hbs ?_; intro v9 w9 O9 hg9 hn9)
        replace T := T.grow hp O9 hg9 hB
        have HT : Hid (Hw w B p w9 v9 (L ++ [((q : Int), y)])) := T
        clear O9 hg9 hn9 hbs T
        go_wp2_with fail
        go_roundw
        case rel => exact ⟨q + 1, _, HQ.out, by go_num, by rw [List.length_append]; exact Nat.succ_le_succ HL.out, HT.out⟩
        case measure => have hlt' := HQ.out; simp [intOf]; omega
    · have hkn : q = 7 := by omega
      subst hkn
      clear hlt hq
      go_wp2_with fail
      refine (l1Below_any B p 30 _ T.2.1).mono ?_
      rintro e v1 ⟨y, rfl, _, _, _, _, cc, bb⟩
      replace T := T.but hp cc bb
      clear cc bb
      have hlen : L.length ≤ 4096 := by omega
      cases h0 : (y == 0)
      · cases h1 : (y == 1)
        · have HT : Hid (Hw w B p v1 u3 L) := T
          clear T
          go_wp2_with fail
          go_ret
          exact ⟨_, L, rfl, by omega, HT.out⟩
        · go_wp2_with fail
          refine (l2DrawCount_any B p _ T.2.1).mono ?_
          rintro e v2 ⟨z, rfl, cc, bb⟩
          replace T := T.but hp cc bb
          clear cc bb
          have hbs : w.heap.size ≤ v2.heap.size := T.2.2.2.2.2.1
          go_wp2_with (at_builtin; refine add_heard rfl _ _ rfl w.heap.size L _ rfl T.1 rfl hlen hbs ?_; intro v9 w9 O9 hg9 hn9; (have T9 := T.grow hp O9 hg9 hB))
          go_ret
          exact ⟨_, _, rfl, by rw [List.length_append]; exact Nat.succ_le_succ hL, T9⟩
      · have T2 : Hw w B p v1 u3 L := T
        go_wp2_with fail
        refine (pickIn B p _ [15, 16, 0] T.2.1 (by decide) (by decide)).mono ?_
        rintro e v2 ⟨x, rfl, _, cc, bb⟩
        replace T := T.but hp cc bb
        clear cc bb T2
        go_wp2_with fail
        refine (l2DrawCount_any B p _ T.2.1).mono ?_
        rintro e v3 ⟨z, rfl, cc, bb⟩
        replace T := T.but hp cc bb
        clear cc bb
        have hbs : w.heap.size ≤ v3.heap.size := T.2.2.2.2.2.1
        go_wp2_with (at_builtin; refine add_heard rfl _ _ rfl w.heap.size L _ rfl T.1 rfl hlen hbs ?_; intro v9 w9 O9 hg9 hn9; (have T9 := T.grow hp O9 hg9 hB))
        go_ret
        exact ⟨_, _, rfl, by rw [List.length_append]; exact Nat.succ_le_succ hL, T9⟩
end Go.Proofs.YtdahabbdhjgpdaaDoor
namespace Go.Proofs.YtdahabbdhjgpdaaDoor
open Go.RowKit
set_option linter.unusedVariables false
theorem own_baseI {w : World} {base base' s n : Nat} {T : TypeId} {v : Value} {xs : List Value} (h : w.ownsRow base' T s v n xs) (hb : base ≤ base') : w.ownsRow base T s v n xs := by
  refine ⟨h.1, ?_⟩
  rcases h.2 with q | ⟨g, cap, cur, h1, h2, h3⟩
  · exact .inl q
  · exact .inr ⟨g, cap, cur, h1, Nat.le_trans hb h2, h3⟩
/- The owners of a plan, in the specification. -/
theorem hasO_yes {M : Nat → SlT} {o : Int} {j : Nat} (h : hasO M o j = true) : hasO M o (j + 1) = true := by rw [hasO, h]; rfl
theorem hasO_at {M : Nat → SlT} {o : Int} {j : Nat} (h : hasO M o j = false) : hasO M o (j + 1) = ((M j).1 == o) := by rw [hasO, h]; rfl
theorem owL_yes {M : Nat → SlT} {n q : Nat} (h : hasO M (q : Int) n = true) : owL M n (q + 1) = owL M n q ++ [(q : Int)] := by rw [owL, h]
theorem owL_no {M : Nat → SlT} {n q : Nat} (h : hasO M (q : Int) n = false) : owL M n (q + 1) = owL M n q := by rw [owL, h]
end Go.Proofs.YtdahabbdhjgpdaaDoor
namespace Go.Proofs.YtdahabbdhjgpdaaDoor
open Go.RowKit
set_option linter.unusedVariables false
/- Rows of slots as lists of cells; a copy of a plan; a plan that is moved, in the specification. -/
def srow (M : Nat → SlT) (n : Nat) : List Value := (List.range (n * 2)).map (MFSlot M)
theorem srow_len (M : Nat → SlT) (n : Nat) : (srow M n).length = n * 2 := by rw [srow, List.length_map, List.length_range]
theorem srow_get {M : Nat → SlT} {n j : Nat} {u : Value} (h : (srow M n)[j]? = some u) : j < n * 2 ∧ MFSlot M j = u := by
  rw [srow, List.getElem?_map] at h
  by_cases hj : j < n * 2
  · rw [List.getElem?_range hj] at h
    exact ⟨hj, by simpa using h⟩
  · rw [List.getElem?_eq_none (by rw [List.length_range]; omega)] at h
    simp at h
theorem MFSlot_one (M : Nat → SlT) (j : Nat) : (MFSlot M j).oneCell' = true := by
  have h : j % 2 = 0 ∨ j % 2 = 1 := by omega
  unfold MFSlot
  rcases h with h | h <;> rw [h] <;> rfl
theorem srow_one (M : Nat → SlT) (n : Nat) : ∀ u ∈ srow M n, u.oneCell' = true := by
  intro u hu
  rw [srow, List.mem_map] at hu
  obtain ⟨j, _, rfl⟩ := hu
  exact MFSlot_one M j
theorem addr_add (b off j : Nat) : (⟨b, off, none⟩ : Addr).add j = ⟨b, off + j, none⟩ := by
  unfold Addr.add
  split
  · next h => subst h; rfl
  · rfl
theorem Cs.srow {w : World} {b off n : Nat} {M : Nat → SlT} (h : Cs w b off (n * 2) (MFSlot M)) : ∀ j u, (Go.Proofs.YtdahabbdhjgpdaaDoor.srow M n)[j]? = some u → w.cell? ((⟨b, off, none⟩ : Addr).add j) = some u := by
  intro j u hu
  obtain ⟨hj, rfl⟩ := srow_get hu
  rw [addr_add]
  exact h.2 j hj
theorem info13_parts : ∃ i, Tryd.prog.info? 72 = some i ∧ i.zero = some (.agg #[.int .i64 0, .int .i64 0]) ∧ i.size = 2 ∧ i.bytes = 16 := by
  obtain ⟨i, hi, hz⟩ := Option.map_eq_some_iff.1 infoSlot
  simp only [Prod.mk.injEq] at hz
  exact ⟨i, hi, hz.1, hz.2.1, hz.2.2⟩
def pmS (s g : Int) (M : Nat → SlT) (n : Nat) (b : Int) : Int := match pmB s g M n b with | true => s + b | false => 0
def pmG (s g : Int) (M : Nat → SlT) (n : Nat) (b : Int) : Int := match pmB s g M n b with | true => g | false => 0
def pmN (s g : Int) (M : Nat → SlT) (n : Nat) (b : Int) : Nat := match pmB s g M n b with | true => n | false => 0
theorem pm_no {s g : Int} {M : Nat → SlT} {n : Nat} {b : Int} (h : pmB s g M n b = false) : pmS s g M n b = 0 ∧ pmG s g M n b = 0 ∧ pmN s g M n b = 0 := by
  unfold pmS pmG pmN
  rw [h]
  exact ⟨rfl, rfl, rfl⟩
theorem pm_yes {s g : Int} {M : Nat → SlT} {n : Nat} {b : Int} (h : pmB s g M n b = true) : pmS s g M n b = s + b ∧ pmG s g M n b = g ∧ pmN s g M n b = n := by
  unfold pmS pmG pmN
  rw [h]
  exact ⟨rfl, rfl, rfl⟩
end Go.Proofs.YtdahabbdhjgpdaaDoor
namespace Go.Proofs.YtdahabbdhjgpdaaDoor
open Go.RowKit
set_option linter.unusedVariables false
/- A plan in a box beside the cursor, its slots in a row of one's own. -/
def insS (M : Nat → SlT) (n : Nat) (q : SlT) (i : Nat) : SlT := if i < n then M i else q
def updS (M : Nat → SlT) (q : SlT) (i : Nat) : SlT := if i = 0 then q else M i
theorem srow_ins (M : Nat → SlT) (n : Nat) (q : SlT) : srow (insS M n q) (n + 1) = srow M n ++ [.int .i64 q.1, .int .i64 q.2] := by
  rw [srow, mapF_add, srow]
  congr 1
  · refine List.map_congr_left fun c hc => ?_
    have hc' : c < n * 2 := List.mem_range.1 hc
    show MCSlot (insS M n q (c / 2)) _ = MCSlot (M (c / 2)) _
    rw [insS, if_pos (by omega)]
  · show [MFSlot (insS M n q) (n * 2 + 0), MFSlot (insS M n q) (n * 2 + 1)] = _
    rw [MFSlot_at _ _ 0 (by decide), MFSlot_at _ _ 1 (by decide), insS, if_neg (by omega)]
    rfl
theorem But.new13 {w w' w'' : World} {p j : Nat} (h : But p w w') (hb : But j w' w'') (hj : w.heap.size ≤ j) : But p w w'' :=
  ⟨hb.1.trans h.1, hb.2.1.trans h.2.1, hb.2.2.1.trans h.2.2.1, Nat.le_trans h.2.2.2.1 hb.2.2.2.1, fun k hk hp => (hb.2.2.2.2 k (Nat.lt_of_lt_of_le hk h.2.2.2.1) (by omega)).trans (h.2.2.2.2 k hk hp)⟩
theorem But.grow13 {w w' w'' : World} {p : Nat} {o : Option Nat} (h : But p w w') (hg : w'.grownBy w'' o) (ho : ∀ q, q < w.heap.size → some q ≠ o) : But p w w'' :=
  ⟨hg.os.trans h.1, hg.tape.trans h.2.1, hg.output.trans h.2.2.1, Nat.le_trans h.2.2.2.1 hg.size, fun k hk hp => (hg.block k (Nat.lt_of_lt_of_le hk h.2.2.2.1) (ho k hk)).trans (h.2.2.2.2 k hk hp)⟩
theorem But.one13 (w : World) (j o : Nat) (u : Value) : But j w (w.setCell ⟨j, o, none⟩ u) := (But.refl j w).setCell o u
theorem CurOk.below13 {w w' : World} {B p base : Nat} (h : CurOk w B p) (hb : Below base w w') (hp : p < base) : CurOk w' B p := by
  obtain ⟨a, n, c, i, hh, h0, h1, h2, f0, f1, f2, hi, hn, hc, hB, hpw⟩ := h
  refine ⟨a, n, c, i, hh, ?_, ?_, ?_, ?_, ?_, ?_, hi, hn, hc.below (hb.mono (by omega)), hB, Nat.lt_of_lt_of_le hpw hb.size⟩
  · rw [hb.cell (p := ⟨p, 0, none⟩) hp]; exact h0
  · rw [hb.cell (p := ⟨p, 1, none⟩) hp]; exact h1
  · rw [hb.cell (p := ⟨p, 2, none⟩) hp]; exact h2
  · rw [hb.frozen (p := ⟨p, 0, none⟩) hp]; exact f0
  · rw [hb.frozen (p := ⟨p, 1, none⟩) hp]; exact f1
  · rw [hb.frozen (p := ⟨p, 2, none⟩) hp]; exact f2
theorem wp_append13 {P : Program} {w : World} {o : Oper} {a : Act} {K : Act → World → Prop} {Q : Exit → Act → World → Prop} (s x : Operand) (t : TypeId)
    (ho : o.op = .call { callee := .builtin .append, args := #[s, x], argTypes := #[t, t] })
    (base : Nat) (e : TypeId) (i : TypeInfo) (z : Value) (size bytes : Nat) (ht : P.underlying t = some (.slice e)) (hi : P.info? e = some i) (hz : i.zero = some z)
    (hsize : i.size = size) (hby : i.bytes = bytes) (hzs : z.cells.size = size) (hsz : 0 < size)
    (v : Value) (n : Nat) (xs : List Value) (hs : a.eval s = v) (hown : w.ownsRow base e size v n xs)
    (ad : Addr) (m c : Nat) (news : List Value) (hx : a.eval x = .slice (some ad) m c) (hl : news.length = m * size) (hnews : ∀ j u, news[j]? = some u → w.cell? (ad.add j) = some u) (h1 : ∀ u ∈ news, u.oneCell' = true)
    (h63 : n + m ≤ maxLen) (hbytes : (n + m) * bytes ≤ 140737488355328) (hbase : base ≤ w.heap.size)
    (h : ∀ v' w', w'.ownsRow base e size v' (n + m) (xs ++ news) → w.grownBy w' v.ownBlock → (∀ g, v'.ownBlock = some g → v.ownBlock = some g ∨ w.heap.size ≤ g) → K (a.put o.dst v') w') : o.wp P a w K Q := by
  obtain ⟨v', w', hr, h2, h3, h4⟩ := run_append_new (P := P) w base t o.type e i z size bytes ht hi hz hsize hby hzs hsz v n xs hown ad m c news hl hnews h1 h63 hbytes hbase
  unfold Oper.wp execOp
  simp only [ho, resolve, invoke, builtin, Sem.run_bind, Sem.run_pure, Result.andThen_ok, List.map_toArray, List.map_cons, List.map_nil, hs, hx, hr]
  exact h v' w' h2 h3 h4
theorem slot_one (x y : Int) : ∀ u ∈ [Value.int .i64 x, .int .i64 y], u.oneCell' = true := by
  intro u hu
  simp at hu
  rcases hu with rfl | rfl <;> rfl
theorem slot_at (w : World) (x y : Int) : ∀ j u, [Value.int .i64 x, .int .i64 y][j]? = some u → (w.alloc (.cells #[.int .i64 x, .int .i64 y] 72)).cell? ((⟨w.heap.size, 0, none⟩ : Addr).add j) = some u := by
  intro j u h
  match j, h with
  | 0, h => simp at h; subst h; simp [Addr.add]
  | 1, h => simp at h; subst h; simp [Addr.add]
def Pw (w0 : World) (B p bt : Nat) (w : World) (s g : Int) (A : Option Addr) (n c : Nat) (M : Nat → SlT) : Prop := Tx3 w bt (.int .i64 s) (.int .i64 g) (.slice A n c) ∧ w.ownsRow (w0.heap.size + 1) 72 2 (.slice A n c) n (srow M n) ∧ CurOk w B p ∧ But p w0 w ∧ Tx3 w w0.heap.size (.int .i64 0) (.int .i64 0) (.slice none 0 0) ∧ (∀ q, (Value.slice A n c).ownBlock = some q → q ≠ bt)
section
variable {w0 w w' : World} {B p bt : Nat} {s g : Int} {A : Option Addr} {n c : Nat} {M : Nat → SlT}
theorem Pw.but (h : Pw w0 B p bt w s g A n c M) (hc : CurOk w' B p) (hb : But p w w') (hp : p < w0.heap.size) (hbt : w0.heap.size < bt) : Pw w0 B p bt w' s g A n c M :=
  ⟨h.1.but hb (by omega), own_butK h.2.1 hb (by omega), hc, h.2.2.2.1.trans hb, h.2.2.2.2.1.but hb (by omega), h.2.2.2.2.2⟩
theorem Pw.below (h : Pw w0 B p bt w s g A n c M) (hb : Below w.heap.size w w') : Pw w0 B p bt w' s g A n c M :=
  ⟨h.1.below hb, own_belK' h.2.1 hb, h.2.2.1.below hb, h.2.2.2.1.trans (But.of_below hb), h.2.2.2.2.1.below hb, h.2.2.2.2.2⟩
theorem Pw.drew (h : Pw w0 B p bt w s g A n c M) : Pw w0 B p bt w.drew s g A n c M := h
theorem Pw.set0 (h : Pw w0 B p bt w s g A n c M) (hp : p < w0.heap.size) (hB : B ≤ p) (hbt : w0.heap.size < bt) (s' : Int) : Pw w0 B p bt (w.setCell ⟨bt, 0, none⟩ (.int .i64 s')) s' g A n c M :=
  ⟨h.1.set0 _, own_neK h.2.1 (But.one13 _ _ _ _) h.2.2.2.2.2, h.2.2.1.setOther (by omega) (by omega) _ _, h.2.2.2.1.new13 (But.one13 _ _ _ _) (by omega), h.2.2.2.2.1.but (But.one13 _ _ _ _) (by omega), h.2.2.2.2.2⟩
theorem Pw.set1 (h : Pw w0 B p bt w s g A n c M) (hp : p < w0.heap.size) (hB : B ≤ p) (hbt : w0.heap.size < bt) (g' : Int) : Pw w0 B p bt (w.setCell ⟨bt, 1, none⟩ (.int .i64 g')) s g' A n c M :=
  ⟨h.1.set1 _, own_neK h.2.1 (But.one13 _ _ _ _) h.2.2.2.2.2, h.2.2.1.setOther (by omega) (by omega) _ _, h.2.2.2.1.new13 (But.one13 _ _ _ _) (by omega), h.2.2.2.2.1.but (But.one13 _ _ _ _) (by omega), h.2.2.2.2.2⟩
theorem Pw.empty (h : Pw w0 B p bt w s g A n c M) (hp : p < w0.heap.size) (hB : B ≤ p) (hbt : w0.heap.size < bt) (M' : Nat → SlT) : Pw w0 B p bt (w.setCell ⟨bt, 2, none⟩ (.slice none 0 0)) s g none 0 0 M' :=
  ⟨h.1.set2 _, World.ownsRow_nil _ _ _ _, h.2.2.1.setOther (by omega) (by omega) _ _, h.2.2.2.1.new13 (But.one13 _ _ _ _) (by omega), h.2.2.2.2.1.but (But.one13 _ _ _ _) (by omega), by intro q hq; simp [Value.ownBlock] at hq⟩
/- Its list grew: the row that it holds now. -/
theorem Pw.grow {A' : Option Addr} {n' c' : Nat} {M' : Nat → SlT} (h : Pw w0 B p bt w s g A n c M) (hp : p < w0.heap.size) (hB : B ≤ p) (hbt : w0.heap.size < bt) (hg : w.grownBy w' (Value.slice A n c).ownBlock) (ho : w'.ownsRow (w0.heap.size + 1) 72 2 (.slice A' n' c') n' (srow M' n')) (hf : ∀ q, (Value.slice A' n' c').ownBlock = some q → (Value.slice A n c).ownBlock = some q ∨ w.heap.size ≤ q) : Pw w0 B p bt (w'.setCell ⟨bt, 2, none⟩ (.slice A' n' c')) s g A' n' c' M' := by
  have hbw := h.1.1
  have hne : some bt ≠ (Value.slice A n c).ownBlock := fun e => h.2.2.2.2.2 bt e.symm rfl
  have hlt : ∀ q, q < w0.heap.size + 1 → some q ≠ (Value.slice A n c).ownBlock := fun q hq e => by have := (World.ownsRow.lt h.2.1 q e.symm).1; omega
  have hN : ∀ q, (Value.slice A' n' c').ownBlock = some q → q ≠ bt := fun q hq e => by
    rcases hf q hq with r | r
    · exact hne (by rw [r, e])
    · omega
  have hG : Below (w0.heap.size + 1) w w' := grown_bel hg (by omega) hlt
  have hc : CurOk w' B p := h.2.2.1.below13 hG (by omega)
  exact ⟨(h.1.kept hg hne).set2 _, own_neK ho (But.one13 _ _ _ _) hN, hc.setOther (by omega) (by omega) _ _, (h.2.2.2.1.grow13 hg (fun q hq => hlt q (by omega))).new13 (But.one13 _ _ _ _) (by omega), (h.2.2.2.2.1.kept hg (hlt _ (by omega))).but (But.one13 _ _ _ _) (by omega), hN⟩
theorem Pw.result (h : Pw w0 B p bt w s g A n c M) (hp : p < w0.heap.size) (hB : B ≤ p) {u0 u1 u2 : Value} : (((w.setCell ⟨w0.heap.size, 0, none⟩ u0).setCell ⟨w0.heap.size, 1, none⟩ u1).setCell ⟨w0.heap.size, 2, none⟩ u2).ownsRow w0.heap.size 72 2 (.slice A n c) n (srow M n) ∧ CurOk (((w.setCell ⟨w0.heap.size, 0, none⟩ u0).setCell ⟨w0.heap.size, 1, none⟩ u1).setCell ⟨w0.heap.size, 2, none⟩ u2) B p ∧ But p w0 (((w.setCell ⟨w0.heap.size, 0, none⟩ u0).setCell ⟨w0.heap.size, 1, none⟩ u1).setCell ⟨w0.heap.size, 2, none⟩ u2) := by
  have hb : But w0.heap.size w (((w.setCell ⟨w0.heap.size, 0, none⟩ u0).setCell ⟨w0.heap.size, 1, none⟩ u1).setCell ⟨w0.heap.size, 2, none⟩ u2) := (((But.refl _ w).setCell 0 u0).setCell 1 u1).setCell 2 u2
  exact ⟨own_baseI (own_butK h.2.1 hb (by omega)) (by omega), ((h.2.2.1.setOther (by omega) (by omega) _ _).setOther (by omega) (by omega) _ _).setOther (by omega) (by omega) _ _, h.2.2.2.1.new13 hb (Nat.le_refl _)⟩
end
def PlanDrawn (m : Nat) (w : World) (B p : Nat) (e : Ending) (w' : World) : Prop := ∃ (s g : Int) (A : Option Addr) (n c : Nat) (M : Nat → SlT), e = .returned (.agg #[.int .i64 s, .int .i64 g, .slice A n c]) ∧ n ≤ m ∧ (m = 12 → 1 ≤ n) ∧ w'.ownsRow w.heap.size 72 2 (.slice A n c) n (srow M n) ∧ CurOk w' B p ∧ But p w w'
set_option maxRecDepth 100000 in
set_option maxHeartbeats 16000000 in
theorem l13DrawPlan_any (B p : Nat) (w : World) (hcur : CurOk w B p) :
    Calls Tryd.prog 71 #[.pointer (some ⟨p, 0, none⟩)] w fun e w' => PlanDrawn 12 w B p e w' := by
  obtain ⟨i0, hi, hz0, hz1, hz2⟩ := info13_parts
  have hpl := hcur.lt
  have hp : p < w.heap.size := hpl.1
  have hB : B ≤ p := hpl.2
  have hpw : w.heap.size ≠ p := by omega
  have A1 := Below.nw w (.cells #[.int .i64 0, .int .i64 0, .slice none 0 0] 27)
  have R := Tx3.new w (.int .i64 0) (.int .i64 0) (.slice none 0 0) 27
  have cc0 := hcur.below A1
  have b0 : But p w _ := But.of_below A1
  clear A1 hcur hpl
  go_enter Tryd.func71, Tryd.ntmps71
  go_upto_region 1 with fail
  generalize w.alloc (.cells #[.int .i64 0, .int .i64 0, .slice none 0 0] 27) = v at *
  go_wp2_with fail
  refine (l1Below_any B p 40 _ cc0).mono ?_
  rintro e w1 ⟨s, rfl, sl, sh, sp, sz, cc, bb⟩
  replace R := R.but bb hpw
  replace b0 := b0.trans bb
  clear bb cc0 sh sp sz
  go_wp2_with fail
  refine (l1Below_any B p 6 _ cc).mono ?_
  rintro e w2 ⟨g, rfl, gl, gh, gp, gz, cc2, bb⟩
  replace R := R.but bb hpw
  replace b0 := b0.trans bb
  clear bb cc gh gp gz
  have A2 := Below.nw w2 (.cells #[.int .i64 s, .int .i64 g, .slice none 0 0] 27)
  have T : Pw w B p w2.heap.size (w2.alloc (.cells #[.int .i64 s, .int .i64 g, .slice none 0 0] 27)) s g none 0 0 (fun _ => zSl) := ⟨Tx3.new w2 _ _ _ _, World.ownsRow_nil _ _ _ _, cc2.below A2, b0.trans (But.of_below A2), R.below A2, by intro q hq; simp [Value.ownBlock] at hq⟩
  have hbt : w.heap.size < w2.heap.size := R.1
  clear A2 b0 R cc2
  go_upto_region 2 with fail
  generalize w2.heap.size = bt at *
  generalize w2.alloc (.cells #[.int .i64 s, .int .i64 g, .slice none 0 0] 27) = v at *
  go_wp2_with fail
  refine (l1Below_any B p 5 _ T.2.2.1).mono ?_; rintro e v1 ⟨m, rfl, ml, mh, mp, mz, cc, bb⟩; replace T := T.but cc bb hp hbt; clear cc bb mz
  have hm := mp (by omega)
  clear mp mh
  go_wp2_with fail
  refine (l1Once_any B p 20 _ T.2.2.1).mono ?_; rintro e v2 ⟨oo, rfl, cc, bb⟩; replace T := T.but cc bb hp hbt; clear cc bb
  cases oo
  · go_upto_region 5 with fail
    have hN0 : 0 ≤ 1 + m := by omega
    have hN1 : 1 ≤ 1 + m ∧ 1 + m ≤ 12 := by omega
    clear hm ml
    generalize 1 + m = nn at *
    obtain ⟨N, rfl⟩ := Int.eq_ofNat_of_zero_le hN0
    have hN2 : 1 ≤ N ∧ N ≤ 12 := by omega
    clear hN0 hN1
    go_wp2_with fail
    go_loopw [5] (fun i wr => ∃ (A : Option Addr) (n c : Nat) (M : Nat → SlT), i = .int .i64 (n : Int) ∧ n ≤ N ∧ Pw w B p bt wr s g A n c M) (fun i _ => N - (intOf i).toNat)
    case atStart => exact ⟨none, 0, 0, fun _ => zSl, rfl, Nat.zero_le _, T⟩
    case round =>
      clear T
      obtain ⟨A, n, c, M, rfl, hn, T⟩ := hrel
      by_cases hlt : n < N
      · have hli : (n : Int) < (N : Int) := by omega
        obtain ⟨n0, n1, n2, n3, n4, n5, n6⟩ := id T.1
        go_upto_region 8 with fail
        refine wp_region_held_drew (S := (fun _ => True)) (by kernel_rfl) ?_ (fun hHeld => ?_)
        · trivial
        clear n0 n1 n2 n3 n4 n5 n6
        replace T := T.drew
        generalize wr.drew = vx at *
        (obtain ⟨n0, n1, n2, n3, n4, n5, n6⟩ := id T.1)
        refine wpAnyH_take (i := 0) (v := ?_) (by rw [List.getElem?_toArray]; rfl) (by kernel_rfl) (by kernel_rfl) (by kernel_rfl) (by intro _ _ _ h; exact h) (Or.inl ⟨by rfl, ?_⟩) (by assumption) ?_
        rotate_left
        · (intro w hSw; (try dsimp only at hSw); go_simp; all_goals with_reducible rfl)
        (try simp only [Act.put, List.setIfInBounds_toArray, List.set_cons_zero, List.set_cons_succ])
        refine wpAnyH_take (i := 2) (v := ?_) (by rw [List.getElem?_toArray]; rfl) (by kernel_rfl) (by kernel_rfl) (by kernel_rfl) (by intro _ _ _ h; exact h) (Or.inl ⟨by rfl, ?_⟩) (by assumption) ?_
        rotate_left
        · (intro w hSw; (try dsimp only at hSw); go_simp; all_goals with_reducible rfl)
        (try simp only [Act.put, List.setIfInBounds_toArray, List.set_cons_zero, List.set_cons_succ])
        refine wpAnyH_take (i := 4) (v := ?_) (by rw [List.getElem?_toArray]; rfl) (by kernel_rfl) (by kernel_rfl) (by kernel_rfl) (by intro _ _ _ h; exact h) (Or.inl ⟨by rfl, ?_⟩) (by assumption) ?_
        rotate_left
        · (intro w hSw; (try dsimp only at hSw); go_simp; all_goals with_reducible rfl)
        (try simp only [Act.put, List.setIfInBounds_toArray, List.set_cons_zero, List.set_cons_succ])
        refine wpAnyH_ready (rs := [1, 3]) (by kernel_rfl) (by simp) ?_
        refine (AllReadyH.cons (by rw [List.getElem?_toArray]; rfl) (fun K hK => ?_) (AllReadyH.cons (by rw [List.getElem?_toArray]; rfl) (fun K hK => ?_) AllReadyH.nil))
        · go_simp
          refine hK.out _ _ ?_ (fun hHeld => ?_)
          · trivial
          clear hK K
          (try simp only [Act.put, List.setIfInBounds_toArray, List.set_cons_zero, List.set_cons_succ])
          refine wpAnyH_ready (rs := [3]) (by kernel_rfl) (by simp) ?_
          refine (AllReadyH.cons (by rw [List.getElem?_toArray]; rfl) (fun K hK => ?_) AllReadyH.nil)
          go_simp
          refine (l1Below_any B p 4 _ T.2.2.1).mono ?_; rintro e vx1 ⟨x1, rfl, x1l, x1h, x1p, _, cc, bb⟩; (clear n0 n1 n2 n3 n4 n5 n6); (have x1q := x1p (by omega)); (replace T := T.but cc bb hp hbt); (clear cc bb x1p); (obtain ⟨n0, n1, n2, n3, n4, n5, n6⟩ := id T.1)
          (try go_wp2_with fail)
          refine hK.out _ _ ?_ (fun hHeld => ?_)
          · trivial
          clear hK K
          (try simp only [Act.put, List.setIfInBounds_toArray, List.set_cons_zero, List.set_cons_succ])
          refine wpAnyH_ready (rs := [5]) (by kernel_rfl) (by simp) ?_
          refine (AllReadyH.cons (by rw [List.getElem?_toArray]; rfl) (fun K hK => ?_) AllReadyH.nil)
          go_simp
          refine (l1Below_any B p 60 _ T.2.2.1).mono ?_; rintro e vx2 ⟨x2, rfl, x2l, x2h, x2p, _, cc, bb⟩; (clear n0 n1 n2 n3 n4 n5 n6); (have x2q := x2p (by omega)); (replace T := T.but cc bb hp hbt); (clear cc bb x2p); (obtain ⟨n0, n1, n2, n3, n4, n5, n6⟩ := id T.1)
          (try go_wp2_with fail)
          refine hK.out _ _ ?_ (fun hHeld => ?_)
          · trivial
          clear hK K
          (try simp only [Act.put, List.setIfInBounds_toArray, List.set_cons_zero, List.set_cons_succ])
          refine wpAnyH_take (i := 6) (v := ?_) (by rw [List.getElem?_toArray]; rfl) (by kernel_rfl) (by kernel_rfl) (by kernel_rfl) (by intro _ _ _ h; exact h) (Or.inl ⟨by rfl, ?_⟩) (by assumption) ?_
          rotate_left
          · (intro w hSw; (try dsimp only at hSw); go_simp; all_goals with_reducible rfl)
          (try simp only [Act.put, List.setIfInBounds_toArray, List.set_cons_zero, List.set_cons_succ])
          refine wpAnyH_take (i := 7) (v := ?_) (by rw [List.getElem?_toArray]; rfl) (by kernel_rfl) (by kernel_rfl) (by kernel_rfl) (by intro _ _ _ h; exact h) (Or.inl ⟨by rfl, ?_⟩) (by assumption) ?_
          rotate_left
          · (intro w hSw; (try dsimp only at hSw); go_simp; all_goals with_reducible rfl)
          (try simp only [Act.put, List.setIfInBounds_toArray, List.set_cons_zero, List.set_cons_succ])
          refine wpAnyH_ready (rs := [8]) (by kernel_rfl) (by simp) ?_
          refine (AllReadyH.cons (by rw [List.getElem?_toArray]; rfl) (fun K hK => ?_) AllReadyH.nil)
          go_simp
          (clear n0 n1 n2 n3 n4 n5 n6); (generalize IntKind.i64.wrap (1 + x2) = y2 at *); (have A6 := Below.nw vx2 (.cells #[.int .i64 x1, .int .i64 y2] 72)); (have HN : Hid (∀ j u, [Value.int .i64 x1, .int .i64 y2][j]? = some u → (vx2.alloc (.cells #[.int .i64 x1, .int .i64 y2] 72)).cell? ((⟨vx2.heap.size, 0, none⟩ : Addr).add j) = some u) := slot_at vx2 x1 y2); (replace T := T.below A6); (clear A6); (generalize vx2.heap.size = jb at *); (generalize vx2.alloc (.cells #[.int .i64 x1, .int .i64 y2] 72) = vx3 at *); (obtain ⟨n0, n1, n2, n3, n4, n5, n6⟩ := id T.1)
          refine hK.out _ _ ?_ (fun hHeld => ?_)
          · trivial
          clear hK K
          (try simp only [Act.put, List.setIfInBounds_toArray, List.set_cons_zero, List.set_cons_succ])
          refine wpAnyH_ready (rs := [9]) (by kernel_rfl) (by simp) ?_
          refine (AllReadyH.cons (by rw [List.getElem?_toArray]; rfl) (fun K hK => ?_) AllReadyH.nil)
          rw [if_pos (by rfl)]; (clear n0 n1 n2 n3 n4 n5 n6); (have hsz : w.heap.size + 1 ≤ vx3.heap.size := by have := T.1.1; omega); refine wp_append13 _ _ 25 rfl (w.heap.size + 1) 72 i0 (.agg #[.int .i64 0, .int .i64 0]) 2 16 Tryd.underlying25 hi hz0 hz1 hz2 rfl (by decide) _ _ _ rfl T.2.1 ⟨jb, 0, none⟩ 1 1 [.int .i64 x1, .int .i64 y2] rfl rfl HN.out (slot_one _ _) (by unfold maxLen; omega) (by omega) hsz ?_; intro v' wn hown' hgrow hfr; (rw [← srow_ins M n (x1, y2)] at hown'); (obtain ⟨a', c', rfl, _, _, _⟩ := ownF_src hown'); (have T3 := T.grow hp hB hbt hgrow hown' hfr); (have KQ := T.1.kept hgrow (fun e => T.2.2.2.2.2 bt e.symm rfl)); (clear hown' hgrow hfr HN T hsz); (obtain ⟨n0, n1, n2, n3, n4, n5, n6⟩ := id KQ)
          refine hK.out _ _ ?_ (fun hHeld => ?_)
          · trivial
          clear hK K
          (try simp only [Act.put, List.setIfInBounds_toArray, List.set_cons_zero, List.set_cons_succ])
          refine wpAnyH_take (i := 10) (v := ?_) (by rw [List.getElem?_toArray]; rfl) (by kernel_rfl) (by kernel_rfl) (by kernel_rfl) (by intro _ _ _ h; exact h) (Or.inl ⟨by rfl, ?_⟩) (by assumption) ?_
          rotate_left
          · (intro w hSw; (try dsimp only at hSw); go_simp; all_goals with_reducible rfl)
          (try simp only [Act.put, List.setIfInBounds_toArray, List.set_cons_zero, List.set_cons_succ])
          refine wpAnyH_ready (rs := [11]) (by kernel_rfl) (by simp) ?_
          refine (AllReadyH.cons (by rw [List.getElem?_toArray]; rfl) (fun K hK => ?_) AllReadyH.nil)
          go_simp
          (clear n0 n1 n2 n3 n4 n5 n6 KQ); (generalize wn.setCell ⟨bt, 2, none⟩ (.slice a' (n + 1) c') = v9 at *)
          refine hK.out _ _ ?_ (fun hHeld => ?_)
          · trivial
          clear hK K
          (try simp only [Act.put, List.setIfInBounds_toArray, List.set_cons_zero, List.set_cons_succ])
          refine wpAnyH_done (by kernel_rfl) ?_ _
          go_wp2_with fail
          go_roundw
          case rel => exact ⟨a', n + 1, c', _, by go_num, by omega, T3⟩
          case measure => simp [intOf]; omega
        · go_simp
          refine (l1Below_any B p 4 _ T.2.2.1).mono ?_; rintro e vx1 ⟨x1, rfl, x1l, x1h, x1p, _, cc, bb⟩; (clear n0 n1 n2 n3 n4 n5 n6); (have x1q := x1p (by omega)); (replace T := T.but cc bb hp hbt); (clear cc bb x1p); (obtain ⟨n0, n1, n2, n3, n4, n5, n6⟩ := id T.1)
          (try go_wp2_with fail)
          refine hK.out _ _ ?_ (fun hHeld => ?_)
          · trivial
          clear hK K
          (try simp only [Act.put, List.setIfInBounds_toArray, List.set_cons_zero, List.set_cons_succ])
          refine wpAnyH_ready (rs := [1, 5]) (by kernel_rfl) (by simp) ?_
          refine (AllReadyH.cons (by rw [List.getElem?_toArray]; rfl) (fun K hK => ?_) (AllReadyH.cons (by rw [List.getElem?_toArray]; rfl) (fun K hK => ?_) AllReadyH.nil))
          · go_simp
            refine hK.out _ _ ?_ (fun hHeld => ?_)
            · trivial
            clear hK K
            (try simp only [Act.put, List.setIfInBounds_toArray, List.set_cons_zero, List.set_cons_succ])
            refine wpAnyH_ready (rs := [5]) (by kernel_rfl) (by simp) ?_
            refine (AllReadyH.cons (by rw [List.getElem?_toArray]; rfl) (fun K hK => ?_) AllReadyH.nil)
            go_simp
            refine (l1Below_any B p 60 _ T.2.2.1).mono ?_; rintro e vx2 ⟨x2, rfl, x2l, x2h, x2p, _, cc, bb⟩; (clear n0 n1 n2 n3 n4 n5 n6); (have x2q := x2p (by omega)); (replace T := T.but cc bb hp hbt); (clear cc bb x2p); (obtain ⟨n0, n1, n2, n3, n4, n5, n6⟩ := id T.1)
            (try go_wp2_with fail)
            refine hK.out _ _ ?_ (fun hHeld => ?_)
            · trivial
            clear hK K
            (try simp only [Act.put, List.setIfInBounds_toArray, List.set_cons_zero, List.set_cons_succ])
            refine wpAnyH_take (i := 6) (v := ?_) (by rw [List.getElem?_toArray]; rfl) (by kernel_rfl) (by kernel_rfl) (by kernel_rfl) (by intro _ _ _ h; exact h) (Or.inl ⟨by rfl, ?_⟩) (by assumption) ?_
            rotate_left
            · (intro w hSw; (try dsimp only at hSw); go_simp; all_goals with_reducible rfl)
            (try simp only [Act.put, List.setIfInBounds_toArray, List.set_cons_zero, List.set_cons_succ])
            refine wpAnyH_take (i := 7) (v := ?_) (by rw [List.getElem?_toArray]; rfl) (by kernel_rfl) (by kernel_rfl) (by kernel_rfl) (by intro _ _ _ h; exact h) (Or.inl ⟨by rfl, ?_⟩) (by assumption) ?_
            rotate_left
            · (intro w hSw; (try dsimp only at hSw); go_simp; all_goals with_reducible rfl)
            (try simp only [Act.put, List.setIfInBounds_toArray, List.set_cons_zero, List.set_cons_succ])
            refine wpAnyH_ready (rs := [8]) (by kernel_rfl) (by simp) ?_
            refine (AllReadyH.cons (by rw [List.getElem?_toArray]; rfl) (fun K hK => ?_) AllReadyH.nil)
            go_simp
            (clear n0 n1 n2 n3 n4 n5 n6); (generalize IntKind.i64.wrap (1 + x2) = y2 at *); (have A6 := Below.nw vx2 (.cells #[.int .i64 x1, .int .i64 y2] 72)); (have HN : Hid (∀ j u, [Value.int .i64 x1, .int .i64 y2][j]? = some u → (vx2.alloc (.cells #[.int .i64 x1, .int .i64 y2] 72)).cell? ((⟨vx2.heap.size, 0, none⟩ : Addr).add j) = some u) := slot_at vx2 x1 y2); (replace T := T.below A6); (clear A6); (generalize vx2.heap.size = jb at *); (generalize vx2.alloc (.cells #[.int .i64 x1, .int .i64 y2] 72) = vx3 at *); (obtain ⟨n0, n1, n2, n3, n4, n5, n6⟩ := id T.1)
            refine hK.out _ _ ?_ (fun hHeld => ?_)
            · trivial
            clear hK K
            (try simp only [Act.put, List.setIfInBounds_toArray, List.set_cons_zero, List.set_cons_succ])
            refine wpAnyH_ready (rs := [9]) (by kernel_rfl) (by simp) ?_
            refine (AllReadyH.cons (by rw [List.getElem?_toArray]; rfl) (fun K hK => ?_) AllReadyH.nil)
            rw [if_pos (by rfl)]; (clear n0 n1 n2 n3 n4 n5 n6); (have hsz : w.heap.size + 1 ≤ vx3.heap.size := by have := T.1.1; omega); refine wp_append13 _ _ 25 rfl (w.heap.size + 1) 72 i0 (.agg #[.int .i64 0, .int .i64 0]) 2 16 Tryd.underlying25 hi hz0 hz1 hz2 rfl (by decide) _ _ _ rfl T.2.1 ⟨jb, 0, none⟩ 1 1 [.int .i64 x1, .int .i64 y2] rfl rfl HN.out (slot_one _ _) (by unfold maxLen; omega) (by omega) hsz ?_; intro v' wn hown' hgrow hfr; (rw [← srow_ins M n (x1, y2)] at hown'); (obtain ⟨a', c', rfl, _, _, _⟩ := ownF_src hown'); (have T3 := T.grow hp hB hbt hgrow hown' hfr); (have KQ := T.1.kept hgrow (fun e => T.2.2.2.2.2 bt e.symm rfl)); (clear hown' hgrow hfr HN T hsz); (obtain ⟨n0, n1, n2, n3, n4, n5, n6⟩ := id KQ)
            refine hK.out _ _ ?_ (fun hHeld => ?_)
            · trivial
            clear hK K
            (try simp only [Act.put, List.setIfInBounds_toArray, List.set_cons_zero, List.set_cons_succ])
            refine wpAnyH_take (i := 10) (v := ?_) (by rw [List.getElem?_toArray]; rfl) (by kernel_rfl) (by kernel_rfl) (by kernel_rfl) (by intro _ _ _ h; exact h) (Or.inl ⟨by rfl, ?_⟩) (by assumption) ?_
            rotate_left
            · (intro w hSw; (try dsimp only at hSw); go_simp; all_goals with_reducible rfl)
            (try simp only [Act.put, List.setIfInBounds_toArray, List.set_cons_zero, List.set_cons_succ])
            refine wpAnyH_ready (rs := [11]) (by kernel_rfl) (by simp) ?_
            refine (AllReadyH.cons (by rw [List.getElem?_toArray]; rfl) (fun K hK => ?_) AllReadyH.nil)
            go_simp
            (clear n0 n1 n2 n3 n4 n5 n6 KQ); (generalize wn.setCell ⟨bt, 2, none⟩ (.slice a' (n + 1) c') = v9 at *)
            refine hK.out _ _ ?_ (fun hHeld => ?_)
            · trivial
            clear hK K
            (try simp only [Act.put, List.setIfInBounds_toArray, List.set_cons_zero, List.set_cons_succ])
            refine wpAnyH_done (by kernel_rfl) ?_ _
            go_wp2_with fail
            go_roundw
            case rel => exact ⟨a', n + 1, c', _, by go_num, by omega, T3⟩
            case measure => simp [intOf]; omega
          · go_simp
            refine (l1Below_any B p 60 _ T.2.2.1).mono ?_; rintro e vx2 ⟨x2, rfl, x2l, x2h, x2p, _, cc, bb⟩; (clear n0 n1 n2 n3 n4 n5 n6); (have x2q := x2p (by omega)); (replace T := T.but cc bb hp hbt); (clear cc bb x2p); (obtain ⟨n0, n1, n2, n3, n4, n5, n6⟩ := id T.1)
            (try go_wp2_with fail)
            refine hK.out _ _ ?_ (fun hHeld => ?_)
            · trivial
            clear hK K
            (try simp only [Act.put, List.setIfInBounds_toArray, List.set_cons_zero, List.set_cons_succ])
            refine wpAnyH_take (i := 6) (v := ?_) (by rw [List.getElem?_toArray]; rfl) (by kernel_rfl) (by kernel_rfl) (by kernel_rfl) (by intro _ _ _ h; exact h) (Or.inl ⟨by rfl, ?_⟩) (by assumption) ?_
            rotate_left
            · (intro w hSw; (try dsimp only at hSw); go_simp; all_goals with_reducible rfl)
            (try simp only [Act.put, List.setIfInBounds_toArray, List.set_cons_zero, List.set_cons_succ])
            refine wpAnyH_take (i := 7) (v := ?_) (by rw [List.getElem?_toArray]; rfl) (by kernel_rfl) (by kernel_rfl) (by kernel_rfl) (by intro _ _ _ h; exact h) (Or.inl ⟨by rfl, ?_⟩) (by assumption) ?_
            rotate_left
            · (intro w hSw; (try dsimp only at hSw); go_simp; all_goals with_reducible rfl)
            (try simp only [Act.put, List.setIfInBounds_toArray, List.set_cons_zero, List.set_cons_succ])
            refine wpAnyH_ready (rs := [1, 8]) (by kernel_rfl) (by simp) ?_
            refine (AllReadyH.cons (by rw [List.getElem?_toArray]; rfl) (fun K hK => ?_) (AllReadyH.cons (by rw [List.getElem?_toArray]; rfl) (fun K hK => ?_) AllReadyH.nil))
            · go_simp
              refine hK.out _ _ ?_ (fun hHeld => ?_)
              · trivial
              clear hK K
              (try simp only [Act.put, List.setIfInBounds_toArray, List.set_cons_zero, List.set_cons_succ])
              refine wpAnyH_ready (rs := [8]) (by kernel_rfl) (by simp) ?_
              refine (AllReadyH.cons (by rw [List.getElem?_toArray]; rfl) (fun K hK => ?_) AllReadyH.nil)
              go_simp
              (clear n0 n1 n2 n3 n4 n5 n6); (generalize IntKind.i64.wrap (1 + x2) = y2 at *); (have A6 := Below.nw vx2 (.cells #[.int .i64 x1, .int .i64 y2] 72)); (have HN : Hid (∀ j u, [Value.int .i64 x1, .int .i64 y2][j]? = some u → (vx2.alloc (.cells #[.int .i64 x1, .int .i64 y2] 72)).cell? ((⟨vx2.heap.size, 0, none⟩ : Addr).add j) = some u) := slot_at vx2 x1 y2); (replace T := T.below A6); (clear A6); (generalize vx2.heap.size = jb at *); (generalize vx2.alloc (.cells #[.int .i64 x1, .int .i64 y2] 72) = vx3 at *); (obtain ⟨n0, n1, n2, n3, n4, n5, n6⟩ := id T.1)
              refine hK.out _ _ ?_ (fun hHeld => ?_)
              · trivial
              clear hK K
              (try simp only [Act.put, List.setIfInBounds_toArray, List.set_cons_zero, List.set_cons_succ])
              refine wpAnyH_ready (rs := [9]) (by kernel_rfl) (by simp) ?_
              refine (AllReadyH.cons (by rw [List.getElem?_toArray]; rfl) (fun K hK => ?_) AllReadyH.nil)
              rw [if_pos (by rfl)]; (clear n0 n1 n2 n3 n4 n5 n6); (have hsz : w.heap.size + 1 ≤ vx3.heap.size := by have := T.1.1; omega); refine wp_append13 _ _ 25 rfl (w.heap.size + 1) 72 i0 (.agg #[.int .i64 0, .int .i64 0]) 2 16 Tryd.underlying25 hi hz0 hz1 hz2 rfl (by decide) _ _ _ rfl T.2.1 ⟨jb, 0, none⟩ 1 1 [.int .i64 x1, .int .i64 y2] rfl rfl HN.out (slot_one _ _) (by unfold maxLen; omega) (by omega) hsz ?_; intro v' wn hown' hgrow hfr; (rw [← srow_ins M n (x1, y2)] at hown'); (obtain ⟨a', c', rfl, _, _, _⟩ := ownF_src hown'); (have T3 := T.grow hp hB hbt hgrow hown' hfr); (have KQ := T.1.kept hgrow (fun e => T.2.2.2.2.2 bt e.symm rfl)); (clear hown' hgrow hfr HN T hsz); (obtain ⟨n0, n1, n2, n3, n4, n5, n6⟩ := id KQ)
              refine hK.out _ _ ?_ (fun hHeld => ?_)
              · trivial
              clear hK K
              (try simp only [Act.put, List.setIfInBounds_toArray, List.set_cons_zero, List.set_cons_succ])
              refine wpAnyH_take (i := 10) (v := ?_) (by rw [List.getElem?_toArray]; rfl) (by kernel_rfl) (by kernel_rfl) (by kernel_rfl) (by intro _ _ _ h; exact h) (Or.inl ⟨by rfl, ?_⟩) (by assumption) ?_
              rotate_left
              · (intro w hSw; (try dsimp only at hSw); go_simp; all_goals with_reducible rfl)
              (try simp only [Act.put, List.setIfInBounds_toArray, List.set_cons_zero, List.set_cons_succ])
              refine wpAnyH_ready (rs := [11]) (by kernel_rfl) (by simp) ?_
              refine (AllReadyH.cons (by rw [List.getElem?_toArray]; rfl) (fun K hK => ?_) AllReadyH.nil)
              go_simp
              (clear n0 n1 n2 n3 n4 n5 n6 KQ); (generalize wn.setCell ⟨bt, 2, none⟩ (.slice a' (n + 1) c') = v9 at *)
              refine hK.out _ _ ?_ (fun hHeld => ?_)
              · trivial
              clear hK K
              (try simp only [Act.put, List.setIfInBounds_toArray, List.set_cons_zero, List.set_cons_succ])
              refine wpAnyH_done (by kernel_rfl) ?_ _
              go_wp2_with fail
              go_roundw
              case rel => exact ⟨a', n + 1, c', _, by go_num, by omega, T3⟩
              case measure => simp [intOf]; omega
            · go_simp
              (clear n0 n1 n2 n3 n4 n5 n6); (generalize IntKind.i64.wrap (1 + x2) = y2 at *); (have A6 := Below.nw vx2 (.cells #[.int .i64 x1, .int .i64 y2] 72)); (have HN : Hid (∀ j u, [Value.int .i64 x1, .int .i64 y2][j]? = some u → (vx2.alloc (.cells #[.int .i64 x1, .int .i64 y2] 72)).cell? ((⟨vx2.heap.size, 0, none⟩ : Addr).add j) = some u) := slot_at vx2 x1 y2); (replace T := T.below A6); (clear A6); (generalize vx2.heap.size = jb at *); (generalize vx2.alloc (.cells #[.int .i64 x1, .int .i64 y2] 72) = vx3 at *); (obtain ⟨n0, n1, n2, n3, n4, n5, n6⟩ := id T.1)
              refine hK.out _ _ ?_ (fun hHeld => ?_)
              · trivial
              clear hK K
              (try simp only [Act.put, List.setIfInBounds_toArray, List.set_cons_zero, List.set_cons_succ])
              refine wpAnyH_ready (rs := [1]) (by kernel_rfl) (by simp) ?_
              refine (AllReadyH.cons (by rw [List.getElem?_toArray]; rfl) (fun K hK => ?_) AllReadyH.nil)
              go_simp
              refine hK.out _ _ ?_ (fun hHeld => ?_)
              · trivial
              clear hK K
              (try simp only [Act.put, List.setIfInBounds_toArray, List.set_cons_zero, List.set_cons_succ])
              refine wpAnyH_ready (rs := [9]) (by kernel_rfl) (by simp) ?_
              refine (AllReadyH.cons (by rw [List.getElem?_toArray]; rfl) (fun K hK => ?_) AllReadyH.nil)
              rw [if_pos (by rfl)]; (clear n0 n1 n2 n3 n4 n5 n6); (have hsz : w.heap.size + 1 ≤ vx3.heap.size := by have := T.1.1; omega); refine wp_append13 _ _ 25 rfl (w.heap.size + 1) 72 i0 (.agg #[.int .i64 0, .int .i64 0]) 2 16 Tryd.underlying25 hi hz0 hz1 hz2 rfl (by decide) _ _ _ rfl T.2.1 ⟨jb, 0, none⟩ 1 1 [.int .i64 x1, .int .i64 y2] rfl rfl HN.out (slot_one _ _) (by unfold maxLen; omega) (by omega) hsz ?_; intro v' wn hown' hgrow hfr; (rw [← srow_ins M n (x1, y2)] at hown'); (obtain ⟨a', c', rfl, _, _, _⟩ := ownF_src hown'); (have T3 := T.grow hp hB hbt hgrow hown' hfr); (have KQ := T.1.kept hgrow (fun e => T.2.2.2.2.2 bt e.symm rfl)); (clear hown' hgrow hfr HN T hsz); (obtain ⟨n0, n1, n2, n3, n4, n5, n6⟩ := id KQ)
              refine hK.out _ _ ?_ (fun hHeld => ?_)
              · trivial
              clear hK K
              (try simp only [Act.put, List.setIfInBounds_toArray, List.set_cons_zero, List.set_cons_succ])
              refine wpAnyH_take (i := 10) (v := ?_) (by rw [List.getElem?_toArray]; rfl) (by kernel_rfl) (by kernel_rfl) (by kernel_rfl) (by intro _ _ _ h; exact h) (Or.inl ⟨by rfl, ?_⟩) (by assumption) ?_
              rotate_left
              · (intro w hSw; (try dsimp only at hSw); go_simp; all_goals with_reducible rfl)
              (try simp only [Act.put, List.setIfInBounds_toArray, List.set_cons_zero, List.set_cons_succ])
              refine wpAnyH_ready (rs := [11]) (by kernel_rfl) (by simp) ?_
              refine (AllReadyH.cons (by rw [List.getElem?_toArray]; rfl) (fun K hK => ?_) AllReadyH.nil)
              go_simp
              (clear n0 n1 n2 n3 n4 n5 n6 KQ); (generalize wn.setCell ⟨bt, 2, none⟩ (.slice a' (n + 1) c') = v9 at *)
              refine hK.out _ _ ?_ (fun hHeld => ?_)
              · trivial
              clear hK K
              (try simp only [Act.put, List.setIfInBounds_toArray, List.set_cons_zero, List.set_cons_succ])
              refine wpAnyH_done (by kernel_rfl) ?_ _
              go_wp2_with fail
              go_roundw
              case rel => exact ⟨a', n + 1, c', _, by go_num, by omega, T3⟩
              case measure => simp [intOf]; omega
      · have hkn : n = N := by omega
        subst hkn
        have hli : ¬ (n : Int) < (n : Int) := by omega
        have RS := T.result hp hB (u0 := .int .i64 s) (u1 := .int .i64 g) (u2 := .slice A n c)
        have RR := ((T.2.2.2.2.1.set0 (.int .i64 s)).set1 (.int .i64 g)).set2 (.slice A n c)
        obtain ⟨n0, n1, n2, n3, n4, n5, n6⟩ := id T.1
        obtain ⟨r0, r1, r2, r3, r4, r5, r6⟩ := id T.2.2.2.2.1
        go_wp2_with fail
        clear n0 n1 n2 n3 n4 n5 n6
        clear r0 r1 r2 r3 r4 r5 r6
        generalize ((wr.setCell ⟨w.heap.size, 0, none⟩ (.int .i64 s)).setCell ⟨w.heap.size, 1, none⟩ (.int .i64 g)).setCell ⟨w.heap.size, 2, none⟩ (.slice A n c) = vz at *
        obtain ⟨r0, r1, r2, r3, r4, r5, r6⟩ := id RR
        exact bodyPost_ret (v := (.agg #[.int .i64 s, .int .i64 g, .slice A n c])) (by simp (maxDischargeDepth := 6) [results, Tryd.results71, go_sem, *]) rfl ⟨s, g, A, n, c, M, rfl, hN2.2, fun _ => hN2.1, RS⟩
  · go_upto_region 5 with fail
    have hN0 : (0 : Int) ≤ 12 := by omega
    have hN1 : 1 ≤ (12 : Int) ∧ (12 : Int) ≤ 12 := by omega
    clear hm ml
    have hN2 : 1 ≤ 12 ∧ 12 ≤ 12 := by omega
    clear hN0 hN1
    go_wp2_with fail
    go_loopw [5] (fun i wr => ∃ (A : Option Addr) (n c : Nat) (M : Nat → SlT), i = .int .i64 (n : Int) ∧ n ≤ 12 ∧ Pw w B p bt wr s g A n c M) (fun i _ => 12 - (intOf i).toNat)
    case atStart => exact ⟨none, 0, 0, fun _ => zSl, rfl, Nat.zero_le _, T⟩
    case round =>
      clear T
      obtain ⟨A, n, c, M, rfl, hn, T⟩ := hrel
      by_cases hlt : n < 12
      · have hli : (n : Int) < (12 : Int) := by omega
        obtain ⟨n0, n1, n2, n3, n4, n5, n6⟩ := id T.1
        go_upto_region 8 with fail
        refine wp_region_held_drew (S := (fun _ => True)) (by kernel_rfl) ?_ (fun hHeld => ?_)
        · trivial
        clear n0 n1 n2 n3 n4 n5 n6
        replace T := T.drew
        generalize wr.drew = vx at *
        (obtain ⟨n0, n1, n2, n3, n4, n5, n6⟩ := id T.1)
        refine wpAnyH_take (i := 0) (v := ?_) (by rw [List.getElem?_toArray]; rfl) (by kernel_rfl) (by kernel_rfl) (by kernel_rfl) (by intro _ _ _ h; exact h) (Or.inl ⟨by rfl, ?_⟩) (by assumption) ?_
        rotate_left
        · (intro w hSw; (try dsimp only at hSw); go_simp; all_goals with_reducible rfl)
        (try simp only [Act.put, List.setIfInBounds_toArray, List.set_cons_zero, List.set_cons_succ])
        refine wpAnyH_take (i := 2) (v := ?_) (by rw [List.getElem?_toArray]; rfl) (by kernel_rfl) (by kernel_rfl) (by kernel_rfl) (by intro _ _ _ h; exact h) (Or.inl ⟨by rfl, ?_⟩) (by assumption) ?_
        rotate_left
        · (intro w hSw; (try dsimp only at hSw); go_simp; all_goals with_reducible rfl)
        (try simp only [Act.put, List.setIfInBounds_toArray, List.set_cons_zero, List.set_cons_succ])
        refine wpAnyH_take (i := 4) (v := ?_) (by rw [List.getElem?_toArray]; rfl) (by kernel_rfl) (by kernel_rfl) (by kernel_rfl) (by intro _ _ _ h; exact h) (Or.inl ⟨by rfl, ?_⟩) (by assumption) ?_
        rotate_left
        · (intro w hSw; (try dsimp only at hSw); go_simp; all_goals with_reducible rfl)
        (try simp only [Act.put, List.setIfInBounds_toArray, List.set_cons_zero, List.set_cons_succ])
        refine wpAnyH_ready (rs := [1, 3]) (by kernel_rfl) (by simp) ?_
        refine (AllReadyH.cons (by rw [List.getElem?_toArray]; rfl) (fun K hK => ?_) (AllReadyH.cons (by rw [List.getElem?_toArray]; rfl) (fun K hK => ?_) AllReadyH.nil))
        · go_simp
          refine hK.out _ _ ?_ (fun hHeld => ?_)
          · trivial
          clear hK K
          (try simp only [Act.put, List.setIfInBounds_toArray, List.set_cons_zero, List.set_cons_succ])
          refine wpAnyH_ready (rs := [3]) (by kernel_rfl) (by simp) ?_
          refine (AllReadyH.cons (by rw [List.getElem?_toArray]; rfl) (fun K hK => ?_) AllReadyH.nil)
          go_simp
          refine (l1Below_any B p 4 _ T.2.2.1).mono ?_; rintro e vx1 ⟨x1, rfl, x1l, x1h, x1p, _, cc, bb⟩; (clear n0 n1 n2 n3 n4 n5 n6); (have x1q := x1p (by omega)); (replace T := T.but cc bb hp hbt); (clear cc bb x1p); (obtain ⟨n0, n1, n2, n3, n4, n5, n6⟩ := id T.1)
          (try go_wp2_with fail)
          refine hK.out _ _ ?_ (fun hHeld => ?_)
          · trivial
          clear hK K
          (try simp only [Act.put, List.setIfInBounds_toArray, List.set_cons_zero, List.set_cons_succ])
          refine wpAnyH_ready (rs := [5]) (by kernel_rfl) (by simp) ?_
          refine (AllReadyH.cons (by rw [List.getElem?_toArray]; rfl) (fun K hK => ?_) AllReadyH.nil)
          go_simp
          refine (l1Below_any B p 60 _ T.2.2.1).mono ?_; rintro e vx2 ⟨x2, rfl, x2l, x2h, x2p, _, cc, bb⟩; (clear n0 n1 n2 n3 n4 n5 n6); (have x2q := x2p (by omega)); (replace T := T.but cc bb hp hbt); (clear cc bb x2p); (obtain ⟨n0, n1, n2, n3, n4, n5, n6⟩ := id T.1)
          (try go_wp2_with fail)
          refine hK.out _ _ ?_ (fun hHeld => ?_)
          · trivial
          clear hK K
          (try simp only [Act.put, List.setIfInBounds_toArray, List.set_cons_zero, List.set_cons_succ])
          refine wpAnyH_take (i := 6) (v := ?_) (by rw [List.getElem?_toArray]; rfl) (by kernel_rfl) (by kernel_rfl) (by kernel_rfl) (by intro _ _ _ h; exact h) (Or.inl ⟨by rfl, ?_⟩) (by assumption) ?_
          rotate_left
          · (intro w hSw; (try dsimp only at hSw); go_simp; all_goals with_reducible rfl)
          (try simp only [Act.put, List.setIfInBounds_toArray, List.set_cons_zero, List.set_cons_succ])
          refine wpAnyH_take (i := 7) (v := ?_) (by rw [List.getElem?_toArray]; rfl) (by kernel_rfl) (by kernel_rfl) (by kernel_rfl) (by intro _ _ _ h; exact h) (Or.inl ⟨by rfl, ?_⟩) (by assumption) ?_
          rotate_left
          · (intro w hSw; (try dsimp only at hSw); go_simp; all_goals with_reducible rfl)
          (try simp only [Act.put, List.setIfInBounds_toArray, List.set_cons_zero, List.set_cons_succ])
          refine wpAnyH_ready (rs := [8]) (by kernel_rfl) (by simp) ?_
          refine (AllReadyH.cons (by rw [List.getElem?_toArray]; rfl) (fun K hK => ?_) AllReadyH.nil)
          go_simp
          (clear n0 n1 n2 n3 n4 n5 n6); (generalize IntKind.i64.wrap (1 + x2) = y2 at *); (have A6 := Below.nw vx2 (.cells #[.int .i64 x1, .int .i64 y2] 72)); (have HN : Hid (∀ j u, [Value.int .i64 x1, .int .i64 y2][j]? = some u → (vx2.alloc (.cells #[.int .i64 x1, .int .i64 y2] 72)).cell? ((⟨vx2.heap.size, 0, none⟩ : Addr).add j) = some u) := slot_at vx2 x1 y2); (replace T := T.below A6); (clear A6); (generalize vx2.heap.size = jb at *); (generalize vx2.alloc (.cells #[.int .i64 x1, .int .i64 y2] 72) = vx3 at *); (obtain ⟨n0, n1, n2, n3, n4, n5, n6⟩ := id T.1)
          refine hK.out _ _ ?_ (fun hHeld => ?_)
          · trivial
          clear hK K
          (try simp only [Act.put, List.setIfInBounds_toArray, List.set_cons_zero, List.set_cons_succ])
          refine wpAnyH_ready (rs := [9]) (by kernel_rfl) (by simp) ?_
          refine (AllReadyH.cons (by rw [List.getElem?_toArray]; rfl) (fun K hK => ?_) AllReadyH.nil)
          rw [if_pos (by rfl)]; (clear n0 n1 n2 n3 n4 n5 n6); (have hsz : w.heap.size + 1 ≤ vx3.heap.size := by have := T.1.1; omega); refine wp_append13 _ _ 25 rfl (w.heap.size + 1) 72 i0 (.agg #[.int .i64 0, .int .i64 0]) 2 16 Tryd.underlying25 hi hz0 hz1 hz2 rfl (by decide) _ _ _ rfl T.2.1 ⟨jb, 0, none⟩ 1 1 [.int .i64 x1, .int .i64 y2] rfl rfl HN.out (slot_one _ _) (by unfold maxLen; omega) (by omega) hsz ?_; intro v' wn hown' hgrow hfr; (rw [← srow_ins M n (x1, y2)] at hown'); (obtain ⟨a', c', rfl, _, _, _⟩ := ownF_src hown'); (have T3 := T.grow hp hB hbt hgrow hown' hfr); (have KQ := T.1.kept hgrow (fun e => T.2.2.2.2.2 bt e.symm rfl)); (clear hown' hgrow hfr HN T hsz); (obtain ⟨n0, n1, n2, n3, n4, n5, n6⟩ := id KQ)
          refine hK.out _ _ ?_ (fun hHeld => ?_)
          · trivial
          clear hK K
          (try simp only [Act.put, List.setIfInBounds_toArray, List.set_cons_zero, List.set_cons_succ])
          refine wpAnyH_take (i := 10) (v := ?_) (by rw [List.getElem?_toArray]; rfl) (by kernel_rfl) (by kernel_rfl) (by kernel_rfl) (by intro _ _ _ h; exact h) (Or.inl ⟨by rfl, ?_⟩) (by assumption) ?_
          rotate_left
          · (intro w hSw; (try dsimp only at hSw); go_simp; all_goals with_reducible rfl)
          (try simp only [Act.put, List.setIfInBounds_toArray, List.set_cons_zero, List.set_cons_succ])
          refine wpAnyH_ready (rs := [11]) (by kernel_rfl) (by simp) ?_
          refine (AllReadyH.cons (by rw [List.getElem?_toArray]; rfl) (fun K hK => ?_) AllReadyH.nil)
          go_simp
          (clear n0 n1 n2 n3 n4 n5 n6 KQ); (generalize wn.setCell ⟨bt, 2, none⟩ (.slice a' (n + 1) c') = v9 at *)
          refine hK.out _ _ ?_ (fun hHeld => ?_)
          · trivial
          clear hK K
          (try simp only [Act.put, List.setIfInBounds_toArray, List.set_cons_zero, List.set_cons_succ])
          refine wpAnyH_done (by kernel_rfl) ?_ _
          go_wp2_with fail
          go_roundw
          case rel => exact ⟨a', n + 1, c', _, by go_num, by omega, T3⟩
          case measure => simp [intOf]; omega
        · go_simp
          refine (l1Below_any B p 4 _ T.2.2.1).mono ?_; rintro e vx1 ⟨x1, rfl, x1l, x1h, x1p, _, cc, bb⟩; (clear n0 n1 n2 n3 n4 n5 n6); (have x1q := x1p (by omega)); (replace T := T.but cc bb hp hbt); (clear cc bb x1p); (obtain ⟨n0, n1, n2, n3, n4, n5, n6⟩ := id T.1)
          (try go_wp2_with fail)
          refine hK.out _ _ ?_ (fun hHeld => ?_)
          · trivial
          clear hK K
          (try simp only [Act.put, List.setIfInBounds_toArray, List.set_cons_zero, List.set_cons_succ])
          refine wpAnyH_ready (rs := [1, 5]) (by kernel_rfl) (by simp) ?_
          refine (AllReadyH.cons (by rw [List.getElem?_toArray]; rfl) (fun K hK => ?_) (AllReadyH.cons (by rw [List.getElem?_toArray]; rfl) (fun K hK => ?_) AllReadyH.nil))
          · go_simp
            refine hK.out _ _ ?_ (fun hHeld => ?_)
            · trivial
            clear hK K
            (try simp only [Act.put, List.setIfInBounds_toArray, List.set_cons_zero, List.set_cons_succ])
            refine wpAnyH_ready (rs := [5]) (by kernel_rfl) (by simp) ?_
            refine (AllReadyH.cons (by rw [List.getElem?_toArray]; rfl) (fun K hK => ?_) AllReadyH.nil)
            go_simp
            refine (l1Below_any B p 60 _ T.2.2.1).mono ?_; rintro e vx2 ⟨x2, rfl, x2l, x2h, x2p, _, cc, bb⟩; (clear n0 n1 n2 n3 n4 n5 n6); (have x2q := x2p (by omega)); (replace T := T.but cc bb hp hbt); (clear cc bb x2p); (obtain ⟨n0, n1, n2, n3, n4, n5, n6⟩ := id T.1)
            (try go_wp2_with fail)
            refine hK.out _ _ ?_ (fun hHeld => ?_)
            · trivial
            clear hK K
            (try simp only [Act.put, List.setIfInBounds_toArray, List.set_cons_zero, List.set_cons_succ])
            refine wpAnyH_take (i := 6) (v := ?_) (by rw [List.getElem?_toArray]; rfl) (by kernel_rfl) (by kernel_rfl) (by kernel_rfl) (by intro _ _ _ h; exact h) (Or.inl ⟨by rfl, ?_⟩) (by assumption) ?_
            rotate_left
            · (intro w hSw; (try dsimp only at hSw); go_simp; all_goals with_reducible rfl)
            (try simp only [Act.put, List.setIfInBounds_toArray, List.set_cons_zero, List.set_cons_succ])
            refine wpAnyH_take (i := 7) (v := ?_) (by rw [List.getElem?_toArray]; rfl) (by kernel_rfl) (by kernel_rfl) (by kernel_rfl) (by intro _ _ _ h; exact h) (Or.inl ⟨by rfl, ?_⟩) (by assumption) ?_
            rotate_left
            · (intro w hSw; (try dsimp only at hSw); go_simp; all_goals with_reducible rfl)
            (try simp only [Act.put, List.setIfInBounds_toArray, List.set_cons_zero, List.set_cons_succ])
            refine wpAnyH_ready (rs := [8]) (by kernel_rfl) (by simp) ?_
            refine (AllReadyH.cons (by rw [List.getElem?_toArray]; rfl) (fun K hK => ?_) AllReadyH.nil)
            go_simp
            (clear n0 n1 n2 n3 n4 n5 n6); (generalize IntKind.i64.wrap (1 + x2) = y2 at *); (have A6 := Below.nw vx2 (.cells #[.int .i64 x1, .int .i64 y2] 72)); (have HN : Hid (∀ j u, [Value.int .i64 x1, .int .i64 y2][j]? = some u → (vx2.alloc (.cells #[.int .i64 x1, .int .i64 y2] 72)).cell? ((⟨vx2.heap.size, 0, none⟩ : Addr).add j) = some u) := slot_at vx2 x1 y2); (replace T := T.below A6); (clear A6); (generalize vx2.heap.size = jb at *); (generalize vx2.alloc (.cells #[.int .i64 x1, .int .i64 y2] 72) = vx3 at *); (obtain ⟨n0, n1, n2, n3, n4, n5, n6⟩ := id T.1)
            refine hK.out _ _ ?_ (fun hHeld => ?_)
            · trivial
            clear hK K
            (try simp only [Act.put, List.setIfInBounds_toArray, List.set_cons_zero, List.set_cons_succ])
            refine wpAnyH_ready (rs := [9]) (by kernel_rfl) (by simp) ?_
            refine (AllReadyH.cons (by rw [List.getElem?_toArray]; rfl) (fun K hK => ?_) AllReadyH.nil)
            rw [if_pos (by rfl)]; (clear n0 n1 n2 n3 n4 n5 n6); (have hsz : w.heap.size + 1 ≤ vx3.heap.size := by have := T.1.1; omega); refine wp_append13 _ _ 25 rfl (w.heap.size + 1) 72 i0 (.agg #[.int .i64 0, .int .i64 0]) 2 16 Tryd.underlying25 hi hz0 hz1 hz2 rfl (by decide) _ _ _ rfl T.2.1 ⟨jb, 0, none⟩ 1 1 [.int .i64 x1, .int .i64 y2] rfl rfl HN.out (slot_one _ _) (by unfold maxLen; omega) (by omega) hsz ?_; intro v' wn hown' hgrow hfr; (rw [← srow_ins M n (x1, y2)] at hown'); (obtain ⟨a', c', rfl, _, _, _⟩ := ownF_src hown'); (have T3 := T.grow hp hB hbt hgrow hown' hfr); (have KQ := T.1.kept hgrow (fun e => T.2.2.2.2.2 bt e.symm rfl)); (clear hown' hgrow hfr HN T hsz); (obtain ⟨n0, n1, n2, n3, n4, n5, n6⟩ := id KQ)
            refine hK.out _ _ ?_ (fun hHeld => ?_)
            · trivial
            clear hK K
            (try simp only [Act.put, List.setIfInBounds_toArray, List.set_cons_zero, List.set_cons_succ])
            refine wpAnyH_take (i := 10) (v := ?_) (by rw [List.getElem?_toArray]; rfl) (by kernel_rfl) (by kernel_rfl) (by kernel_rfl) (by intro _ _ _ h; exact h) (Or.inl ⟨by rfl, ?_⟩) (by assumption) ?_
            rotate_left
            · (intro w hSw; (try dsimp only at hSw); go_simp; all_goals with_reducible rfl)
            (try simp only [Act.put, List.setIfInBounds_toArray, List.set_cons_zero, List.set_cons_succ])
            refine wpAnyH_ready (rs := [11]) (by kernel_rfl) (by simp) ?_
            refine (AllReadyH.cons (by rw [List.getElem?_toArray]; rfl) (fun K hK => ?_) AllReadyH.nil)
            go_simp
            (clear n0 n1 n2 n3 n4 n5 n6 KQ); (generalize wn.setCell ⟨bt, 2, none⟩ (.slice a' (n + 1) c') = v9 at *)
            refine hK.out _ _ ?_ (fun hHeld => ?_)
            · trivial
            clear hK K
            (try simp only [Act.put, List.setIfInBounds_toArray, List.set_cons_zero, List.set_cons_succ])
            refine wpAnyH_done (by kernel_rfl) ?_ _
            go_wp2_with fail
            go_roundw
            case rel => exact ⟨a', n + 1, c', _, by go_num, by omega, T3⟩
            case measure => simp [intOf]; omega
          · go_simp
            refine (l1Below_any B p 60 _ T.2.2.1).mono ?_; rintro e vx2 ⟨x2, rfl, x2l, x2h, x2p, _, cc, bb⟩; (clear n0 n1 n2 n3 n4 n5 n6); (have x2q := x2p (by omega)); (replace T := T.but cc bb hp hbt); (clear cc bb x2p); (obtain ⟨n0, n1, n2, n3, n4, n5, n6⟩ := id T.1)
            (try go_wp2_with fail)
            refine hK.out _ _ ?_ (fun hHeld => ?_)
            · trivial
            clear hK K
            (try simp only [Act.put, List.setIfInBounds_toArray, List.set_cons_zero, List.set_cons_succ])
            refine wpAnyH_take (i := 6) (v := ?_) (by rw [List.getElem?_toArray]; rfl) (by kernel_rfl) (by kernel_rfl) (by kernel_rfl) (by intro _ _ _ h; exact h) (Or.inl ⟨by rfl, ?_⟩) (by assumption) ?_
            rotate_left
            · (intro w hSw; (try dsimp only at hSw); go_simp; all_goals with_reducible rfl)
            (try simp only [Act.put, List.setIfInBounds_toArray, List.set_cons_zero, List.set_cons_succ])
            refine wpAnyH_take (i := 7) (v := ?_) (by rw [List.getElem?_toArray]; rfl) (by kernel_rfl) (by kernel_rfl) (by kernel_rfl) (by intro _ _ _ h; exact h) (Or.inl ⟨by rfl, ?_⟩) (by assumption) ?_
            rotate_left
            · (intro w hSw; (try dsimp only at hSw); go_simp; all_goals with_reducible rfl)
            (try simp only [Act.put, List.setIfInBounds_toArray, List.set_cons_zero, List.set_cons_succ])
            refine wpAnyH_ready (rs := [1, 8]) (by kernel_rfl) (by simp) ?_
            refine (AllReadyH.cons (by rw [List.getElem?_toArray]; rfl) (fun K hK => ?_) (AllReadyH.cons (by rw [List.getElem?_toArray]; rfl) (fun K hK => ?_) AllReadyH.nil))
            · go_simp
              refine hK.out _ _ ?_ (fun hHeld => ?_)
              · trivial
              clear hK K
              (try simp only [Act.put, List.setIfInBounds_toArray, List.set_cons_zero, List.set_cons_succ])
              refine wpAnyH_ready (rs := [8]) (by kernel_rfl) (by simp) ?_
              refine (AllReadyH.cons (by rw [List.getElem?_toArray]; rfl) (fun K hK => ?_) AllReadyH.nil)
              go_simp
              (clear n0 n1 n2 n3 n4 n5 n6); (generalize IntKind.i64.wrap (1 + x2) = y2 at *); (have A6 := Below.nw vx2 (.cells #[.int .i64 x1, .int .i64 y2] 72)); (have HN : Hid (∀ j u, [Value.int .i64 x1, .int .i64 y2][j]? = some u → (vx2.alloc (.cells #[.int .i64 x1, .int .i64 y2] 72)).cell? ((⟨vx2.heap.size, 0, none⟩ : Addr).add j) = some u) := slot_at vx2 x1 y2); (replace T := T.below A6); (clear A6); (generalize vx2.heap.size = jb at *); (generalize vx2.alloc (.cells #[.int .i64 x1, .int .i64 y2] 72) = vx3 at *); (obtain ⟨n0, n1, n2, n3, n4, n5, n6⟩ := id T.1)
              refine hK.out _ _ ?_ (fun hHeld => ?_)
              · trivial
              clear hK K
              (try simp only [Act.put, List.setIfInBounds_toArray, List.set_cons_zero, List.set_cons_succ])
              refine wpAnyH_ready (rs := [9]) (by kernel_rfl) (by simp) ?_
              refine (AllReadyH.cons (by rw [List.getElem?_toArray]; rfl) (fun K hK => ?_) AllReadyH.nil)
              rw [if_pos (by rfl)]; (clear n0 n1 n2 n3 n4 n5 n6); (have hsz : w.heap.size + 1 ≤ vx3.heap.size := by have := T.1.1; omega); refine wp_append13 _ _ 25 rfl (w.heap.size + 1) 72 i0 (.agg #[.int .i64 0, .int .i64 0]) 2 16 Tryd.underlying25 hi hz0 hz1 hz2 rfl (by decide) _ _ _ rfl T.2.1 ⟨jb, 0, none⟩ 1 1 [.int .i64 x1, .int .i64 y2] rfl rfl HN.out (slot_one _ _) (by unfold maxLen; omega) (by omega) hsz ?_; intro v' wn hown' hgrow hfr; (rw [← srow_ins M n (x1, y2)] at hown'); (obtain ⟨a', c', rfl, _, _, _⟩ := ownF_src hown'); (have T3 := T.grow hp hB hbt hgrow hown' hfr); (have KQ := T.1.kept hgrow (fun e => T.2.2.2.2.2 bt e.symm rfl)); (clear hown' hgrow hfr HN T hsz); (obtain ⟨n0, n1, n2, n3, n4, n5, n6⟩ := id KQ)
              refine hK.out _ _ ?_ (fun hHeld => ?_)
              · trivial
              clear hK K
              (try simp only [Act.put, List.setIfInBounds_toArray, List.set_cons_zero, List.set_cons_succ])
              refine wpAnyH_take (i := 10) (v := ?_) (by rw [List.getElem?_toArray]; rfl) (by kernel_rfl) (by kernel_rfl) (by kernel_rfl) (by intro _ _ _ h; exact h) (Or.inl ⟨by rfl, ?_⟩) (by assumption) ?_
              rotate_left
              · (intro w hSw; (try dsimp only at hSw); go_simp; all_goals with_reducible rfl)
              (try simp only [Act.put, List.setIfInBounds_toArray, List.set_cons_zero, List.set_cons_succ])
              refine wpAnyH_ready (rs := [11]) (by kernel_rfl) (by simp) ?_
              refine (AllReadyH.cons (by rw [List.getElem?_toArray]; rfl) (fun K hK => ?_) AllReadyH.nil)
              go_simp
              (clear n0 n1 n2 n3 n4 n5 n6 KQ); (generalize wn.setCell ⟨bt, 2, none⟩ (.slice a' (n + 1) c') = v9 at *)
              refine hK.out _ _ ?_ (fun hHeld => ?_)
              · trivial
              clear hK K
              (try simp only [Act.put, List.setIfInBounds_toArray, List.set_cons_zero, List.set_cons_succ])
              refine wpAnyH_done (by kernel_rfl) ?_ _
              go_wp2_with fail
              go_roundw
              case rel => exact ⟨a', n + 1, c', _, by go_num, by omega, T3⟩
              case measure => simp [intOf]; omega
            · go_simp
              (clear n0 n1 n2 n3 n4 n5 n6); (generalize IntKind.i64.wrap (1 + x2) = y2 at *); (have A6 := Below.nw vx2 (.cells #[.int .i64 x1, .int .i64 y2] 72)); (have HN : Hid (∀ j u, [Value.int .i64 x1, .int .i64 y2][j]? = some u → (vx2.alloc (.cells #[.int .i64 x1, .int .i64 y2] 72)).cell? ((⟨vx2.heap.size, 0, none⟩ : Addr).add j) = some u) := slot_at vx2 x1 y2); (replace T := T.below A6); (clear A6); (generalize vx2.heap.size = jb at *); (generalize vx2.alloc (.cells #[.int .i64 x1, .int .i64 y2] 72) = vx3 at *); (obtain ⟨n0, n1, n2, n3, n4, n5, n6⟩ := id T.1)
              refine hK.out _ _ ?_ (fun hHeld => ?_)
              · trivial
              clear hK K
              (try simp only [Act.put, List.setIfInBounds_toArray, List.set_cons_zero, List.set_cons_succ])
              refine wpAnyH_ready (rs := [1]) (by kernel_rfl) (by simp) ?_
              refine (AllReadyH.cons (by rw [List.getElem?_toArray]; rfl) (fun K hK => ?_) AllReadyH.nil)
              go_simp
              refine hK.out _ _ ?_ (fun hHeld => ?_)
              · trivial
              clear hK K
              (try simp only [Act.put, List.setIfInBounds_toArray, List.set_cons_zero, List.set_cons_succ])
              refine wpAnyH_ready (rs := [9]) (by kernel_rfl) (by simp) ?_
              refine (AllReadyH.cons (by rw [List.getElem?_toArray]; rfl) (fun K hK => ?_) AllReadyH.nil)
              rw [if_pos (by rfl)]; (clear n0 n1 n2 n3 n4 n5 n6); (have hsz : w.heap.size + 1 ≤ vx3.heap.size := by have := T.1.1; omega); refine wp_append13 _ _ 25 rfl (w.heap.size + 1) 72 i0 (.agg #[.int .i64 0, .int .i64 0]) 2 16 Tryd.underlying25 hi hz0 hz1 hz2 rfl (by decide) _ _ _ rfl T.2.1 ⟨jb, 0, none⟩ 1 1 [.int .i64 x1, .int .i64 y2] rfl rfl HN.out (slot_one _ _) (by unfold maxLen; omega) (by omega) hsz ?_; intro v' wn hown' hgrow hfr; (rw [← srow_ins M n (x1, y2)] at hown'); (obtain ⟨a', c', rfl, _, _, _⟩ := ownF_src hown'); (have T3 := T.grow hp hB hbt hgrow hown' hfr); (have KQ := T.1.kept hgrow (fun e => T.2.2.2.2.2 bt e.symm rfl)); (clear hown' hgrow hfr HN T hsz); (obtain ⟨n0, n1, n2, n3, n4, n5, n6⟩ := id KQ)
              refine hK.out _ _ ?_ (fun hHeld => ?_)
              · trivial
              clear hK K
              (try simp only [Act.put, List.setIfInBounds_toArray, List.set_cons_zero, List.set_cons_succ])
              refine wpAnyH_take (i := 10) (v := ?_) (by rw [List.getElem?_toArray]; rfl) (by kernel_rfl) (by kernel_rfl) (by kernel_rfl) (by intro _ _ _ h; exact h) (Or.inl ⟨by rfl, ?_⟩) (by assumption) ?_
              rotate_left
              · (intro w hSw; (try dsimp only at hSw); go_simp; all_goals with_reducible rfl)
              (try simp only [Act.put, List.setIfInBounds_toArray, List.set_cons_zero, List.set_cons_succ])
              refine wpAnyH_ready (rs := [11]) (by kernel_rfl) (by simp) ?_
              refine (AllReadyH.cons (by rw [List.getElem?_toArray]; rfl) (fun K hK => ?_) AllReadyH.nil)
              go_simp
              (clear n0 n1 n2 n3 n4 n5 n6 KQ); (generalize wn.setCell ⟨bt, 2, none⟩ (.slice a' (n + 1) c') = v9 at *)
              refine hK.out _ _ ?_ (fun hHeld => ?_)
              · trivial
              clear hK K
              (try simp only [Act.put, List.setIfInBounds_toArray, List.set_cons_zero, List.set_cons_succ])
              refine wpAnyH_done (by kernel_rfl) ?_ _
              go_wp2_with fail
              go_roundw
              case rel => exact ⟨a', n + 1, c', _, by go_num, by omega, T3⟩
              case measure => simp [intOf]; omega
      · have hkn : n = 12 := by omega
        subst hkn
        have hli : ¬ ((12 : Nat) : Int) < (12 : Int) := by omega
        have RS := T.result hp hB (u0 := .int .i64 s) (u1 := .int .i64 g) (u2 := .slice A 12 c)
        have RR := ((T.2.2.2.2.1.set0 (.int .i64 s)).set1 (.int .i64 g)).set2 (.slice A 12 c)
        obtain ⟨n0, n1, n2, n3, n4, n5, n6⟩ := id T.1
        obtain ⟨r0, r1, r2, r3, r4, r5, r6⟩ := id T.2.2.2.2.1
        go_wp2_with fail
        clear n0 n1 n2 n3 n4 n5 n6
        clear r0 r1 r2 r3 r4 r5 r6
        generalize ((wr.setCell ⟨w.heap.size, 0, none⟩ (.int .i64 s)).setCell ⟨w.heap.size, 1, none⟩ (.int .i64 g)).setCell ⟨w.heap.size, 2, none⟩ (.slice A 12 c) = vz at *
        obtain ⟨r0, r1, r2, r3, r4, r5, r6⟩ := id RR
        exact bodyPost_ret (v := (.agg #[.int .i64 s, .int .i64 g, .slice A 12 c])) (by simp (maxDischargeDepth := 6) [results, Tryd.results71, go_sem, *]) rfl ⟨s, g, A, 12, c, M, rfl, hN2.2, fun _ => hN2.1, RS⟩
end Go.Proofs.YtdahabbdhjgpdaaDoor
