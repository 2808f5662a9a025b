/- Who was heard: numbers. -/
import Derived.Test.YtdahabbdhjgpdaaDoorB130
import Derived.Test.YtdahabbdhjgpdaaDoorI106
import Derived.Test.YtdahabbdhjgpdaaDoorE2
import Derived.WalkKit
import Derived.WalkSpells
import Derived.WalkLawsBesides
import Derived.Deep.RegionHeld
namespace Go.Proofs.YtdahabbdhjgpdaaDoor
open Go.RowKit
set_option linter.unusedVariables false
def lsB (n d x : Int) : Bool := rB n d x (upI (x * d) (d + n))
def lsT (n d x : Int) : Int := sel (lsB n d x) (upI (x * d) (d + n))
/- What was heard: a row of pairs (the slot, the count), ascending by the slot. -/
def hrO (x : VT) : Bool := decide (0 ≤ x.1 ∧ x.1 ≤ 15) && okT x.2
def hrA (M : Nat → VT) : Nat → Bool
  | 0 => true
  | j + 1 => hrA M j && (hrO (M j) && (decide (j = 0) || decide ((M (j - 1)).1 < (M j).1)))
def hrB (M : Nat → VT) (n : Nat) : Bool := decide (n ≤ 16) && hrA M n
theorem hrA_no {M : Nat → VT} {k n : Nat} (h : hrA M (k + 1) = false) (hk : k < n) : hrA M n = false := by
  induction n with
  | zero => omega
  | succ n ih =>
    by_cases e : k = n
    · subst e; exact h
    · rw [hrA, ih (by omega)]; rfl
theorem hrB_no {M : Nat → VT} {k n : Nat} (h : hrA M (k + 1) = false) (hk : k < n) : hrB M n = false := by unfold hrB; rw [hrA_no h hk]; simp
theorem hrB_t {M : Nat → VT} {n : Nat} (h : hrB M n = true) : n ≤ 16 ∧ hrA M n = true := by
  unfold hrB at h
  simp only [Bool.and_eq_true, decide_eq_true_eq] at h
  exact h
theorem hrA_at {M : Nat → VT} {k n : Nat} (h : hrA M n = true) (hk : k < n) : hrO (M k) = true ∧ (k = 0 ∨ (M (k - 1)).1 < (M k).1) := by
  cases e : hrA M (k + 1)
  · rw [hrA_no e hk] at h; exact absurd h (by decide)
  · rw [hrA] at e
    simp only [Bool.and_eq_true, Bool.or_eq_true, decide_eq_true_eq] at e
    exact ⟨e.2.1, e.2.2⟩
theorem hrO_t {x : VT} (h : hrO x = true) : (0 ≤ x.1 ∧ x.1 ≤ 15) ∧ (0 ≤ x.2 ∧ x.2 ≤ 1000000000000) := by
  unfold hrO okT at h
  simp at h
  omega
theorem hr_asc {M : Nat → VT} {n : Nat} (h : hrA M n = true) : ∀ {i j : Nat}, i < j → j < n → (M i).1 < (M j).1 := by
  intro i j hij hj
  induction j with
  | zero => omega
  | succ j ih =>
    have h1 := (hrA_at h hj).2
    rw [Nat.add_sub_cancel] at h1
    rcases h1 with q | q
    · omega
    · by_cases e : i = j
      · subst e; exact q
      · have := ih (by omega) (by omega); omega
/- The numbers of the elements that are so, in their order. -/
def fiL (P : Nat → Bool) (g : Nat → Int) : Nat → List Int
  | 0 => []
  | j + 1 => match P j with | true => fiL P g j ++ [g j] | false => fiL P g j
theorem fiL_yes {P : Nat → Bool} {g : Nat → Int} {j : Nat} (h : P j = true) : fiL P g (j + 1) = fiL P g j ++ [g j] := by rw [fiL, h]
theorem fiL_no {P : Nat → Bool} {g : Nat → Int} {j : Nat} (h : P j = false) : fiL P g (j + 1) = fiL P g j := by rw [fiL, h]
theorem fiL_len (P : Nat → Bool) (g : Nat → Int) : ∀ j, (fiL P g j).length ≤ j
  | 0 => Nat.le_refl _
  | j + 1 => by
    have ih := fiL_len P g j
    cases h : P j
    · rw [fiL_no h]; exact Nat.le_succ_of_le ih
    · rw [fiL_yes h, List.length_append]; simp; exact ih
/- The numbers below one that are so, ascending. -/
def slJ (P : Nat → Bool) : Nat → List Int
  | 0 => []
  | j + 1 => match P j with | true => slJ P j ++ [(j : Int)] | false => slJ P j
theorem slJ_yes {P : Nat → Bool} {j : Nat} (h : P j = true) : slJ P (j + 1) = slJ P j ++ [(j : Int)] := by rw [slJ, h]
theorem slJ_no {P : Nat → Bool} {j : Nat} (h : P j = false) : slJ P (j + 1) = slJ P j := by rw [slJ, h]
theorem slJ_len (P : Nat → Bool) : ∀ j, (slJ P j).length ≤ j
  | 0 => Nat.le_refl _
  | j + 1 => by
    have ih := slJ_len P j
    cases h : P j
    · rw [slJ_no h]; exact Nat.le_succ_of_le ih
    · rw [slJ_yes h, List.length_append]; simp; exact ih
/- Whether a number is among the first of a row. -/
def hasJ (g : Nat → Int) (x : Int) : Nat → Bool
  | 0 => false
  | i + 1 => hasJ g x i || (g i == x)
theorem hasJ_yes {g : Nat → Int} {x : Int} {k n : Nat} (h : g k = x) (hk : k < n) : hasJ g x n = true := by
  induction n with
  | zero => omega
  | succ n ih =>
    rw [hasJ]
    by_cases e : k = n
    · subst e; rw [h]; simp
    · rw [ih (by omega)]; rfl
theorem hasJ_step {g : Nat → Int} {x : Int} {k : Nat} (h : hasJ g x k = false) (hn : g k ≠ x) : hasJ g x (k + 1) = false := by
  rw [hasJ, h, beq_eq_false_iff_ne.2 hn]; rfl
theorem hasJ_t {g : Nat → Int} {x : Int} : ∀ {n : Nat}, hasJ g x n = true → ∃ k, k < n ∧ g k = x
  | 0, h => by rw [hasJ] at h; exact Bool.noConfusion h
  | n + 1, h => by
    rw [hasJ, Bool.or_eq_true] at h
    rcases h with h | h
    · obtain ⟨k, hk, e⟩ := hasJ_t h
      exact ⟨k, by omega, e⟩
    · exact ⟨n, by omega, by simpa using h⟩
theorem hasJ_congr {g f : Nat → Int} {x : Int} : ∀ {n : Nat}, (∀ i, i < n → g i = f i) → hasJ g x n = hasJ f x n
  | 0, _ => rfl
  | n + 1, h => by rw [hasJ, hasJ, hasJ_congr fun i hi => h i (by omega), h n (by omega)]
/- What is heard now: not later than the count, and a round ago at most, for all that is known. -/
def slS (M : Nat → VT) (i : Nat) : Int := (M i).1
def nwP (M : Nat → VT) (s g : Int) (PM : Nat → SlT) (m : Nat) (nu de c : Int) (i : Nat) : Bool := decide ((M i).2 ≤ c) && (lsB nu de (c - (M i).2) && decide (lsT nu de (c - (M i).2) ≤ rnI s g PM m))
def rtB (M : Nat → VT) (n : Nat) (s g : Int) (PM : Nat → SlT) (m : Nat) (nu de c : Int) : Bool := hrB M n && (plB s g PM m && (okD nu de && okT c))
def nwL (M : Nat → VT) (n : Nat) (s g : Int) (PM : Nat → SlT) (m : Nat) (nu de c : Int) : List Int := match rtB M n s g PM m nu de c with | true => fiL (nwP M s g PM m nu de c) (slS M) n | false => []
def loP (L : List Int) (i : Nat) : Bool := !hasJ (gI L) (i : Int) L.length
def loL (M : Nat → VT) (n : Nat) (s g : Int) (PM : Nat → SlT) (m : Nat) (nu de c : Int) : List Int := match rtB M n s g PM m nu de c with | true => slJ (loP (nwL M n s g PM m nu de c)) m | false => []
def unP (M : Nat → VT) (n : Nat) (W : Nat → VT) (k : Nat) (i : Nat) : Bool := hasJ (slS M) (i : Int) n != hasJ (slS W) (i : Int) k
def unL (M : Nat → VT) (n : Nat) (W : Nat → VT) (k : Nat) : List Int := match hrB M n && hrB W k with | true => slJ (unP M n W k) 16 | false => []
/- The owners of heard slots. -/
def ofS (M : Nat → VT) (n : Nat) (PM : Nat → SlT) (o : Int) : Nat → Bool
  | 0 => false
  | i + 1 => ofS M n PM o i || ((PM i).1 == o && hasJ (slS M) (i : Int) n)
def owP (M : Nat → VT) (n : Nat) (PM : Nat → SlT) (m : Nat) (o : Nat) : Bool := ofS M n PM (o : Int) m
def onL (M : Nat → VT) (n : Nat) (s g : Int) (PM : Nat → SlT) (m : Nat) : List Int := match hrB M n && plB s g PM m with | true => slJ (owP M n PM m) 8 | false => []
/- A frame that is heard: whether it is one of the plan; what is heard behind it. -/
def hmB (PM : Nat → SlT) (m : Nat) (k fr tu no lo hi sl : Int) (b : ByteArray) : Bool := msgB k fr tu no lo hi sl b && (decide (k = 3) && (decide (sl < (m : Int)) && decide ((PM sl.toNat).1 = fr)))
def hgB (M : Nat → VT) (n : Nat) (s g : Int) (PM : Nat → SlT) (m : Nat) (c : Int) : Bool := hrB M n && (plB s g PM m && okT c)
def hpS (M : Nat → VT) (sl c : Int) : Nat → Bool × List VT
  | 0 => (false, [])
  | k + 1 => ((hpS M sl c k).1 || decide (sl ≤ (M k).1), ((hpS M sl c k).2 ++ (match !(hpS M sl c k).1 && decide (sl ≤ (M k).1) with | true => [(sl, c)] | false => [])) ++ (match decide ((M k).1 = sl) with | true => [] | false => [M k]))
def hpL (M : Nat → VT) (n : Nat) (sl c : Int) : List VT := (hpS M sl c n).2 ++ (match (hpS M sl c n).1 with | true => [] | false => [(sl, c)])
def lsV (M : Nat → VT) (n : Nat) : List VT := (List.range n).map M
def heC (M : Nat → VT) (n : Nat) (s g : Int) (PM : Nat → SlT) (m : Nat) (k fr tu no lo hi sl : Int) (b : ByteArray) (c : Int) : Int := match hgB M n s g PM m c with | true => (match hmB PM m k fr tu no lo hi sl b with | true => 0 | false => 2) | false => 1
def heV (M : Nat → VT) (n : Nat) (s g : Int) (PM : Nat → SlT) (m : Nat) (k fr tu no lo hi sl : Int) (b : ByteArray) (c : Int) : List VT := match hgB M n s g PM m c with | true => (match hmB PM m k fr tu no lo hi sl b with | true => hpL M n sl c | false => lsV M n) | false => []
theorem hpS_len (M : Nat → VT) (sl c : Int) : ∀ k, (hpS M sl c k).2.length ≤ 2 * k
  | 0 => Nat.le_refl _
  | k + 1 => by
    have ih := hpS_len M sl c k
    rw [hpS]
    simp only [List.length_append]
    split <;> split <;> simp <;> omega
theorem heV_len {M : Nat → VT} {n : Nat} {s g : Int} {PM : Nat → SlT} {m : Nat} {k fr tu no lo hi sl : Int} {b : ByteArray} {c : Int} : (heV M n s g PM m k fr tu no lo hi sl b c).length ≤ 33 := by
  unfold heV
  split
  · rename_i h
    unfold hgB at h
    simp only [Bool.and_eq_true] at h
    have h16 := (hrB_t h.1).1
    split
    · have := hpS_len M sl c n
      unfold hpL
      rw [List.length_append]
      split <;> simp <;> omega
    · unfold lsV; simp; omega
  · simp
end Go.Proofs.YtdahabbdhjgpdaaDoor
