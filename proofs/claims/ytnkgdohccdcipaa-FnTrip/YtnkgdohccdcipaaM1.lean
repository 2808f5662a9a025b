/- Marks of an oscillator: what two by two and neighbours come to; which mark is the last up to a time. -/
import Derived.Test.YtnkgdohccdcipaaE3
import Derived.WalkKit
import Derived.WalkSpells
import Derived.WalkLawsBesides
import Derived.Deep.RegionHeld
namespace Go.Proofs.Ytnkgdohccdcipaa
open Go.RowKit
set_option linter.unusedVariables false
def two (n d : Int) (f : Nat → Int × Int) (j i : Nat) : Bool := mcB n d ((f i).1 - (f j).1) ((f i).2 - (f j).2)
def mkB (n d : Int) (f : Nat → Int × Int) (m : Nat) : Bool := okD n d && decide (1 ≤ m ∧ m ≤ 201) && decide (∀ i, i < m → (okT (f i).1 && okT (f i).2) = true)
def prB (n d : Int) (f : Nat → Int × Int) (m back : Nat) : Bool := decide (∀ i, i < m → ∀ j, j < i → i ≤ j + back → two n d f j i = true)
def mrB (n d : Int) (f : Nat → Int × Int) (m back : Nat) : Bool := mkB n d f m && prB n d f m back
section
variable {n d : Int} {f : Nat → Int × Int} {m back : Nat}
theorem mkB_t (h : mkB n d f m = true) : okD n d = true ∧ 1 ≤ m ∧ m ≤ 201 ∧ ∀ i, i < m → okT (f i).1 = true ∧ okT (f i).2 = true := by
  simp only [mkB, Bool.and_eq_true, decide_eq_true_eq] at h
  exact ⟨h.1.1, h.1.2.1, h.1.2.2, h.2⟩
theorem mkB_of (h1 : okD n d = true) (h2 : 1 ≤ m) (h3 : m ≤ 201) (h4 : ∀ i, i < m → okT (f i).1 = true ∧ okT (f i).2 = true) : mkB n d f m = true := by
  simp only [mkB, Bool.and_eq_true, decide_eq_true_eq]
  exact ⟨⟨h1, h2, h3⟩, h4⟩
theorem mkB_d (h : okD n d = false) : mkB n d f m = false := by simp [mkB, h]
theorem mkB_n (h : ¬ (1 ≤ m ∧ m ≤ 201)) : mkB n d f m = false := by simp [mkB, h]
theorem bool_f {b : Bool} (h : ¬ b = true) : b = false := by cases b; rfl; exact absurd rfl h
theorem mkB_i {i : Nat} (hi : i < m) (h : (okT (f i).1 && okT (f i).2) = false) : mkB n d f m = false := by
  refine bool_f fun hk => ?_
  have := (mkB_t hk).2.2.2 i hi
  rw [this.1, this.2] at h
  exact absurd h (by simp)
theorem prB_t (h : prB n d f m back = true) : ∀ i, i < m → ∀ j, j < i → i ≤ j + back → two n d f j i = true := of_decide_eq_true h
theorem prB_of (h : ∀ i, i < m → ∀ j, j < i → i ≤ j + back → two n d f j i = true) : prB n d f m back = true := decide_eq_true h
theorem prB_f {i j : Nat} (hi : i < m) (hj : j < i) (hb : i ≤ j + back) (h : two n d f j i = false) : prB n d f m back = false := by
  refine bool_f fun hk => ?_
  rw [prB_t hk i hi j hj hb] at h
  exact absurd h (by simp)
theorem mrB_k (h : mkB n d f m = false) : mrB n d f m back = false := by simp [mrB, h]
theorem mrB_p (h : prB n d f m back = false) : mrB n d f m back = false := by simp [mrB, h]
theorem mrB_of (h : mkB n d f m = true) (h2 : prB n d f m back = true) : mrB n d f m back = true := by simp [mrB, h, h2]
theorem mrB_t (h : mrB n d f m back = true) : mkB n d f m = true ∧ prB n d f m back = true := by simpa [mrB] using h
theorem mcB_y {t c : Int} (h : mcB n d t c = true) : okD n d = true ∧ okT t = true ∧ okT c = true ∧ t * (d - n) ≤ c * d ∧ c * d ≤ t * (d + n) := by
  simp only [mcB, Bool.and_eq_true, decide_eq_true_eq] at h
  exact ⟨h.1.1.1.1, h.1.1.1.2, h.1.1.2, h.1.2, h.2⟩
theorem mcB_of {t c : Int} (h1 : okD n d = true) (h2 : okT t = true) (h3 : okT c = true) (h4 : t * (d - n) ≤ c * d) (h5 : c * d ≤ t * (d + n)) : mcB n d t c = true := by
  simp only [mcB, Bool.and_eq_true, decide_eq_true_eq]
  exact ⟨⟨⟨⟨h1, h2⟩, h3⟩, h4⟩, h5⟩
theorem mcB_add {t c t' c' : Int} (h : mcB n d t c = true) (h' : mcB n d t' c' = true) (ht : okT (t + t') = true) (hc : okT (c + c') = true) : mcB n d (t + t') (c + c') = true := by
  have ⟨a1, a2, a3, a4, a5⟩ := mcB_y h
  have ⟨b1, b2, b3, b4, b5⟩ := mcB_y h'
  exact mcB_of a1 ht hc (by rw [Int.add_mul, Int.add_mul]; omega) (by rw [Int.add_mul, Int.add_mul]; omega)
theorem two_step {i j k : Nat} (hij : two n d f i j = true) (hjk : two n d f j k = true) (h1 : okT (f i).1 = true) (h2 : okT (f i).2 = true) (h3 : okT (f k).1 = true) (h4 : okT (f k).2 = true) : two n d f i k = true := by
  have ⟨a1, a2, a3, _, _⟩ := mcB_y hij
  have ⟨b1, b2, b3, _, _⟩ := mcB_y hjk
  have A2 := okT_t a2
  have A3 := okT_t a3
  have B2 := okT_t b2
  have B3 := okT_t b3
  have H1 := okT_t h1
  have H2 := okT_t h2
  have H3 := okT_t h3
  have H4 := okT_t h4
  have e1 : (f k).1 - (f i).1 = ((f j).1 - (f i).1) + ((f k).1 - (f j).1) := by omega
  have e2 : (f k).2 - (f i).2 = ((f j).2 - (f i).2) + ((f k).2 - (f j).2) := by omega
  unfold two
  rw [e1, e2]
  exact mcB_add hij hjk (decide_eq_true ⟨by omega, by omega⟩) (decide_eq_true ⟨by omega, by omega⟩)
theorem two_all (h : mrB n d f m 1 = true) : ∀ k i, i < i + (k + 1) → i + (k + 1) < m → two n d f i (i + (k + 1)) = true
  | 0, i, _, hm => prB_t (mrB_t h).2 (i + 1) hm i (by omega) (by omega)
  | k + 1, i, hi, hm => by
    have ⟨_, _, _, ho⟩ := mkB_t (mrB_t h).1
    have h1 := two_all h k i (by omega) (by omega)
    have h2 := prB_t (mrB_t h).2 (i + (k + 1 + 1)) hm (i + (k + 1)) (by omega) (by omega)
    exact two_step h1 h2 (ho i (by omega)).1 (ho i (by omega)).2 (ho _ hm).1 (ho _ hm).2
theorem two_lt (h : mrB n d f m 1 = true) {i j : Nat} (hij : i < j) (hj : j < m) : two n d f i j = true := by
  have := two_all h (j - i - 1) i (by omega) (by omega)
  rw [show i + (j - i - 1 + 1) = j by omega] at this
  exact this
theorem mrB_all (h1 : 1 ≤ back) : mrB n d f m back = mrB n d f m 1 := by
  rw [Bool.eq_iff_iff]
  constructor
  · intro h
    exact mrB_of (mrB_t h).1 (prB_of fun i hi j hj hb => prB_t (mrB_t h).2 i hi j hj (by omega))
  · intro h
    exact mrB_of (mrB_t h).1 (prB_of fun i hi j hj hb => two_lt h hj hi)
theorem up_time (h : mrB n d f m 1 = true) {i j : Nat} (hij : i ≤ j) (hj : j < m) : (f i).1 ≤ (f j).1 ∧ (f i).2 ≤ (f j).2 := by
  by_cases e : i = j
  · subst e; exact ⟨Int.le_refl _, Int.le_refl _⟩
  · have ⟨_, a2, a3, _, _⟩ := mcB_y (two_lt h (show i < j by omega) hj)
    have A2 := okT_t a2
    have A3 := okT_t a3
    exact ⟨by omega, by omega⟩
end
def lastLe (g : Nat → Int) (x : Int) : Nat → Nat
  | 0 => 0
  | k + 1 => if g k ≤ x then k else lastLe g x k
section
variable {g : Nat → Int} {x : Int}
theorem lastLe_y {k : Nat} (h : g k ≤ x) : lastLe g x (k + 1) = k := by simp [lastLe, h]
theorem lastLe_n {k : Nat} (h : ¬ g k ≤ x) : lastLe g x (k + 1) = lastLe g x k := by simp [lastLe, h]
theorem lastLe_lt : ∀ {m : Nat}, 1 ≤ m → lastLe g x m < m
  | 0, h => absurd h (by omega)
  | m + 1, _ => by
    by_cases h : g m ≤ x
    · rw [lastLe_y h]; omega
    · rw [lastLe_n h]
      by_cases hm : 1 ≤ m
      · have := lastLe_lt (m := m) hm; omega
      · obtain rfl : m = 0 := by omega
        simp [lastLe]
theorem lastLe_le : ∀ {m : Nat}, 1 ≤ m → g 0 ≤ x → g (lastLe g x m) ≤ x
  | 0, h, _ => absurd h (by omega)
  | m + 1, _, h0 => by
    by_cases h : g m ≤ x
    · rw [lastLe_y h]; exact h
    · rw [lastLe_n h]
      by_cases hm : 1 ≤ m
      · exact lastLe_le hm h0
      · obtain rfl : m = 0 := by omega
        exact h0
theorem lastLe_gt : ∀ {m i : Nat}, lastLe g x m < i → i < m → x < g i
  | 0, i, _, h => absurd h (by omega)
  | m + 1, i, hl, hi => by
    by_cases h : g m ≤ x
    · rw [lastLe_y h] at hl; omega
    · rw [lastLe_n h] at hl
      by_cases e : i = m
      · subst e; omega
      · exact lastLe_gt hl (by omega)
theorem lastLe_rest {k : Nat} : ∀ {m : Nat}, k ≤ m → (∀ i, k ≤ i → i < m → x < g i) → lastLe g x m = lastLe g x k
  | 0, h, _ => by have : k = 0 := by omega
                  subst this; rfl
  | m + 1, h, hg => by
    by_cases e : k = m + 1
    · subst e; rfl
    · have h1 := hg m (by omega) (by omega)
      rw [lastLe_n (by omega)]
      exact lastLe_rest (by omega) fun i a b => hg i a (by omega)
end
def inB (g : Nat → Int) (x : Int) (m : Nat) : Bool := decide (g 0 ≤ x ∧ x ≤ g (m - 1))
def whLo (Lf Mf : Int → Int) (g h : Nat → Int) (x : Int) (m : Nat) : Int :=
  if lastLe g x m + 1 = m then h (lastLe g x m) + Lf (x - g (lastLe g x m)) else imx (h (lastLe g x m) + Lf (x - g (lastLe g x m))) (h (lastLe g x m + 1) - Mf (g (lastLe g x m + 1) - x))
def whHi (Lf Mf : Int → Int) (g h : Nat → Int) (x : Int) (m : Nat) : Int :=
  if lastLe g x m + 1 = m then h (lastLe g x m) + Mf (x - g (lastLe g x m)) else imn (h (lastLe g x m) + Mf (x - g (lastLe g x m))) (h (lastLe g x m + 1) - Lf (g (lastLe g x m + 1) - x))
def whB (B2 : Int → Bool) (Lf Mf : Int → Int) (g h : Nat → Int) (x : Int) (m : Nat) : Bool :=
  inB g x m && B2 (x - g (lastLe g x m)) && (decide (lastLe g x m + 1 = m) || B2 (g (lastLe g x m + 1) - x)) && decide (whLo Lf Mf g h x m ≤ whHi Lf Mf g h x m)
def t1 (f : Nat → Int × Int) (i : Nat) : Int := (f i).1
def t2 (f : Nat → Int × Int) (i : Nat) : Int := (f i).2
end Go.Proofs.Ytnkgdohccdcipaa
