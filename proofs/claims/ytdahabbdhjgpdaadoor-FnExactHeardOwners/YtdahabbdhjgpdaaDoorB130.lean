/- Plans: numbers. -/
import Derived.Test.YtdahabbdhjgpdaaDoorG8
import Derived.Test.YtdahabbdhjgpdaaDoorE1
import Derived.Test.YtdahabbdhjgpdaaDoorW2
import Derived.WalkKit
import Derived.WalkSpells
import Derived.WalkLawsBesides
import Derived.Deep.RegionHeld
namespace Go.Proofs.YtdahabbdhjgpdaaDoor
open Go.RowKit
set_option linter.unusedVariables false
abbrev SlT : Type := Int × Int
def zSl : SlT := (0, 0)
/- Plans: when one is right; how long its first slots are; where an occurrence lies; the first of numbers. -/
def lnB (l : Int) : Bool := decide (1 ≤ l ∧ l ≤ 1000000)
def slB (o l : Int) : Bool := nodB o && lnB l
def slA (M : Nat → SlT) : Nat → Bool
  | 0 => true
  | j + 1 => slA M j && slB (M j).1 (M j).2
def gpB (g : Int) : Bool := decide (0 ≤ g ∧ g ≤ 100000)
def cnB (n : Nat) : Bool := decide (1 ≤ (n : Int) ∧ (n : Int) ≤ 12)
def plB (s g : Int) (M : Nat → SlT) (n : Nat) : Bool := okT s && (gpB g && (cnB n && slA M n))
theorem slA_no {M : Nat → SlT} {k n : Nat} (h : slA M (k + 1) = false) (hk : k < n) : slA M n = false := by
  induction n with
  | zero => omega
  | succ n ih =>
    by_cases e : k = n
    · subst e; exact h
    · rw [slA, ih (by omega)]; rfl
theorem slA_at {M : Nat → SlT} {k n : Nat} (h : slA M n = true) (hk : k < n) : slB (M k).1 (M k).2 = true := by
  cases e : slB (M k).1 (M k).2
  · rw [slA_no (k := k) (by rw [slA, e]; simp) hk] at h
    exact absurd h (by decide)
  · rfl
theorem slB_t {o l : Int} (h : slB o l = true) : (0 ≤ o ∧ o ≤ 7) ∧ 1 ≤ l ∧ l ≤ 1000000 := by
  unfold slB nodB lnB at h
  simp at h
  omega
theorem plB_t {s g : Int} {M : Nat → SlT} {n : Nat} (h : plB s g M n = true) : (0 ≤ s ∧ s ≤ 1000000000000) ∧ (0 ≤ g ∧ g ≤ 100000) ∧ (1 ≤ n ∧ n ≤ 12) ∧ slA M n = true := by
  unfold plB okT gpB cnB at h
  simp at h
  obtain ⟨h1, h2, h3, h4⟩ := h
  exact ⟨h1, h2, by omega, h4⟩
/- How long the first k slots with their gaps are. -/
def upS (g : Int) (M : Nat → SlT) : Nat → Int
  | 0 => 0
  | k + 1 => upS g M k + (M k).2 + g
theorem upS_bd {g : Int} {M : Nat → SlT} {n : Nat} (hg : 0 ≤ g ∧ g ≤ 100000) (hA : slA M n = true) : ∀ k, k ≤ n → (k : Int) ≤ upS g M k ∧ upS g M k ≤ (k : Int) * 1100000
  | 0, _ => by rw [upS]; simp
  | k + 1, hk => by
    have ih := upS_bd hg hA k (by omega)
    have hl := (slB_t (slA_at hA (show k < n by omega))).2
    rw [upS]
    omega
theorem upS_add {g : Int} {M : Nat → SlT} {n : Nat} (hg : 0 ≤ g ∧ g ≤ 100000) (hA : slA M n = true) {i j : Nat} (hij : i < j) (hj : j ≤ n) : upS g M i + (M i).2 + g ≤ upS g M j := by
  induction j with
  | zero => omega
  | succ j ih =>
    rw [upS]
    have hl := (slB_t (slA_at hA (show j < n by omega))).2
    by_cases e : i = j
    · subst e; omega
    · have := ih (by omega) (by omega)
      omega
theorem upS_mono {g : Int} {M : Nat → SlT} {n : Nat} (hg : 0 ≤ g ∧ g ≤ 100000) (hA : slA M n = true) {i j : Nat} (hij : i ≤ j) (hj : j ≤ n) : upS g M i ≤ upS g M j := by
  by_cases e : i = j
  · subst e; exact Int.le_refl _
  · have := upS_add hg hA (show i < j by omega) hj
    have hl := (slB_t (slA_at hA (show i < n by omega))).2
    omega
/- RoundOf, SlotFrom. -/
def rnI (s g : Int) (M : Nat → SlT) (n : Nat) : Int := match plB s g M n with | true => upS g M n | false => 0
theorem rnI_t {s g : Int} {M : Nat → SlT} {n : Nat} (h : plB s g M n = true) : rnI s g M n = upS g M n := by unfold rnI; rw [h]
theorem rnI_f {s g : Int} {M : Nat → SlT} {n : Nat} (h : plB s g M n = false) : rnI s g M n = 0 := by unfold rnI; rw [h]
theorem rn_bd {s g : Int} {M : Nat → SlT} {n : Nat} (h : plB s g M n = true) : 1 ≤ upS g M n ∧ upS g M n ≤ 13200000 := by
  obtain ⟨h1, h2, h3, h4⟩ := plB_t h
  have := upS_bd h2 h4 n (Nat.le_refl _)
  omega
def ixB (n : Nat) (i : Int) : Bool := decide (0 ≤ i ∧ i ≤ (n : Int) - 1)
def sfB (s g : Int) (M : Nat → SlT) (n : Nat) (i : Int) : Bool := plB s g M n && ixB n i
def sfI (s g : Int) (M : Nat → SlT) (n : Nat) (i : Int) : Int := match sfB s g M n i with | true => upS g M i.toNat | false => 0
theorem sfB_t {s g : Int} {M : Nat → SlT} {n : Nat} {i : Int} (h : sfB s g M n i = true) : plB s g M n = true ∧ 0 ≤ i ∧ i.toNat < n ∧ (i.toNat : Int) = i := by
  unfold sfB ixB at h
  simp only [Bool.and_eq_true, decide_eq_true_eq] at h
  exact ⟨h.1, h.2.1, by omega, by omega⟩
/- Occurrence. -/
def ocF (s g : Int) (M : Nat → SlT) (n : Nat) (i k : Int) : Int := s + k * upS g M n + upS g M i.toNat
def okK (r k : Int) : Bool := decide (0 ≤ k ∧ k ≤ 1000000000000) && !decide (1000000000000 / r < k)
def ocG (s g : Int) (M : Nat → SlT) (n : Nat) (i k : Int) : Bool := sfB s g M n i && okK (upS g M n) k
def ocB (s g : Int) (M : Nat → SlT) (n : Nat) (i k : Int) : Bool := ocG s g M n i k && okI (ocF s g M n i k) (ocF s g M n i k + (M i.toNat).2)
def ocL (s g : Int) (M : Nat → SlT) (n : Nat) (i k : Int) : Int := match ocB s g M n i k with | true => ocF s g M n i k | false => 0
def ocH (s g : Int) (M : Nat → SlT) (n : Nat) (i k : Int) : Int := match ocB s g M n i k with | true => ocF s g M n i k + (M i.toNat).2 | false => 0
theorem oc_no {s g : Int} {M : Nat → SlT} {n : Nat} {i k : Int} (h : ocB s g M n i k = false) : ocL s g M n i k = 0 ∧ ocH s g M n i k = 0 := by
  unfold ocL ocH
  rw [h]
  exact ⟨rfl, rfl⟩
theorem oc_yes {s g : Int} {M : Nat → SlT} {n : Nat} {i k : Int} (h : ocB s g M n i k = true) : ocL s g M n i k = ocF s g M n i k ∧ ocH s g M n i k = ocF s g M n i k + (M i.toNat).2 := by
  unfold ocL ocH
  rw [h]
  exact ⟨rfl, rfl⟩
theorem oc_sel {s g : Int} {M : Nat → SlT} {n : Nat} {i k : Int} (h : ocG s g M n i k = true) : ocB s g M n i k = okI (ocF s g M n i k) (ocF s g M n i k + (M i.toNat).2) ∧ ocL s g M n i k = sel (okI (ocF s g M n i k) (ocF s g M n i k + (M i.toNat).2)) (ocF s g M n i k) ∧ ocH s g M n i k = sel (okI (ocF s g M n i k) (ocF s g M n i k + (M i.toNat).2)) (ocF s g M n i k + (M i.toNat).2) := by
  have e : ocB s g M n i k = okI (ocF s g M n i k) (ocF s g M n i k + (M i.toNat).2) := by unfold ocB; rw [h]; rfl
  refine ⟨e, ?_, ?_⟩
  · unfold ocL; rw [e]; cases okI (ocF s g M n i k) (ocF s g M n i k + (M i.toNat).2) <;> rfl
  · unfold ocH; rw [e]; cases okI (ocF s g M n i k) (ocF s g M n i k + (M i.toNat).2) <;> rfl
theorem okK_t {r k : Int} (hr : 1 ≤ r) (h : okK r k = true) : 0 ≤ k ∧ k ≤ 1000000000000 ∧ 0 ≤ k * r ∧ k * r ≤ 1000000000000 := by
  unfold okK at h
  simp at h
  obtain ⟨⟨h1, h2⟩, h3⟩ := h
  have h4 : k * r ≤ 1000000000000 := Int.le_trans (Int.mul_le_mul_of_nonneg_right h3 (by omega)) (Int.ediv_mul_le _ (by omega))
  exact ⟨h1, h2, Int.mul_nonneg h1 (by omega), h4⟩
theorem ocG_bd {s g : Int} {M : Nat → SlT} {n : Nat} {i k : Int} (h : ocG s g M n i k = true) : (0 ≤ k * upS g M n ∧ k * upS g M n ≤ 1000000000000) ∧ (0 ≤ s + k * upS g M n ∧ s + k * upS g M n ≤ 2000000000000) ∧ (0 ≤ ocF s g M n i k ∧ ocF s g M n i k ≤ 2000013200000) ∧ (1 ≤ (M i.toNat).2 ∧ (M i.toNat).2 ≤ 1000000) ∧ i.toNat < n ∧ (i.toNat : Int) = i ∧ plB s g M n = true := by
  unfold ocG at h
  rw [Bool.and_eq_true] at h
  obtain ⟨h1, h2, h3, h4⟩ := sfB_t h.1
  obtain ⟨p1, p2, p3, p4⟩ := plB_t h1
  have hr := rn_bd h1
  obtain ⟨k1, k2, k3, k4⟩ := okK_t hr.1 h.2
  have hu := upS_bd p2 p4 i.toNat (by omega)
  have hl := (slB_t (slA_at p4 h3)).2
  unfold ocF
  generalize k * upS g M n = kr at *
  refine ⟨⟨k3, k4⟩, by omega, by omega, hl, h3, h4, h1⟩
/- The first of n numbers that is so; n where none is. -/
def fnd (P : Nat → Bool) : Nat → Nat
  | 0 => 0
  | j + 1 => match decide (fnd P j < j), P j with
    | true, _ => fnd P j
    | false, true => j
    | false, false => j + 1
theorem fnd_old {P : Nat → Bool} {j : Nat} (h : fnd P j < j) : fnd P (j + 1) = fnd P j := by rw [fnd, decide_eq_true h]
theorem fnd_hit {P : Nat → Bool} {j : Nat} (h : fnd P j = j) (hp : P j = true) : fnd P (j + 1) = j := by rw [fnd, decide_eq_false (by omega), hp]
theorem fnd_miss {P : Nat → Bool} {j : Nat} (h : fnd P j = j) (hp : P j = false) : fnd P (j + 1) = j + 1 := by rw [fnd, decide_eq_false (by omega), hp]
theorem fnd_le (P : Nat → Bool) : ∀ j, fnd P j ≤ j
  | 0 => Nat.le_refl _
  | j + 1 => by
    have ih := fnd_le P j
    by_cases h : fnd P j < j
    · rw [fnd_old h]; omega
    · have e : fnd P j = j := by omega
      cases hp : P j
      · rw [fnd_miss e hp]; exact Nat.le_refl _
      · rw [fnd_hit e hp]; omega
theorem fnd_stay {P : Nat → Bool} {j n : Nat} (h : fnd P j < j) (hn : j ≤ n) : fnd P n = fnd P j := by
  induction n with
  | zero => have e : j = 0 := by omega
            subst e; rfl
  | succ n ih =>
    by_cases e : j = n + 1
    · subst e; rfl
    · have i := ih (by omega)
      rw [fnd_old (by rw [i]; omega), i]
theorem fnd_is {P : Nat → Bool} {j n : Nat} (h : fnd P j = j) (hp : P j = true) (hn : j < n) : fnd P n = j := by
  have e := fnd_hit h hp
  rw [fnd_stay (j := j + 1) (by omega) (by omega), e]
theorem fnd_so {P : Nat → Bool} {n : Nat} (h : fnd P n < n) : P (fnd P n) = true := by
  induction n with
  | zero => omega
  | succ n ih =>
    by_cases e : fnd P n < n
    · rw [fnd_old e]; exact ih e
    · have e2 : fnd P n = n := by have := fnd_le P n; omega
      cases hp : P n
      · rw [fnd_miss e2 hp] at h; omega
      · rw [fnd_hit e2 hp]; exact hp
theorem fnd_not {P : Nat → Bool} {n i : Nat} (h : i < fnd P n) : P i = false := by
  induction n with
  | zero => rw [fnd] at h; omega
  | succ n ih =>
    by_cases e : fnd P n < n
    · rw [fnd_old e] at h; exact ih h
    · have e2 : fnd P n = n := by have := fnd_le P n; omega
      cases hp : P n
      · rw [fnd_miss e2 hp] at h
        by_cases ei : i = n
        · subst ei; exact hp
        · exact ih (by omega)
      · rw [fnd_hit e2 hp] at h; exact ih (by omega)
/- SlotAt, InSlot. -/
def saG (s g : Int) (M : Nat → SlT) (n : Nat) (t : Int) : Bool := plB s g M n && (okT t && !decide (t < s))
def saR (s g : Int) (M : Nat → SlT) (n : Nat) (t : Int) : Int := (t - s) / upS g M n
def saP (s g : Int) (M : Nat → SlT) (n : Nat) (t : Int) (i : Nat) : Bool := ocB s g M n i (saR s g M n t) && (decide (ocL s g M n i (saR s g M n t) ≤ t) && decide (t < ocH s g M n i (saR s g M n t)))
def saB (s g : Int) (M : Nat → SlT) (n : Nat) (t : Int) : Bool := saG s g M n t && decide (fnd (saP s g M n t) n < n)
def saI (s g : Int) (M : Nat → SlT) (n : Nat) (t : Int) : Int := match saB s g M n t with | true => (fnd (saP s g M n t) n : Int) | false => 0
def saK (s g : Int) (M : Nat → SlT) (n : Nat) (t : Int) : Int := match saB s g M n t with | true => saR s g M n t | false => 0
theorem sa_no {s g : Int} {M : Nat → SlT} {n : Nat} {t : Int} (h : saB s g M n t = false) : saI s g M n t = 0 ∧ saK s g M n t = 0 := by
  unfold saI saK
  rw [h]
  exact ⟨rfl, rfl⟩
theorem sa_yes {s g : Int} {M : Nat → SlT} {n : Nat} {t : Int} (h : saB s g M n t = true) : saI s g M n t = (fnd (saP s g M n t) n : Int) ∧ saK s g M n t = saR s g M n t ∧ fnd (saP s g M n t) n < n ∧ saG s g M n t = true := by
  have h' := h
  unfold saB at h'
  simp only [Bool.and_eq_true, decide_eq_true_eq] at h'
  unfold saI saK
  rw [h]
  exact ⟨rfl, rfl, h'.2, h'.1⟩
theorem saG_t {s g : Int} {M : Nat → SlT} {n : Nat} {t : Int} (h : saG s g M n t = true) : plB s g M n = true ∧ (0 ≤ t ∧ t ≤ 1000000000000) ∧ s ≤ t ∧ 0 ≤ saR s g M n t ∧ saR s g M n t ≤ 1000000000000 := by
  unfold saG okT at h
  simp at h
  obtain ⟨h1, h2, h3⟩ := h
  obtain ⟨p1, p2, p3, p4⟩ := plB_t h1
  have hr := rn_bd h1
  refine ⟨h1, h2, h3, Int.ediv_nonneg (by omega) (by omega), ?_⟩
  unfold saR
  exact Int.le_trans (Int.ediv_le_self _ (by omega)) (by omega)
def isB (s g : Int) (M : Nat → SlT) (n : Nat) (o f t : Int) : Bool := saB s g M n f && (((M (saI s g M n f).toNat).1 == o) && (!decide (t < f) && !decide (ocH s g M n (saI s g M n f) (saK s g M n f) < t)))
def isI (s g : Int) (M : Nat → SlT) (n : Nat) (o f t : Int) : Int := match isB s g M n o f t with | true => saI s g M n f | false => 0
def isK (s g : Int) (M : Nat → SlT) (n : Nat) (o f t : Int) : Int := match isB s g M n o f t with | true => saK s g M n f | false => 0
/- NextOwn. -/
def noG (s g : Int) (M : Nat → SlT) (n : Nat) (t : Int) : Bool := plB s g M n && okT t
def noR (s g : Int) (M : Nat → SlT) (n : Nat) (t : Int) : Int := imx 0 ((t - s).tdiv (upS g M n))
def noP (s g : Int) (M : Nat → SlT) (n : Nat) (o t j : Int) (i : Nat) : Bool := ocB s g M n i j && (((M i).1 == o) && decide (t ≤ ocL s g M n i j))
def noF (s g : Int) (M : Nat → SlT) (n : Nat) (o t j : Int) : Nat := fnd (noP s g M n o t j) n
def noB (s g : Int) (M : Nat → SlT) (n : Nat) (o t : Int) : Bool := noG s g M n t && (decide (noF s g M n o t (noR s g M n t) < n) || decide (noF s g M n o t (noR s g M n t + 1) < n))
def noI (s g : Int) (M : Nat → SlT) (n : Nat) (o t : Int) : Int := match noB s g M n o t, decide (noF s g M n o t (noR s g M n t) < n) with | false, _ => 0 | true, true => (noF s g M n o t (noR s g M n t) : Int) | true, false => (noF s g M n o t (noR s g M n t + 1) : Int)
def noT (s g : Int) (M : Nat → SlT) (n : Nat) (o t : Int) : Int := match noB s g M n o t, decide (noF s g M n o t (noR s g M n t) < n) with | false, _ => 0 | true, true => ocL s g M n (noF s g M n o t (noR s g M n t)) (noR s g M n t) | true, false => ocL s g M n (noF s g M n o t (noR s g M n t + 1)) (noR s g M n t + 1)
/- OwnersOf, ShareOf. -/
def hasO (M : Nat → SlT) (o : Int) : Nat → Bool
  | 0 => false
  | j + 1 => hasO M o j || ((M j).1 == o)
def owL (M : Nat → SlT) (n : Nat) : Nat → List Int
  | 0 => []
  | j + 1 => match hasO M (j : Int) n with | true => owL M n j ++ [(j : Int)] | false => owL M n j
def owA (s g : Int) (M : Nat → SlT) (n : Nat) : List Int := match plB s g M n with | true => owL M n 8 | false => []
theorem owL_len (M : Nat → SlT) (n : Nat) : ∀ j, (owL M n j).length ≤ j
  | 0 => Nat.le_refl _
  | j + 1 => by
    have ih := owL_len M n j
    rw [owL]
    cases hasO M (j : Int) n
    · exact Nat.le_succ_of_le ih
    · show (owL M n j ++ [(j : Int)]).length ≤ j + 1
      rw [List.length_append]
      simp
      exact ih
theorem owA_len (s g : Int) (M : Nat → SlT) (n : Nat) : (owA s g M n).length ≤ 8 := by
  unfold owA
  cases plB s g M n
  · exact Nat.zero_le _
  · exact owL_len M n 8
def smS (M : Nat → SlT) (o : Int) : Nat → Int
  | 0 => 0
  | j + 1 => match ((M j).1 == o) with | true => smS M o j + (M j).2 | false => smS M o j
theorem smS_bd {M : Nat → SlT} {n : Nat} {o : Int} (hA : slA M n = true) : ∀ k, k ≤ n → 0 ≤ smS M o k ∧ smS M o k ≤ (k : Int) * 1000000
  | 0, _ => by rw [smS]; simp
  | k + 1, hk => by
    have ih := smS_bd (o := o) hA k (by omega)
    have hl := (slB_t (slA_at hA (show k < n by omega))).2
    rw [smS]
    cases ((M k).1 == o)
    · show 0 ≤ smS M o k ∧ smS M o k ≤ _; omega
    · show 0 ≤ smS M o k + (M k).2 ∧ smS M o k + (M k).2 ≤ _; omega
/- PlanMoved. -/
def inT13 (l : Int) : Bool := decide (-1000000000000 ≤ l ∧ l ≤ 1000000000000)
def pmB (s g : Int) (M : Nat → SlT) (n : Nat) (b : Int) : Bool := plB s g M n && (inT13 b && okT (s + b))
theorem plB_mv {s g : Int} {M : Nat → SlT} {n : Nat} {b : Int} (h : plB s g M n = true) : plB (s + b) g M n = okT (s + b) := by
  unfold plB at h ⊢
  simp only [Bool.and_eq_true] at h
  obtain ⟨h1, h2, h3, h4⟩ := h
  rw [h2, h3, h4]
  simp
end Go.Proofs.YtdahabbdhjgpdaaDoor
