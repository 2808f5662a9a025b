/- Peers that are right, ascending; the contract of impl.PeersOk. -/
import Derived.Test.YtddjiamollfplaaDoorI101
import Derived.Test.YtddjiamollfplaaDoorE1
import Derived.Test.YtddjiamollfplaaDoorG8
import Derived.Deep.RegionHeld3
import Derived.Deep.DeepCutAuto
import Derived.WalkKit
import Derived.WalkSpells
import Derived.WalkLawsBesides
import Derived.Deep.RegionHeld
namespace Go.Proofs.YtddjiamollfplaaDoor
open Go.RowKit
set_option linter.unusedVariables false
def pOk (M : PT) : Bool := nodB M.1 && okI M.2.1 M.2.2.1 && okT M.2.2.2.1
def prv (M : Nat → PT) : Nat → Int
  | 0 => -1
  | k + 1 => (M k).1
def elP (M : Nat → PT) (k : Nat) : Bool := pOk (M k) && decide (prv M k < (M k).1)
/- The first n of M are peers, ascending. -/
def oks (M : Nat → PT) : Nat → Bool
  | 0 => true
  | k + 1 => oks M k && elP M k
theorem oks_step {M : Nat → PT} {k : Nat} (h : oks M k = true) (h2 : elP M k = true) : oks M (k + 1) = true := by rw [oks, h, h2]; rfl
theorem oks_no {M : Nat → PT} {k : Nat} (h : elP M k = false) : ∀ n, k < n → oks M n = false
  | 0, hk => absurd hk (Nat.not_lt_zero _)
  | n + 1, hk => by
    rw [oks]
    by_cases e : k = n
    · subst e; rw [h]; simp
    · rw [oks_no h n (by omega)]; rfl
theorem oks_el {M : Nat → PT} : ∀ {n : Nat}, oks M n = true → ∀ k, k < n → elP M k = true
  | 0, _, k, hk => absurd hk (Nat.not_lt_zero _)
  | n + 1, h, k, hk => by
    rw [oks, Bool.and_eq_true] at h
    by_cases e : k = n
    · subst e; exact h.2
    · exact oks_el h.1 k (by omega)
theorem nodB_t {x : Int} (h : nodB x = true) : 0 ≤ x ∧ x ≤ 7 := of_decide_eq_true h
theorem elP_t {M : Nat → PT} {k : Nat} (h : elP M k = true) : pOk (M k) = true ∧ prv M k < (M k).1 := by simpa [elP] using h
theorem pOk_t {m : PT} (h : pOk m = true) : nodB m.1 = true ∧ okI m.2.1 m.2.2.1 = true ∧ okT m.2.2.2.1 = true := by
  unfold pOk at h
  simp only [Bool.and_eq_true] at h
  exact ⟨h.1.1, h.1.2, h.2⟩
theorem oks_ge {M : Nat → PT} {n : Nat} (h : oks M n = true) : ∀ k, k < n → (k : Int) ≤ (M k).1
  | 0, hk => by
    have := nodB_t (pOk_t (elP_t (oks_el h 0 hk)).1).1
    omega
  | k + 1, hk => by
    have h1 := oks_ge h k (by omega)
    have h2 : (M k).1 < (M (k + 1)).1 := (elP_t (oks_el h (k + 1) hk)).2
    omega
theorem oks_le {M : Nat → PT} {n : Nat} (h : oks M n = true) : n ≤ 8 := by
  by_cases hn : n ≤ 8
  · exact hn
  · have h1 := oks_ge h (n - 1) (by omega)
    have h2 := nodB_t (pOk_t (elP_t (oks_el h (n - 1) (by omega))).1).1
    omega
theorem oks_long {M : Nat → PT} {n : Nat} (h : ¬ n ≤ 8) : oks M n = false := by
  cases e : oks M n
  · rfl
  · exact absurd (oks_le e) h
theorem oks_asc {M : Nat → PT} {n : Nat} (h : oks M n = true) {i : Nat} : ∀ {j : Nat}, i < j → j < n → (M i).1 < (M j).1
  | 0, hij, _ => absurd hij (Nat.not_lt_zero _)
  | j + 1, hij, hj => by
    have h2 : (M j).1 < (M (j + 1)).1 := (elP_t (oks_el h (j + 1) hj)).2
    by_cases e : i = j
    · subst e; exact h2
    · exact Int.lt_trans (oks_asc h (by omega) (by omega)) h2
theorem oks_p {M : Nat → PT} {n : Nat} (h : oks M n = true) {k : Nat} (hk : k < n) : nodB (M k).1 = true ∧ okI (M k).2.1 (M k).2.2.1 = true ∧ okT (M k).2.2.2.1 = true := pOk_t (elP_t (oks_el h k hk)).1
end Go.Proofs.YtddjiamollfplaaDoor
