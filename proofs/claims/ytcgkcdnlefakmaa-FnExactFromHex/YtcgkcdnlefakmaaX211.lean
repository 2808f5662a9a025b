/- NumOf in the specification. -/
import Derived.Test.YtcgkcdnlefakmaaX210
import Derived.Deep.RegionHeld3
import Derived.Deep.DeepCutAuto
import Derived.Laws.Strings
import Derived.WalkKit
import Derived.WalkSpells
import Derived.WalkLawsBesides
import Derived.Deep.RegionHeld
namespace Go.Proofs.Ytcgkcdnlefakmaa
open Go.RowKit
set_option linter.unusedVariables false
/- A byte of a text, as a number. -/
def bt (s : ByteArray) (i : Nat) : Int := ((s.data.getD i 0).toNat : Int)
theorem bt_rng (s : ByteArray) (i : Nat) : 0 ≤ bt s i ∧ bt s i ≤ 255 := by
  have := (s.data.getD i 0).toNat_lt
  unfold bt; omega
theorem run_idx (s : ByteArray) (i : Nat) (h : i < s.size) (w : World) : (Instr.index 9 (.string s) (.int .i64 (i : Int))).run Try.prog w = .ok (.int .u8 (bt s i)) w := by
  have hi : 0 ≤ (i : Int) ∧ (i : Int) < (s.size : Int) := by omega
  rw [run_index_string w 9 s .i64 i Try.underlying9, dif_pos hi]
  have e : ((s[(i : Int).toNat]'(by omega)).toNat : Int) = bt s i := by
    unfold bt
    rw [Array.getD_eq_getD_getElem?]
    have h' : i < s.data.size := h
    simp only [Int.toNat_natCast]
    rw [Array.getElem?_eq_getElem h']
    rfl
  rw [e]
/- What NumOf reads: where the digits begin, their value, whether all are digits. -/
def frN (s : ByteArray) : Nat := if bt s 0 = 45 then 1 else 0
def nmV (s : ByteArray) (a : Nat) : Nat → Int
  | 0 => 0
  | k + 1 => 10 * nmV s a k + bt s (a + k) - 48
def nmD (s : ByteArray) (a : Nat) : Nat → Bool
  | 0 => true
  | k + 1 => nmD s a k && decide (48 ≤ bt s (a + k) ∧ bt s (a + k) ≤ 57)
def nmX (s : ByteArray) : Int := if frN s = 1 then -(nmV s (frN s) (s.size - frN s)) else nmV s (frN s) (s.size - frN s)
def nuB (s : ByteArray) : Bool := decide (0 < s.size ∧ s.size ≤ 10) && (decide (s.size - frN s ≤ 9) && (nmD s (frN s) (s.size - frN s) && ((txI (nmX s)).toList == s.toList)))
def nuI (s : ByteArray) : Int := match nuB s with | true => nmX s | false => 0
theorem nmD_f {s : ByteArray} {a : Nat} : ∀ {n k : Nat}, k < n → ¬ (48 ≤ bt s (a + k) ∧ bt s (a + k) ≤ 57) → nmD s a n = false
  | 0, _, h, _ => absurd h (Nat.not_lt_zero _)
  | n + 1, k, h, h1 => by
    by_cases e : k = n
    · subst e; rw [nmD, decide_eq_false h1]; simp
    · rw [nmD, nmD_f (Nat.lt_of_le_of_ne (Nat.le_of_lt_succ h) e) h1]; rfl
theorem nmV_rng {s : ByteArray} {a : Nat} : ∀ {k : Nat}, nmD s a k = true → 0 ≤ nmV s a k ∧ nmV s a k < 10 ^ k
  | 0, _ => ⟨Int.le_refl _, by show (0 : Int) < 1; decide⟩
  | k + 1, h => by
    rw [nmD, Bool.and_eq_true] at h
    have h2 := of_decide_eq_true h.2
    obtain ⟨q1, q2⟩ := nmV_rng h.1
    have e : (10 : Int) ^ (k + 1) = 10 ^ k * 10 := rfl
    rw [nmV, e]
    omega
theorem nmV_small {s : ByteArray} {a k : Nat} (h : nmD s a k = true) (hk : k ≤ 9) : 0 ≤ nmV s a k ∧ nmV s a k ≤ 999999999 := by
  obtain ⟨q1, q2⟩ := nmV_rng h
  have h9 : (10 : Int) ^ k ≤ 10 ^ 9 := by
    have : (10 : Nat) ^ k ≤ 10 ^ 9 := Nat.pow_le_pow_right (by decide) hk
    exact_mod_cast this
  omega
theorem nu_no {s : ByteArray} (h : nuB s = false) : nuI s = 0 := by rw [nuI, h]
theorem nu_yes {s : ByteArray} (h : nuB s = true) : nuI s = nmX s := by rw [nuI, h]
end Go.Proofs.Ytcgkcdnlefakmaa
