/- NumOf in the specification. -/
import Derived.Deep.DeepCutAuto
import Derived.Laws.Strings
import Derived.Test.YtddjiamollfplaaDoorMS5
namespace Go.Proofs.YtddjiamollfplaaDoor
open Go.RowKit
set_option linter.unusedVariables false
def bt (s : ByteArray) (i : Nat) : Int := ((s.data.getD i 0).toNat : Int)
theorem bt_rng (s : ByteArray) (i : Nat) : 0 ≤ bt s i ∧ bt s i ≤ 255 := by
 have := (s.data.getD i 0).toNat_lt
 unfold bt; omega
theorem run_idx (s : ByteArray) (i : Nat) (h : i < s.size) (w : World) : (Instr.index 9 (.string s) (.int .i64 (i : Int))).run Tryd.prog w = .ok (.int .u8 (bt s i)) w := by
 have hi : 0 ≤ (i : Int) ∧ (i : Int) < (s.size : Int) := by omega
 rw [run_index_string w 9 s .i64 i Tryd.underlying9, dif_pos hi]
 have e : ((s[(i : Int).toNat]'(by omega)).toNat : Int) = bt s i := by
  unfold bt
  rw [Array.getD_eq_getD_getElem?]
  have h' : i < s.data.size := h
  simp only [Int.toNat_natCast]
  rw [Array.getElem?_eq_getElem h']
  rfl
 rw [e]
def frN (s : ByteArray) : Nat := if bt s 0 = 45 then 1 else 0
def nmV (s : ByteArray) (a : Nat) : Nat → Int
 | 0 => 0
 | k + 1 => 10 * nmV s a k + bt s (a + k) - 48
def nmD (s : ByteArray) (a : Nat) : Nat → Bool
 | 0 => true
 | k + 1 => nmD s a k && decide (48 ≤ bt s (a + k) ∧ bt s (a + k) ≤ 57)
def nmX (s : ByteArray) : Int := if frN s = 1 then -(nmV s (frN s) (s.size - frN s)) else nmV s (frN s) (s.size - frN s)
def nuB (s : ByteArray) : Bool := decide (0 < s.size ∧ s.size ≤ 10) && (decide (s.size - frN s ≤ 9) && (nmD s (frN s) (s.size - frN s) && ((txI (nmX s)).toList == s.toList)))
def nuI (s : ByteArray) : Int := match nuB s with | true => nmX s | false => 0
theorem nmD_f {s : ByteArray} {a : Nat} : ∀ {n k : Nat}, k < n → ¬ (48 ≤ bt s (a + k) ∧ bt s (a + k) ≤ 57) → nmD s a n = false
 | 0, _, h, _ => absurd h (Nat.not_lt_zero _)
 | n + 1, k, h, h1 => by
  by_cases e : k = n
  ·subst e; rw [nmD, decide_eq_false h1]; simp
  ·rw [nmD, nmD_f (Nat.lt_of_le_of_ne (Nat.le_of_lt_succ h) e) h1]; rfl
theorem nmV_rng {s : ByteArray} {a : Nat} : ∀ {k : Nat}, nmD s a k = true → 0 ≤ nmV s a k ∧ nmV s a k < 10 ^ k
 | 0, _ => ⟨Int.le_refl _, by show (0 : Int) < 1; decide⟩
 | k + 1, h => by
  rw [nmD, Bool.and_eq_true] at h
  have h2 := of_decide_eq_true h.2
  obtain ⟨q1, q2⟩ := nmV_rng h.1
  have e : (10 : Int) ^ (k + 1) = 10 ^ k * 10 := rfl
  rw [nmV, e]
  omega
theorem nmV_small {s : ByteArray} {a k : Nat} (h : nmD s a k = true) (hk : k ≤ 9) : 0 ≤ nmV s a k ∧ nmV s a k ≤ 999999999 := by
 obtain ⟨q1, q2⟩ := nmV_rng h
 have h9 : (10 : Int) ^ k ≤ 10 ^ 9 := by
  have : (10 : Nat) ^ k ≤ 10 ^ 9 := Nat.pow_le_pow_right (by decide) hk
  exact_mod_cast this
 omega
theorem nu_no {s : ByteArray} (h : nuB s = false) : nuI s = 0 := by rw [nuI, h]
theorem nu_yes {s : ByteArray} (h : nuB s = true) : nuI s = nmX s := by rw [nuI, h]
set_option maxRecDepth 100000 in
set_option maxHeartbeats 4000000 in
theorem specNumOf_any (s : ByteArray) (w : World) (hm : s.size ≤ maxLen) :
 Calls Tryd.prog 20 #[.string s] w fun e w' => e = .returned (.tuple #[.int .i64 (nuI s), .bool (nuB s)]) ∧ Below w.heap.size w w' := by
 unfold maxLen at hm
 by_cases h0 : 0 < s.size ∧ s.size ≤ 10
 rotate_left
 ·have hB : nuB s = false := by rw [nuB, decide_eq_false h0]; rfl
  rw [nu_no hB, hB]
  by_cases h1 : s.size = 0
  ·have e0 : ((s.size : Int) == 0) = true := by (rw [beq_iff_eq]; omega)
   go_enter Tryd.func20, Tryd.ntmps20
   go_wp2_with fail
   go_ret2
   exact ⟨rfl, Below.refl _ _⟩
  ·have e0 : ((s.size : Int) == 0) = false := by (rw [beq_eq_false_iff_ne]; omega)
   have e1 : decide (10 < (s.size : Int)) = true := by simp; omega
   go_enter Tryd.func20, Tryd.ntmps20
   go_wp2_with fail
   go_ret2
   exact ⟨rfl, Below.refl _ _⟩
 have e0 : ((s.size : Int) == 0) = false := by (rw [beq_eq_false_iff_ne]; omega)
 have e1 : decide (10 < (s.size : Int)) = false := by simp; omega
 have hi0 := run_idx s 0 h0.1
 simp only [Int.ofNat_zero] at hi0
 by_cases h45 : bt s 0 = 45
 ·skip
  have ha : frN s = 1 := by rw [frN, if_pos h45]
  have h45' : (bt s 0 == 45) = true := by simp [h45]
  have HNX : Hid (nmX s = -(nmV s 1 (s.size - 1))) := by (show nmX s = _; rw [nmX, ha]; rfl)
  have HNB : Hid (nuB s = (decide (s.size - 1 ≤ 9) && (nmD s 1 (s.size - 1) && ((txI (nmX s)).toList == s.toList)))) := by (show nuB s = _; rw [nuB, decide_eq_true h0, ha]; rfl)
  clear ha h45
  by_cases h9 : s.size - 1 ≤ 9
  rotate_left
  ·have hB : nuB s = false := by rw [HNB.out, decide_eq_false h9]; rfl
   rw [nu_no hB, hB]
   have e9 : decide (9 < (s.size : Int) - 1) = true := by simp; omega
   go_enter Tryd.func20, Tryd.ntmps20
   go_wp2_with fail
   go_ret2
   exact ⟨rfl, Below.refl _ _⟩
  have e9 : decide (9 < (s.size : Int) - 1) = false := by simp; omega
  replace HNB : Hid (nuB s = (nmD s 1 (s.size - 1) && ((txI (nmX s)).toList == s.toList))) := by (show nuB s = _; rw [HNB.out, decide_eq_true h9]; rfl)
  have hs10 := h0.2
  have hs1 := h0.1
  clear h0
  go_enter Tryd.func20, Tryd.ntmps20
  go_wp2_with fail
  clear hi0 h45' e0 e1 e9
  go_loopw [5, 6] (fun x i wr => ∃ k : Nat, 1 + k ≤ s.size ∧ i = .int .i64 ((1 + k : Nat) : Int) ∧ x = .int .i64 (nmV s 1 k) ∧ nmD s 1 k = true ∧ w = wr) (fun _ i _ => s.size - (intOf i).toNat)
  case atStart => exact ⟨0, by omega, rfl, rfl, rfl, by first | rfl | trivial⟩
  case round =>
   obtain ⟨k, hk, rfl, rfl, hD, rfl⟩ := hrel
   have hV := nmV_small hD (by omega)
   obtain ⟨hv0, hv1⟩ := hV
   by_cases hlt : 1 + k < s.size
   ·have hx := run_idx s (1 + k) hlt
    have hli : ((1 + k : Nat) : Int) < (s.size : Int) := by omega
    have HV : Hid (nmV s 1 (k + 1) = 10 * nmV s 1 k + bt s (1 + k) - 48) := rfl
    have HDt : Hid (48 ≤ bt s (1 + k) ∧ bt s (1 + k) ≤ 57 → nmD s 1 (k + 1) = true) := fun h => by rw [nmD, hD, decide_eq_true h]; rfl
    have HDf : Hid (¬ (48 ≤ bt s (1 + k) ∧ bt s (1 + k) ≤ 57) → nuB s = false) := fun h => by rw [HNB.out, nmD_f (n := s.size - 1) (by omega) h]; rfl
    obtain ⟨hb0, hb1⟩ := bt_rng s (1 + k)
    generalize bt s (1 + k) = b at *
    generalize nmV s 1 k = V at *
    generalize hj : (1 + k : Nat) = j at *
    by_cases hd : 48 ≤ b ∧ b ≤ 57
    ·have d1 : decide (b < 48) = false := by simp; omega
     have d2 : decide (57 < b) = false := by simp; omega
     have hw1 : IntKind.i64.wrap b = b := Go.IntWalk.i64_in _ ⟨by omega, by omega⟩
     have HT := HDt.out hd
     clear HDt HDf hD
     go_wp2_with fail
     go_roundw
     case rel => exact ⟨k + 1, by omega, by rw [← Nat.add_assoc, hj]; go_num, by rw [HV.out], HT, by first | rfl | trivial⟩
     case measure => simp [intOf]; omega
    ·have HBF : Hid (nuB s = false) := HDf.out hd
     clear HDt HDf hD HNB
     by_cases h48 : b < 48
     ·have d1 : decide (b < 48) = true := by simp [h48]
      go_wp2_with fail
      go_ret2
      exact ⟨by rw [nu_no HBF.out, HBF.out]; rfl, Below.refl _ _⟩
     ·have d1 : decide (b < 48) = false := by simp; omega
      have d2 : decide (57 < b) = true := by simp; omega
      go_wp2_with fail
      go_ret2
      exact ⟨by rw [nu_no HBF.out, HBF.out]; rfl, Below.refl _ _⟩
   ·have hkk : s.size - 1 = k := by omega
    have hli : ¬ ((1 + k : Nat) : Int) < (s.size : Int) := by omega
    have HNX' : Hid (nmX s = -(nmV s 1 k)) := by (show nmX s = _; rw [HNX.out, hkk])
    have HNB' : Hid (nuB s = ((txI (-(nmV s 1 k))).toList == s.toList)) := by (show nuB s = _; rw [HNB.out, hkk, hD, HNX'.out]; rfl)
    clear HNX HNB hD
    generalize nmV s 1 k = V at *
    have CT := fun (v : World) => specTextOf_any (-V) v (by omega) (by omega)
    generalize hj : (1 + k : Nat) = j at *
    go_wp2_with fail
    refine (CT _).mono ?_
    rintro e w1 ⟨rfl, hb⟩
    cases hq : ((txI (-V)).toList == s.toList)
    ·have hq' : ((txI (-V)).toList != s.toList) = true := by rw [bne, hq]; rfl
     have HBF : Hid (nuB s = false) := by (show nuB s = false; rw [HNB'.out]; exact hq)
     go_wp2_with fail
     go_ret2
     exact ⟨by rw [nu_no HBF.out, HBF.out]; rfl, hb⟩
    ·have hq' : ((txI (-V)).toList != s.toList) = false := by rw [bne, hq]; rfl
     have HBT : Hid (nuB s = true) := by (show nuB s = true; rw [HNB'.out]; exact hq)
     go_wp2_with fail
     go_ret2
     exact ⟨by rw [nu_yes HBT.out, HBT.out, HNX'.out]; rfl, hb⟩
 ·skip
  have ha : frN s = 0 := by rw [frN, if_neg h45]
  have h45' : (bt s 0 == 45) = false := by simp [h45]
  have HNX : Hid (nmX s = nmV s 0 s.size) := by (show nmX s = _; rw [nmX, ha]; rfl)
  have HNB : Hid (nuB s = (decide (s.size - 0 ≤ 9) && (nmD s 0 (s.size - 0) && ((txI (nmX s)).toList == s.toList)))) := by (show nuB s = _; rw [nuB, decide_eq_true h0, ha]; rfl)
  clear ha h45
  by_cases h9 : s.size - 0 ≤ 9
  rotate_left
  ·have hB : nuB s = false := by rw [HNB.out, decide_eq_false h9]; rfl
   rw [nu_no hB, hB]
   have e9 : decide (9 < (s.size : Int)) = true := by simp; omega
   go_enter Tryd.func20, Tryd.ntmps20
   go_wp2_with fail
   go_ret2
   exact ⟨rfl, Below.refl _ _⟩
  have e9 : decide (9 < (s.size : Int)) = false := by simp; omega
  replace HNB : Hid (nuB s = (nmD s 0 (s.size - 0) && ((txI (nmX s)).toList == s.toList))) := by (show nuB s = _; rw [HNB.out, decide_eq_true h9]; rfl)
  have hs10 := h0.2
  have hs1 := h0.1
  clear h0
  go_enter Tryd.func20, Tryd.ntmps20
  go_wp2_with fail
  clear hi0 h45' e0 e1 e9
  go_loopw [5, 6] (fun x i wr => ∃ k : Nat, 0 + k ≤ s.size ∧ i = .int .i64 ((0 + k : Nat) : Int) ∧ x = .int .i64 (nmV s 0 k) ∧ nmD s 0 k = true ∧ w = wr) (fun _ i _ => s.size - (intOf i).toNat)
  case atStart => exact ⟨0, by omega, rfl, rfl, rfl, by first | rfl | trivial⟩
  case round =>
   obtain ⟨k, hk, rfl, rfl, hD, rfl⟩ := hrel
   have hV := nmV_small hD (by omega)
   obtain ⟨hv0, hv1⟩ := hV
   by_cases hlt : 0 + k < s.size
   ·have hx := run_idx s (0 + k) hlt
    have hli : ((0 + k : Nat) : Int) < (s.size : Int) := by omega
    have HV : Hid (nmV s 0 (k + 1) = 10 * nmV s 0 k + bt s (0 + k) - 48) := rfl
    have HDt : Hid (48 ≤ bt s (0 + k) ∧ bt s (0 + k) ≤ 57 → nmD s 0 (k + 1) = true) := fun h => by rw [nmD, hD, decide_eq_true h]; rfl
    have HDf : Hid (¬ (48 ≤ bt s (0 + k) ∧ bt s (0 + k) ≤ 57) → nuB s = false) := fun h => by rw [HNB.out, nmD_f (n := s.size - 0) (by omega) h]; rfl
    obtain ⟨hb0, hb1⟩ := bt_rng s (0 + k)
    generalize bt s (0 + k) = b at *
    generalize nmV s 0 k = V at *
    generalize hj : (0 + k : Nat) = j at *
    by_cases hd : 48 ≤ b ∧ b ≤ 57
    ·have d1 : decide (b < 48) = false := by simp; omega
     have d2 : decide (57 < b) = false := by simp; omega
     have hw1 : IntKind.i64.wrap b = b := Go.IntWalk.i64_in _ ⟨by omega, by omega⟩
     have HT := HDt.out hd
     clear HDt HDf hD
     go_wp2_with fail
     go_roundw
     case rel => exact ⟨k + 1, by omega, by rw [← Nat.add_assoc, hj]; go_num, by rw [HV.out], HT, by first | rfl | trivial⟩
     case measure => simp [intOf]; omega
    ·have HBF : Hid (nuB s = false) := HDf.out hd
     clear HDt HDf hD HNB
     by_cases h48 : b < 48
     ·have d1 : decide (b < 48) = true := by simp [h48]
      go_wp2_with fail
      go_ret2
      exact ⟨by rw [nu_no HBF.out, HBF.out]; rfl, Below.refl _ _⟩
     ·have d1 : decide (b < 48) = false := by simp; omega
      have d2 : decide (57 < b) = true := by simp; omega
      go_wp2_with fail
      go_ret2
      exact ⟨by rw [nu_no HBF.out, HBF.out]; rfl, Below.refl _ _⟩
   ·have hkk : s.size - 0 = k := by omega
    have hli : ¬ ((0 + k : Nat) : Int) < (s.size : Int) := by omega
    have HNX' : Hid (nmX s = nmV s 0 k) := by (show nmX s = _; rw [HNX.out]; exact congrArg (nmV s 0) (by omega))
    have HNB' : Hid (nuB s = ((txI (nmV s 0 k)).toList == s.toList)) := by (show nuB s = _; rw [HNB.out, hkk, hD, HNX'.out]; rfl)
    clear HNX HNB hD
    generalize nmV s 0 k = V at *
    have CT := fun (v : World) => specTextOf_any (V) v (by omega) (by omega)
    generalize hj : (0 + k : Nat) = j at *
    go_wp2_with fail
    refine (CT _).mono ?_
    rintro e w1 ⟨rfl, hb⟩
    cases hq : ((txI (V)).toList == s.toList)
    ·have hq' : ((txI (V)).toList != s.toList) = true := by rw [bne, hq]; rfl
     have HBF : Hid (nuB s = false) := by (show nuB s = false; rw [HNB'.out]; exact hq)
     go_wp2_with fail
     go_ret2
     exact ⟨by rw [nu_no HBF.out, HBF.out]; rfl, hb⟩
    ·have hq' : ((txI (V)).toList != s.toList) = false := by rw [bne, hq]; rfl
     have HBT : Hid (nuB s = true) := by (show nuB s = true; rw [HNB'.out]; exact hq)
     go_wp2_with fail
     go_ret2
     exact ⟨by rw [nu_yes HBT.out, HBT.out, HNX'.out]; rfl, hb⟩
end Go.Proofs.YtddjiamollfplaaDoor
