/- NumOf in the specification. A digit of sixteen, and its number (the specification). -/
import Derived.Deep.DeepCutAuto
import Derived.Laws.Strings
import Derived.Test.YtddjiamollfplaaGreatDoorML4
namespace Go.Proofs.YtddjiamollfplaaGreatDoor
open Go.RowKit
set_option linter.unusedVariables false
def bt (s : ByteArray) (i : Nat) : Int := ((s.data.getD i 0).toNat : Int)
theorem bt_rng (s : ByteArray) (i : Nat) : 0 ≤ bt s i ∧ bt s i ≤ 255 := by
 have := (s.data.getD i 0).toNat_lt
 unfold bt; omega
theorem run_idx (s : ByteArray) (i : Nat) (h : i < s.size) (w : World) : (Instr.index 9 (.string s) (.int .i64 (i : Int))).run Tryz.prog w = .ok (.int .u8 (bt s i)) w := by
 have hi : 0 ≤ (i : Int) ∧ (i : Int) < (s.size : Int) := by omega
 rw [run_index_string w 9 s .i64 i Tryz.underlying9, dif_pos hi]
 have e : ((s[(i : Int).toNat]'(by omega)).toNat : Int) = bt s i := by
  unfold bt
  rw [Array.getD_eq_getD_getElem?]
  have h' : i < s.data.size := h
  simp only [Int.toNat_natCast]
  rw [Array.getElem?_eq_getElem h']
  rfl
 rw [e]
def frN (s : ByteArray) : Nat := if bt s 0 = 45 then 1 else 0
def nmV (s : ByteArray) (a : Nat) : Nat → Int
 | 0 => 0
 | k + 1 => 10 * nmV s a k + bt s (a + k) - 48
def nmD (s : ByteArray) (a : Nat) : Nat → Bool
 | 0 => true
 | k + 1 => nmD s a k && decide (48 ≤ bt s (a + k) ∧ bt s (a + k) ≤ 57)
def nmX (s : ByteArray) : Int := if frN s = 1 then -(nmV s (frN s) (s.size - frN s)) else nmV s (frN s) (s.size - frN s)
def nuB (s : ByteArray) : Bool := decide (0 < s.size ∧ s.size ≤ 10) && (decide (s.size - frN s ≤ 9) && (nmD s (frN s) (s.size - frN s) && ((txI (nmX s)).toList == s.toList)))
def nuI (s : ByteArray) : Int := match nuB s with | true => nmX s | false => 0
theorem nmD_f {s : ByteArray} {a : Nat} : ∀ {n k : Nat}, k < n → ¬ (48 ≤ bt s (a + k) ∧ bt s (a + k) ≤ 57) → nmD s a n = false
 | 0, _, h, _ => absurd h (Nat.not_lt_zero _)
 | n + 1, k, h, h1 => by
  by_cases e : k = n
  ·subst e; rw [nmD, decide_eq_false h1]; simp
  ·rw [nmD, nmD_f (Nat.lt_of_le_of_ne (Nat.le_of_lt_succ h) e) h1]; rfl
theorem nmV_rng {s : ByteArray} {a : Nat} : ∀ {k : Nat}, nmD s a k = true → 0 ≤ nmV s a k ∧ nmV s a k < 10 ^ k
 | 0, _ => ⟨Int.le_refl _, by show (0 : Int) < 1; decide⟩
 | k + 1, h => by
  rw [nmD, Bool.and_eq_true] at h
  have h2 := of_decide_eq_true h.2
  obtain ⟨q1, q2⟩ := nmV_rng h.1
  have e : (10 : Int) ^ (k + 1) = 10 ^ k * 10 := rfl
  rw [nmV, e]
  omega
theorem nmV_small {s : ByteArray} {a k : Nat} (h : nmD s a k = true) (hk : k ≤ 9) : 0 ≤ nmV s a k ∧ nmV s a k ≤ 999999999 := by
 obtain ⟨q1, q2⟩ := nmV_rng h
 have h9 : (10 : Int) ^ k ≤ 10 ^ 9 := by
  have : (10 : Nat) ^ k ≤ 10 ^ 9 := Nat.pow_le_pow_right (by decide) hk
  exact_mod_cast this
 omega
theorem nu_no {s : ByteArray} (h : nuB s = false) : nuI s = 0 := by rw [nuI, h]
theorem nu_yes {s : ByteArray} (h : nuB s = true) : nuI s = nmX s := by rw [nuI, h]
set_option maxRecDepth 100000 in
set_option maxHeartbeats 4000000 in
theorem specNumOf_any (s : ByteArray) (w : World) (hm : s.size ≤ maxLen) :
 Calls Tryz.prog 39 #[.string s] w fun e w' => e = .returned (.tuple #[.int .i64 (nuI s), .bool (nuB s)]) ∧ Below w.heap.size w w' := by
 unfold maxLen at hm
 by_cases h0 : 0 < s.size ∧ s.size ≤ 10
 rotate_left
 ·have hB : nuB s = false := by rw [nuB, decide_eq_false h0]; rfl
  rw [nu_no hB, hB]
  by_cases h1 : s.size = 0
  ·have e0 : ((s.size : Int) == 0) = true := by (rw [beq_iff_eq]; omega)
   go_enter Tryz.func39, Tryz.ntmps39
   go_wp2_with fail
   go_ret2
   exact ⟨rfl, Below.refl _ _⟩
  ·have e0 : ((s.size : Int) == 0) = false := by (rw [beq_eq_false_iff_ne]; omega)
   have e1 : decide (10 < (s.size : Int)) = true := by simp; omega
   go_enter Tryz.func39, Tryz.ntmps39
   go_wp2_with fail
   go_ret2
   exact ⟨rfl, Below.refl _ _⟩
 have e0 : ((s.size : Int) == 0) = false := by (rw [beq_eq_false_iff_ne]; omega)
 have e1 : decide (10 < (s.size : Int)) = false := by simp; omega
 have hi0 := run_idx s 0 h0.1
 simp only [Int.ofNat_zero] at hi0
 by_cases h45 : bt s 0 = 45
 ·skip
  have ha : frN s = 1 := by rw [frN, if_pos h45]
  have h45' : (bt s 0 == 45) = true := by simp [h45]
  have HNX : Hid (nmX s = -(nmV s 1 (s.size - 1))) := by (show nmX s = _; rw [nmX, ha]; rfl)
  have HNB : Hid (nuB s = (decide (s.size - 1 ≤ 9) && (nmD s 1 (s.size - 1) && ((txI (nmX s)).toList == s.toList)))) := by (show nuB s = _; rw [nuB, decide_eq_true h0, ha]; rfl)
  clear ha h45
  by_cases h9 : s.size - 1 ≤ 9
  rotate_left
  ·have hB : nuB s = false := by rw [HNB.out, decide_eq_false h9]; rfl
   rw [nu_no hB, hB]
   have e9 : decide (9 < (s.size : Int) - 1) = true := by simp; omega
   go_enter Tryz.func39, Tryz.ntmps39
   go_wp2_with fail
   go_ret2
   exact ⟨rfl, Below.refl _ _⟩
  have e9 : decide (9 < (s.size : Int) - 1) = false := by simp; omega
  replace HNB : Hid (nuB s = (nmD s 1 (s.size - 1) && ((txI (nmX s)).toList == s.toList))) := by (show nuB s = _; rw [HNB.out, decide_eq_true h9]; rfl)
  have hs10 := h0.2
  have hs1 := h0.1
  clear h0
  go_enter Tryz.func39, Tryz.ntmps39
  go_wp2_with fail
  clear hi0 h45' e0 e1 e9
  go_loopw [5, 6] (fun x i wr => ∃ k : Nat, 1 + k ≤ s.size ∧ i = .int .i64 ((1 + k : Nat) : Int) ∧ x = .int .i64 (nmV s 1 k) ∧ nmD s 1 k = true ∧ w = wr) (fun _ i _ => s.size - (intOf i).toNat)
  case atStart => exact ⟨0, by omega, rfl, rfl, rfl, by first | rfl | trivial⟩
  case round =>
   obtain ⟨k, hk, rfl, rfl, hD, rfl⟩ := hrel
   have hV := nmV_small hD (by omega)
   obtain ⟨hv0, hv1⟩ := hV
   by_cases hlt : 1 + k < s.size
   ·have hx := run_idx s (1 + k) hlt
    have hli : ((1 + k : Nat) : Int) < (s.size : Int) := by omega
    have HV : Hid (nmV s 1 (k + 1) = 10 * nmV s 1 k + bt s (1 + k) - 48) := rfl
    have HDt : Hid (48 ≤ bt s (1 + k) ∧ bt s (1 + k) ≤ 57 → nmD s 1 (k + 1) = true) := fun h => by rw [nmD, hD, decide_eq_true h]; rfl
    have HDf : Hid (¬ (48 ≤ bt s (1 + k) ∧ bt s (1 + k) ≤ 57) → nuB s = false) := fun h => by rw [HNB.out, nmD_f (n := s.size - 1) (by omega) h]; rfl
    obtain ⟨hb0, hb1⟩ := bt_rng s (1 + k)
    generalize bt s (1 + k) = b at *
    generalize nmV s 1 k = V at *
    generalize hj : (1 + k : Nat) = j at *
    by_cases hd : 48 ≤ b ∧ b ≤ 57
    ·have d1 : decide (b < 48) = false := by simp; omega
     have d2 : decide (57 < b) = false := by simp; omega
     have hw1 : IntKind.i64.wrap b = b := Go.IntWalk.i64_in _ ⟨by omega, by omega⟩
     have HT := HDt.out hd
     clear HDt HDf hD
     go_wp2_with fail
     go_roundw
     case rel => exact ⟨k + 1, by omega, by rw [← Nat.add_assoc, hj]; go_num, by rw [HV.out], HT, by first | rfl | trivial⟩
     case measure => simp [intOf]; omega
    ·have HBF : Hid (nuB s = false) := HDf.out hd
     clear HDt HDf hD HNB
     by_cases h48 : b < 48
     ·have d1 : decide (b < 48) = true := by simp [h48]
      go_wp2_with fail
      go_ret2
      exact ⟨by rw [nu_no HBF.out, HBF.out]; rfl, Below.refl _ _⟩
     ·have d1 : decide (b < 48) = false := by simp; omega
      have d2 : decide (57 < b) = true := by simp; omega
      go_wp2_with fail
      go_ret2
      exact ⟨by rw [nu_no HBF.out, HBF.out]; rfl, Below.refl _ _⟩
   ·have hkk : s.size - 1 = k := by omega
    have hli : ¬ ((1 + k : Nat) : Int) < (s.size : Int) := by omega
    have HNX' : Hid (nmX s = -(nmV s 1 k)) := by (show nmX s = _; rw [HNX.out, hkk])
    have HNB' : Hid (nuB s = ((txI (-(nmV s 1 k))).toList == s.toList)) := by (show nuB s = _; rw [HNB.out, hkk, hD, HNX'.out]; rfl)
    clear HNX HNB hD
    generalize nmV s 1 k = V at *
    have CT := fun (v : World) => specTextOf_any (-V) v (by omega) (by omega)
    generalize hj : (1 + k : Nat) = j at *
    go_wp2_with fail
    refine (CT _).mono ?_
    rintro e w1 ⟨rfl, hb⟩
    cases hq : ((txI (-V)).toList == s.toList)
    ·have hq' : ((txI (-V)).toList != s.toList) = true := by rw [bne, hq]; rfl
     have HBF : Hid (nuB s = false) := by (show nuB s = false; rw [HNB'.out]; exact hq)
     go_wp2_with fail
     go_ret2
     exact ⟨by rw [nu_no HBF.out, HBF.out]; rfl, hb⟩
    ·have hq' : ((txI (-V)).toList != s.toList) = false := by rw [bne, hq]; rfl
     have HBT : Hid (nuB s = true) := by (show nuB s = true; rw [HNB'.out]; exact hq)
     go_wp2_with fail
     go_ret2
     exact ⟨by rw [nu_yes HBT.out, HBT.out, HNX'.out]; rfl, hb⟩
 ·skip
  have ha : frN s = 0 := by rw [frN, if_neg h45]
  have h45' : (bt s 0 == 45) = false := by simp [h45]
  have HNX : Hid (nmX s = nmV s 0 s.size) := by (show nmX s = _; rw [nmX, ha]; rfl)
  have HNB : Hid (nuB s = (decide (s.size - 0 ≤ 9) && (nmD s 0 (s.size - 0) && ((txI (nmX s)).toList == s.toList)))) := by (show nuB s = _; rw [nuB, decide_eq_true h0, ha]; rfl)
  clear ha h45
  by_cases h9 : s.size - 0 ≤ 9
  rotate_left
  ·have hB : nuB s = false := by rw [HNB.out, decide_eq_false h9]; rfl
   rw [nu_no hB, hB]
   have e9 : decide (9 < (s.size : Int)) = true := by simp; omega
   go_enter Tryz.func39, Tryz.ntmps39
   go_wp2_with fail
   go_ret2
   exact ⟨rfl, Below.refl _ _⟩
  have e9 : decide (9 < (s.size : Int)) = false := by simp; omega
  replace HNB : Hid (nuB s = (nmD s 0 (s.size - 0) && ((txI (nmX s)).toList == s.toList))) := by (show nuB s = _; rw [HNB.out, decide_eq_true h9]; rfl)
  have hs10 := h0.2
  have hs1 := h0.1
  clear h0
  go_enter Tryz.func39, Tryz.ntmps39
  go_wp2_with fail
  clear hi0 h45' e0 e1 e9
  go_loopw [5, 6] (fun x i wr => ∃ k : Nat, 0 + k ≤ s.size ∧ i = .int .i64 ((0 + k : Nat) : Int) ∧ x = .int .i64 (nmV s 0 k) ∧ nmD s 0 k = true ∧ w = wr) (fun _ i _ => s.size - (intOf i).toNat)
  case atStart => exact ⟨0, by omega, rfl, rfl, rfl, by first | rfl | trivial⟩
  case round =>
   obtain ⟨k, hk, rfl, rfl, hD, rfl⟩ := hrel
   have hV := nmV_small hD (by omega)
   obtain ⟨hv0, hv1⟩ := hV
   by_cases hlt : 0 + k < s.size
   ·have hx := run_idx s (0 + k) hlt
    have hli : ((0 + k : Nat) : Int) < (s.size : Int) := by omega
    have HV : Hid (nmV s 0 (k + 1) = 10 * nmV s 0 k + bt s (0 + k) - 48) := rfl
    have HDt : Hid (48 ≤ bt s (0 + k) ∧ bt s (0 + k) ≤ 57 → nmD s 0 (k + 1) = true) := fun h => by rw [nmD, hD, decide_eq_true h]; rfl
    have HDf : Hid (¬ (48 ≤ bt s (0 + k) ∧ bt s (0 + k) ≤ 57) → nuB s = false) := fun h => by rw [HNB.out, nmD_f (n := s.size - 0) (by omega) h]; rfl
    obtain ⟨hb0, hb1⟩ := bt_rng s (0 + k)
    generalize bt s (0 + k) = b at *
    generalize nmV s 0 k = V at *
    generalize hj : (0 + k : Nat) = j at *
    by_cases hd : 48 ≤ b ∧ b ≤ 57
    ·have d1 : decide (b < 48) = false := by simp; omega
     have d2 : decide (57 < b) = false := by simp; omega
     have hw1 : IntKind.i64.wrap b = b := Go.IntWalk.i64_in _ ⟨by omega, by omega⟩
     have HT := HDt.out hd
     clear HDt HDf hD
     go_wp2_with fail
     go_roundw
     case rel => exact ⟨k + 1, by omega, by rw [← Nat.add_assoc, hj]; go_num, by rw [HV.out], HT, by first | rfl | trivial⟩
     case measure => simp [intOf]; omega
    ·have HBF : Hid (nuB s = false) := HDf.out hd
     clear HDt HDf hD HNB
     by_cases h48 : b < 48
     ·have d1 : decide (b < 48) = true := by simp [h48]
      go_wp2_with fail
      go_ret2
      exact ⟨by rw [nu_no HBF.out, HBF.out]; rfl, Below.refl _ _⟩
     ·have d1 : decide (b < 48) = false := by simp; omega
      have d2 : decide (57 < b) = true := by simp; omega
      go_wp2_with fail
      go_ret2
      exact ⟨by rw [nu_no HBF.out, HBF.out]; rfl, Below.refl _ _⟩
   ·have hkk : s.size - 0 = k := by omega
    have hli : ¬ ((0 + k : Nat) : Int) < (s.size : Int) := by omega
    have HNX' : Hid (nmX s = nmV s 0 k) := by (show nmX s = _; rw [HNX.out]; exact congrArg (nmV s 0) (by omega))
    have HNB' : Hid (nuB s = ((txI (nmV s 0 k)).toList == s.toList)) := by (show nuB s = _; rw [HNB.out, hkk, hD, HNX'.out]; rfl)
    clear HNX HNB hD
    generalize nmV s 0 k = V at *
    have CT := fun (v : World) => specTextOf_any (V) v (by omega) (by omega)
    generalize hj : (0 + k : Nat) = j at *
    go_wp2_with fail
    refine (CT _).mono ?_
    rintro e w1 ⟨rfl, hb⟩
    cases hq : ((txI (V)).toList == s.toList)
    ·have hq' : ((txI (V)).toList != s.toList) = true := by rw [bne, hq]; rfl
     have HBF : Hid (nuB s = false) := by (show nuB s = false; rw [HNB'.out]; exact hq)
     go_wp2_with fail
     go_ret2
     exact ⟨by rw [nu_no HBF.out, HBF.out]; rfl, hb⟩
    ·have hq' : ((txI (V)).toList != s.toList) = false := by rw [bne, hq]; rfl
     have HBT : Hid (nuB s = true) := by (show nuB s = true; rw [HNB'.out]; exact hq)
     go_wp2_with fail
     go_ret2
     exact ⟨by rw [nu_yes HBT.out, HBT.out, HNX'.out]; rfl, hb⟩
end Go.Proofs.YtddjiamollfplaaGreatDoor
namespace Go.Proofs.YtddjiamollfplaaGreatDoor
open Go.RowKit
set_option linter.unusedVariables false
def hexDs : ByteArray := ⟨#[48, 49, 50, 51, 52, 53, 54, 55, 56, 57, 97, 98, 99, 100, 101, 102]⟩
def hxD (x : Int) : Int := if x < 10 then 48 + x else 87 + x
def vlI (b : Int) : Int := if 48 ≤ b ∧ b ≤ 57 then b - 48 else if 97 ≤ b ∧ b ≤ 102 then b - 87 else -1
theorem hex_at : ∀ k, k < 16 → bt hexDs k = hxD (k : Int) := by decide
theorem hxD_rng {x : Int} (h0 : 0 ≤ x) (h1 : x ≤ 15) : 48 ≤ hxD x ∧ hxD x ≤ 102 := by unfold hxD; split <;> omega
theorem hxD_vl {x : Int} (h0 : 0 ≤ x) (h1 : x ≤ 15) : vlI (hxD x) = x := by unfold hxD vlI; split <;> split <;> (try split) <;> omega
theorem vl_hx {b : Int} (h : 0 ≤ vlI b) : hxD (vlI b) = b := by
 unfold vlI at h ⊢
 split at h
 ·rename_i q; rw [if_pos q]; unfold hxD; rw [if_pos (by omega)]; omega
 ·rename_i q
  rw [if_neg q]
  split at h
  ·rename_i r; rw [if_pos r]; unfold hxD; rw [if_neg (by omega)]; omega
  ·exact absurd h (by decide)
theorem vl_rng (b : Int) : -1 ≤ vlI b ∧ vlI b ≤ 15 := by unfold vlI; split <;> (try split) <;> omega
set_option maxHeartbeats 400000 in
theorem specDigit_any (x : Int) (w : World) (h0 : 0 ≤ x) (h1 : x ≤ 15) :
 Calls Tryz.prog 88 #[.int .i64 x] w fun e w' => e = .returned (.int .u8 (hxD x)) ∧ w = w' := by
 obtain ⟨k, rfl⟩ := Int.eq_ofNat_of_zero_le h0
 have hx := run_idx hexDs k (show k < 16 by omega)
 rw [hex_at k (by omega)] at hx
 unfold hexDs at hx
 go_enter Tryz.func88, Tryz.ntmps88
 go_wp2_with fail
 go_ret
 exact ⟨rfl, rfl⟩
set_option maxHeartbeats 1000000 in
theorem specValue_any (b : Int) (w : World) :
 Calls Tryz.prog 72 #[.int .u8 b] w fun e w' => e = .returned (.int .i64 (vlI b)) ∧ w = w' := by
 go_enter Tryz.func72, Tryz.ntmps72
 go_wp2_with fail
 go_loopw [3] (fun i wr => ∃ k : Nat, k ≤ 16 ∧ i = .int .i64 (k : Int) ∧ (∀ j : Nat, j < k → hxD (j : Int) ≠ b) ∧ w = wr) (fun i _ => 16 - (intOf i).toNat)
 case atStart => exact ⟨0, by omega, rfl, fun j hj => absurd hj (Nat.not_lt_zero _), by first | rfl | trivial⟩
 case round =>
  obtain ⟨k, hk, rfl, hA, rfl⟩ := hrel
  have HA : Hid (∀ j : Nat, j < k → hxD (j : Int) ≠ b) := hA
  clear hA
  by_cases hlt : k < 16
  ·have hli : (k : Int) < 16 := by omega
   go_wp2_with fail
   refine (specDigit_any _ _ (by omega) (by omega)).mono ?_
   rintro e w1 ⟨rfl, rfl⟩
   by_cases hq : hxD (k : Int) = b
   ·have hq' : (hxD (k : Int) == b) = true := by simp [hq]
    have HR : Hid (vlI b = (k : Int)) := by (show vlI b = _; rw [← hq]; exact hxD_vl (by omega) (by omega))
    clear hq
    go_wp2_with fail
    go_ret
    exact ⟨by rw [HR.out]; rfl, rfl⟩
   ·have hq' : (hxD (k : Int) == b) = false := by simp [hq]
    have HN : Hid (hxD (k : Int) ≠ b) := hq
    clear hq
    go_wp2_with fail
    go_roundw
    case rel => exact ⟨k + 1, by omega, by go_num, fun j hj => by
     by_cases e : j = k
     ·rw [e]; exact HN.out
     ·exact HA.out j (by omega), by first | rfl | trivial⟩
    case measure => simp [intOf]; omega
  ·have hk16 : k = 16 := by omega
   subst hk16
   have HR : Hid (vlI b = -1) := by
    show vlI b = -1
    by_cases h : 0 ≤ vlI b
    ·exact absurd (by have := vl_hx h; rwa [Int.toNat_of_nonneg h]) (HA.out (vlI b).toNat (by have := vl_rng b; omega))
    ·have := vl_rng b; omega
   have hli : ¬ (16 : Int) < 16 := by omega
   go_wp2_with fail
   go_ret
   exact ⟨by rw [HR.out]; rfl, rfl⟩
end Go.Proofs.YtddjiamollfplaaGreatDoor
