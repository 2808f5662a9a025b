/- What the check of bytes is, and the contract of spec.Check8. -/
import Derived.Test.YtbflhhifkhoapaaG2
import Derived.WalkKit
import Derived.WalkSpells
import Derived.WalkLawsBesides
import Derived.Deep.RegionHeld
namespace Go.Proofs.Ytbflhhifkhoapaa
open Go.RowKit
set_option linter.unusedVariables false
theorem xor_i64 (a b : Nat) (ha : a < 256) (hb : b < 256) : bits .xor .i64 (a : Int) (b : Int) = ((a ^^^ b : Nat) : Int) := by
  have e : bits .xor .i64 (a : Int) (b : Int) = IntKind.i64.wrap ((BitVec.ofInt 64 (a : Int) ^^^ BitVec.ofInt 64 (b : Int)).toNat : Int) := rfl
  have h1 : (BitVec.ofInt 64 (a : Int) ^^^ BitVec.ofInt 64 (b : Int)).toNat = a ^^^ b := by
    rw [BitVec.toNat_xor, BitVec.ofInt_natCast, BitVec.ofInt_natCast, BitVec.toNat_ofNat, BitVec.toNat_ofNat, Nat.mod_eq_of_lt (show a < 2 ^ 64 by omega), Nat.mod_eq_of_lt (show b < 2 ^ 64 by omega)]
  have h2 : a ^^^ b < 2 ^ 8 := Nat.xor_lt_two_pow (by omega) (by omega)
  rw [e, h1, Go.IntWalk.i64_in _ ⟨by omega, by omega⟩]
theorem xor_bd {a b : Int} (a0 : 0 ≤ a) (a1 : a ≤ 255) (b0 : 0 ≤ b) (b1 : b ≤ 255) : 0 ≤ bits .xor .i64 a b ∧ bits .xor .i64 a b ≤ 255 := by
  obtain ⟨m, rfl⟩ := Int.eq_ofNat_of_zero_le a0
  obtain ⟨n, rfl⟩ := Int.eq_ofNat_of_zero_le b0
  rw [xor_i64 m n (by omega) (by omega)]
  have h2 : m ^^^ n < 2 ^ 8 := Nat.xor_lt_two_pow (by omega) (by omega)
  omega
theorem and255I (a : Int) (h0 : 0 ≤ a) (h1 : a ≤ 9223372036854775807) : bits .and .i64 a 255 = a % 256 := by
  obtain ⟨n, rfl⟩ := Int.eq_ofNat_of_zero_le h0
  have e : bits .and .i64 (n : Int) 255 = IntKind.i64.wrap ((BitVec.ofInt 64 (n : Int) &&& BitVec.ofInt 64 255).toNat : Int) := rfl
  have h1 : (BitVec.ofInt 64 (n : Int) &&& BitVec.ofInt 64 255).toNat = n % 256 := by
    rw [BitVec.toNat_and, BitVec.ofInt_natCast, BitVec.toNat_ofNat, Nat.mod_eq_of_lt (show n < 2 ^ 64 by omega)]
    exact Nat.and_two_pow_sub_one_eq_mod n 8
  rw [e, h1, Go.IntWalk.i64_in _ ⟨by omega, by omega⟩]
  omega
def dblI (n : Int) : Int := if 255 < 2 * n then bits .xor .i64 (2 * n % 256) 7 else 2 * n
def turnI : Nat → Int → Int
  | 0, n => n
  | k + 1, n => dblI (turnI k n)
def chk (f : Nat → Int) : Nat → Int
  | 0 => 90
  | i + 1 => turnI 8 (bits .xor .i64 (chk f i) (f i))
theorem dblI_bd {n : Int} (h0 : 0 ≤ n) (h1 : n ≤ 255) : 0 ≤ dblI n ∧ dblI n ≤ 255 := by
  unfold dblI
  split
  · exact xor_bd (by omega) (by omega) (by omega) (by omega)
  · omega
theorem turnI_bd {n : Int} (h0 : 0 ≤ n) (h1 : n ≤ 255) : ∀ k, 0 ≤ turnI k n ∧ turnI k n ≤ 255
  | 0 => ⟨h0, h1⟩
  | k + 1 => dblI_bd (turnI_bd h0 h1 k).1 (turnI_bd h0 h1 k).2
theorem chk_bd {f : Nat → Int} : ∀ {n : Nat}, (∀ i, i < n → 0 ≤ f i ∧ f i ≤ 255) → 0 ≤ chk f n ∧ chk f n ≤ 255
  | 0, _ => by simp [chk]
  | n + 1, h => by
    have a := chk_bd (f := f) (n := n) (fun i hi => h i (by omega))
    have b := xor_bd a.1 a.2 (h n (by omega)).1 (h n (by omega)).2
    exact turnI_bd b.1 b.2 8
theorem dblI_hi {n : Int} (h : 255 < 2 * n) : dblI n = bits .xor .i64 (2 * n % 256) 7 := if_pos h
theorem dblI_lo {n : Int} (h : ¬ 255 < 2 * n) : dblI n = 2 * n := if_neg h
theorem chk_congr {f g : Nat → Int} : ∀ {n : Nat}, (∀ i, i < n → f i = g i) → chk f n = chk g n
  | 0, _ => rfl
  | n + 1, h => by simp only [chk]; rw [chk_congr (n := n) (fun i hi => h i (by omega)), h n (by omega)]
set_option maxHeartbeats 2000000 in
theorem specCheck8_some (b off n c : Nat) (f : Nat → Int) (w : World) (hn : n ≤ maxLen) (hf : Byts w b off n f) (hr : ∀ i, i < n → 0 ≤ f i ∧ f i ≤ 255) :
    Calls Try.prog 49 #[.slice (some ⟨b, off, none⟩) n c] w fun e w' => e = .returned (.int .i64 (chk f n)) ∧ w = w' := by
  unfold maxLen at hn
  have HF : Hid (Byts w b off n f) := hf
  have HG : Hid (∀ i, i < n → 0 ≤ f i ∧ f i ≤ 255) := hr
  clear hf hr
  go_enter Try.func49, Try.ntmps49
  go_wp2_with fail
  go_loopw [3, 4] (fun v i wr => ∃ k : Nat, k ≤ n ∧ i = .int .i64 k ∧ v = .int .i64 (chk f k) ∧ w = wr) (fun _ i _ => n - (intOf i).toNat)
  case atStart => exact ⟨0, Nat.zero_le _, rfl, rfl, rfl⟩
  case round =>
    obtain ⟨k, hk, rfl, rfl, rfl⟩ := hrel
    by_cases hlt : k < n
    · have hli : (k : Int) < (n : Int) := by omega
      have c0 : w.cell? ⟨b, off + k, none⟩ = some (.int .u8 (f k)) := HF.out.2 k hlt
      have hcb := chk_bd (f := f) (n := k) (fun i hi => HG.out i (by omega))
      have hfb := HG.out k hlt
      have hxb := xor_bd hcb.1 hcb.2 hfb.1 hfb.2
      have HE : Hid (chk f (k + 1) = turnI 8 (bits .xor .i64 (chk f k) (f k))) := rfl
      generalize chk f k = q at *
      generalize f k = z at *
      go_wp2_with fail
      have HB := turnI_bd hxb.1 hxb.2
      generalize bits .xor .i64 q z = m at *
      have HBH : Hid (∀ j, 0 ≤ turnI j m ∧ turnI j m ≤ 255) := HB
      clear HB
      go_loopw [3, 5] (fun v i wr => ∃ j : Nat, j ≤ 8 ∧ i = .int .i64 j ∧ v = .int .i64 (turnI j m) ∧ w = wr) (fun _ i _ => 8 - (intOf i).toNat)
      case atStart => exact ⟨0, Nat.zero_le _, rfl, rfl, rfl⟩
      case round =>
        obtain ⟨j, hj, rfl, rfl, rfl⟩ := hrel
        by_cases hj8 : j < 8
        · have hji : (j : Int) < 8 := by omega
          have hb := HBH.out j
          have HT : Hid (turnI (j + 1) m = dblI (turnI j m)) := rfl
          generalize turnI j m = t at *
          have b0 := hb.1
          have b1 := hb.2
          clear hb
          by_cases hd : 255 < 2 * t
          · have HD : Hid (dblI t = bits .xor .i64 (2 * t % 256) 7) := dblI_hi hd
            go_wp2_with fail
            go_roundw
            case rel => exact ⟨j + 1, by omega, by go_num, by rw [HT.out, HD.out], by first | rfl | trivial⟩
            case measure => simp [intOf]; omega
          · have HD : Hid (dblI t = 2 * t) := dblI_lo hd
            go_wp2_with fail
            go_roundw
            case rel => exact ⟨j + 1, by omega, by go_num, by rw [HT.out, HD.out], by first | rfl | trivial⟩
            case measure => simp [intOf]; omega
        · have hj8' : j = 8 := by omega
          subst hj8'
          go_wp2_with fail
          go_roundw
          case rel => exact ⟨k + 1, by omega, by go_num, by rw [HE.out], by first | rfl | trivial⟩
          case measure => simp [intOf]; omega
    · have hkn : k = n := by omega
      subst hkn
      have hli : ¬ (k : Int) < (k : Int) := by omega
      go_wp2_with fail
      go_ret
      exact ⟨rfl, rfl⟩
set_option maxHeartbeats 400000 in
theorem specCheck8_zero (a : Option Addr) (c : Nat) (w : World) :
    Calls Try.prog 49 #[.slice a 0 c] w fun e w' => e = .returned (.int .i64 90) ∧ w = w' := by
  go_enter Try.func49, Try.ntmps49
  go_wp2_with fail
  go_loopw [3, 4] (fun v i wr => i = .int .i64 0 ∧ v = .int .i64 90 ∧ w = wr) (fun _ i _ => 0)
  case atStart => exact ⟨rfl, rfl, by first | rfl | trivial⟩
  case round =>
    obtain ⟨rfl, rfl, rfl⟩ := hrel
    go_wp2_with fail
    go_ret
    exact ⟨rfl, rfl⟩
theorem specCheck8_any (a : Option Addr) (n c : Nat) (f : Nat → Int) (w : World) (hn : n ≤ maxLen) (h : SrcB w a n f) (hr : ∀ i, i < n → 0 ≤ f i ∧ f i ≤ 255) :
    Calls Try.prog 49 #[.slice a n c] w fun e w' => e = .returned (.int .i64 (chk f n)) ∧ w = w' := by
  rcases h with rfl | ⟨b, off, rfl, hp⟩
  · exact specCheck8_zero a c w
  · exact specCheck8_some b off n c f w hn hp hr
end Go.Proofs.Ytbflhhifkhoapaa
