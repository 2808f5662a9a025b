/- The contract of impl.checkOf (the check by a function), and the walk of the exact law of Check8. -/
import Derived.Test.YtbflhhifkhoapaaG11
import Derived.Test.YtbflhhifkhoapaaG4
import Derived.WalkKit
import Derived.WalkSpells
import Derived.WalkLawsBesides
import Derived.Deep.RegionHeld
namespace Go.Proofs.Ytbflhhifkhoapaa
open Go.RowKit
set_option linter.unusedVariables false
theorem turn_step (n : Int) (k : Nat) : turnI (k + 1) n = dblI (turnI k n) := rfl
set_option maxHeartbeats 1000000 in
theorem turned_any (n : Int) (w : World) (h0 : 0 ≤ n) (h1 : n ≤ 255) :
    Calls Try.prog 78 #[.int .i64 n] w fun e w' => e = .returned (.int .i64 (turnI 8 n)) ∧ w = w' := by
  have HBH : Hid (∀ j, 0 ≤ turnI j n ∧ turnI j n ≤ 255) := turnI_bd h0 h1
  clear h0 h1
  go_enter Try.func78, Try.ntmps78
  go_wp2_with fail
  go_loopw [0, 3] (fun v i wr => ∃ j : Nat, j ≤ 8 ∧ i = .int .i64 j ∧ v = .int .i64 (turnI j n) ∧ w = wr) (fun _ i _ => 8 - (intOf i).toNat)
  case atStart => exact ⟨0, Nat.zero_le _, rfl, rfl, rfl⟩
  case round =>
    obtain ⟨j, hj, rfl, rfl, rfl⟩ := hrel
    by_cases hj8 : j < 8
    · have hji : (j : Int) < 8 := by omega
      have hb := HBH.out j
      have HT : Hid (turnI (j + 1) n = dblI (turnI j n)) := rfl
      generalize turnI j n = t at *
      have b0 := hb.1
      have b1 := hb.2
      clear hb
      have hcm : t * 2 = 2 * t := Int.mul_comm _ _
      have hA := and255I (2 * t) (by omega) (by omega)
      by_cases hd : 255 < 2 * t
      · have HD : Hid (dblI t = bits .xor .i64 (2 * t % 256) 7) := dblI_hi hd
        go_wp2_with fail
        go_roundw
        case rel => exact ⟨j + 1, by omega, by go_num, by rw [HT.out, HD.out], by first | rfl | trivial⟩
        case measure => simp [intOf]; omega
      · have HD : Hid (dblI t = 2 * t) := dblI_lo hd
        go_wp2_with fail
        go_roundw
        case rel => exact ⟨j + 1, by omega, by go_num, by rw [HT.out, HD.out], by first | rfl | trivial⟩
        case measure => simp [intOf]; omega
    · have hj8' : j = 8 := by omega
      subst hj8'
      go_wp2_with fail
      go_ret
      exact ⟨rfl, rfl⟩
set_option maxHeartbeats 2000000 in
theorem implCheck8_some (b off n c : Nat) (f : Nat → Int) (w : World) (hn : n ≤ maxLen) (hf : Byts w b off n f) (hr : ∀ i, i < n → 0 ≤ f i ∧ f i ≤ 255) :
    Calls Try.prog 39 #[.slice (some ⟨b, off, none⟩) n c] w fun e w' => e = .returned (.int .i64 (chk f n)) ∧ w = w' := by
  unfold maxLen at hn
  have HF : Hid (Byts w b off n f) := hf
  have HG : Hid (∀ i, i < n → 0 ≤ f i ∧ f i ≤ 255) := hr
  clear hf hr
  go_enter Try.func39, Try.ntmps39
  go_wp2_with fail
  go_loopw [3, 8] (fun v i wr => ∃ k : Nat, k ≤ n ∧ i = .int .i64 k ∧ v = .int .i64 (chk f k) ∧ w = wr) (fun _ i _ => n - (intOf i).toNat)
  case atStart => exact ⟨0, Nat.zero_le _, rfl, rfl, rfl⟩
  case round =>
    obtain ⟨k, hk, rfl, rfl, rfl⟩ := hrel
    by_cases hlt : k < n
    · have hli : (k : Int) < (n : Int) := by omega
      have c0 : w.cell? ⟨b, off + k, none⟩ = some (.int .u8 (f k)) := HF.out.2 k hlt
      have hcb := chk_bd (f := f) (n := k) (fun i hi => HG.out i (by omega))
      have hfb := HG.out k hlt
      have hxb := xor_bd hcb.1 hcb.2 hfb.1 hfb.2
      have HE : Hid (chk f (k + 1) = turnI 8 (bits .xor .i64 (chk f k) (f k))) := rfl
      generalize chk f k = q at *
      generalize f k = z at *
      go_wp2_with fail
      refine (turned_any _ _ hxb.1 hxb.2).mono ?_
      rintro e w' ⟨rfl, rfl⟩
      go_wp2_with fail
      go_roundw
      case rel => exact ⟨k + 1, by omega, by go_num, by rw [HE.out], by first | rfl | trivial⟩
      case measure => simp [intOf]; omega
    · have hkn : k = n := by omega
      subst hkn
      have hli : ¬ (k : Int) < (k : Int) := by omega
      go_wp2_with fail
      go_ret
      exact ⟨rfl, rfl⟩
set_option maxHeartbeats 400000 in
theorem implCheck8_zero (a : Option Addr) (c : Nat) (w : World) :
    Calls Try.prog 39 #[.slice a 0 c] w fun e w' => e = .returned (.int .i64 90) ∧ w = w' := by
  go_enter Try.func39, Try.ntmps39
  go_wp2_with fail
  go_loopw [3, 8] (fun v i wr => i = .int .i64 0 ∧ v = .int .i64 90 ∧ w = wr) (fun _ i _ => 0)
  case atStart => exact ⟨rfl, rfl, by first | rfl | trivial⟩
  case round =>
    obtain ⟨rfl, rfl, rfl⟩ := hrel
    go_wp2_with fail
    go_ret
    exact ⟨rfl, rfl⟩
theorem implCheck8_any (a : Option Addr) (n c : Nat) (f : Nat → Int) (w : World) (hn : n ≤ maxLen) (h : SrcB w a n f) (hr : ∀ i, i < n → 0 ≤ f i ∧ f i ≤ 255) :
    Calls Try.prog 39 #[.slice a n c] w fun e w' => e = .returned (.int .i64 (chk f n)) ∧ w = w' := by
  rcases h with rfl | ⟨b, off, rfl, hp⟩
  · exact implCheck8_zero a c w
  · exact implCheck8_some b off n c f w hn hp hr
end Go.Proofs.Ytbflhhifkhoapaa
