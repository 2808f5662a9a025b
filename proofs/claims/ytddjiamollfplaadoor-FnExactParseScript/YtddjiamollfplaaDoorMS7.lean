/- A digit of sixteen, and its number (the specification). -/
import Derived.Test.YtddjiamollfplaaDoorMS6
namespace Go.Proofs.YtddjiamollfplaaDoor
open Go.RowKit
set_option linter.unusedVariables false
def hexDs : ByteArray := ⟨#[48, 49, 50, 51, 52, 53, 54, 55, 56, 57, 97, 98, 99, 100, 101, 102]⟩
def hxD (x : Int) : Int := if x < 10 then 48 + x else 87 + x
def vlI (b : Int) : Int := if 48 ≤ b ∧ b ≤ 57 then b - 48 else if 97 ≤ b ∧ b ≤ 102 then b - 87 else -1
theorem hex_at : ∀ k, k < 16 → bt hexDs k = hxD (k : Int) := by decide
theorem hxD_vl {x : Int} (h0 : 0 ≤ x) (h1 : x ≤ 15) : vlI (hxD x) = x := by unfold hxD vlI; split <;> split <;> (try split) <;> omega
theorem vl_hx {b : Int} (h : 0 ≤ vlI b) : hxD (vlI b) = b := by
 unfold vlI at h ⊢
 split at h
 ·rename_i q; rw [if_pos q]; unfold hxD; rw [if_pos (by omega)]; omega
 ·rename_i q
  rw [if_neg q]
  split at h
  ·rename_i r; rw [if_pos r]; unfold hxD; rw [if_neg (by omega)]; omega
  ·exact absurd h (by decide)
theorem vl_rng (b : Int) : -1 ≤ vlI b ∧ vlI b ≤ 15 := by unfold vlI; split <;> (try split) <;> omega
set_option maxHeartbeats 400000 in
theorem specDigit_any (x : Int) (w : World) (h0 : 0 ≤ x) (h1 : x ≤ 15) :
 Calls Tryd.prog 92 #[.int .i64 x] w fun e w' => e = .returned (.int .u8 (hxD x)) ∧ w = w' := by
 obtain ⟨k, rfl⟩ := Int.eq_ofNat_of_zero_le h0
 have hx := run_idx hexDs k (show k < 16 by omega)
 rw [hex_at k (by omega)] at hx
 unfold hexDs at hx
 go_enter Tryd.func92, Tryd.ntmps92
 go_wp2_with fail
 go_ret
 exact ⟨rfl, rfl⟩
set_option maxHeartbeats 1000000 in
theorem specValue_any (b : Int) (w : World) :
 Calls Tryd.prog 105 #[.int .u8 b] w fun e w' => e = .returned (.int .i64 (vlI b)) ∧ w = w' := by
 go_enter Tryd.func105, Tryd.ntmps105
 go_wp2_with fail
 go_loopw [3] (fun i wr => ∃ k : Nat, k ≤ 16 ∧ i = .int .i64 (k : Int) ∧ (∀ j : Nat, j < k → hxD (j : Int) ≠ b) ∧ w = wr) (fun i _ => 16 - (intOf i).toNat)
 case atStart => exact ⟨0, by omega, rfl, fun j hj => absurd hj (Nat.not_lt_zero _), by first | rfl | trivial⟩
 case round =>
  obtain ⟨k, hk, rfl, hA, rfl⟩ := hrel
  have HA : Hid (∀ j : Nat, j < k → hxD (j : Int) ≠ b) := hA
  clear hA
  by_cases hlt : k < 16
  ·have hli : (k : Int) < 16 := by omega
   go_wp2_with fail
   refine (specDigit_any _ _ (by omega) (by omega)).mono ?_
   rintro e w1 ⟨rfl, rfl⟩
   by_cases hq : hxD (k : Int) = b
   ·have hq' : (hxD (k : Int) == b) = true := by simp [hq]
    have HR : Hid (vlI b = (k : Int)) := by (show vlI b = _; rw [← hq]; exact hxD_vl (by omega) (by omega))
    clear hq
    go_wp2_with fail
    go_ret
    exact ⟨by rw [HR.out]; rfl, rfl⟩
   ·have hq' : (hxD (k : Int) == b) = false := by simp [hq]
    have HN : Hid (hxD (k : Int) ≠ b) := hq
    clear hq
    go_wp2_with fail
    go_roundw
    case rel => exact ⟨k + 1, by omega, by go_num, fun j hj => by
     by_cases e : j = k
     ·rw [e]; exact HN.out
     ·exact HA.out j (by omega), by first | rfl | trivial⟩
    case measure => simp [intOf]; omega
  ·have hk16 : k = 16 := by omega
   subst hk16
   have HR : Hid (vlI b = -1) := by
    show vlI b = -1
    by_cases h : 0 ≤ vlI b
    ·exact absurd (by have := vl_hx h; rwa [Int.toNat_of_nonneg h]) (HA.out (vlI b).toNat (by have := vl_rng b; omega))
    ·have := vl_rng b; omega
   have hli : ¬ (16 : Int) < 16 := by omega
   go_wp2_with fail
   go_ret
   exact ⟨by rw [HR.out]; rfl, rfl⟩
end Go.Proofs.YtddjiamollfplaaDoor
