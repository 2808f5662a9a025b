/- Contracts of GetNum. -/
import Derived.Test.YtbflhhifkhoapaaG2
import Derived.WalkKit
import Derived.WalkSpells
import Derived.WalkLawsBesides
import Derived.Deep.RegionHeld
namespace Go.Proofs.Ytbflhhifkhoapaa
open Go.RowKit
set_option linter.unusedVariables false
def getS (f : Nat → Int) (n a : Nat) : Nat → Nat → Int → Int × Int × Bool
  | 0, _, _ => (0, 0, false)
  | m + 1, k, X => if a + k < n then (if f (a + k) < 128 then (if f (a + k) = 0 ∧ 0 < k then (0, 0, false) else (X + f (a + k) % 128 * 128 ^ k, (a : Int) + k + 1, true)) else getS f n a m (k + 1) (X + f (a + k) % 128 * 128 ^ k)) else (0, 0, false)
def getI (f : Nat → Int) (n : Nat) (at' : Int) : Int × Int × Bool := if 0 ≤ at' ∧ at' < n then getS f n at'.toNat 9 0 0 else (0, 0, false)
section
variable {f : Nat → Int} {n a m k : Nat} {X : Int}
theorem getS_end (h : ¬ a + k < n) : getS f n a m k X = (0, 0, false) := by
  cases m with
  | zero => rfl
  | succ m => rw [getS, if_neg h]
theorem getS_long (h : a + k < n) (hz : f (a + k) = 0) (hk : 0 < k) : getS f n a m k X = (0, 0, false) := by
  cases m with
  | zero => rfl
  | succ m => rw [getS, if_pos h, if_pos (by omega), if_pos ⟨hz, hk⟩]
theorem getS_told (h : a + k < n) (h1 : f (a + k) < 128) (hz : ¬ (f (a + k) = 0 ∧ 0 < k)) : getS f n a (m + 1) k X = (X + f (a + k) % 128 * 128 ^ k, (a : Int) + k + 1, true) := by
  rw [getS, if_pos h, if_pos h1, if_neg hz]
theorem getS_on (h : a + k < n) (h1 : ¬ f (a + k) < 128) : getS f n a (m + 1) k X = getS f n a m (k + 1) (X + f (a + k) % 128 * 128 ^ k) := by
  rw [getS, if_pos h, if_neg h1]
end
theorem pow128_le {k m : Nat} (h : k ≤ m) : (128 : Int) ^ k ≤ 128 ^ m := by
  obtain ⟨d, rfl⟩ := Nat.exists_eq_add_of_le h
  rw [Int.pow_add]
  have h1 : (0 : Int) < 128 ^ k := Int.pow_pos (by omega)
  have h2 : (0 : Int) < 128 ^ d := Int.pow_pos (by omega)
  have := Int.mul_le_mul_of_nonneg_left (show (1 : Int) ≤ 128 ^ d by omega) (Int.le_of_lt h1)
  simpa using this
theorem pow128_9 : (128 : Int) ^ 9 = 9223372036854775808 := by decide
theorem gstep {X z : Int} {k : Nat} (hk : k < 9) (h0 : 0 ≤ X) (h1 : X < 128 ^ k) (z0 : 0 ≤ z) (z1 : z ≤ 127) :
    0 ≤ z * 128 ^ k ∧ X + z * 128 ^ k < 128 ^ (k + 1) ∧ X + z * 128 ^ k ≤ 9223372036854775807 ∧ (128 : Int) ^ k ≤ 72057594037927936 ∧ 1 ≤ (128 : Int) ^ k := by
  have hp : (0 : Int) < 128 ^ k := Int.pow_pos (by omega)
  have a1 : 0 ≤ z * 128 ^ k := Int.mul_nonneg z0 (Int.le_of_lt hp)
  have a2 : z * 128 ^ k ≤ 127 * 128 ^ k := Int.mul_le_mul_of_nonneg_right z1 (Int.le_of_lt hp)
  have a3 := pow128_le (show k + 1 ≤ 9 by omega)
  have a4 := pow128_le (show k ≤ 8 by omega)
  have a5 : (128 : Int) ^ 8 = 72057594037927936 := by decide
  rw [pow128_9, Int.pow_succ] at a3
  rw [Int.pow_succ]
  refine ⟨a1, by omega, by omega, by omega, by omega⟩
theorem pow27 (k : Nat) : (2 : Int) ^ (7 * k) = 128 ^ k := by rw [Int.pow_mul]; rfl
theorem or_step {X z : Int} {k : Nat} (hk : k < 9) (h0 : 0 ≤ X) (h1 : X < 128 ^ k) (z0 : 0 ≤ z) (z1 : z ≤ 127) : bits .or .i64 X (z * 2 ^ (7 * k)) = X + z * 128 ^ k := by
  have hg := gstep hk h0 h1 z0 z1
  obtain ⟨Xn, rfl⟩ := Int.eq_ofNat_of_zero_le h0
  obtain ⟨zn, rfl⟩ := Int.eq_ofNat_of_zero_le z0
  have e : ((128 : Int) ^ k) = ((2 ^ (7 * k) : Nat) : Int) := by rw [← pow27, Int.natCast_pow]; rfl
  rw [e] at h1 hg ⊢
  have h3 := hg.2.2.1
  rw [← Int.natCast_mul] at h3
  have := or_join Xn zn (7 * k) (Int.ofNat_lt.1 h1) (by omega)
  rw [pow27, e, ← Int.natCast_mul, ← Int.natCast_add]
  exact this
set_option maxHeartbeats 1000000 in
theorem specGetNum_out (a : Option Addr) (n c : Nat) (x : Int) (w : World) (hn : n ≤ maxLen) (h : ¬ (0 ≤ x ∧ x < n)) :
    Calls Try.prog 50 #[.slice a n c, .int .i64 x] w fun e w' => e = .returned (.tuple #[.int .i64 0, .int .i64 0, .bool false]) ∧ w = w' := by
  unfold maxLen at hn
  by_cases h0 : x < 0
  · clear h
    go_enter Try.func50, Try.ntmps50
    go_wp2
    go_ret3
    exact ⟨rfl, rfl⟩
  · have h1 : (n : Int) ≤ x := by omega
    clear h
    go_enter Try.func50, Try.ntmps50
    go_wp2
    go_ret3
    exact ⟨rfl, rfl⟩
set_option maxHeartbeats 4000000 in
theorem specGetNum_in (b off n c a : Nat) (f : Nat → Int) (w : World) (hn : n ≤ maxLen) (ha : a < n) (hf : Byts w b off n f) (hr : ∀ i, i < n → 0 ≤ f i ∧ f i ≤ 255) :
    Calls Try.prog 50 #[.slice (some ⟨b, off, none⟩) n c, .int .i64 a] w fun e w' => e = .returned (.tuple #[.int .i64 (getS f n a 9 0 0).1, .int .i64 (getS f n a 9 0 0).2.1, .bool (getS f n a 9 0 0).2.2]) ∧ w = w' := by
  unfold maxLen at hn
  have HF : Hid (Byts w b off n f) := hf
  have HG : Hid (∀ i, i < n → 0 ≤ f i ∧ f i ≤ 255) := hr
  obtain ⟨r, hres⟩ : ∃ r, r = getS f n a 9 0 0 := ⟨_, rfl⟩
  have HR0 : Hid (r = getS f n a 9 0 0) := hres
  rw [← hres]
  clear hf hr hres
  go_enter Try.func50, Try.ntmps50
  go_wp2_with fail
  go_loopw [7, 8, 9] (fun xv uv kv wr => ∃ (k m : Nat) (X U : Int), k + m = 9 ∧ a + k ≤ n ∧ kv = .int .i64 k ∧ xv = .int .i64 X ∧ uv = .int .i64 U ∧ (k < 9 → U = 128 ^ k) ∧ 0 ≤ X ∧ X < 128 ^ k ∧ r = getS f n a m k X ∧ w = wr) (fun _ _ kv _ => 9 - (intOf kv).toNat)
  case atStart => exact ⟨0, 9, 0, 1, rfl, by omega, rfl, rfl, rfl, fun _ => by simp, by omega, by simp, HR0.out, rfl⟩
  case round =>
    obtain ⟨k, m, X, U, hkm, hak, rfl, rfl, rfl, hU, hX0, hX1, hR, rfl⟩ := hrel
    have HU : Hid (k < 9 → U = 128 ^ k) := hU
    have HX : Hid (X < 128 ^ k) := hX1
    have HR1 : Hid (r = getS f n a m k X) := hR
    clear hU hX1 hR HR0
    by_cases h9 : k < 9
    · have hk9 : (k : Int) < 9 := by omega
      obtain ⟨m', rfl⟩ : ∃ m', m = m' + 1 := ⟨m - 1, by omega⟩
      by_cases hlt : a + k < n
      · have hlti : (a : Int) + (k : Int) < (n : Int) := by omega
        have c0 : w.cell? ⟨b, off + (a + k), none⟩ = some (.int .u8 (f (a + k))) := HF.out.2 (a + k) hlt
        have hrg := HG.out (a + k) hlt
        have hUe := HU.out h9
        have hg := gstep (z := f (a + k) % 128) h9 hX0 HX.out (by omega) (by omega)
        rw [← hUe] at hg
        have e1 := getS_told (f := f) (n := n) (a := a) (k := k) (m := m') (X := X) hlt
        have e2 := getS_on (f := f) (n := n) (a := a) (k := k) (m := m') (X := X) hlt
        have e3 := getS_long (f := f) (n := n) (a := a) (k := k) (m := m' + 1) (X := X) hlt
        rw [← hUe] at e1 e2
        have HE1 : Hid (f (a + k) < 128 → ¬ (f (a + k) = 0 ∧ 0 < k) → getS f n a (m' + 1) k X = (X + f (a + k) % 128 * U, (a : Int) + k + 1, true)) := e1
        have HE2 : Hid (¬ f (a + k) < 128 → getS f n a (m' + 1) k X = getS f n a m' (k + 1) (X + f (a + k) % 128 * U)) := e2
        have HE3 : Hid (f (a + k) = 0 → 0 < k → getS f n a (m' + 1) k X = (0, 0, false)) := e3
        have HXU : Hid (X + f (a + k) % 128 * U < 128 ^ (k + 1)) := hg.2.1
        have HUE : Hid (U = 128 ^ k) := hUe
        obtain ⟨g1, _, g3, g4, g5⟩ := hg
        clear hUe e1 e2 e3 HU HX
        obtain ⟨d, hd⟩ : ∃ d, d = f (a + k) := ⟨_, rfl⟩
        rw [← hd] at c0 hrg HE1 HE2 HE3 HXU g1 g3
        clear hd
        have d0 := hrg.1
        have d1 := hrg.2
        clear hrg
        by_cases hd128 : d < 128
        · by_cases hz : d = 0
          · subst hz
            by_cases hk0 : 0 < k
            · have HR : Hid (r = (0, 0, false)) := HR1.out.trans (HE3.out rfl hk0)
              have hk0i : (0 : Int) < (k : Int) := by omega
              go_wp2_with fail
              rw [HR.out]; go_ret3; exact ⟨rfl, rfl⟩
            · have hk0i : ¬ (0 : Int) < (k : Int) := by omega
              have HR : Hid (r = (X + 0 % 128 * U, (a : Int) + k + 1, true)) := HR1.out.trans (HE1.out hd128 (by omega))
              go_wp2_with fail
              rw [HR.out]
              go_ret3
              exact ⟨by simp, rfl⟩
          · have HR : Hid (r = (X + d % 128 * U, (a : Int) + k + 1, true)) := HR1.out.trans (HE1.out hd128 (by omega))
            have hzb : (d == 0) = false := by rw [beq_eq_false_iff_ne]; exact hz
            go_wp2_with fail
            rw [HR.out]
            go_ret3
            exact ⟨rfl, rfl⟩
        · have HR : Hid (r = getS f n a m' (k + 1) (X + d % 128 * U)) := HR1.out.trans (HE2.out hd128)
          have hd' : 128 ≤ d := by omega
          have HUN : Hid (k + 1 < 9 → wrap64 (U * 128) = 128 ^ (k + 1)) := fun h => by
            have := pow128_le (show k + 1 ≤ 8 by omega)
            have e8 : (128 : Int) ^ 8 = 72057594037927936 := by decide
            have e9 : (128 : Int) ^ (k + 1) = 128 ^ k * 128 := Int.pow_succ ..
            have e7 : (0 : Int) < 128 ^ k := Int.pow_pos (by omega)
            rw [HUE.out, IntWalk.wrap64_in _ ⟨by omega, by omega⟩, e9]
          go_wp2_with fail
          go_roundw
          case rel => exact ⟨k + 1, m', _, _, by omega, by omega, by go_num, rfl, rfl, HUN.out, by omega, HXU.out, HR.out, by first | rfl | trivial⟩
          case measure => simp [intOf]; omega
      · have hlti : ¬ (a : Int) + (k : Int) < (n : Int) := by omega
        have HR : Hid (r = (0, 0, false)) := HR1.out.trans (getS_end hlt)
        go_wp2_with fail
        rw [HR.out]; go_ret3; exact ⟨rfl, rfl⟩
    · have hkz : m = 0 := by omega
      subst hkz
      have h9i : ¬ (k : Int) < 9 := by omega
      have HR : Hid (r = (0, 0, false)) := HR1.out
      go_wp2_with fail
      rw [HR.out]; go_ret3; exact ⟨rfl, rfl⟩
end Go.Proofs.Ytbflhhifkhoapaa
