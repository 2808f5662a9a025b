/- Contracts of GetNum in the program. -/
import Derived.Test.YtbflhhifkhoapaaG6
import Derived.WalkKit
import Derived.WalkSpells
import Derived.WalkLawsBesides
import Derived.Deep.RegionHeld
namespace Go.Proofs.Ytbflhhifkhoapaa
open Go.RowKit
set_option linter.unusedVariables false
set_option maxHeartbeats 1000000 in
theorem implGetNum_out (a : Option Addr) (n c : Nat) (x : Int) (w : World) (hn : n ≤ maxLen) (h : ¬ (0 ≤ x ∧ x < n)) :
    Calls Try.prog 94 #[.slice a n c, .int .i64 x] w fun e w' => e = .returned (.tuple #[.int .i64 0, .int .i64 0, .bool false]) ∧ w = w' := by
  unfold maxLen at hn
  by_cases h0 : x < 0
  · clear h
    go_enter Try.func94, Try.ntmps94
    go_wp2
    go_ret3
    exact ⟨rfl, rfl⟩
  · have h1 : (n : Int) ≤ x := by omega
    clear h
    go_enter Try.func94, Try.ntmps94
    go_wp2
    go_ret3
    exact ⟨rfl, rfl⟩
set_option maxHeartbeats 4000000 in
theorem implGetNum_in (b off n c a : Nat) (f : Nat → Int) (w : World) (hn : c ≤ maxLen) (hc : n ≤ c) (ha : a < n) (hf : Byts w b off n f) (hr : ∀ i, i < n → 0 ≤ f i ∧ f i ≤ 255) :
    Calls Try.prog 94 #[.slice (some ⟨b, off, none⟩) n c, .int .i64 a] w fun e w' => e = .returned (.tuple #[.int .i64 (getS f n a 9 0 0).1, .int .i64 (getS f n a 9 0 0).2.1, .bool (getS f n a 9 0 0).2.2]) ∧ w = w' := by
  unfold maxLen at hn
  have HF : Hid (Byts w b off n f) := hf
  have HG : Hid (∀ i, i < n → 0 ≤ f i ∧ f i ≤ 255) := hr
  obtain ⟨r, hres⟩ : ∃ r, r = getS f n a 9 0 0 := ⟨_, rfl⟩
  have HR0 : Hid (r = getS f n a 9 0 0) := hres
  rw [← hres]
  clear hf hr hres
  have hlen : ((n - a : Nat) : Int) = (n : Int) - (a : Int) := by omega
  go_enter Try.func94, Try.ntmps94
  go_wp2_with fail
  go_loopw [7, 22] (fun xv kv wr => ∃ (k m : Nat) (X : Int), k + m = 9 ∧ a + k ≤ n ∧ kv = .int .i64 k ∧ xv = .int .i64 X ∧ 0 ≤ X ∧ X < 128 ^ k ∧ r = getS f n a m k X ∧ w = wr) (fun _ kv _ => 9 - (intOf kv).toNat)
  case atStart => exact ⟨0, 9, 0, rfl, by omega, rfl, rfl, by omega, by simp, HR0.out, rfl⟩
  case round =>
    obtain ⟨k, m, X, hkm, hak, rfl, rfl, hX0, hX1, hR, rfl⟩ := hrel
    have HX : Hid (X < 128 ^ k) := hX1
    have HR1 : Hid (r = getS f n a m k X) := hR
    clear hX1 hR HR0
    by_cases hlt : a + k < n
    · have hlti : (k : Int) < (n : Int) - (a : Int) := by omega
      have c0 : w.cell? ⟨b, off + a + k, none⟩ = some (.int .u8 (f (a + k))) := by rw [Nat.add_assoc]; exact HF.out.2 (a + k) hlt
      have hrg := HG.out (a + k) hlt
      by_cases h9 : k < 9
      · have hk9 : ((k : Int) == 9) = false := by rw [beq_eq_false_iff_ne]; omega
        obtain ⟨m', rfl⟩ : ∃ m', m = m' + 1 := ⟨m - 1, by omega⟩
        have hg := gstep (z := f (a + k) % 128) h9 hX0 HX.out (by omega) (by omega)
        have hor := or_step (z := f (a + k) % 128) h9 hX0 HX.out (by omega) (by omega)
        have hmask := mask127 hrg.1 hrg.2
        have HE1 : Hid (f (a + k) < 128 → ¬ (f (a + k) = 0 ∧ 0 < k) → getS f n a (m' + 1) k X = (X + f (a + k) % 128 * 128 ^ k, (a : Int) + k + 1, true)) := getS_told (f := f) (n := n) (a := a) (k := k) (m := m') (X := X) hlt
        have HE2 : Hid (¬ f (a + k) < 128 → getS f n a (m' + 1) k X = getS f n a m' (k + 1) (X + f (a + k) % 128 * 128 ^ k)) := getS_on (f := f) (n := n) (a := a) (k := k) (m := m') (X := X) hlt
        have HE3 : Hid (f (a + k) = 0 → 0 < k → getS f n a (m' + 1) k X = (0, 0, false)) := getS_long (f := f) (n := n) (a := a) (k := k) (m := m' + 1) (X := X) hlt
        have HXU : Hid (X + f (a + k) % 128 * 128 ^ k < 128 ^ (k + 1)) := hg.2.1
        obtain ⟨g1, _, g3, g4, g5⟩ := hg
        obtain ⟨d, hd⟩ : ∃ d, d = f (a + k) := ⟨_, rfl⟩
        rw [← hd] at c0 hrg HE1 HE2 HE3 HXU g1 g3 hor hmask
        rw [← pow27] at g1 g3 g4 g5
        clear hd HX
        have d0 := hrg.1
        have d1 := hrg.2
        clear hrg
        by_cases hd128 : d < 128
        · by_cases hz : d = 0
          · subst hz
            by_cases hk0 : 0 < k
            · have HR : Hid (r = (0, 0, false)) := HR1.out.trans (HE3.out rfl hk0)
              have hk0i : (0 : Int) < (k : Int) := by omega
              go_wp2_with fail
              rw [HR.out]; go_ret3; exact ⟨rfl, rfl⟩
            · have hk0i : ¬ (0 : Int) < (k : Int) := by omega
              have HR : Hid (r = (X + 0 % 128 * 128 ^ k, (a : Int) + k + 1, true)) := HR1.out.trans (HE1.out hd128 (by omega))
              go_wp2_with fail
              rw [HR.out]
              go_ret3
              exact ⟨by simp at hor ⊢; exact hor, rfl⟩
          · have HR : Hid (r = (X + d % 128 * 128 ^ k, (a : Int) + k + 1, true)) := HR1.out.trans (HE1.out hd128 (by omega))
            have hzb : (d == 0) = false := by rw [beq_eq_false_iff_ne]; exact hz
            go_wp2_with fail
            rw [HR.out]
            go_ret3
            exact ⟨rfl, rfl⟩
        · have HR : Hid (r = getS f n a m' (k + 1) (X + d % 128 * 128 ^ k)) := HR1.out.trans (HE2.out hd128)
          have hd' : 127 < d := by omega
          have hxn : 0 ≤ X + d % 128 * 128 ^ k := by rw [← pow27]; omega
          go_wp2_with fail
          go_roundw
          case rel => exact ⟨k + 1, m', _, by omega, by omega, by go_num, rfl, hxn, HXU.out, HR.out, by first | rfl | trivial⟩
          case measure => simp [intOf]; omega
      · have hkz : m = 0 := by omega
        subst hkz
        have hk9 : k = 9 := by omega
        subst hk9
        have HR : Hid (r = (0, 0, false)) := HR1.out
        go_wp2_with fail
        rw [HR.out]; go_ret3; exact ⟨rfl, rfl⟩
    · have hlti : ¬ (k : Int) < (n : Int) - (a : Int) := by omega
      have HR : Hid (r = (0, 0, false)) := HR1.out.trans (getS_end hlt)
      go_wp2_with fail
      rw [HR.out]; go_ret3; exact ⟨rfl, rfl⟩
theorem specGetNum_any (a : Option Addr) (n c : Nat) (x : Int) (f : Nat → Int) (w : World) (hn : n ≤ maxLen) (hs : SrcB w a n f) (hr : ∀ i, i < n → 0 ≤ f i ∧ f i ≤ 255) :
    Calls Try.prog 50 #[.slice a n c, .int .i64 x] w fun e w' => e = .returned (.tuple #[.int .i64 (getI f n x).1, .int .i64 (getI f n x).2.1, .bool (getI f n x).2.2]) ∧ w = w' := by
  unfold getI
  by_cases h : 0 ≤ x ∧ x < n
  · rw [if_pos h]
    obtain ⟨k, rfl⟩ := Int.eq_ofNat_of_zero_le h.1
    rcases hs with h0 | ⟨b, off, rfl, hp⟩
    · omega
    · exact specGetNum_in b off n c k f w hn (by omega) hp hr
  · rw [if_neg h]
    exact specGetNum_out a n c x w hn h
theorem implGetNum_any (a : Option Addr) (n c : Nat) (x : Int) (f : Nat → Int) (w : World) (hn : c ≤ maxLen) (hc : n ≤ c) (hs : SrcB w a n f) (hr : ∀ i, i < n → 0 ≤ f i ∧ f i ≤ 255) :
    Calls Try.prog 94 #[.slice a n c, .int .i64 x] w fun e w' => e = .returned (.tuple #[.int .i64 (getI f n x).1, .int .i64 (getI f n x).2.1, .bool (getI f n x).2.2]) ∧ w = w' := by
  unfold getI
  by_cases h : 0 ≤ x ∧ x < n
  · rw [if_pos h]
    obtain ⟨k, rfl⟩ := Int.eq_ofNat_of_zero_le h.1
    rcases hs with h0 | ⟨b, off, rfl, hp⟩
    · omega
    · exact implGetNum_in b off n c k f w hn hc (by omega) hp hr
  · rw [if_neg h]
    exact implGetNum_out a n c x w (by omega) h
end Go.Proofs.Ytbflhhifkhoapaa
