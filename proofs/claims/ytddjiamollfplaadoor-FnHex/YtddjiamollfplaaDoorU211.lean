/- The walk of FnHex. -/
import Derived.Test.YtddjiamollfplaaDoorU210
import Derived.Test.YtddjiamollfplaaDoorX220
import Derived.Test.YtddjiamollfplaaDoorX222
import Derived.Test.YtddjiamollfplaaDoorL21T
import Derived.Test.YtddjiamollfplaaDoorI220
import Derived.Test.YtddjiamollfplaaDoorX214
import Derived.Test.YtddjiamollfplaaDoorX216
import Derived.WalkKit
import Derived.WalkSpells
import Derived.WalkLawsBesides
import Derived.Deep.QuietTactic
import Derived.BigQuiet
namespace Go.Proofs.YtddjiamollfplaaDoor
open Go.RowKit
set_option linter.unusedVariables false
theorem hexO_long {s : ByteArray} (h : 64 < s.size) : hexO s = ⟨#[]⟩ := by rw [hexO, if_pos h]
theorem hexO_short {s : ByteArray} (h : s.size ≤ 64) : 1 ≤ (hexO s).size ∧ (hexO s).size ≤ 128 := by
  rw [hexO, if_neg (by omega)]
  by_cases h0 : s.size = 0
  · rw [if_pos h0]; decide
  · rw [if_neg h0, strOfNums_size, hxL_len]; omega
theorem tx_120 : txI (-120) = ⟨#[45, 49, 50, 48]⟩ := by decide +kernel
set_option maxHeartbeats 4000000 in
theorem walkHex (a : Option Addr) (n c : Nat) (w : World) (E0 : VN w) (hcode : CodeB w w.heap.size a n) :
    Calls Tryd.prog 3 #[.slice a n c] w fun e w' => e = .returned (.bool true) ∧ Below w.heap.size w w' := by
  have HE : Hid (VN w) := E0
  clear E0
  by_cases hbig : (1048576 : Int) < (n : Int)
  · go_enter Tryd.func3, Tryd.ntmps3
    go_wp2_with fail
    refine (big_any _ _ _ _).mono ?_
    rintro e w' ⟨rfl, rfl⟩
    go_wp2_with fail
    go_ret
    exact ⟨rfl, Below.refl _ _⟩
  have hd : decide ((1048576 : Int) < (n : Int)) = false := by simp; omega
  have hn : n ≤ 1048576 := by omega
  have HC : Hid (CodeB w w.heap.size a n) := hcode
  clear hcode hbig
  go_enter Tryd.func3, Tryd.ntmps3
  go_wp2_with fail
  refine (big_any _ _ _ _).mono ?_
  rintro e w' ⟨rfl, rfl⟩
  go_wp2_with fail
  refine (DrawHexOf_any a n c _ hn HC.out).mono ?_
  rintro e w1 ⟨s, rfl, hs, B1⟩
  go_wp2_with fail
  refine (implHexOf_any s _ (by unfold maxLen; omega)).mono ?_
  rintro e w2 ⟨rfl, b2⟩
  have B2 := B1.trans (b2.mono B1.size)
  clear B1 b2
  by_cases h64 : 64 < s.size
  · have hl : (64 : Int) < (s.size : Int) := by omega
    rw [hexO_long h64]
    go_wp2_with fail
    go_ret
    exact ⟨rfl, B2⟩
  have hl : ¬ (64 : Int) < (s.size : Int) := by omega
  obtain ⟨k1, k2⟩ := hexO_short (s := s) (by omega)
  obtain ⟨r1, r2⟩ := hex_back s (by omega)
  have CF := fun u => implFromHex_any (hexO s) u (by unfold maxLen; omega)
  rw [r1, r2] at CF
  clear r1 r2
  generalize hexO s = hx at *
  go_wp2_with fail
  refine (CF _).mono ?_
  rintro e w3 ⟨rfl, b3⟩
  have B3 := B2.trans (b3.mono B2.size)
  clear B2 b3 CF
  have HC3 : CodeB w3 w3.heap.size a n := (HC.out.below B3).more B3.size
  go_wp2_with fail
  refine (DrawTextOf_any a n c _ hn HC3).mono ?_
  rintro e w4 ⟨x, rfl, x0, x1, b4⟩
  have B4 := B3.trans (b4.mono B3.size)
  clear B3 b4 HC3
  go_wp2_with fail
  refine (implTextOf_any x _ x0 x1 (HE.out.below B4).1).mono ?_
  rintro e w5 ⟨rfl, b5⟩
  have B5 := B4.trans (b5.mono B4.size)
  clear B4 b5
  have zx := txI_size' x
  obtain ⟨n1, n2⟩ := num_back x x0 x1
  have CN := implNumOf_any (txI x) w5 (by omega) (HE.out.below B5)
  have HN1 : Hid (nuB (txI x) = decide (-1000000000 < x ∧ x < 1000000000)) := n1
  have HN2 : Hid (nuB (txI x) = true → nuI (txI x) = x) := n2
  clear n1 n2 zx x0 x1
  generalize nuB (txI x) = nb at *
  generalize nuI (txI x) = ni at *
  generalize txI x = sx at *
  go_wp2_with fail
  refine CN.mono ?_
  rintro e w6 ⟨rfl, b6⟩
  have B6 := B5.trans (b6.mono B5.size)
  clear B5 b6 CN
  have CT := implTextOf_any (-120) w6 (by omega) (by omega) (HE.out.below B6).1
  rw [tx_120] at CT
  have h1x : (1 : Int) ≤ (hx.size : Int) := by omega
  have d3 : decide ((1 : Int) ≤ (hx.size : Int)) = true := by (rw [decide_eq_true_iff]; exact h1x)
  by_cases hr : -1000000000 < x ∧ x < 1000000000
  · have hnb : nb = true := by rw [HN1.out]; simp [hr]
    have hni := HN2.out hnb
    subst hnb
    subst hni
    have d1 : decide (-1000000000 < ni) = true := by simp [hr.1]
    have d2 : decide (ni < 1000000000) = true := by simp [hr.2]
    have e1 : (ni != ni) = false := by simp
    clear HN1 HN2 hr
    go_wp2_with fail
    refine CT.mono ?_
    rintro e w7 ⟨rfl, b7⟩
    go_wp2_with fail
    go_ret
    exact ⟨rfl, B6.trans (b7.mono B6.size)⟩
  · have hnb : nb = false := by rw [HN1.out]; simp; omega
    subst hnb
    clear HN1 HN2
    by_cases hlo : -1000000000 < x
    · have d1 : decide (-1000000000 < x) = true := by simp [hlo]
      have d2 : decide (x < 1000000000) = false := by simp; omega
      go_wp2_with fail
      refine CT.mono ?_
      rintro e w7 ⟨rfl, b7⟩
      go_wp2_with fail
      go_ret
      exact ⟨rfl, B6.trans (b7.mono B6.size)⟩
    · have d1 : decide (-1000000000 < x) = false := by simp; omega
      go_wp2_with fail
      refine CT.mono ?_
      rintro e w7 ⟨rfl, b7⟩
      go_wp2_with fail
      go_ret
      exact ⟨rfl, B6.trans (b7.mono B6.size)⟩
end Go.Proofs.YtddjiamollfplaaDoor
