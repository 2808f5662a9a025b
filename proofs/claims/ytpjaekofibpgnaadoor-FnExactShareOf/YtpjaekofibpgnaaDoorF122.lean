/- The common divisor and the division of the program. -/
import Derived.Test.YtpjaekofibpgnaaDoorF113
import Derived.Test.YtpjaekofibpgnaaDoorW6
import Derived.Deep.QuietTactic
import Derived.Deep.RegionHeld3
import Derived.WalkKit
import Derived.WalkSpells
import Derived.WalkLawsBesides
import Derived.Deep.RegionHeld
namespace Go.Proofs.YtpjaekofibpgnaaDoor
open Go.RowKit
set_option linter.unusedVariables false
theorem below_drewN {B : Nat} {w wr : World} (h : Below B w wr) (n : Nat) : Below B w (wr.drewN n) := ⟨h.os, h.tape, h.output, h.size, h.block⟩
theorem isPart_any (x : Int) (w : World) : Calls Tryd.prog 46 #[.int .i64 x] w fun e w' => e = .returned (.bool (szF x)) ∧ w = w' := by
  by_cases h1 : -4000000000000 ≤ x
  · by_cases h2 : x ≤ 4000000000000
    · rw [show szF x = true from decide_eq_true ⟨h1, h2⟩]
      go_enter Tryd.func46, Tryd.ntmps46
      go_wp2
      go_ret
      exact ⟨rfl, rfl⟩
    · rw [show szF x = false from decide_eq_false fun h => h2 h.2]
      have h2' : decide (x ≤ 4000000000000) = false := decide_eq_false h2
      go_enter Tryd.func46, Tryd.ntmps46
      go_wp2
      go_ret
      exact ⟨rfl, rfl⟩
  · rw [show szF x = false from decide_eq_false fun h => h1 h.1]
    have h1' : decide (-4000000000000 ≤ x) = false := decide_eq_false h1
    go_enter Tryd.func46, Tryd.ntmps46
    go_wp2
    go_ret
    exact ⟨rfl, rfl⟩
theorem com_neg {x a b : Int} (h : Int.gcd x 0 = Int.gcd a b) : (b < 0 → (if x < 0 then x else -x) = foG a b) ∧ (¬ b < 0 → (if x < 0 then -x else x) = foG a b) := by
  have e := gcd_end x
  rw [h] at e
  refine ⟨fun hb => ?_, fun hb => ?_⟩
  · rw [foG, if_pos hb, e]
    split <;> omega
  · rw [foG, if_neg hb, e]
set_option maxHeartbeats 2000000 in
theorem inCommon_any (a b : Int) (w : World) (ha : -4000000000000 ≤ a ∧ a ≤ 4000000000000) (hb : -4000000000000 ≤ b ∧ b ≤ 4000000000000) :
    Calls Tryd.prog 47 #[.int .i64 a, .int .i64 b] w fun e w' => e = .returned (.int .i64 (foG a b)) ∧ Below w.heap.size w w' := by
  go_enter Tryd.func47, Tryd.ntmps47
  go_wp2_with fail
  go_loopw [5, 6] (fun s0 s1 wr => ∃ x y : Int, s0 = .int .i64 x ∧ s1 = .int .i64 y ∧ (-4000000000000 ≤ x ∧ x ≤ 4000000000000) ∧ (-4000000000000 ≤ y ∧ y ≤ 4000000000000) ∧ Int.gcd x y = Int.gcd a b ∧ Below w.heap.size w wr) (fun _ s1 _ => (intOf s1).natAbs)
  case atStart => exact ⟨a, b, rfl, rfl, ha, hb, rfl, Below.refl _ _⟩
  case round =>
    obtain ⟨x, y, rfl, rfl, hx, hy, hgg, BB⟩ := hrel
    have HG : Hid (Int.gcd x y = Int.gcd a b) := hgg
    clear hgg
    by_cases h0 : y = 0
    · subst h0
      obtain ⟨c1, c2⟩ := com_neg HG.out
      have H1 : Hid (b < 0 → (if x < 0 then x else -x) = foG a b) := c1
      have H2 : Hid (¬ b < 0 → (if x < 0 then -x else x) = foG a b) := c2
      clear c1 c2 HG
      by_cases hn : x < 0
      · by_cases hd : b < 0
        · have HR : Hid (x = foG a b) := by rw [Hid, ← H1.out hd, if_pos hn]
          clear H1 H2
          go_wp2_with fail
          go_ret
          exact ⟨by rw [← HR.out]; rfl, BB⟩
        · have HR : Hid (-x = foG a b) := by rw [Hid, ← H2.out hd, if_pos hn]
          clear H1 H2
          have hd' : decide (b < 0) = false := decide_eq_false hd
          go_wp2_with fail
          go_ret
          exact ⟨by rw [← HR.out]; rfl, BB⟩
      · have hn' : decide (x < 0) = false := decide_eq_false hn
        by_cases hd : b < 0
        · have HR : Hid (-x = foG a b) := by rw [Hid, ← H1.out hd, if_neg hn]
          clear H1 H2
          go_wp2_with fail
          go_ret
          exact ⟨by rw [← HR.out]; rfl, BB⟩
        · have HR : Hid (x = foG a b) := by rw [Hid, ← H2.out hd, if_neg hn]
          clear H1 H2
          have hd' : decide (b < 0) = false := decide_eq_false hd
          go_wp2_with fail
          go_ret
          exact ⟨by rw [← HR.out]; rfl, BB⟩
    · have h0' : (y != 0) = true := bne_iff_ne.2 h0
      have h0'' : (y == 0) = false := beq_eq_false_iff_ne.2 h0
      have hm := tmod_in (a := x) h0
      have HS : Hid (Int.gcd y (x.tmod y) = Int.gcd x y) := gcd_step x y
      have HL : Hid ((x.tmod y).natAbs < y.natAbs) := gcd_less h0
      have hyn : -4000000000000 < x.tmod y ∧ x.tmod y < 4000000000000 := by omega
      have hwr : IntKind.i64.wrap (x.tmod y) = x.tmod y := Go.IntWalk.i64_in _ ⟨by omega, by omega⟩
      clear hm
      go_wp2_with fail
      go_quiet (fail)
      go_wp2_with fail
      go_roundw
      case rel => exact ⟨y, x.tmod y, rfl, rfl, hy, ⟨by omega, by omega⟩, HS.out.trans HG.out, below_drewN BB nq⟩
      case measure => exact HL.out
theorem dv_neg {x n : Int} (h : 0 < n) (hm : x.tmod n < 0) : x / n = x.tdiv n - 1 ∧ x % n = x.tmod n + n := by
  have e := tdown x n h hm
  refine ⟨e, ?_⟩
  have h1 := Int.mul_ediv_add_emod x n
  have h2 := Int.mul_tdiv_add_tmod x n
  rw [e, Int.mul_sub] at h1
  omega
theorem dv_pos {x n : Int} (h : 0 < n) (hm : 0 ≤ x.tmod n) : x / n = x.tdiv n ∧ x % n = x.tmod n := by
  have e := tdown' x n h hm
  refine ⟨e, ?_⟩
  have h1 := Int.mul_ediv_add_emod x n
  have h2 := Int.mul_tdiv_add_tmod x n
  rw [e] at h1
  omega
end Go.Proofs.YtpjaekofibpgnaaDoor
