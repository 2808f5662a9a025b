/- FracOk in the specification. -/
import Derived.Test.YtpjaekofibpgnaaDoorF111
import Derived.Test.YtpjaekofibpgnaaDoorG1
import Derived.Test.YtpjaekofibpgnaaDoorI105
import Derived.WalkKit
import Derived.WalkSpells
import Derived.WalkLawsBesides
import Derived.Deep.RegionHeld
namespace Go.Proofs.YtpjaekofibpgnaaDoor
open Go.RowKit
set_option linter.unusedVariables false
def szF (x : Int) : Bool := decide (-4000000000000 ≤ x ∧ x ≤ 4000000000000)
def dnF (y : Int) : Bool := decide (1 ≤ y ∧ y ≤ 4000000000000)
def okF (x y : Int) : Bool := szF x && dnF y && ((Int.gcd x y : Int) == 1)
theorem szF_t {x : Int} (h : szF x = true) : -4000000000000 ≤ x ∧ x ≤ 4000000000000 := of_decide_eq_true h
theorem dnF_t {x : Int} (h : dnF x = true) : 1 ≤ x ∧ x ≤ 4000000000000 := of_decide_eq_true h
theorem okF_t {x y : Int} (h : okF x y = true) : (-4000000000000 ≤ x ∧ x ≤ 4000000000000) ∧ (1 ≤ y ∧ y ≤ 4000000000000) ∧ Int.gcd x y = 1 := by
  unfold okF at h
  simp only [Bool.and_eq_true, beq_iff_eq] at h
  exact ⟨szF_t h.1.1, dnF_t h.1.2, by omega⟩
theorem tmod_in {a b : Int} (hb : b ≠ 0) : -(b.natAbs : Int) < a.tmod b ∧ a.tmod b < (b.natAbs : Int) := by
  have := gcd_less (a := a) hb
  omega
set_option maxHeartbeats 2000000 in
theorem l11Gcd_any (a b : Int) (w : World) (ha : -4000000000000 ≤ a ∧ a ≤ 4000000000000) (hb : -4000000000000 ≤ b ∧ b ≤ 4000000000000) :
    Calls Tryd.prog 34 #[.int .i64 a, .int .i64 b] w fun e w' => e = .returned (.int .i64 (Int.gcd a b : Int)) ∧ w = w' := by
  go_enter Tryd.func34, Tryd.ntmps34
  go_wp2_with fail
  go_loopw [0, 1] (fun s0 s1 wr => ∃ x y : Int, s0 = .int .i64 x ∧ s1 = .int .i64 y ∧ (-4000000000000 ≤ x ∧ x ≤ 4000000000000) ∧ (-4000000000000 ≤ y ∧ y ≤ 4000000000000) ∧ Int.gcd x y = Int.gcd a b ∧ w = wr) (fun _ s1 _ => (intOf s1).natAbs)
  case atStart => exact ⟨a, b, rfl, rfl, ha, hb, rfl, rfl⟩
  case round =>
    obtain ⟨x, y, rfl, rfl, hx, hy, hgg, rfl⟩ := hrel
    have HG : Hid (Int.gcd x y = Int.gcd a b) := hgg
    clear hgg
    by_cases h0 : y = 0
    · subst h0
      have hend := gcd_end x
      rw [HG.out] at hend
      have HE : Hid ((Int.gcd a b : Int) = if x < 0 then -x else x) := hend
      clear hend HG
      by_cases hn : x < 0
      · go_wp2_with fail
        go_ret
        exact ⟨by rw [HE.out, if_pos (by omega)]; rfl, rfl⟩
      · have hn' : decide (x < 0) = false := decide_eq_false hn
        go_wp2_with fail
        go_ret
        exact ⟨by rw [HE.out, if_neg (by omega)]; rfl, rfl⟩
    · have h0' : (y != 0) = true := bne_iff_ne.2 h0
      have hm := tmod_in (a := x) h0
      have HS : Hid (Int.gcd y (x.tmod y) = Int.gcd x y) := gcd_step x y
      have HL : Hid ((x.tmod y).natAbs < y.natAbs) := gcd_less h0
      have hyn : -4000000000000 < x.tmod y ∧ x.tmod y < 4000000000000 := by omega
      have hwr : IntKind.i64.wrap (x.tmod y) = x.tmod y := Go.IntWalk.i64_in _ ⟨by omega, by omega⟩
      clear hm
      go_wp2_with fail
      go_roundw
      case rel => exact ⟨y, x.tmod y, rfl, rfl, hy, ⟨by omega, by omega⟩, HS.out.trans HG.out, by first | rfl | trivial⟩
      case measure => exact HL.out
theorem l11Size_any (x : Int) (w : World) : Calls Tryd.prog 33 #[.int .i64 x] w fun e w' => e = .returned (.bool (szF x)) ∧ w = w' := by
  go_enter Tryd.func33, Tryd.ntmps33
  go_wp2_with fail
  refine (l1In_any _ _ _ _).mono ?_
  rintro e w' ⟨rfl, rfl⟩
  have hz : decide (-4000000000000 ≤ x ∧ x ≤ 4000000000000) = szF x := rfl
  rw [hz]
  clear hz
  go_wp2_with fail
  go_ret
  exact ⟨rfl, rfl⟩
end Go.Proofs.YtpjaekofibpgnaaDoor
