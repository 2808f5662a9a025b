/- The contract of laws.sameFlights. -/
import Derived.Test.YtfdcjfebfbpliaaN84
import Derived.Deep.QuietTactic
import Derived.BigQuiet
import Derived.WalkKit
import Derived.WalkSpells
import Derived.WalkLawsBesides
import Derived.Deep.RegionHeld
namespace Go.Proofs.Ytfdcjfebfbpliaa
open Go.RowKit
set_option linter.unusedVariables false
theorem below_drewN6 {B : Nat} {a w : World} (h : Below B a w) (n : Nat) : Below B a (w.drewN n) := h.trans ⟨rfl, rfl, rfl, Nat.le_refl _, fun _ _ => rfl⟩
set_option maxRecDepth 100000 in
set_option maxHeartbeats 4000000 in
theorem sameFlights_any (a a' : Option Addr) (n c c' : Nat) (M : Nat → FT) (w : World) (hn : n ≤ 41) (h1 : SrcC w a (n * 5) (MFFlight M)) (h2 : SrcC w a' (n * 5) (MFFlight M)) :
    Calls Try.prog 12 #[.slice a n c, .slice a' n c'] w fun e w' => e = .returned (.bool true) ∧ Below w.heap.size w w' := by
  have H1 : Hid (SrcC w a (n * 5) (MFFlight M)) := h1
  have H2 : Hid (SrcC w a' (n * 5) (MFFlight M)) := h2
  clear h1 h2
  go_enter Try.func12, Try.ntmps12
  go_wp2_with fail
  go_loopw [5] (fun i wr => ∃ k : Nat, k ≤ n ∧ i = .int .i64 k ∧ Below w.heap.size w wr) (fun i _ => n - (intOf i).toNat)
  case atStart => exact ⟨0, Nat.zero_le _, rfl, Below.refl _ _⟩
  case round =>
    obtain ⟨k, hk, rfl, B⟩ := hrel
    by_cases hlt : k < n
    · have hli : (k : Int) < (n : Int) := by omega
      obtain ⟨x0, x1, x2, x3, x4, hM⟩ : ∃ (x0 x1 x2 : Int) (x3 : ByteArray) (x4 : Int), M k = (x0, x1, x2, x3, x4) := ⟨_, _, _, _, _, rfl⟩
      rcases H1.out with h0 | ⟨b1, f1, rfl, hc1⟩
      · omega
      rcases H2.out with h0 | ⟨b2, f2, rfl, hc2⟩
      · omega
      obtain ⟨g0, g1, g2, g3, g4⟩ := Cs.elFlight (hc1.below B hc1.1) hlt hM
      obtain ⟨t0, t1, t2, t3, t4⟩ := Cs.elFlight (hc2.below B hc2.1) hlt hM
      clear hc1 hc2
      go_wp2_with fail
      go_quiet (fail)
      go_wp2_with fail
      go_roundw
      case rel => exact ⟨k + 1, by omega, by go_num, below_drewN6 B nq⟩
      case measure => simp [intOf]; omega
    · have hkn : k = n := by omega
      subst hkn
      have hd : decide ((k : Int) < (k : Int)) = false := by simp
      go_wp2_with fail
      go_ret
      exact ⟨rfl, B⟩
end Go.Proofs.Ytfdcjfebfbpliaa
