/- What the laws make of fractions. -/
import Derived.Test.YtpjaekofibpgnaaDoorI105
import Derived.Test.YtpjaekofibpgnaaDoorF120
import Derived.WalkKit
import Derived.WalkSpells
import Derived.WalkLawsBesides
import Derived.Deep.RegionHeld
namespace Go.Proofs.YtpjaekofibpgnaaDoor
open Go.RowKit
set_option linter.unusedVariables false
theorem tail0 {G F : World → Prop} {R : Prop} (h1 : (∀ vx, F vx → G vx) → R) (h2 : ∀ vx, F vx → G vx) : R := h1 h2
theorem tail1 {G F : Nat → World → Prop} {R : Prop} (h1 : (∀ k vx, F k vx → G k vx) → R) (h2 : ∀ k vx, F k vx → G k vx) : R := h1 h2
theorem tail2 {G F : Nat → Nat → World → Prop} {R : Prop} (h1 : (∀ k0 k1 vx, F k0 k1 vx → G k0 k1 vx) → R) (h2 : ∀ k0 k1 vx, F k0 k1 vx → G k0 k1 vx) : R := h1 h2
theorem eqFrac_same (lo hi : Int) (w : World) :
    Calls Tryd.prog 9 #[.agg #[.int .i64 lo, .int .i64 hi], .agg #[.int .i64 lo, .int .i64 hi]] w fun e w' => e = .returned (.bool true) ∧ Below w.heap.size w w' := by
  go_enter Tryd.func9, Tryd.ntmps9
  go_wp2
  go_ret
  exact ⟨rfl, by repeat (first | exact Below.refl _ _ | refine Below.drew ?_ | refine Below.alloc ?_ (by first | (simp; done) | (simp; omega) | omega) _ | refine Below.setCell ?_ (by first | (simp; done) | (simp; omega) | omega) _ | refine Below.trans ?_ (Below.mono (by assumption) (by first | (simp; done) | (simp; omega) | omega)))⟩
end Go.Proofs.YtpjaekofibpgnaaDoor
