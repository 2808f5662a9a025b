/- What a list of intervals comes to; what it is read from. -/
import Derived.Test.YtaggohibfghnmaaS2
import Derived.Test.YtaggohibfghnmaaS3
import Derived.Deep.DeepCutAuto
import Derived.Deep.OwnRows
import Derived.Test.YtaggohibfghnmaaW4
import Derived.WalkKit
import Derived.WalkSpells
import Derived.WalkLawsBesides
import Derived.Deep.RegionHeld
namespace Go.Proofs.Ytaggohibfghnmaa
open Go.RowKit
set_option linter.unusedVariables false
def allR (B : Int → Int → Int → Int → Bool) (X Y : Int → Int → Int) (f : Nat → Int × Int) (n : Nat) : Bool × Int × Int := if 1 ≤ n ∧ n ≤ 64 then acc B X Y f (n - 1) else (false, 0, 0)
theorem allR_in {B : Int → Int → Int → Int → Bool} {X Y : Int → Int → Int} {f : Nat → Int × Int} {n : Nat} (h : 1 ≤ n ∧ n ≤ 64) : allR B X Y f n = acc B X Y f (n - 1) := if_pos h
theorem allR_out {B : Int → Int → Int → Int → Bool} {X Y : Int → Int → Int} {f : Nat → Int × Int} {n : Nat} (h : ¬ (1 ≤ n ∧ n ≤ 64)) : allR B X Y f n = (false, 0, 0) := if_neg h
def Src (w : World) (a : Option Addr) (n : Nat) (f : Nat → Int × Int) : Prop := n = 0 ∨ ∃ b off, a = some ⟨b, off, none⟩ ∧ Prs w b off n f
theorem Src.below {w w' : World} {a : Option Addr} {n : Nat} {f : Nat → Int × Int} (h : Src w a n f) (hb : Below w.heap.size w w') : Src w' a n f := by
  rcases h with h | ⟨b, off, h1, h2⟩
  · exact .inl h
  · exact .inr ⟨b, off, h1, h2.below hb h2.1⟩
end Go.Proofs.Ytaggohibfghnmaa
