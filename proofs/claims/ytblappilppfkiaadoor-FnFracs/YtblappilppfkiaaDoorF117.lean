/- RatesMeet in the specification. -/
import Derived.Test.YtblappilppfkiaaDoorF115
import Derived.Deep.DeepCutAuto
import Derived.WalkKit
import Derived.WalkSpells
import Derived.WalkLawsBesides
import Derived.Deep.RegionHeld
namespace Go.Proofs.YtblappilppfkiaaDoor
open Go.RowKit
set_option linter.unusedVariables false
theorem two_but (w : World) (j : Nat) (a b : Value) : But j w ((w.setCell ⟨j, 0, none⟩ a).setCell ⟨j, 1, none⟩ b) := ((But.refl j w).setCell 0 a).setCell 1 b
theorem Bx2.two {w : World} {j : Nat} {u v : Value} (h : Bx2 w j u v) (a b : Value) : Bx2 ((w.setCell ⟨j, 0, none⟩ a).setCell ⟨j, 1, none⟩ b) j a b := (h.set0 a).set1 b
/- What two rates have in common: the greater of the first ones, the lesser of the others. -/
def mtP (a b c d e f g h : Int) : Bool := okF a b && okF c d && okF e f && okF g h
def mlX (a b e f : Int) : Int := if 0 < fcI e f a b then e else a
def mlY (a b e f : Int) : Int := if 0 < fcI e f a b then f else b
def mhX (c d g h : Int) : Int := if fcI g h c d < 0 then g else c
def mhY (c d g h : Int) : Int := if fcI g h c d < 0 then h else d
def mtB (a b c d e f g h : Int) : Bool := mtP a b c d e f g h && !decide (0 < fcI (mlX a b e f) (mlY a b e f) (mhX c d g h) (mhY c d g h))
def mtV (t : Bool) (x : Int) : Int := if t = true then x else 0
end Go.Proofs.YtblappilppfkiaaDoor
