/- RateOfDrift in the specification. -/
import Derived.Test.YtblappilppfkiaaDoorF114
import Derived.Test.YtblappilppfkiaaDoorE1
import Derived.Deep.RegionHeld3
import Derived.WalkKit
import Derived.WalkSpells
import Derived.WalkLawsBesides
import Derived.Deep.RegionHeld
namespace Go.Proofs.YtblappilppfkiaaDoor
open Go.RowKit
set_option linter.unusedVariables false
theorem two_in {w wr : World} {B j k : Nat} (h : Below B w wr) (hj : B ≤ j) (hk : B ≤ k) (x y z u : Value) : Below B w ((((wr.setCell ⟨j, 0, none⟩ x).setCell ⟨j, 1, none⟩ y).setCell ⟨k, 0, none⟩ z).setCell ⟨k, 1, none⟩ u) := (((h.setCell (p := ⟨j, 0, none⟩) hj x).setCell (p := ⟨j, 1, none⟩) hj y).setCell (p := ⟨k, 0, none⟩) hk z).setCell (p := ⟨k, 1, none⟩) hk u
def rdX (n d : Int) : Int := if okD n d = true then foX d (d + n) else 0
def rdY (n d : Int) : Int := if okD n d = true then foY d (d + n) else 0
def rdZ (n d : Int) : Int := if okD n d = true then foX d (d - n) else 0
def rdU (n d : Int) : Int := if okD n d = true then foY d (d - n) else 0
theorem rd_t {n d : Int} (h : okD n d = true) : rdX n d = foX d (d + n) ∧ rdY n d = foY d (d + n) ∧ rdZ n d = foX d (d - n) ∧ rdU n d = foY d (d - n) := ⟨if_pos h, if_pos h, if_pos h, if_pos h⟩
theorem rd_f {n d : Int} (h : okD n d = false) : rdX n d = 0 ∧ rdY n d = 0 ∧ rdZ n d = 0 ∧ rdU n d = 0 := by
  have h' : ¬ okD n d = true := by rw [h]; decide
  exact ⟨if_neg h', if_neg h', if_neg h', if_neg h'⟩
end Go.Proofs.YtblappilppfkiaaDoor
