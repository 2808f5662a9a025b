/- How long the answers of chapter 15 are. -/
import Derived.Test.YtnjoldjefknpbaaQ154
import Derived.Test.YtnjoldjefknpbaaQ156
import Derived.Test.YtnjoldjefknpbaaQ159
import Derived.WalkKit
import Derived.WalkSpells
import Derived.WalkLawsBesides
import Derived.Deep.RegionHeld
namespace Go.Proofs.Ytnjoldjefknpbaa
open Go.RowKit
set_option linter.unusedVariables false
theorem ofL_len (M : Nat → FrT) (n : Nat) (o : Int) : (ofL M n o).length ≤ 60 := by
  unfold ofL
  cases h : buB M n
  · simp
  · have h1 := slI_len (ofP M o) n
    have h2 := (buB_t h).1
    simp only
    omega
theorem heL_len (M : Nat → FrT) (n : Nat) (t : Int) : (heL M n t).length ≤ 60 := by
  unfold heL
  cases h : buB M n
  · simp
  · have h1 := slI_len (fun i => hdA M t i n) n
    have h2 := (buB_t h).1
    simp only
    omega
theorem clL_len (M : Nat → FrT) (n : Nat) : (clL M n).length ≤ 3600 := by
  unfold clL
  cases h : buB M n
  · simp
  · have h1 := clA_len M n n
    have h2 := (buB_t h).1
    have h3 : n * n ≤ 60 * 60 := Nat.mul_le_mul h2 h2
    simp only
    omega
theorem quL_le (M : Nat → FrT) (n : Nat) (f t : Int) : (quL M n f t).length ≤ 61 := by
  cases h : tmB M n f t
  · unfold quL; rw [h]; simp
  · have h1 := quL_len (M := M) (n := n) (f := f) (t := t)
    have h2 := (buB_t (tmB_t h).1).1
    omega
end Go.Proofs.Ytnjoldjefknpbaa
