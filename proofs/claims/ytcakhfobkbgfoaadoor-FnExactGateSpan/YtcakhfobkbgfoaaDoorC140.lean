/- The gate: what it tells (numbers alone). -/
import Derived.Test.YtcakhfobkbgfoaaDoorB130
import Derived.Test.YtcakhfobkbgfoaaDoorW3
import Derived.Test.YtcakhfobkbgfoaaDoorE2
import Derived.Test.YtcakhfobkbgfoaaDoorQ2
import Derived.Test.YtcakhfobkbgfoaaDoorG8
import Derived.WalkKit
import Derived.WalkSpells
import Derived.WalkLawsBesides
import Derived.Deep.RegionHeld
namespace Go.Proofs.YtcakhfobkbgfoaaDoor
open Go.RowKit
set_option linter.unusedVariables false
/- How much true time a frame may take at most and at least, told. -/
def moB (n d x : Int) : Bool := rB n d x (dnI (x * d) (d - n))
def moT (n d x : Int) : Int := sel (moB n d x) (dnI (x * d) (d - n))
def leB (n d x : Int) : Bool := rB n d x (upI (x * d) (d + n))
def leT (n d x : Int) : Int := sel (leB n d x) (upI (x * d) (d + n))
/- What a frame may reach over. -/
def gsB (lo hi n d x : Int) : Bool := moB n d x && !decide (x < 1) && spreadB lo hi 0 (moT n d x)
def gsL (lo hi n d x : Int) : Int := sel (gsB lo hi n d x) (lo - 0)
def gsH (lo hi n d x : Int) : Int := sel (gsB lo hi n d x) (hi + moT n d x)
theorem gs_mo {lo hi n d x : Int} (h : moB n d x = false) : gsB lo hi n d x = false ∧ gsL lo hi n d x = 0 ∧ gsH lo hi n d x = 0 := by
  have e : gsB lo hi n d x = false := by unfold gsB; rw [h]; rfl
  exact ⟨e, sel_f e _, sel_f e _⟩
theorem gs_lt {lo hi n d x : Int} (h : x < 1) : gsB lo hi n d x = false ∧ gsL lo hi n d x = 0 ∧ gsH lo hi n d x = 0 := by
  have e : gsB lo hi n d x = false := by unfold gsB; rw [decide_eq_true h]; simp
  exact ⟨e, sel_f e _, sel_f e _⟩
theorem gs_sp {lo hi n d x : Int} (h : moB n d x = true) (h1 : ¬ x < 1) : gsB lo hi n d x = spreadB lo hi 0 (moT n d x) ∧ gsL lo hi n d x = sel (spreadB lo hi 0 (moT n d x)) (lo - 0) ∧ gsH lo hi n d x = sel (spreadB lo hi 0 (moT n d x)) (hi + moT n d x) := by
  have e : gsB lo hi n d x = spreadB lo hi 0 (moT n d x) := by unfold gsB; rw [h, decide_eq_false h1]; rfl
  unfold gsL gsH
  rw [e]
  exact ⟨rfl, rfl, rfl⟩
/- What the gate says. -/
def lgB (x : Int) : Bool := decide (1 ≤ x ∧ x ≤ 1000000000000)
def gaP (kn : Bool) (lo hi n d x : Int) (pl : Bool) (o : Int) : Bool := (!kn || okI lo hi) && (okD n d && (lgB x && (pl && nodB o)))
def gaG (kn : Bool) (lo hi n d x s g : Int) (M : Nat → SlT) (m : Nat) (o : Int) : Bool := gaP kn lo hi n d x (plB s g M m) o && (kn && (gsB lo hi n d x && isB s g M m o (gsL lo hi n d x) (gsH lo hi n d x)))
def gaC (kn : Bool) (lo hi n d x s g : Int) (M : Nat → SlT) (m : Nat) (o : Int) : Int := match gaP kn lo hi n d x (plB s g M m) o, gaG kn lo hi n d x s g M m o with | false, _ => 1 | true, true => 0 | true, false => 2
def gaI (kn : Bool) (lo hi n d x s g : Int) (M : Nat → SlT) (m : Nat) (o : Int) : Int := sel (gaG kn lo hi n d x s g M m o) (isI s g M m o (gsL lo hi n d x) (gsH lo hi n d x))
def gaK (kn : Bool) (lo hi n d x s g : Int) (M : Nat → SlT) (m : Nat) (o : Int) : Int := sel (gaG kn lo hi n d x s g M m o) (isK s g M m o (gsL lo hi n d x) (gsH lo hi n d x))
theorem ga_bad {kn : Bool} {lo hi n d x s g : Int} {M : Nat → SlT} {m : Nat} {o : Int} (h : gaP kn lo hi n d x (plB s g M m) o = false) : gaC kn lo hi n d x s g M m o = 1 ∧ gaI kn lo hi n d x s g M m o = 0 ∧ gaK kn lo hi n d x s g M m o = 0 := by
  have e : gaG kn lo hi n d x s g M m o = false := by unfold gaG; rw [h]; rfl
  exact ⟨by unfold gaC; rw [h], sel_f e _, sel_f e _⟩
theorem ga_un {kn : Bool} {lo hi n d x s g : Int} {M : Nat → SlT} {m : Nat} {o : Int} (h : gaP kn lo hi n d x (plB s g M m) o = true) (e : gaG kn lo hi n d x s g M m o = false) : gaC kn lo hi n d x s g M m o = 2 ∧ gaI kn lo hi n d x s g M m o = 0 ∧ gaK kn lo hi n d x s g M m o = 0 := by
  exact ⟨by unfold gaC; rw [h, e], sel_f e _, sel_f e _⟩
theorem ga_go {kn : Bool} {lo hi n d x s g : Int} {M : Nat → SlT} {m : Nat} {o : Int} (e : gaG kn lo hi n d x s g M m o = true) : gaC kn lo hi n d x s g M m o = 0 ∧ gaI kn lo hi n d x s g M m o = isI s g M m o (gsL lo hi n d x) (gsH lo hi n d x) ∧ gaK kn lo hi n d x s g M m o = isK s g M m o (gsL lo hi n d x) (gsH lo hi n d x) := by
  have h : gaP kn lo hi n d x (plB s g M m) o = true := by
    unfold gaG at e
    simp only [Bool.and_eq_true] at e
    exact e.1
  exact ⟨by unfold gaC; rw [h, e], sel_t e _, sel_t e _⟩
/- Whether a frame may still be on its way. -/
def bsG (f x c : Int) : Bool := okT f && (okT c && (!decide (c < f) && lgB x))
def bsB (n d f x c : Int) : Bool := match bsG f x c with | true => !leB n d (c - f) || (!moB n d x || decide (leT n d (c - f) < moT n d x)) | false => true
/- The longest slot of an owner, and what it leaves. -/
def bst (M : Nat → SlT) (o : Int) : Nat → Int
  | 0 => 0
  | j + 1 => match ((M j).1 == o) with | true => imx (bst M o j) (M j).2 | false => bst M o j
def gbB (s g : Int) (M : Nat → SlT) (m : Nat) (o n d x : Int) : Bool := plB s g M m && (!(bst M o m == 0) && (!decide (x < 1) && (moB n d x && !decide (bst M o m < moT n d x))))
def gbI (s g : Int) (M : Nat → SlT) (m : Nat) (o n d x : Int) : Int := sel (gbB s g M m o n d x) (bst M o m - moT n d x)
/- The first count at which the gate goes. -/
def gwP (kn : Bool) (lo hi a n d x s g : Int) (M : Nat → SlT) (m : Nat) (o c : Int) (j : Nat) : Bool := (crC kn lo hi a n d (c + (j : Int)) == 0) && (gaC true (crL kn lo hi a n d (c + (j : Int))) (crH kn lo hi a n d (c + (j : Int))) n d x s g M m o == 0)
def gwG (c y : Int) : Bool := decide (0 ≤ y ∧ y ≤ 400) && okT c
def gwB (kn : Bool) (lo hi a n d x s g : Int) (M : Nat → SlT) (m : Nat) (o c y : Int) : Bool := gwG c y && decide (fnd (gwP kn lo hi a n d x s g M m o c) (y.toNat + 1) < y.toNat + 1)
def gwI (kn : Bool) (lo hi a n d x s g : Int) (M : Nat → SlT) (m : Nat) (o c y : Int) : Int := match gwB kn lo hi a n d x s g M m o c y with | true => (fnd (gwP kn lo hi a n d x s g M m o c) (y.toNat + 1) : Int) | false => 0
end Go.Proofs.YtcakhfobkbgfoaaDoor
