/- A life: numbers; LifeOk, LifeMay, LifeKnows, LifeSends, LifeName in the specification. -/
import Derived.Test.YtfhappkeipcemaaGreatRows
import Derived.WalkKit
import Derived.WalkSpells
import Derived.WalkLawsBesides
import Derived.Deep.QuietTactic
import Derived.BigQuiet
import Derived.Deep.OwnRows
import Derived.Deep.RegionHeld
import Derived.Laws.BytesArg
import Derived.Deep.RegionHeld3
import Derived.Deep.DeepCutAuto
import Derived.Deep.DeepAppendRoom
import Derived.Test.YtfhappkeipcemaaGreatM3
import Derived.Test.YtfhappkeipcemaaGreatM7
namespace Go.Proofs.YtfhappkeipcemaaGreat
open Go.RowKit
set_option linter.unusedVariables false
def lkB (m k : Int) : Bool := if k = 1 then (m == 0) else if k = 2 then (m != 0) else if k = 3 then (m != 0) else if k = 4 then (m == 2) else if k = 5 then (m == 3) else if k = 6 then ((m == 2) || (m == 3)) else false
def lmB (m k : Int) : Bool := mdB m && lkB m k
def evB (m e s k t : Int) : Bool := lfB m e s && (decide (1 ≤ k ∧ k ≤ 6) && decide (s ≤ t ∧ t ≤ 1000000000000))
def mayB (m e k : Int) : Bool := lmB m k && !((k == 1) && (e == 100000))
def toM (k : Int) : Int := if k = 1 then 1 else if k = 2 then 0 else if k = 3 then 2 else if k = 5 then 2 else if k = 4 then 3 else 1
def stC (m e s k t : Int) : Int := match evB m e s k t with | true => (match mayB m e k with | true => 0 | false => 2) | false => 1
def stM (m e s k t : Int) : Int := match evB m e s k t with | true => (match mayB m e k with | true => toM k | false => m) | false => 0
def stE (m e s k t : Int) : Int := match evB m e s k t with | true => (match mayB m e k with | true => (if k = 1 then e + 1 else e) | false => e) | false => 0
def stS (m e s k t : Int) : Int := match evB m e s k t with | true => (match mayB m e k with | true => (if toM k = m then s else t) | false => s) | false => 0
set_option maxHeartbeats 8000000 in
theorem specLifeMay_any (m k : Int) (w : World) :
    Calls Tryz.prog 171 #[.int .i64 m, .int .i64 k] w fun x w' => x = .returned (.bool (lmB m k)) ∧ w = w' := by
  have C1 : ∀ w', Calls Tryz.prog 101 #[.int .i64 m, .int .i64 0, .int .i64 3] w' fun e w'' => e = .returned (.bool (mdB m)) ∧ w' = w'' := fun w' => l1In_any m 0 3 w'
  cases h1 : mdB m
  · rw [show lmB m k = false by unfold lmB; rw [h1]; rfl]
    go_enter Tryz.func171, Tryz.ntmps171
    go_wp2_with fail
    refine (C1 _).mono ?_
    rintro e w' ⟨rfl, rfl⟩
    rw [h1]
    go_wp2_with fail
    go_ret
    exact ⟨rfl, rfl⟩
  rw [show lmB m k = lkB m k by unfold lmB; rw [h1]; rfl]
  unfold lkB
  by_cases h2 : k = 1
  · subst h2
    rw [if_pos rfl]
    go_enter Tryz.func171, Tryz.ntmps171
    go_wp2_with fail
    refine (C1 _).mono ?_
    rintro e w' ⟨rfl, rfl⟩
    rw [h1]
    go_wp2_with fail
    go_ret
    exact ⟨by first | rfl | simp, rfl⟩
  have e1 : (k == 1) = false := beq_eq_false_iff_ne.2 h2
  by_cases h3 : k = 2
  · subst h3
    simp only [reduceIte, Int.reduceEq]
    go_enter Tryz.func171, Tryz.ntmps171
    go_wp2_with fail
    refine (C1 _).mono ?_
    rintro e w' ⟨rfl, rfl⟩
    rw [h1]
    go_wp2_with fail
    go_ret
    exact ⟨by first | rfl | simp, rfl⟩
  have e2 : (k == 2) = false := beq_eq_false_iff_ne.2 h3
  by_cases h4 : k = 3
  · subst h4
    simp only [reduceIte, Int.reduceEq]
    go_enter Tryz.func171, Tryz.ntmps171
    go_wp2_with fail
    refine (C1 _).mono ?_
    rintro e w' ⟨rfl, rfl⟩
    rw [h1]
    go_wp2_with fail
    go_ret
    exact ⟨by first | rfl | simp, rfl⟩
  have e3 : (k == 3) = false := beq_eq_false_iff_ne.2 h4
  by_cases h5 : k = 4
  · subst h5
    simp only [reduceIte, Int.reduceEq]
    go_enter Tryz.func171, Tryz.ntmps171
    go_wp2_with fail
    refine (C1 _).mono ?_
    rintro e w' ⟨rfl, rfl⟩
    rw [h1]
    go_wp2_with fail
    go_ret
    exact ⟨by first | rfl | simp, rfl⟩
  have e4 : (k == 4) = false := beq_eq_false_iff_ne.2 h5
  by_cases h6 : k = 5
  · subst h6
    simp only [reduceIte, Int.reduceEq]
    go_enter Tryz.func171, Tryz.ntmps171
    go_wp2_with fail
    refine (C1 _).mono ?_
    rintro e w' ⟨rfl, rfl⟩
    rw [h1]
    go_wp2_with fail
    go_ret
    exact ⟨by first | rfl | simp, rfl⟩
  have e5 : (k == 5) = false := beq_eq_false_iff_ne.2 h6
  by_cases h7 : k = 6
  · subst h7
    simp only [reduceIte, Int.reduceEq]
    go_enter Tryz.func171, Tryz.ntmps171
    go_wp2_with fail
    refine (C1 _).mono ?_
    rintro e w' ⟨rfl, rfl⟩
    rw [h1]
    cases h9 : (m == 2)
    · go_wp2_with fail
      go_ret
      exact ⟨by first | rfl | simp [h9], rfl⟩
    · go_wp2_with fail
      go_ret
      exact ⟨by first | rfl | simp [h9], rfl⟩
  have e6 : (k == 6) = false := beq_eq_false_iff_ne.2 h7
  rw [if_neg h2, if_neg h3, if_neg h4, if_neg h5, if_neg h6, if_neg h7]
  go_enter Tryz.func171, Tryz.ntmps171
  go_wp2_with fail
  refine (C1 _).mono ?_
  rintro e w' ⟨rfl, rfl⟩
  rw [h1]
  go_wp2_with fail
  go_ret
  exact ⟨rfl, rfl⟩
end Go.Proofs.YtfhappkeipcemaaGreat
