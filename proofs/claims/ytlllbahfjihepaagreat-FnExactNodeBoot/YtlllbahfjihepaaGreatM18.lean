/- A life: numbers; LifeOk, LifeMay, LifeKnows, LifeSends, LifeName in the specification. What the laws make of a life and of an event. -/
import Derived.WalkKit
import Derived.WalkSpells
import Derived.WalkLawsBesides
import Derived.Deep.RegionHeld
import Derived.Test.YtlllbahfjihepaaGreatM11
import Derived.Test.YtlllbahfjihepaaGreatM8
import Derived.Test.YtlllbahfjihepaaGreatM4
import Derived.Test.YtlllbahfjihepaaGreatM1
namespace Go.Proofs.YtlllbahfjihepaaGreat
open Go.RowKit
set_option linter.unusedVariables false
def mdB (m : Int) : Bool := decide (0 ≤ m ∧ m ≤ 3)
def lfB (m e s : Int) : Bool := mdB m && (epB e && okT s)
def lkB (m k : Int) : Bool := if k = 1 then (m == 0) else if k = 2 then (m != 0) else if k = 3 then (m != 0) else if k = 4 then (m == 2) else if k = 5 then (m == 3) else if k = 6 then ((m == 2) || (m == 3)) else false
def lmB (m k : Int) : Bool := mdB m && lkB m k
def knB (m e s : Int) : Bool := lfB m e s && ((m == 2) || (m == 3))
def evB (m e s k t : Int) : Bool := lfB m e s && (decide (1 ≤ k ∧ k ≤ 6) && decide (s ≤ t ∧ t ≤ 1000000000000))
def mayB (m e k : Int) : Bool := lmB m k && !((k == 1) && (e == 100000))
def toM (k : Int) : Int := if k = 1 then 1 else if k = 2 then 0 else if k = 3 then 2 else if k = 5 then 2 else if k = 4 then 3 else 1
def stC (m e s k t : Int) : Int := match evB m e s k t with | true => (match mayB m e k with | true => 0 | false => 2) | false => 1
def stM (m e s k t : Int) : Int := match evB m e s k t with | true => (match mayB m e k with | true => toM k | false => m) | false => 0
def stE (m e s k t : Int) : Int := match evB m e s k t with | true => (match mayB m e k with | true => (if k = 1 then e + 1 else e) | false => e) | false => 0
def stS (m e s k t : Int) : Int := match evB m e s k t with | true => (match mayB m e k with | true => (if toM k = m then s else t) | false => s) | false => 0
set_option maxHeartbeats 4000000 in
theorem specLifeOk_any (m e s : Int) (w : World) :
    Calls Tryz.prog 67 #[.agg #[.int .i64 m, .int .i64 e, .int .i64 s]] w fun x w' => x = .returned (.bool (lfB m e s)) ∧ Below w.heap.size w w' := by
  have B := Below.nw w (.cells #[.int .i64 m, .int .i64 e, .int .i64 s] 38)
  have C1 : ∀ w', Calls Tryz.prog 73 #[.int .i64 m, .int .i64 0, .int .i64 3] w' fun e w'' => e = .returned (.bool (mdB m)) ∧ w' = w'' := fun w' => l1In_any m 0 3 w'
  have C2 : ∀ w', Calls Tryz.prog 73 #[.int .i64 e, .int .i64 0, .int .i64 100000] w' fun e' w'' => e' = .returned (.bool (epB e)) ∧ w' = w'' := fun w' => l1In_any e 0 100000 w'
  have C3 := fun w' => l2Time_any s w'
  cases h1 : mdB m
  · rw [show lfB m e s = false by unfold lfB; rw [h1]; rfl]
    go_enter Tryz.func67, Tryz.ntmps67; go_wp2_with fail; refine (C1 _).mono ?_; rintro e w' ⟨rfl, rfl⟩; rw [h1]; go_wp2_with fail
    go_ret
    exact ⟨rfl, B⟩
  cases h2 : epB e
  · rw [show lfB m e s = false by unfold lfB; rw [h1, h2]; rfl]
    go_enter Tryz.func67, Tryz.ntmps67; go_wp2_with fail; refine (C1 _).mono ?_; rintro e w' ⟨rfl, rfl⟩; rw [h1]; go_wp2_with fail
    refine (C2 _).mono ?_
    rintro e w' ⟨rfl, rfl⟩
    rw [h2]
    go_wp2_with fail
    go_ret
    exact ⟨rfl, B⟩
  rw [show lfB m e s = okT s by unfold lfB; rw [h1, h2]; rfl]
  go_enter Tryz.func67, Tryz.ntmps67; go_wp2_with fail; refine (C1 _).mono ?_; rintro e w' ⟨rfl, rfl⟩; rw [h1]; go_wp2_with fail
  refine (C2 _).mono ?_
  rintro e w' ⟨rfl, rfl⟩
  rw [h2]
  go_wp2_with fail
  refine (C3 _).mono ?_
  rintro e w' ⟨rfl, rfl⟩
  go_wp2_with fail
  go_ret
  exact ⟨rfl, B⟩
set_option maxHeartbeats 8000000 in
theorem specLifeMay_any (m k : Int) (w : World) :
    Calls Tryz.prog 77 #[.int .i64 m, .int .i64 k] w fun x w' => x = .returned (.bool (lmB m k)) ∧ w = w' := by
  have C1 : ∀ w', Calls Tryz.prog 73 #[.int .i64 m, .int .i64 0, .int .i64 3] w' fun e w'' => e = .returned (.bool (mdB m)) ∧ w' = w'' := fun w' => l1In_any m 0 3 w'
  cases h1 : mdB m
  · rw [show lmB m k = false by unfold lmB; rw [h1]; rfl]
    go_enter Tryz.func77, Tryz.ntmps77
    go_wp2_with fail
    refine (C1 _).mono ?_
    rintro e w' ⟨rfl, rfl⟩
    rw [h1]
    go_wp2_with fail
    go_ret
    exact ⟨rfl, rfl⟩
  rw [show lmB m k = lkB m k by unfold lmB; rw [h1]; rfl]
  unfold lkB
  by_cases h2 : k = 1
  · subst h2
    rw [if_pos rfl]
    go_enter Tryz.func77, Tryz.ntmps77
    go_wp2_with fail
    refine (C1 _).mono ?_
    rintro e w' ⟨rfl, rfl⟩
    rw [h1]
    go_wp2_with fail
    go_ret
    exact ⟨by first | rfl | simp, rfl⟩
  have e1 : (k == 1) = false := beq_eq_false_iff_ne.2 h2
  by_cases h3 : k = 2
  · subst h3
    simp only [reduceIte, Int.reduceEq]
    go_enter Tryz.func77, Tryz.ntmps77
    go_wp2_with fail
    refine (C1 _).mono ?_
    rintro e w' ⟨rfl, rfl⟩
    rw [h1]
    go_wp2_with fail
    go_ret
    exact ⟨by first | rfl | simp, rfl⟩
  have e2 : (k == 2) = false := beq_eq_false_iff_ne.2 h3
  by_cases h4 : k = 3
  · subst h4
    simp only [reduceIte, Int.reduceEq]
    go_enter Tryz.func77, Tryz.ntmps77
    go_wp2_with fail
    refine (C1 _).mono ?_
    rintro e w' ⟨rfl, rfl⟩
    rw [h1]
    go_wp2_with fail
    go_ret
    exact ⟨by first | rfl | simp, rfl⟩
  have e3 : (k == 3) = false := beq_eq_false_iff_ne.2 h4
  by_cases h5 : k = 4
  · subst h5
    simp only [reduceIte, Int.reduceEq]
    go_enter Tryz.func77, Tryz.ntmps77
    go_wp2_with fail
    refine (C1 _).mono ?_
    rintro e w' ⟨rfl, rfl⟩
    rw [h1]
    go_wp2_with fail
    go_ret
    exact ⟨by first | rfl | simp, rfl⟩
  have e4 : (k == 4) = false := beq_eq_false_iff_ne.2 h5
  by_cases h6 : k = 5
  · subst h6
    simp only [reduceIte, Int.reduceEq]
    go_enter Tryz.func77, Tryz.ntmps77
    go_wp2_with fail
    refine (C1 _).mono ?_
    rintro e w' ⟨rfl, rfl⟩
    rw [h1]
    go_wp2_with fail
    go_ret
    exact ⟨by first | rfl | simp, rfl⟩
  have e5 : (k == 5) = false := beq_eq_false_iff_ne.2 h6
  by_cases h7 : k = 6
  · subst h7
    simp only [reduceIte, Int.reduceEq]
    go_enter Tryz.func77, Tryz.ntmps77
    go_wp2_with fail
    refine (C1 _).mono ?_
    rintro e w' ⟨rfl, rfl⟩
    rw [h1]
    cases h9 : (m == 2)
    · go_wp2_with fail
      go_ret
      exact ⟨by first | rfl | simp [h9], rfl⟩
    · go_wp2_with fail
      go_ret
      exact ⟨by first | rfl | simp [h9], rfl⟩
  have e6 : (k == 6) = false := beq_eq_false_iff_ne.2 h7
  rw [if_neg h2, if_neg h3, if_neg h4, if_neg h5, if_neg h6, if_neg h7]
  go_enter Tryz.func77, Tryz.ntmps77
  go_wp2_with fail
  refine (C1 _).mono ?_
  rintro e w' ⟨rfl, rfl⟩
  rw [h1]
  go_wp2_with fail
  go_ret
  exact ⟨rfl, rfl⟩
set_option maxHeartbeats 4000000 in
theorem specLifeKnows_any (m e s : Int) (w : World) :
    Calls Tryz.prog 74 #[.agg #[.int .i64 m, .int .i64 e, .int .i64 s]] w fun x w' => x = .returned (.bool (knB m e s)) ∧ Below w.heap.size w w' := by
  have B := Below.nw w (.cells #[.int .i64 m, .int .i64 e, .int .i64 s] 38)
  have N := Tx3.new w (.int .i64 m) (.int .i64 e) (.int .i64 s) 38
  have C1 := fun w' => specLifeOk_any m e s w'
  unfold knB
  cases h1 : lfB m e s
  · rw [Bool.false_and]
    go_enter Tryz.func74, Tryz.ntmps74
    go_wp2_with fail
    refine (C1 _).mono ?_
    rintro x w1 ⟨rfl, hb⟩
    rw [h1]
    replace B := B.trans (hb.mono B.size)
    go_wp2_with fail
    go_ret
    exact ⟨rfl, B⟩
  rw [Bool.true_and]
  go_enter Tryz.func74, Tryz.ntmps74
  go_wp2_with fail
  refine (C1 _).mono ?_
  rintro x w1 ⟨rfl, hb⟩
  rw [h1]
  replace B := B.trans (hb.mono B.size)
  replace N := N.below hb
  clear hb C1
  obtain ⟨n0, n1, n2, n3, n4, n5, n6⟩ := id N
  cases h2 : (m == 2)
  · go_wp2_with fail
    go_ret
    exact ⟨by first | rfl | simp [h2], B⟩
  · go_wp2_with fail
    go_ret
    exact ⟨by first | rfl | simp [h2], B⟩
end Go.Proofs.YtlllbahfjihepaaGreat
namespace Go.Proofs.YtlllbahfjihepaaGreat
open Go.RowKit
set_option linter.unusedVariables false
set_option maxHeartbeats 2000000 in
theorem toLife_any (m e s : Int) (w : World) :
    Calls Tryz.prog 21 #[.agg #[.int .i64 m, .int .i64 e, .int .i64 s]] w fun x w' => x = .returned (.agg #[.int .i64 m, .int .i64 e, .int .i64 s]) ∧ Below w.heap.size w w' := by
  go_enter Tryz.func21, Tryz.ntmps21
  go_wp2_with fail
  exact bodyPost_ret (v := .agg #[.int .i64 m, .int .i64 e, .int .i64 s]) (by simp (maxDischargeDepth := 6) [results, Tryz.results21, go_sem, *]) rfl ⟨rfl, by repeat (first | exact Below.refl _ _ | refine Below.drew ?_ | refine Below.alloc ?_ (by first | (simp; done) | (simp; omega) | omega) _ | refine Below.setCell ?_ (by first | (simp; done) | (simp; omega) | omega) _ | refine Below.trans ?_ (Below.mono (by assumption) (by first | (simp; done) | (simp; omega) | omega)))⟩
set_option maxHeartbeats 2000000 in
theorem eqLife_same (m e s : Int) (w : World) :
    Calls Tryz.prog 31 #[.agg #[.int .i64 m, .int .i64 e, .int .i64 s], .agg #[.int .i64 m, .int .i64 e, .int .i64 s]] w fun x w' => x = .returned (.bool true) ∧ Below w.heap.size w w' := by
  go_enter Tryz.func31, Tryz.ntmps31
  go_wp2_with fail
  go_ret
  exact ⟨rfl, by repeat (first | exact Below.refl _ _ | refine Below.drew ?_ | refine Below.alloc ?_ (by first | (simp; done) | (simp; omega) | omega) _ | refine Below.setCell ?_ (by first | (simp; done) | (simp; omega) | omega) _ | refine Below.trans ?_ (Below.mono (by assumption) (by first | (simp; done) | (simp; omega) | omega)))⟩
end Go.Proofs.YtlllbahfjihepaaGreat
