/- A life: numbers; LifeOk, LifeMay, LifeKnows, LifeSends, LifeName in the specification. -/
import Derived.Test.YteifibajafdnlaaT300
import Derived.Test.YteifibajafdnlaaI106
import Derived.Test.YteifibajafdnlaaG1
import Derived.Test.YteifibajafdnlaaE1
import Derived.WalkKit
import Derived.WalkSpells
import Derived.WalkLawsBesides
import Derived.Deep.RegionHeld
namespace Go.Proofs.Yteifibajafdnlaa
open Go.RowKit
set_option linter.unusedVariables false
/- A life: when it is right, what may come, what comes of an event. -/
def mdB (m : Int) : Bool := decide (0 ≤ m ∧ m ≤ 3)
def epB (e : Int) : Bool := decide (0 ≤ e ∧ e ≤ 100000)
def lfB (m e s : Int) : Bool := mdB m && (epB e && okT s)
def lkB (m k : Int) : Bool := if k = 1 then (m == 0) else if k = 2 then (m != 0) else if k = 3 then (m != 0) else if k = 4 then (m == 2) else if k = 5 then (m == 3) else if k = 6 then ((m == 2) || (m == 3)) else false
def lmB (m k : Int) : Bool := mdB m && lkB m k
def nmS (m : Int) : ByteArray := if m = 0 then ⟨#[100, 111, 119, 110]⟩ else if m = 1 then ⟨#[99, 111, 108, 100]⟩ else if m = 2 then ⟨#[115, 121, 110, 99]⟩ else if m = 3 then ⟨#[104, 111, 108, 100]⟩ else ⟨#[]⟩
def knB (m e s : Int) : Bool := lfB m e s && ((m == 2) || (m == 3))
def seB (m e s : Int) : Bool := lfB m e s && (m == 2)
/- An event: is it one that can be told; may it come; what mode it leads to. -/
def evB (m e s k t : Int) : Bool := lfB m e s && (decide (1 ≤ k ∧ k ≤ 6) && decide (s ≤ t ∧ t ≤ 1000000000000))
def mayB (m e k : Int) : Bool := lmB m k && !((k == 1) && (e == 100000))
def toM (k : Int) : Int := if k = 1 then 1 else if k = 2 then 0 else if k = 3 then 2 else if k = 5 then 2 else if k = 4 then 3 else 1
def stC (m e s k t : Int) : Int := match evB m e s k t with | true => (match mayB m e k with | true => 0 | false => 2) | false => 1
def stM (m e s k t : Int) : Int := match evB m e s k t with | true => (match mayB m e k with | true => toM k | false => m) | false => 0
def stE (m e s k t : Int) : Int := match evB m e s k t with | true => (match mayB m e k with | true => (if k = 1 then e + 1 else e) | false => e) | false => 0
def stS (m e s k t : Int) : Int := match evB m e s k t with | true => (match mayB m e k with | true => (if toM k = m then s else t) | false => s) | false => 0
set_option maxHeartbeats 4000000 in
theorem specLifeOk_any (m e s : Int) (w : World) :
    Calls Try.prog 21 #[.agg #[.int .i64 m, .int .i64 e, .int .i64 s]] w fun x w' => x = .returned (.bool (lfB m e s)) ∧ Below w.heap.size w w' := by
  have B := Below.nw w (.cells #[.int .i64 m, .int .i64 e, .int .i64 s] 25)
  have C1 : ∀ w', Calls Try.prog 47 #[.int .i64 m, .int .i64 0, .int .i64 3] w' fun e w'' => e = .returned (.bool (mdB m)) ∧ w' = w'' := fun w' => l1In_any m 0 3 w'
  have C2 : ∀ w', Calls Try.prog 47 #[.int .i64 e, .int .i64 0, .int .i64 100000] w' fun e' w'' => e' = .returned (.bool (epB e)) ∧ w' = w'' := fun w' => l1In_any e 0 100000 w'
  have C3 := fun w' => l2Time_any s w'
  cases h1 : mdB m
  · rw [show lfB m e s = false by unfold lfB; rw [h1]; rfl]
    go_enter Try.func21, Try.ntmps21; go_wp2_with fail; refine (C1 _).mono ?_; rintro e w' ⟨rfl, rfl⟩; rw [h1]; go_wp2_with fail
    go_ret
    exact ⟨rfl, B⟩
  cases h2 : epB e
  · rw [show lfB m e s = false by unfold lfB; rw [h1, h2]; rfl]
    go_enter Try.func21, Try.ntmps21; go_wp2_with fail; refine (C1 _).mono ?_; rintro e w' ⟨rfl, rfl⟩; rw [h1]; go_wp2_with fail
    refine (C2 _).mono ?_
    rintro e w' ⟨rfl, rfl⟩
    rw [h2]
    go_wp2_with fail
    go_ret
    exact ⟨rfl, B⟩
  rw [show lfB m e s = okT s by unfold lfB; rw [h1, h2]; rfl]
  go_enter Try.func21, Try.ntmps21; go_wp2_with fail; refine (C1 _).mono ?_; rintro e w' ⟨rfl, rfl⟩; rw [h1]; go_wp2_with fail
  refine (C2 _).mono ?_
  rintro e w' ⟨rfl, rfl⟩
  rw [h2]
  go_wp2_with fail
  refine (C3 _).mono ?_
  rintro e w' ⟨rfl, rfl⟩
  go_wp2_with fail
  go_ret
  exact ⟨rfl, B⟩
set_option maxHeartbeats 8000000 in
theorem specLifeMay_any (m k : Int) (w : World) :
    Calls Try.prog 23 #[.int .i64 m, .int .i64 k] w fun x w' => x = .returned (.bool (lmB m k)) ∧ w = w' := by
  have C1 : ∀ w', Calls Try.prog 47 #[.int .i64 m, .int .i64 0, .int .i64 3] w' fun e w'' => e = .returned (.bool (mdB m)) ∧ w' = w'' := fun w' => l1In_any m 0 3 w'
  cases h1 : mdB m
  · rw [show lmB m k = false by unfold lmB; rw [h1]; rfl]
    go_enter Try.func23, Try.ntmps23
    go_wp2_with fail
    refine (C1 _).mono ?_
    rintro e w' ⟨rfl, rfl⟩
    rw [h1]
    go_wp2_with fail
    go_ret
    exact ⟨rfl, rfl⟩
  rw [show lmB m k = lkB m k by unfold lmB; rw [h1]; rfl]
  unfold lkB
  by_cases h2 : k = 1
  · subst h2
    rw [if_pos rfl]
    go_enter Try.func23, Try.ntmps23
    go_wp2_with fail
    refine (C1 _).mono ?_
    rintro e w' ⟨rfl, rfl⟩
    rw [h1]
    go_wp2_with fail
    go_ret
    exact ⟨by first | rfl | simp, rfl⟩
  have e1 : (k == 1) = false := beq_eq_false_iff_ne.2 h2
  by_cases h3 : k = 2
  · subst h3
    simp only [reduceIte, Int.reduceEq]
    go_enter Try.func23, Try.ntmps23
    go_wp2_with fail
    refine (C1 _).mono ?_
    rintro e w' ⟨rfl, rfl⟩
    rw [h1]
    go_wp2_with fail
    go_ret
    exact ⟨by first | rfl | simp, rfl⟩
  have e2 : (k == 2) = false := beq_eq_false_iff_ne.2 h3
  by_cases h4 : k = 3
  · subst h4
    simp only [reduceIte, Int.reduceEq]
    go_enter Try.func23, Try.ntmps23
    go_wp2_with fail
    refine (C1 _).mono ?_
    rintro e w' ⟨rfl, rfl⟩
    rw [h1]
    go_wp2_with fail
    go_ret
    exact ⟨by first | rfl | simp, rfl⟩
  have e3 : (k == 3) = false := beq_eq_false_iff_ne.2 h4
  by_cases h5 : k = 4
  · subst h5
    simp only [reduceIte, Int.reduceEq]
    go_enter Try.func23, Try.ntmps23
    go_wp2_with fail
    refine (C1 _).mono ?_
    rintro e w' ⟨rfl, rfl⟩
    rw [h1]
    go_wp2_with fail
    go_ret
    exact ⟨by first | rfl | simp, rfl⟩
  have e4 : (k == 4) = false := beq_eq_false_iff_ne.2 h5
  by_cases h6 : k = 5
  · subst h6
    simp only [reduceIte, Int.reduceEq]
    go_enter Try.func23, Try.ntmps23
    go_wp2_with fail
    refine (C1 _).mono ?_
    rintro e w' ⟨rfl, rfl⟩
    rw [h1]
    go_wp2_with fail
    go_ret
    exact ⟨by first | rfl | simp, rfl⟩
  have e5 : (k == 5) = false := beq_eq_false_iff_ne.2 h6
  by_cases h7 : k = 6
  · subst h7
    simp only [reduceIte, Int.reduceEq]
    go_enter Try.func23, Try.ntmps23
    go_wp2_with fail
    refine (C1 _).mono ?_
    rintro e w' ⟨rfl, rfl⟩
    rw [h1]
    cases h9 : (m == 2)
    · go_wp2_with fail
      go_ret
      exact ⟨by first | rfl | simp [h9], rfl⟩
    · go_wp2_with fail
      go_ret
      exact ⟨by first | rfl | simp [h9], rfl⟩
  have e6 : (k == 6) = false := beq_eq_false_iff_ne.2 h7
  rw [if_neg h2, if_neg h3, if_neg h4, if_neg h5, if_neg h6, if_neg h7]
  go_enter Try.func23, Try.ntmps23
  go_wp2_with fail
  refine (C1 _).mono ?_
  rintro e w' ⟨rfl, rfl⟩
  rw [h1]
  go_wp2_with fail
  go_ret
  exact ⟨rfl, rfl⟩
set_option maxHeartbeats 4000000 in
theorem specLifeName_any (m : Int) (w : World) :
    Calls Try.prog 36 #[.int .i64 m] w fun x w' => x = .returned (.string (nmS m)) ∧ w = w' := by
  unfold nmS
  by_cases h0 : m = 0
  · subst h0
    rw [if_pos rfl]
    go_enter Try.func36, Try.ntmps36
    go_wp2_with fail
    go_ret
    exact ⟨rfl, rfl⟩
  have e0 : (m == 0) = false := beq_eq_false_iff_ne.2 h0
  by_cases h1 : m = 1
  · subst h1
    simp only [reduceIte, Int.reduceEq]
    go_enter Try.func36, Try.ntmps36
    go_wp2_with fail
    go_ret
    exact ⟨rfl, rfl⟩
  have e1 : (m == 1) = false := beq_eq_false_iff_ne.2 h1
  by_cases h2 : m = 2
  · subst h2
    simp only [reduceIte, Int.reduceEq]
    go_enter Try.func36, Try.ntmps36
    go_wp2_with fail
    go_ret
    exact ⟨rfl, rfl⟩
  have e2 : (m == 2) = false := beq_eq_false_iff_ne.2 h2
  by_cases h3 : m = 3
  · subst h3
    simp only [reduceIte, Int.reduceEq]
    go_enter Try.func36, Try.ntmps36
    go_wp2_with fail
    go_ret
    exact ⟨rfl, rfl⟩
  have e3 : (m == 3) = false := beq_eq_false_iff_ne.2 h3
  rw [if_neg h0, if_neg h1, if_neg h2, if_neg h3]
  go_enter Try.func36, Try.ntmps36
  go_wp2_with fail
  go_ret
  exact ⟨rfl, rfl⟩
set_option maxHeartbeats 4000000 in
theorem specLifeKnows_any (m e s : Int) (w : World) :
    Calls Try.prog 34 #[.agg #[.int .i64 m, .int .i64 e, .int .i64 s]] w fun x w' => x = .returned (.bool (knB m e s)) ∧ Below w.heap.size w w' := by
  have B := Below.nw w (.cells #[.int .i64 m, .int .i64 e, .int .i64 s] 25)
  have N := Tx3.new w (.int .i64 m) (.int .i64 e) (.int .i64 s) 25
  have C1 := fun w' => specLifeOk_any m e s w'
  unfold knB
  cases h1 : lfB m e s
  · rw [Bool.false_and]
    go_enter Try.func34, Try.ntmps34
    go_wp2_with fail
    refine (C1 _).mono ?_
    rintro x w1 ⟨rfl, hb⟩
    rw [h1]
    replace B := B.trans (hb.mono B.size)
    go_wp2_with fail
    go_ret
    exact ⟨rfl, B⟩
  rw [Bool.true_and]
  go_enter Try.func34, Try.ntmps34
  go_wp2_with fail
  refine (C1 _).mono ?_
  rintro x w1 ⟨rfl, hb⟩
  rw [h1]
  replace B := B.trans (hb.mono B.size)
  replace N := N.below hb
  clear hb C1
  obtain ⟨n0, n1, n2, n3, n4, n5, n6⟩ := id N
  cases h2 : (m == 2)
  · go_wp2_with fail
    go_ret
    exact ⟨by first | rfl | simp [h2], B⟩
  · go_wp2_with fail
    go_ret
    exact ⟨by first | rfl | simp [h2], B⟩
set_option maxHeartbeats 4000000 in
theorem specLifeSends_any (m e s : Int) (w : World) :
    Calls Try.prog 35 #[.agg #[.int .i64 m, .int .i64 e, .int .i64 s]] w fun x w' => x = .returned (.bool (seB m e s)) ∧ Below w.heap.size w w' := by
  have B := Below.nw w (.cells #[.int .i64 m, .int .i64 e, .int .i64 s] 25)
  have N := Tx3.new w (.int .i64 m) (.int .i64 e) (.int .i64 s) 25
  have C1 := fun w' => specLifeOk_any m e s w'
  unfold seB
  cases h1 : lfB m e s
  · rw [Bool.false_and]
    go_enter Try.func35, Try.ntmps35
    go_wp2_with fail
    refine (C1 _).mono ?_
    rintro x w1 ⟨rfl, hb⟩
    rw [h1]
    replace B := B.trans (hb.mono B.size)
    go_wp2_with fail
    go_ret
    exact ⟨rfl, B⟩
  rw [Bool.true_and]
  go_enter Try.func35, Try.ntmps35
  go_wp2_with fail
  refine (C1 _).mono ?_
  rintro x w1 ⟨rfl, hb⟩
  rw [h1]
  replace B := B.trans (hb.mono B.size)
  replace N := N.below hb
  clear hb C1
  obtain ⟨n0, n1, n2, n3, n4, n5, n6⟩ := id N
  go_wp2_with fail
  go_ret
  exact ⟨rfl, B⟩
end Go.Proofs.Yteifibajafdnlaa
