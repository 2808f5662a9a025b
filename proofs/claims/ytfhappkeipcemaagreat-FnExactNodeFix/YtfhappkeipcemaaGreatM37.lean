/- A life: numbers; LifeOk, LifeMay, LifeKnows, LifeSends, LifeName in the specification. The program's LifeOk, LifeKnows, LifeSends, LifeName, LifeMay (labels and gotos), mayTake. -/
import Derived.Test.YtfhappkeipcemaaGreatM8
namespace Go.Proofs.YtfhappkeipcemaaGreat
open Go.RowKit
set_option linter.unusedVariables false
def lkB (m k : Int) : Bool := if k = 1 then (m == 0) else if k = 2 then (m != 0) else if k = 3 then (m != 0) else if k = 4 then (m == 2) else if k = 5 then (m == 3) else if k = 6 then ((m == 2) || (m == 3)) else false
def lmB (m k : Int) : Bool := mdB m && lkB m k
def evB (m e s k t : Int) : Bool := lfB m e s && (decide (1 ≤ k ∧ k ≤ 6) && decide (s ≤ t ∧ t ≤ 1000000000000))
def mayB (m e k : Int) : Bool := lmB m k && !((k == 1) && (e == 100000))
def toM (k : Int) : Int := if k = 1 then 1 else if k = 2 then 0 else if k = 3 then 2 else if k = 5 then 2 else if k = 4 then 3 else 1
def stC (m e s k t : Int) : Int := match evB m e s k t with | true => (match mayB m e k with | true => 0 | false => 2) | false => 1
def stM (m e s k t : Int) : Int := match evB m e s k t with | true => (match mayB m e k with | true => toM k | false => m) | false => 0
def stE (m e s k t : Int) : Int := match evB m e s k t with | true => (match mayB m e k with | true => (if k = 1 then e + 1 else e) | false => e) | false => 0
def stS (m e s k t : Int) : Int := match evB m e s k t with | true => (match mayB m e k with | true => (if toM k = m then s else t) | false => s) | false => 0
set_option maxHeartbeats 8000000 in
theorem specLifeMay_any (m k : Int) (w : World) :
    Calls Tryz.prog 171 #[.int .i64 m, .int .i64 k] w fun x w' => x = .returned (.bool (lmB m k)) ∧ w = w' := by
  have C1 : ∀ w', Calls Tryz.prog 101 #[.int .i64 m, .int .i64 0, .int .i64 3] w' fun e w'' => e = .returned (.bool (mdB m)) ∧ w' = w'' := fun w' => l1In_any m 0 3 w'
  cases h1 : mdB m
  · rw [show lmB m k = false by unfold lmB; rw [h1]; rfl]
    go_enter Tryz.func171, Tryz.ntmps171
    go_wp2_with fail
    refine (C1 _).mono ?_
    rintro e w' ⟨rfl, rfl⟩
    rw [h1]
    go_wp2_with fail
    go_ret
    exact ⟨rfl, rfl⟩
  rw [show lmB m k = lkB m k by unfold lmB; rw [h1]; rfl]
  unfold lkB
  by_cases h2 : k = 1
  · subst h2
    rw [if_pos rfl]
    go_enter Tryz.func171, Tryz.ntmps171
    go_wp2_with fail
    refine (C1 _).mono ?_
    rintro e w' ⟨rfl, rfl⟩
    rw [h1]
    go_wp2_with fail
    go_ret
    exact ⟨by first | rfl | simp, rfl⟩
  have e1 : (k == 1) = false := beq_eq_false_iff_ne.2 h2
  by_cases h3 : k = 2
  · subst h3
    simp only [reduceIte, Int.reduceEq]
    go_enter Tryz.func171, Tryz.ntmps171
    go_wp2_with fail
    refine (C1 _).mono ?_
    rintro e w' ⟨rfl, rfl⟩
    rw [h1]
    go_wp2_with fail
    go_ret
    exact ⟨by first | rfl | simp, rfl⟩
  have e2 : (k == 2) = false := beq_eq_false_iff_ne.2 h3
  by_cases h4 : k = 3
  · subst h4
    simp only [reduceIte, Int.reduceEq]
    go_enter Tryz.func171, Tryz.ntmps171
    go_wp2_with fail
    refine (C1 _).mono ?_
    rintro e w' ⟨rfl, rfl⟩
    rw [h1]
    go_wp2_with fail
    go_ret
    exact ⟨by first | rfl | simp, rfl⟩
  have e3 : (k == 3) = false := beq_eq_false_iff_ne.2 h4
  by_cases h5 : k = 4
  · subst h5
    simp only [reduceIte, Int.reduceEq]
    go_enter Tryz.func171, Tryz.ntmps171
    go_wp2_with fail
    refine (C1 _).mono ?_
    rintro e w' ⟨rfl, rfl⟩
    rw [h1]
    go_wp2_with fail
    go_ret
    exact ⟨by first | rfl | simp, rfl⟩
  have e4 : (k == 4) = false := beq_eq_false_iff_ne.2 h5
  by_cases h6 : k = 5
  · subst h6
    simp only [reduceIte, Int.reduceEq]
    go_enter Tryz.func171, Tryz.ntmps171
    go_wp2_with fail
    refine (C1 _).mono ?_
    rintro e w' ⟨rfl, rfl⟩
    rw [h1]
    go_wp2_with fail
    go_ret
    exact ⟨by first | rfl | simp, rfl⟩
  have e5 : (k == 5) = false := beq_eq_false_iff_ne.2 h6
  by_cases h7 : k = 6
  · subst h7
    simp only [reduceIte, Int.reduceEq]
    go_enter Tryz.func171, Tryz.ntmps171
    go_wp2_with fail
    refine (C1 _).mono ?_
    rintro e w' ⟨rfl, rfl⟩
    rw [h1]
    cases h9 : (m == 2)
    · go_wp2_with fail
      go_ret
      exact ⟨by first | rfl | simp [h9], rfl⟩
    · go_wp2_with fail
      go_ret
      exact ⟨by first | rfl | simp [h9], rfl⟩
  have e6 : (k == 6) = false := beq_eq_false_iff_ne.2 h7
  rw [if_neg h2, if_neg h3, if_neg h4, if_neg h5, if_neg h6, if_neg h7]
  go_enter Tryz.func171, Tryz.ntmps171
  go_wp2_with fail
  refine (C1 _).mono ?_
  rintro e w' ⟨rfl, rfl⟩
  rw [h1]
  go_wp2_with fail
  go_ret
  exact ⟨rfl, rfl⟩
end Go.Proofs.YtfhappkeipcemaaGreat
namespace Go.Proofs.YtfhappkeipcemaaGreat
open Go.RowKit
set_option linter.unusedVariables false
def Exit.via (P : Program) (c : Code) (Q : Exit → Act → World → Prop) : Nat → Exit → Act → World → Prop
  | _, .normal, a, w => Q .normal a w
  | _, .exit id, a, w => Q (.exit id) a w
  | 0, .goto l, a, w => False
  | n + 1, .goto l, a, w => ∃ rest, findLabel c l = some rest ∧ rest.wp P (Exit.via P c Q n) a w
  | _, .ret, a, w => Q .ret a w
  | _, .panic ch, a, w => Q (.panic ch) a w
  | _, .outgrown, a, w => Q .outgrown a w
theorem via_ret {P : Program} {c : Code} {Q : Exit → Act → World → Prop} (n : Nat) (a : Act) (w : World) : Exit.via P c Q n .ret a w = Q .ret a w := by cases n <;> rfl
theorem via_goto {P : Program} {c rest : Code} {Q : Exit → Act → World → Prop} {n l : Nat} {a : Act} {w : World} (h : findLabel c l = some rest) (hr : rest.wp P (Exit.via P c Q n) a w) : Exit.via P c Q (n + 1) (.goto l) a w := ⟨rest, h, hr⟩
theorem wp_scope_via {P : Program} {a : Act} {w : World} {Q : Exit → Act → World → Prop} {c : Code} (n : Nat) (first : c.wp P (Exit.via P c Q n) a w) : (Code.scope c).wp P Q a w := by
  intro b k cs
  have key : ∀ (n : Nat) (r : Code) (a : Act) (w : World), r.wp P (Exit.via P c Q n) a w → ∃ e a' w', Q e a' w' ∧ Arrives P (lone (b.at a (.code r :: .inScope c :: k)) cs w) b k cs e a' w' := by
    intro n
    induction n with
    | zero =>
      intro r a w hr
      obtain ⟨e, a₁, w₁, hq, harr⟩ := hr b (.inScope c :: k) cs
      cases e with
      | normal => exact ⟨.normal, a₁, w₁, hq, Steps.trans harr (.one step_inScope)⟩
      | exit id => exact ⟨.exit id, a₁, w₁, hq, fun k' hk => harr k' (by simp [exitTo, hk])⟩
      | goto l' => exact hq.elim
      | ret => exact ⟨_, a₁, w₁, hq, harr⟩
      | panic ch => exact ⟨_, a₁, w₁, hq, harr⟩
      | outgrown => exact ⟨_, a₁, w₁, hq, harr⟩
    | succ n ih =>
      intro r a w hr
      obtain ⟨e, a₁, w₁, hq, harr⟩ := hr b (.inScope c :: k) cs
      cases e with
      | normal => exact ⟨.normal, a₁, w₁, hq, Steps.trans harr (.one step_inScope)⟩
      | exit id => exact ⟨.exit id, a₁, w₁, hq, fun k' hk => harr k' (by simp [exitTo, hk])⟩
      | goto l' =>
        obtain ⟨rest, hf, hrest⟩ := hq
        have hg : gotoIn l' (.inScope c :: k) = some (.code rest :: .inScope c :: k) := by simp [gotoIn, hf]
        obtain ⟨e₂, a₂, w₂, hq₂, harr₂⟩ := ih rest a₁ w₁ hrest
        exact ⟨e₂, a₂, w₂, hq₂, .of_steps (harr _ hg) harr₂⟩
      | ret => exact ⟨_, a₁, w₁, hq, harr⟩
      | panic ch => exact ⟨_, a₁, w₁, hq, harr⟩
      | outgrown => exact ⟨_, a₁, w₁, hq, harr⟩
  obtain ⟨e, a₁, w₁, hq, harr⟩ := key n c a w first
  exact ⟨e, a₁, w₁, hq, .of_steps (.one step_scope) harr⟩
def keB (k : Int) : Bool := decide (1 ≤ k ∧ k ≤ 6)
set_option maxHeartbeats 400000 in
theorem isEvent_any (n : Int) (w : World) :
    Calls Tryz.prog 211 #[.int .i64 n] w fun e w' => e = .returned (.bool (keB n)) ∧ w = w' := by
  go_enter Tryz.func211, Tryz.ntmps211
  go_wp2
  all_goals go_ret
  all_goals exact ⟨ret_bool (by rw [Bool.eq_iff_iff]; simp [keB]; try omega), rfl⟩
theorem lm_0 (k : Int) : lmB 0 k = (k == 1) := by
  unfold lmB mdB lkB
  rw [decide_eq_true (by decide), Bool.true_and]
  by_cases h1 : k = 1
  · subst h1; rfl
  · rw [if_neg h1, beq_eq_false_iff_ne.2 h1]
    repeat (first | rfl | (split; rfl))
theorem lm_1 (k : Int) : lmB 1 k = ((k == 2) || (k == 3)) := by
  unfold lmB mdB lkB
  rw [decide_eq_true (by decide), Bool.true_and]
  by_cases h1 : k = 1
  · subst h1; rfl
  by_cases h2 : k = 2
  · subst h2; rfl
  by_cases h3 : k = 3
  · subst h3; rfl
  rw [if_neg h1, if_neg h2, if_neg h3, beq_eq_false_iff_ne.2 h2, beq_eq_false_iff_ne.2 h3]
  repeat (first | rfl | (split; rfl))
theorem lm_2 (k : Int) : lmB 2 k = ((k == 4) || ((k == 6) || ((k == 2) || (k == 3)))) := by
  unfold lmB mdB lkB
  rw [decide_eq_true (by decide), Bool.true_and]
  by_cases h1 : k = 1
  · subst h1; rfl
  by_cases h2 : k = 2
  · subst h2; rfl
  by_cases h3 : k = 3
  · subst h3; rfl
  by_cases h4 : k = 4
  · subst h4; rfl
  by_cases h6 : k = 6
  · subst h6; rfl
  rw [if_neg h1, if_neg h2, if_neg h3, if_neg h4, beq_eq_false_iff_ne.2 h2, beq_eq_false_iff_ne.2 h3, beq_eq_false_iff_ne.2 h4, beq_eq_false_iff_ne.2 h6, if_neg h6]
  repeat (first | rfl | (split; rfl))
theorem lm_3 (k : Int) : lmB 3 k = ((k == 5) || ((k == 6) || ((k == 2) || (k == 3)))) := by
  unfold lmB mdB lkB
  rw [decide_eq_true (by decide), Bool.true_and]
  by_cases h1 : k = 1
  · subst h1; rfl
  by_cases h2 : k = 2
  · subst h2; rfl
  by_cases h3 : k = 3
  · subst h3; rfl
  by_cases h5 : k = 5
  · subst h5; rfl
  by_cases h6 : k = 6
  · subst h6; rfl
  rw [if_neg h1, if_neg h2, if_neg h3, if_neg h5, beq_eq_false_iff_ne.2 h2, beq_eq_false_iff_ne.2 h3, beq_eq_false_iff_ne.2 h5, beq_eq_false_iff_ne.2 h6, if_neg h6]
  repeat (first | rfl | (split; rfl))
theorem lm_out (m k : Int) (h0 : m ≠ 0) (h1 : m ≠ 1) (h2 : m ≠ 2) (h3 : m ≠ 3) : lmB m k = false := by
  unfold lmB mdB
  rw [decide_eq_false (by omega)]
  rfl
set_option maxRecDepth 100000 in
set_option maxHeartbeats 8000000 in
theorem implLifeMay_w (m k : Int) (w : World) :
    Calls Tryz.prog 237 #[.int .i64 m, .int .i64 k] w fun x w' => x = .returned (.bool (lmB m k)) ∧ w = w' := by
  by_cases h0 : m = 0
  · subst h0
    rw [lm_0]
    go_enter Tryz.func237, Tryz.ntmps237; (try go_wp2_with fail); refine wp_scope_via 4 ?_; go_wp2_with fail
    (try go_step3); refine via_goto rfl ?_; go_wp2_with fail; (try go_step3); (try go_wp2_with fail)
    rw [via_ret]; go_ret
    exact ⟨rfl, rfl⟩
  by_cases h1 : m = 1
  · subst h1
    rw [lm_1]
    cases h9 : (k == 2)
    · go_enter Tryz.func237, Tryz.ntmps237; (try go_wp2_with fail); refine wp_scope_via 4 ?_; go_wp2_with fail
      (try go_step3); refine via_goto rfl ?_; go_wp2_with fail; (try go_step3); (try go_wp2_with fail)
      rw [via_ret]; go_ret
      exact ⟨rfl, rfl⟩
    · go_enter Tryz.func237, Tryz.ntmps237; (try go_wp2_with fail); refine wp_scope_via 4 ?_; go_wp2_with fail
      (try go_step3); refine via_goto rfl ?_; go_wp2_with fail; (try go_step3); (try go_wp2_with fail)
      rw [via_ret]; go_ret
      exact ⟨rfl, rfl⟩
  by_cases h2 : m = 2
  · subst h2
    rw [lm_2]
    cases h4 : (k == 4)
    · cases h6 : (k == 6)
      · cases h9 : (k == 2)
        · go_enter Tryz.func237, Tryz.ntmps237; (try go_wp2_with fail); refine wp_scope_via 4 ?_; go_wp2_with fail
          (try go_step3); refine via_goto rfl ?_; go_wp2_with fail; (try go_step3); (try go_wp2_with fail)
          (try go_step3); refine via_goto rfl ?_; go_wp2_with fail; (try go_step3); (try go_wp2_with fail)
          (try go_step3); refine via_goto rfl ?_; go_wp2_with fail; (try go_step3); (try go_wp2_with fail)
          rw [via_ret]; go_ret
          exact ⟨rfl, rfl⟩
        · go_enter Tryz.func237, Tryz.ntmps237; (try go_wp2_with fail); refine wp_scope_via 4 ?_; go_wp2_with fail
          (try go_step3); refine via_goto rfl ?_; go_wp2_with fail; (try go_step3); (try go_wp2_with fail)
          (try go_step3); refine via_goto rfl ?_; go_wp2_with fail; (try go_step3); (try go_wp2_with fail)
          (try go_step3); refine via_goto rfl ?_; go_wp2_with fail; (try go_step3); (try go_wp2_with fail)
          rw [via_ret]; go_ret
          exact ⟨rfl, rfl⟩
      · go_enter Tryz.func237, Tryz.ntmps237; (try go_wp2_with fail); refine wp_scope_via 4 ?_; go_wp2_with fail
        (try go_step3); refine via_goto rfl ?_; go_wp2_with fail; (try go_step3); (try go_wp2_with fail)
        (try go_step3); refine via_goto rfl ?_; go_wp2_with fail; (try go_step3); (try go_wp2_with fail)
        rw [via_ret]; go_ret
        exact ⟨rfl, rfl⟩
    · go_enter Tryz.func237, Tryz.ntmps237; (try go_wp2_with fail); refine wp_scope_via 4 ?_; go_wp2_with fail
      (try go_step3); refine via_goto rfl ?_; go_wp2_with fail; (try go_step3); (try go_wp2_with fail)
      rw [via_ret]; go_ret
      exact ⟨rfl, rfl⟩
  by_cases h3 : m = 3
  · subst h3
    rw [lm_3]
    cases h4 : (k == 5)
    · cases h6 : (k == 6)
      · cases h9 : (k == 2)
        · go_enter Tryz.func237, Tryz.ntmps237; (try go_wp2_with fail); refine wp_scope_via 4 ?_; go_wp2_with fail
          (try go_step3); refine via_goto rfl ?_; go_wp2_with fail; (try go_step3); (try go_wp2_with fail)
          (try go_step3); refine via_goto rfl ?_; go_wp2_with fail; (try go_step3); (try go_wp2_with fail)
          (try go_step3); refine via_goto rfl ?_; go_wp2_with fail; (try go_step3); (try go_wp2_with fail)
          rw [via_ret]; go_ret
          exact ⟨rfl, rfl⟩
        · go_enter Tryz.func237, Tryz.ntmps237; (try go_wp2_with fail); refine wp_scope_via 4 ?_; go_wp2_with fail
          (try go_step3); refine via_goto rfl ?_; go_wp2_with fail; (try go_step3); (try go_wp2_with fail)
          (try go_step3); refine via_goto rfl ?_; go_wp2_with fail; (try go_step3); (try go_wp2_with fail)
          (try go_step3); refine via_goto rfl ?_; go_wp2_with fail; (try go_step3); (try go_wp2_with fail)
          rw [via_ret]; go_ret
          exact ⟨rfl, rfl⟩
      · go_enter Tryz.func237, Tryz.ntmps237; (try go_wp2_with fail); refine wp_scope_via 4 ?_; go_wp2_with fail
        (try go_step3); refine via_goto rfl ?_; go_wp2_with fail; (try go_step3); (try go_wp2_with fail)
        (try go_step3); refine via_goto rfl ?_; go_wp2_with fail; (try go_step3); (try go_wp2_with fail)
        rw [via_ret]; go_ret
        exact ⟨rfl, rfl⟩
    · go_enter Tryz.func237, Tryz.ntmps237; (try go_wp2_with fail); refine wp_scope_via 4 ?_; go_wp2_with fail
      (try go_step3); refine via_goto rfl ?_; go_wp2_with fail; (try go_step3); (try go_wp2_with fail)
      rw [via_ret]; go_ret
      exact ⟨rfl, rfl⟩
  rw [lm_out m k h0 h1 h2 h3]
  have e0 : (m == 0) = false := beq_eq_false_iff_ne.2 h0
  have e1 : (m == 1) = false := beq_eq_false_iff_ne.2 h1
  have e2 : (m == 2) = false := beq_eq_false_iff_ne.2 h2
  have e3 : (m == 3) = false := beq_eq_false_iff_ne.2 h3
  go_enter Tryz.func237, Tryz.ntmps237; (try go_wp2_with fail); refine wp_scope_via 4 ?_; go_wp2_with fail
  rw [via_ret]; go_ret
  exact ⟨rfl, rfl⟩
def mtB (m e k : Int) : Bool := lmB m k && ((k != 1) || decide (e < 100000))
set_option maxRecDepth 100000 in
set_option maxHeartbeats 8000000 in
theorem mayTake_any (m e s k : Int) (w : World) :
    Calls Tryz.prog 212 #[.agg #[.int .i64 m, .int .i64 e, .int .i64 s], .int .i64 k] w fun x w' => x = .returned (.bool (mtB m e k)) ∧ Below w.heap.size w w' := by
  have B := Below.nw w (.cells #[.int .i64 m, .int .i64 e, .int .i64 s] 56)
  have N := Tx3.new w (.int .i64 m) (.int .i64 e) (.int .i64 s) 56
  have C1 := fun w' => implLifeMay_w m k w'
  unfold mtB
  cases h1 : lmB m k
  · go_enter Tryz.func212, Tryz.ntmps212
    go_wp2_with fail
    refine (C1 _).mono ?_
    rintro x w1 ⟨rfl, rfl⟩
    rw [h1]
    go_wp2_with fail
    go_ret
    exact ⟨rfl, B⟩
  cases h2 : (k != 1)
  · go_enter Tryz.func212, Tryz.ntmps212
    go_wp2_with fail
    refine (C1 _).mono ?_
    rintro x w1 ⟨rfl, rfl⟩
    rw [h1]
    obtain ⟨n0, n1, n2, n3, n4, n5, n6⟩ := id N
    go_wp2_with fail
    go_ret
    exact ⟨rfl, B⟩
  · go_enter Tryz.func212, Tryz.ntmps212
    go_wp2_with fail
    refine (C1 _).mono ?_
    rintro x w1 ⟨rfl, rfl⟩
    rw [h1]
    go_wp2_with fail
    go_ret
    exact ⟨rfl, B⟩
end Go.Proofs.YtfhappkeipcemaaGreat
