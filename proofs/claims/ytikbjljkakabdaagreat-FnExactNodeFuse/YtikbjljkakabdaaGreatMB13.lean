/- A life: numbers; LifeOk, LifeMay, LifeKnows, LifeSends, LifeName in th -/
import Derived.WalkMore
import Derived.ScopeJumps
import Derived.Test.YtikbjljkakabdaaGreatMB7
namespace Go.Proofs.YtikbjljkakabdaaGreat
open Go.RowKit
set_option linter.unusedVariables false
set_option maxRecDepth 100000
set_option maxHeartbeats 16000000
def mdB (m : Int) : Bool := decide (0 ≤ m ∧ m ≤ 3)
def lfB (m e s : Int) : Bool := mdB m && (epB e && okT s)
def lkB (m k : Int) : Bool := if k = 1 then (m == 0) else if k = 2 then (m != 0) else if k = 3 then (m != 0) else if k = 4 then (m == 2) else if k = 5 then (m == 3) else if k = 6 then ((m == 2) || (m == 3)) else false
def lmB (m k : Int) : Bool := mdB m && lkB m k
def knB (m e s : Int) : Bool := lfB m e s && ((m == 2) || (m == 3))
def evB (m e s k t : Int) : Bool := lfB m e s && (decide (1 ≤ k ∧ k ≤ 6) && decide (s ≤ t ∧ t ≤ 1000000000000))
def bT (m e k : Int) : Bool := lmB m k && !((k == 1) && (e == 100000))
def toM (k : Int) : Int := if k = 1 then 1 else if k = 2 then 0 else if k = 3 then 2 else if k = 5 then 2 else if k = 4 then 3 else 1
def stC (m e s k t : Int) : Int := match evB m e s k t with | true => (match bT m e k with | true => 0 | false => 2) | false => 1
def stM (m e s k t : Int) : Int := match evB m e s k t with | true => (match bT m e k with | true => toM k | false => m) | false => 0
def stE (m e s k t : Int) : Int := match evB m e s k t with | true => (match bT m e k with | true => (if k = 1 then e + 1 else e) | false => e) | false => 0
def stS (m e s k t : Int) : Int := match evB m e s k t with | true => (match bT m e k with | true => (if toM k = m then s else t) | false => s) | false => 0
theorem cE (m e s : Int) (w : World) :
 Calls Tryz.prog 120 #[.agg #[.int .i64 m, .int .i64 e, .int .i64 s]] w fun x w' => x = .returned (.bool (lfB m e s)) ∧ Below w.heap.size w w' := by
 have B := Below.nw w (.cells #[.int .i64 m, .int .i64 e, .int .i64 s] 46)
 have C1 : ∀ w', Calls Tryz.prog 113 #[.int .i64 m, .int .i64 0, .int .i64 3] w' fun e w'' => e = .returned (.bool (mdB m)) ∧ w' = w'' := fun w' => aC m 0 3 w'
 have C2 : ∀ w', Calls Tryz.prog 113 #[.int .i64 e, .int .i64 0, .int .i64 100000] w' fun e' w'' => e' = .returned (.bool (epB e)) ∧ w' = w'' := fun w' => aC e 0 100000 w'
 have C3 := fun w' => aw s w'
 cases h1 : mdB m
 ·rw [show lfB m e s = false by unfold lfB; rw [h1]; rfl]
  go_enter Tryz.func120, Tryz.ntmps120; go_wp2_with fail; refine (C1 _).mono ?_; rintro e w' ⟨rfl, rfl⟩; rw [h1]; go_wp2_with fail
  go_ret
  exact ⟨rfl, B⟩
 cases h2 : epB e
 ·rw [show lfB m e s = false by unfold lfB; rw [h1, h2]; rfl]
  go_enter Tryz.func120, Tryz.ntmps120; go_wp2_with fail; refine (C1 _).mono ?_; rintro e w' ⟨rfl, rfl⟩; rw [h1]; go_wp2_with fail
  refine (C2 _).mono ?_
  rintro e w' ⟨rfl, rfl⟩
  rw [h2]
  go_wp2_with fail
  go_ret
  exact ⟨rfl, B⟩
 rw [show lfB m e s = okT s by unfold lfB; rw [h1, h2]; rfl]
 go_enter Tryz.func120, Tryz.ntmps120; go_wp2_with fail; refine (C1 _).mono ?_; rintro e w' ⟨rfl, rfl⟩; rw [h1]; go_wp2_with fail
 refine (C2 _).mono ?_
 rintro e w' ⟨rfl, rfl⟩
 rw [h2]
 go_wp2_with fail
 refine (C3 _).mono ?_
 rintro e w' ⟨rfl, rfl⟩
 go_wp2_with fail
 go_ret
 exact ⟨rfl, B⟩
theorem fi (m k : Int) (w : World) :
 Calls Tryz.prog 121 #[.int .i64 m, .int .i64 k] w fun x w' => x = .returned (.bool (lmB m k)) ∧ w = w' := by
 have C1 : ∀ w', Calls Tryz.prog 113 #[.int .i64 m, .int .i64 0, .int .i64 3] w' fun e w'' => e = .returned (.bool (mdB m)) ∧ w' = w'' := fun w' => aC m 0 3 w'
 cases h1 : mdB m
 ·rw [show lmB m k = false by unfold lmB; rw [h1]; rfl]
  go_enter Tryz.func121, Tryz.ntmps121
  go_wp2_with fail
  refine (C1 _).mono ?_
  rintro e w' ⟨rfl, rfl⟩
  rw [h1]
  go_wp2_with fail
  go_ret
  exact ⟨rfl, rfl⟩
 rw [show lmB m k = lkB m k by unfold lmB; rw [h1]; rfl]
 unfold lkB
 by_cases h2 : k = 1
 ·subst h2
  rw [if_pos rfl]
  go_enter Tryz.func121, Tryz.ntmps121
  go_wp2_with fail
  refine (C1 _).mono ?_
  rintro e w' ⟨rfl, rfl⟩
  rw [h1]
  go_wp2_with fail
  go_ret
  exact ⟨by first | rfl | simp, rfl⟩
 have e1 : (k == 1) = false := beq_eq_false_iff_ne.2 h2
 by_cases h3 : k = 2
 ·subst h3
  simp only [reduceIte, Int.reduceEq]
  go_enter Tryz.func121, Tryz.ntmps121
  go_wp2_with fail
  refine (C1 _).mono ?_
  rintro e w' ⟨rfl, rfl⟩
  rw [h1]
  go_wp2_with fail
  go_ret
  exact ⟨by first | rfl | simp, rfl⟩
 have e2 : (k == 2) = false := beq_eq_false_iff_ne.2 h3
 by_cases h4 : k = 3
 ·subst h4
  simp only [reduceIte, Int.reduceEq]
  go_enter Tryz.func121, Tryz.ntmps121
  go_wp2_with fail
  refine (C1 _).mono ?_
  rintro e w' ⟨rfl, rfl⟩
  rw [h1]
  go_wp2_with fail
  go_ret
  exact ⟨by first | rfl | simp, rfl⟩
 have e3 : (k == 3) = false := beq_eq_false_iff_ne.2 h4
 by_cases h5 : k = 4
 ·subst h5
  simp only [reduceIte, Int.reduceEq]
  go_enter Tryz.func121, Tryz.ntmps121
  go_wp2_with fail
  refine (C1 _).mono ?_
  rintro e w' ⟨rfl, rfl⟩
  rw [h1]
  go_wp2_with fail
  go_ret
  exact ⟨by first | rfl | simp, rfl⟩
 have e4 : (k == 4) = false := beq_eq_false_iff_ne.2 h5
 by_cases h6 : k = 5
 ·subst h6
  simp only [reduceIte, Int.reduceEq]
  go_enter Tryz.func121, Tryz.ntmps121
  go_wp2_with fail
  refine (C1 _).mono ?_
  rintro e w' ⟨rfl, rfl⟩
  rw [h1]
  go_wp2_with fail
  go_ret
  exact ⟨by first | rfl | simp, rfl⟩
 have e5 : (k == 5) = false := beq_eq_false_iff_ne.2 h6
 by_cases h7 : k = 6
 ·subst h7
  simp only [reduceIte, Int.reduceEq]
  go_enter Tryz.func121, Tryz.ntmps121
  go_wp2_with fail
  refine (C1 _).mono ?_
  rintro e w' ⟨rfl, rfl⟩
  rw [h1]
  cases h9 : (m == 2)
  ·go_wp2_with fail
   go_ret
   exact ⟨by first | rfl | simp [h9], rfl⟩
  ·go_wp2_with fail
   go_ret
   exact ⟨by first | rfl | simp [h9], rfl⟩
 have e6 : (k == 6) = false := beq_eq_false_iff_ne.2 h7
 rw [if_neg h2, if_neg h3, if_neg h4, if_neg h5, if_neg h6, if_neg h7]
 go_enter Tryz.func121, Tryz.ntmps121
 go_wp2_with fail
 refine (C1 _).mono ?_
 rintro e w' ⟨rfl, rfl⟩
 rw [h1]
 go_wp2_with fail
 go_ret
 exact ⟨rfl, rfl⟩
theorem ef (m e s : Int) (w : World) :
 Calls Tryz.prog 154 #[.agg #[.int .i64 m, .int .i64 e, .int .i64 s]] w fun x w' => x = .returned (.bool (knB m e s)) ∧ Below w.heap.size w w' := by
 have B := Below.nw w (.cells #[.int .i64 m, .int .i64 e, .int .i64 s] 46)
 have N := Tx3.new w (.int .i64 m) (.int .i64 e) (.int .i64 s) 46
 have C1 := fun w' => cE m e s w'
 unfold knB
 cases h1 : lfB m e s
 ·rw [Bool.false_and]
  go_enter Tryz.func154, Tryz.ntmps154
  go_wp2_with fail
  refine (C1 _).mono ?_
  rintro x w1 ⟨rfl, hb⟩
  rw [h1]
  replace B := B.trans (hb.mono B.size)
  go_wp2_with fail
  go_ret
  exact ⟨rfl, B⟩
 rw [Bool.true_and]
 go_enter Tryz.func154, Tryz.ntmps154
 go_wp2_with fail
 refine (C1 _).mono ?_
 rintro x w1 ⟨rfl, hb⟩
 rw [h1]
 replace B := B.trans (hb.mono B.size)
 replace N := N.below hb
 clear hb C1
 have n0 : _ ∧ _ := N
 cases h2 : (m == 2)
 ·go_wp2_with fail
  go_ret
  exact ⟨by first | rfl | simp [h2], B⟩
 ·go_wp2_with fail
  go_ret
  exact ⟨by first | rfl | simp [h2], B⟩
def Exit.via (P : Program) (c : Code) (Q : Exit → Act → World → Prop) : Nat → Exit → Act → World → Prop
 | _, .normal, a, w => Q .normal a w
 | _, .exit id, a, w => Q (.exit id) a w
 | 0, .goto l, a, w => False
 | n + 1, .goto l, a, w => ∃ rest, findLabel c l = some rest ∧ rest.wp P (Exit.via P c Q n) a w
 | _, .ret, a, w => Q .ret a w
 | _, .panic ch, a, w => Q (.panic ch) a w
 | _, .outgrown, a, w => Q .outgrown a w
theorem bH {P : Program} {c : Code} {Q : Exit → Act → World → Prop} (n : Nat) (a : Act) (w : World) : Exit.via P c Q n .ret a w = Q .ret a w := by cases n <;> rfl
theorem aQ {P : Program} {c rest : Code} {Q : Exit → Act → World → Prop} {n l : Nat} {a : Act} {w : World} (h : findLabel c l = some rest) (hr : rest.wp P (Exit.via P c Q n) a w) : Exit.via P c Q (n + 1) (.goto l) a w := ⟨rest, h, hr⟩
theorem aS {P : Program} {a : Act} {w : World} {Q : Exit → Act → World → Prop} {c : Code} (n : Nat) (first : c.wp P (Exit.via P c Q n) a w) : (Code.scope c).wp P Q a w := by
 intro b k cs
 have key : ∀ (n : Nat) (r : Code) (a : Act) (w : World), r.wp P (Exit.via P c Q n) a w → ∃ e a' w', Q e a' w' ∧ Arrives P (lone (b.at a (.code r :: .inScope c :: k)) cs w) b k cs e a' w' := by
  intro n
  induction n with
  | zero =>
   intro r a w hr
   obtain ⟨e, a₁, w₁, hq, harr⟩ := hr b (.inScope c :: k) cs
   cases e with
   | normal => exact ⟨.normal, a₁, w₁, hq, Steps.trans harr (.one step_inScope)⟩
   | exit id => exact ⟨.exit id, a₁, w₁, hq, fun k' hk => harr k' (by simp [exitTo, hk])⟩
   | goto l' => exact hq.elim
   | ret => exact ⟨_, a₁, w₁, hq, harr⟩
   | panic ch => exact ⟨_, a₁, w₁, hq, harr⟩
   | outgrown => exact ⟨_, a₁, w₁, hq, harr⟩
  | succ n ih =>
   intro r a w hr
   obtain ⟨e, a₁, w₁, hq, harr⟩ := hr b (.inScope c :: k) cs
   cases e with
   | normal => exact ⟨.normal, a₁, w₁, hq, Steps.trans harr (.one step_inScope)⟩
   | exit id => exact ⟨.exit id, a₁, w₁, hq, fun k' hk => harr k' (by simp [exitTo, hk])⟩
   | goto l' =>
    obtain ⟨rest, hf, hrest⟩ := hq
    have hg : gotoIn l' (.inScope c :: k) = some (.code rest :: .inScope c :: k) := by simp [gotoIn, hf]
    obtain ⟨e₂, a₂, w₂, hq₂, harr₂⟩ := ih rest a₁ w₁ hrest
    exact ⟨e₂, a₂, w₂, hq₂, .of_steps (harr _ hg) harr₂⟩
   | ret => exact ⟨_, a₁, w₁, hq, harr⟩
   | panic ch => exact ⟨_, a₁, w₁, hq, harr⟩
   | outgrown => exact ⟨_, a₁, w₁, hq, harr⟩
 obtain ⟨e, a₁, w₁, hq, harr⟩ := key n c a w first
 exact ⟨e, a₁, w₁, hq, .of_steps (.one step_scope) harr⟩
theorem my (n : Int) (w : World) :
 Calls Tryz.prog 198 #[.int .i64 n] w fun e w' => e = .returned (.bool (mdB n)) ∧ w = w' := by
 go_enter Tryz.func198, Tryz.ntmps198
 go_wp2
 all_goals go_ret
 all_goals exact ⟨ab (by rw [Bool.eq_iff_iff]; simp [mdB]; try omega), rfl⟩
theorem gN (n : Int) (w : World) :
 Calls Tryz.prog 199 #[.int .i64 n] w fun e w' => e = .returned (.bool (epB n)) ∧ w = w' := by
 go_enter Tryz.func199, Tryz.ntmps199
 go_wp2
 all_goals go_ret
 all_goals exact ⟨ab (by rw [Bool.eq_iff_iff]; simp [epB]; try omega), rfl⟩
def keB (k : Int) : Bool := decide (1 ≤ k ∧ k ≤ 6)
theorem kN (n : Int) (w : World) :
 Calls Tryz.prog 174 #[.int .i64 n] w fun e w' => e = .returned (.bool (keB n)) ∧ w = w' := by
 go_enter Tryz.func174, Tryz.ntmps174
 go_wp2
 all_goals go_ret
 all_goals exact ⟨ab (by rw [Bool.eq_iff_iff]; simp [keB]; try omega), rfl⟩
theorem dP (m e s : Int) (w : World) :
 Calls Tryz.prog 173 #[.agg #[.int .i64 m, .int .i64 e, .int .i64 s]] w fun x w' => x = .returned (.bool (lfB m e s)) ∧ Below w.heap.size w w' := by
 have B := Below.nw w (.cells #[.int .i64 m, .int .i64 e, .int .i64 s] 46)
 have C1 := fun w' => my m w'
 have C2 := fun w' => gN e w'
 have C3 := fun w' => aD s w'
 cases h1 : mdB m
 ·rw [show lfB m e s = false by unfold lfB; rw [h1]; rfl]
  go_enter Tryz.func173, Tryz.ntmps173; go_wp2_with fail; refine (C1 _).mono ?_; rintro e w' ⟨rfl, rfl⟩; rw [h1]; go_wp2_with fail
  go_ret
  exact ⟨rfl, B⟩
 cases h2 : epB e
 ·rw [show lfB m e s = false by unfold lfB; rw [h1, h2]; rfl]
  go_enter Tryz.func173, Tryz.ntmps173; go_wp2_with fail; refine (C1 _).mono ?_; rintro e w' ⟨rfl, rfl⟩; rw [h1]; go_wp2_with fail
  refine (C2 _).mono ?_
  rintro e w' ⟨rfl, rfl⟩
  rw [h2]
  go_wp2_with fail
  go_ret
  exact ⟨rfl, B⟩
 rw [show lfB m e s = okT s by unfold lfB; rw [h1, h2]; rfl]
 go_enter Tryz.func173, Tryz.ntmps173; go_wp2_with fail; refine (C1 _).mono ?_; rintro e w' ⟨rfl, rfl⟩; rw [h1]; go_wp2_with fail
 refine (C2 _).mono ?_
 rintro e w' ⟨rfl, rfl⟩
 rw [h2]
 go_wp2_with fail
 refine (C3 _).mono ?_
 rintro e w' ⟨rfl, rfl⟩
 go_wp2_with fail
 go_ret
 exact ⟨rfl, B⟩
theorem dY (m e s : Int) (w : World) :
 Calls Tryz.prog 162 #[.agg #[.int .i64 m, .int .i64 e, .int .i64 s]] w fun x w' => x = .returned (.bool (knB m e s)) ∧ Below w.heap.size w w' := by
 have B := Below.nw w (.cells #[.int .i64 m, .int .i64 e, .int .i64 s] 46)
 have N := Tx3.new w (.int .i64 m) (.int .i64 e) (.int .i64 s) 46
 have C1 := fun w' => dP m e s w'
 unfold knB
 cases h1 : lfB m e s
 ·rw [Bool.false_and]
  go_enter Tryz.func162, Tryz.ntmps162
  go_wp2_with fail
  refine (C1 _).mono ?_
  rintro x w1 ⟨rfl, hb⟩
  rw [h1]
  replace B := B.trans (hb.mono B.size)
  go_wp2_with fail
  go_ret
  exact ⟨rfl, B⟩
 rw [Bool.true_and]
 go_enter Tryz.func162, Tryz.ntmps162
 go_wp2_with fail
 refine (C1 _).mono ?_
 rintro x w1 ⟨rfl, hb⟩
 rw [h1]
 replace B := B.trans (hb.mono B.size)
 replace N := N.below hb
 clear hb C1
 have n0 : _ ∧ _ := N
 cases h2 : (m == 2)
 ·go_wp2_with fail
  go_ret
  exact ⟨by first | rfl | simp [h2], B⟩
 ·go_wp2_with fail
  go_ret
  exact ⟨by first | rfl | simp [h2], B⟩
theorem lm_0 (k : Int) : lmB 0 k = (k == 1) := by
 unfold lmB mdB lkB
 rw [decide_eq_true (by decide), Bool.true_and]
 by_cases h1 : k = 1
 ·subst h1; rfl
 ·rw [if_neg h1, beq_eq_false_iff_ne.2 h1]
  repeat (first | rfl | (split; rfl))
theorem lm_1 (k : Int) : lmB 1 k = ((k == 2) || (k == 3)) := by
 unfold lmB mdB lkB
 rw [decide_eq_true (by decide), Bool.true_and]
 by_cases h1 : k = 1
 ·subst h1; rfl
 by_cases h2 : k = 2
 ·subst h2; rfl
 by_cases h3 : k = 3
 ·subst h3; rfl
 rw [if_neg h1, if_neg h2, if_neg h3, beq_eq_false_iff_ne.2 h2, beq_eq_false_iff_ne.2 h3]
 repeat (first | rfl | (split; rfl))
theorem lm_2 (k : Int) : lmB 2 k = ((k == 4) || ((k == 6) || ((k == 2) || (k == 3)))) := by
 unfold lmB mdB lkB
 rw [decide_eq_true (by decide), Bool.true_and]
 by_cases h1 : k = 1
 ·subst h1; rfl
 by_cases h2 : k = 2
 ·subst h2; rfl
 by_cases h3 : k = 3
 ·subst h3; rfl
 by_cases h4 : k = 4
 ·subst h4; rfl
 by_cases h6 : k = 6
 ·subst h6; rfl
 rw [if_neg h1, if_neg h2, if_neg h3, if_neg h4, beq_eq_false_iff_ne.2 h2, beq_eq_false_iff_ne.2 h3, beq_eq_false_iff_ne.2 h4, beq_eq_false_iff_ne.2 h6, if_neg h6]
 repeat (first | rfl | (split; rfl))
theorem lm_3 (k : Int) : lmB 3 k = ((k == 5) || ((k == 6) || ((k == 2) || (k == 3)))) := by
 unfold lmB mdB lkB
 rw [decide_eq_true (by decide), Bool.true_and]
 by_cases h1 : k = 1
 ·subst h1; rfl
 by_cases h2 : k = 2
 ·subst h2; rfl
 by_cases h3 : k = 3
 ·subst h3; rfl
 by_cases h5 : k = 5
 ·subst h5; rfl
 by_cases h6 : k = 6
 ·subst h6; rfl
 rw [if_neg h1, if_neg h2, if_neg h3, if_neg h5, beq_eq_false_iff_ne.2 h2, beq_eq_false_iff_ne.2 h3, beq_eq_false_iff_ne.2 h5, beq_eq_false_iff_ne.2 h6, if_neg h6]
 repeat (first | rfl | (split; rfl))
theorem sn (m k : Int) (h0 : m ≠ 0) (h1 : m ≠ 1) (h2 : m ≠ 2) (h3 : m ≠ 3) : lmB m k = false := by
 unfold lmB mdB
 rw [decide_eq_false (by omega)]
 rfl
theorem gM (m k : Int) (w : World) :
 Calls Tryz.prog 200 #[.int .i64 m, .int .i64 k] w fun x w' => x = .returned (.bool (lmB m k)) ∧ w = w' := by
 by_cases h0 : m = 0
 ·subst h0
  rw [lm_0]
  go_enter Tryz.func200, Tryz.ntmps200; (try go_wp2_with fail); refine aS 4 ?_; go_wp2_with fail
  (try go_step3); refine aQ rfl ?_; go_wp2_with fail; (try go_step3); (try go_wp2_with fail)
  rw [bH]; go_ret
  exact ⟨rfl, rfl⟩
 by_cases h1 : m = 1
 ·subst h1
  rw [lm_1]
  cases h9 : (k == 2)
  ·go_enter Tryz.func200, Tryz.ntmps200; (try go_wp2_with fail); refine aS 4 ?_; go_wp2_with fail
   (try go_step3); refine aQ rfl ?_; go_wp2_with fail; (try go_step3); (try go_wp2_with fail)
   rw [bH]; go_ret
   exact ⟨rfl, rfl⟩
  ·go_enter Tryz.func200, Tryz.ntmps200; (try go_wp2_with fail); refine aS 4 ?_; go_wp2_with fail
   (try go_step3); refine aQ rfl ?_; go_wp2_with fail; (try go_step3); (try go_wp2_with fail)
   rw [bH]; go_ret
   exact ⟨rfl, rfl⟩
 by_cases h2 : m = 2
 ·subst h2
  rw [lm_2]
  cases h4 : (k == 4)
  ·cases h6 : (k == 6)
   ·cases h9 : (k == 2)
    ·go_enter Tryz.func200, Tryz.ntmps200; (try go_wp2_with fail); refine aS 4 ?_; go_wp2_with fail
     (try go_step3); refine aQ rfl ?_; go_wp2_with fail; (try go_step3); (try go_wp2_with fail)
     (try go_step3); refine aQ rfl ?_; go_wp2_with fail; (try go_step3); (try go_wp2_with fail)
     (try go_step3); refine aQ rfl ?_; go_wp2_with fail; (try go_step3); (try go_wp2_with fail)
     rw [bH]; go_ret
     exact ⟨rfl, rfl⟩
    ·go_enter Tryz.func200, Tryz.ntmps200; (try go_wp2_with fail); refine aS 4 ?_; go_wp2_with fail
     (try go_step3); refine aQ rfl ?_; go_wp2_with fail; (try go_step3); (try go_wp2_with fail)
     (try go_step3); refine aQ rfl ?_; go_wp2_with fail; (try go_step3); (try go_wp2_with fail)
     (try go_step3); refine aQ rfl ?_; go_wp2_with fail; (try go_step3); (try go_wp2_with fail)
     rw [bH]; go_ret
     exact ⟨rfl, rfl⟩
   ·go_enter Tryz.func200, Tryz.ntmps200; (try go_wp2_with fail); refine aS 4 ?_; go_wp2_with fail
    (try go_step3); refine aQ rfl ?_; go_wp2_with fail; (try go_step3); (try go_wp2_with fail)
    (try go_step3); refine aQ rfl ?_; go_wp2_with fail; (try go_step3); (try go_wp2_with fail)
    rw [bH]; go_ret
    exact ⟨rfl, rfl⟩
  ·go_enter Tryz.func200, Tryz.ntmps200; (try go_wp2_with fail); refine aS 4 ?_; go_wp2_with fail
   (try go_step3); refine aQ rfl ?_; go_wp2_with fail; (try go_step3); (try go_wp2_with fail)
   rw [bH]; go_ret
   exact ⟨rfl, rfl⟩
 by_cases h3 : m = 3
 ·subst h3
  rw [lm_3]
  cases h4 : (k == 5)
  ·cases h6 : (k == 6)
   ·cases h9 : (k == 2)
    ·go_enter Tryz.func200, Tryz.ntmps200; (try go_wp2_with fail); refine aS 4 ?_; go_wp2_with fail
     (try go_step3); refine aQ rfl ?_; go_wp2_with fail; (try go_step3); (try go_wp2_with fail)
     (try go_step3); refine aQ rfl ?_; go_wp2_with fail; (try go_step3); (try go_wp2_with fail)
     (try go_step3); refine aQ rfl ?_; go_wp2_with fail; (try go_step3); (try go_wp2_with fail)
     rw [bH]; go_ret
     exact ⟨rfl, rfl⟩
    ·go_enter Tryz.func200, Tryz.ntmps200; (try go_wp2_with fail); refine aS 4 ?_; go_wp2_with fail
     (try go_step3); refine aQ rfl ?_; go_wp2_with fail; (try go_step3); (try go_wp2_with fail)
     (try go_step3); refine aQ rfl ?_; go_wp2_with fail; (try go_step3); (try go_wp2_with fail)
     (try go_step3); refine aQ rfl ?_; go_wp2_with fail; (try go_step3); (try go_wp2_with fail)
     rw [bH]; go_ret
     exact ⟨rfl, rfl⟩
   ·go_enter Tryz.func200, Tryz.ntmps200; (try go_wp2_with fail); refine aS 4 ?_; go_wp2_with fail
    (try go_step3); refine aQ rfl ?_; go_wp2_with fail; (try go_step3); (try go_wp2_with fail)
    (try go_step3); refine aQ rfl ?_; go_wp2_with fail; (try go_step3); (try go_wp2_with fail)
    rw [bH]; go_ret
    exact ⟨rfl, rfl⟩
  ·go_enter Tryz.func200, Tryz.ntmps200; (try go_wp2_with fail); refine aS 4 ?_; go_wp2_with fail
   (try go_step3); refine aQ rfl ?_; go_wp2_with fail; (try go_step3); (try go_wp2_with fail)
   rw [bH]; go_ret
   exact ⟨rfl, rfl⟩
 rw [sn m k h0 h1 h2 h3]
 have e0 : (m == 0) = false := beq_eq_false_iff_ne.2 h0
 have e1 : (m == 1) = false := beq_eq_false_iff_ne.2 h1
 have e2 : (m == 2) = false := beq_eq_false_iff_ne.2 h2
 have e3 : (m == 3) = false := beq_eq_false_iff_ne.2 h3
 go_enter Tryz.func200, Tryz.ntmps200; (try go_wp2_with fail); refine aS 4 ?_; go_wp2_with fail
 rw [bH]; go_ret
 exact ⟨rfl, rfl⟩
def mtB (m e k : Int) : Bool := lmB m k && ((k != 1) || decide (e < 100000))
theorem kZ (m e s k : Int) (w : World) :
 Calls Tryz.prog 175 #[.agg #[.int .i64 m, .int .i64 e, .int .i64 s], .int .i64 k] w fun x w' => x = .returned (.bool (mtB m e k)) ∧ Below w.heap.size w w' := by
 have B := Below.nw w (.cells #[.int .i64 m, .int .i64 e, .int .i64 s] 46)
 have N := Tx3.new w (.int .i64 m) (.int .i64 e) (.int .i64 s) 46
 have C1 := fun w' => gM m k w'
 unfold mtB
 cases h1 : lmB m k
 ·go_enter Tryz.func175, Tryz.ntmps175
  go_wp2_with fail
  refine (C1 _).mono ?_
  rintro x w1 ⟨rfl, rfl⟩
  rw [h1]
  go_wp2_with fail
  go_ret
  exact ⟨rfl, B⟩
 cases h2 : (k != 1)
 ·go_enter Tryz.func175, Tryz.ntmps175
  go_wp2_with fail
  refine (C1 _).mono ?_
  rintro x w1 ⟨rfl, rfl⟩
  rw [h1]
  have n0 : _ ∧ _ := N
  go_wp2_with fail
  go_ret
  exact ⟨rfl, B⟩
 ·go_enter Tryz.func175, Tryz.ntmps175
  go_wp2_with fail
  refine (C1 _).mono ?_
  rintro x w1 ⟨rfl, rfl⟩
  rw [h1]
  go_wp2_with fail
  go_ret
  exact ⟨rfl, B⟩
end Go.Proofs.YtikbjljkakabdaaGreat
