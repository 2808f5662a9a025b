/- The program: a clock reads. The program: AppOk, AppLag, AppRead. -/
import Derived.Laws.EntriesVeiled
import Derived.Test.YtiecdkmnjdpgfaaGreatM0
import Derived.Test.YtiecdkmnjdpgfaaGreatM11
namespace Go.Proofs.YtiecdkmnjdpgfaaGreat
open Go.RowKit
set_option linter.unusedVariables false
theorem But.setJ {p j : Nat} {w wr : World} (h : But p w wr) (hj : w.heap.size ≤ j) (o : Nat) (x : Value) : But p w (wr.setCell ⟨j, o, none⟩ x) := by
  obtain ⟨h1, h2, h3, h4, h5⟩ := h
  refine ⟨h1, h2, h3, by simpa using h4, fun k hk hp => ?_⟩
  rw [Below.heap_setCell _ _ _ _ (show k ≠ j by omega)]
  exact h5 k hk hp

set_option maxRecDepth 100000 in
set_option maxHeartbeats 16000000 in
theorem read_mid (j : Nat) (h : Bool) (l : Int)  (k : Bool) (lo hi : Int) (w : World) (H : Tx3 w j (.bool h) (.int .i64 l) (.func (.func 171) #[] #[])) :
    Calls Tryz.prog 172 #[.pointer (some ⟨j, 0, none⟩), .agg #[.bool k, .int .i64 lo, .int .i64 hi]] w fun e w' => e = .returned (.agg #[.int .i64 (gdX h l k lo hi (midI lo hi)), .bool (arD h l k lo hi), .int .i64 (arC h l k lo hi)]) ∧ Tx3 w' j (.bool (gdS h l k lo hi (midI lo hi)).1) (.int .i64 (gdS h l k lo hi (midI lo hi)).2) (.func (.func 171) #[] #[]) ∧ But j w w' := by
  have A0 := Below.nw w (.cells #[.bool k, .int .i64 lo, .int .i64 hi] 242)
  have A1 := Below.nw (w.alloc (.cells #[.bool k, .int .i64 lo, .int .i64 hi] 242)) (.cells #[.int .i64 0, .bool false, .int .i64 0] 239)
  have hjlt := H.1
  have Q := (Tx3.new w (.bool k) (.int .i64 lo) (.int .i64 hi) 242).below A1
  have R := Tx3.new (w.alloc (.cells #[.bool k, .int .i64 lo, .int .i64 hi] 242)) (.int .i64 0) (.bool false) (.int .i64 0) 239
  replace H := (H.below A0).below A1
  have B : But j w ((w.alloc (.cells #[.bool k, .int .i64 lo, .int .i64 hi] 242)).alloc (.cells #[.int .i64 0, .bool false, .int .i64 0] 239)) := But.of_below (A0.trans (A1.mono A0.size))
  simp only [World.size_alloc] at R
  clear A0 A1
  have hjr : w.heap.size ≤ w.heap.size + 1 := by omega
  have hjj : j ≠ w.heap.size + 1 := by omega
  have hjl : j ≠ w.heap.size := by omega
  have dlr : w.heap.size ≠ w.heap.size + 1 := by omega
  clear hjlt
  cases h1 : apB h l
  · have eb : arBad h l k lo hi = true := by rw [arBad, h1]; rfl
    obtain ⟨e1, e2, e3, e4, e5⟩ := ar_eqs eb
    obtain ⟨g1, g2⟩ := gd_bad (m := midI lo hi) eb
    rw [g1, g2, e4, e5]
    clear e1 e2 e3 e4 e5 eb g1 g2
    go_enter Tryz.func172, Tryz.ntmps172
    go_upto_region 1 with fail
    generalize (w.alloc (.cells #[.bool k, .int .i64 lo, .int .i64 hi] 242)).alloc (.cells #[.int .i64 0, .bool false, .int .i64 0] 239) = v at *
    generalize w.heap.size + 1 = jr at *
    obtain ⟨a0, a1, a2, a3, a4, a5, a6⟩ := id H
    go_wp2_with fail
    refine (appok_any h l _).mono ?_
    rintro e v2 ⟨rfl, hbl⟩
    rw [h1]
    clear a0 a1 a2 a3 a4 a5 a6
    replace H := H.below hbl
    replace Q := Q.below hbl
    replace R := R.below hbl
    replace B := B.trans (But.of_below hbl)
    clear hbl
    have RR := ((R.set0 (.int .i64 0)).set1 (.bool false)).set2 (.int .i64 1)
    have BB := ((B.setJ hjr 0 (.int .i64 0)).setJ hjr 1 (.bool false)).setJ hjr 2 (.int .i64 1)
    have HH := ((H.setO hjj.symm 0 (.int .i64 0)).setO hjj.symm 1 (.bool false)).setO hjj.symm 2 (.int .i64 1)
    obtain ⟨r0, r1, r2, r3, r4, r5, r6⟩ := id R
    go_wp2_with fail
    clear r0 r1 r2 r3 r4 r5 r6
    generalize ((v2.setCell ⟨jr, 0, none⟩ (.int .i64 0)).setCell ⟨jr, 1, none⟩ (.bool false)).setCell ⟨jr, 2, none⟩ (.int .i64 1) = vz at *
    obtain ⟨r0, r1, r2, r3, r4, r5, r6⟩ := id RR
    exact bodyPost_ret (v := (.agg #[.int .i64 0, .bool false, .int .i64 1])) (by simp (maxDischargeDepth := 6) [results, Tryz.results172, go_sem, *]) rfl ⟨rfl, HH, BB⟩
  cases h2 : (!k || okI lo hi)
  · have eb : arBad h l k lo hi = true := by rw [arBad, h1]; cases k <;> simp at h2 ⊢; exact h2
    obtain ⟨e1, e2, e3, e4, e5⟩ := ar_eqs eb
    obtain ⟨g1, g2⟩ := gd_bad (m := midI lo hi) eb
    rw [g1, g2, e4, e5]
    clear e1 e2 e3 e4 e5 eb g1 g2
    go_enter Tryz.func172, Tryz.ntmps172
    go_upto_region 1 with fail
    generalize (w.alloc (.cells #[.bool k, .int .i64 lo, .int .i64 hi] 242)).alloc (.cells #[.int .i64 0, .bool false, .int .i64 0] 239) = v at *
    generalize w.heap.size + 1 = jr at *
    obtain ⟨a0, a1, a2, a3, a4, a5, a6⟩ := id H
    go_wp2_with fail
    refine (appok_any h l _).mono ?_
    rintro e v2 ⟨rfl, hbl⟩
    rw [h1]
    clear a0 a1 a2 a3 a4 a5 a6
    replace H := H.below hbl
    replace Q := Q.below hbl
    replace R := R.below hbl
    replace B := B.trans (But.of_below hbl)
    clear hbl
    obtain ⟨q0, q1, q2, q3, q4, q5, q6⟩ := id Q
    go_wp2_with fail
    refine (lookok_any k lo hi _).mono ?_
    rintro e v3 ⟨rfl, hbl⟩
    rw [h2]
    clear q0 q1 q2 q3 q4 q5 q6
    replace H := H.below hbl
    replace Q := Q.below hbl
    replace R := R.below hbl
    replace B := B.trans (But.of_below hbl)
    clear hbl
    have RR := ((R.set0 (.int .i64 0)).set1 (.bool false)).set2 (.int .i64 1)
    have BB := ((B.setJ hjr 0 (.int .i64 0)).setJ hjr 1 (.bool false)).setJ hjr 2 (.int .i64 1)
    have HH := ((H.setO hjj.symm 0 (.int .i64 0)).setO hjj.symm 1 (.bool false)).setO hjj.symm 2 (.int .i64 1)
    obtain ⟨r0, r1, r2, r3, r4, r5, r6⟩ := id R
    go_wp2_with fail
    clear r0 r1 r2 r3 r4 r5 r6
    generalize ((v3.setCell ⟨jr, 0, none⟩ (.int .i64 0)).setCell ⟨jr, 1, none⟩ (.bool false)).setCell ⟨jr, 2, none⟩ (.int .i64 1) = vz at *
    obtain ⟨r0, r1, r2, r3, r4, r5, r6⟩ := id RR
    exact bodyPost_ret (v := (.agg #[.int .i64 0, .bool false, .int .i64 1])) (by simp (maxDischargeDepth := 6) [results, Tryz.results172, go_sem, *]) rfl ⟨rfl, HH, BB⟩
  cases k
  · have eb : arBad h l false lo hi = false := by rw [arBad, h1]; rfl
    cases h
    · obtain ⟨e1, e2, e3, e4, e5⟩ := ar_no eb
      obtain ⟨g1, g2⟩ := gd_no (m := midI lo hi) eb
      rw [g1, g2, e4, e5]
      clear e1 e2 e3 e4 e5 eb g1 g2
      go_enter Tryz.func172, Tryz.ntmps172
      go_upto_region 1 with fail
      generalize (w.alloc (.cells #[.bool false, .int .i64 lo, .int .i64 hi] 242)).alloc (.cells #[.int .i64 0, .bool false, .int .i64 0] 239) = v at *
      generalize w.heap.size + 1 = jr at *
      obtain ⟨a0, a1, a2, a3, a4, a5, a6⟩ := id H
      go_wp2_with fail
      refine (appok_any false l _).mono ?_
      rintro e v2 ⟨rfl, hbl⟩
      rw [h1]
      clear a0 a1 a2 a3 a4 a5 a6
      replace H := H.below hbl
      replace Q := Q.below hbl
      replace R := R.below hbl
      replace B := B.trans (But.of_below hbl)
      clear hbl
      obtain ⟨q0, q1, q2, q3, q4, q5, q6⟩ := id Q
      go_wp2_with fail
      refine (lookok_any false lo hi _).mono ?_
      rintro e v3 ⟨rfl, hbl⟩
      rw [h2]
      clear q0 q1 q2 q3 q4 q5 q6
      replace H := H.below hbl
      replace Q := Q.below hbl
      replace R := R.below hbl
      replace B := B.trans (But.of_below hbl)
      clear hbl
      have RR := ((R.set0 (.int .i64 0)).set1 (.bool false)).set2 (.int .i64 2)
      have BB := ((B.setJ hjr 0 (.int .i64 0)).setJ hjr 1 (.bool false)).setJ hjr 2 (.int .i64 2)
      have HH := ((H.setO hjj.symm 0 (.int .i64 0)).setO hjj.symm 1 (.bool false)).setO hjj.symm 2 (.int .i64 2)
      obtain ⟨a0, a1, a2, a3, a4, a5, a6⟩ := id H
      obtain ⟨q0, q1, q2, q3, q4, q5, q6⟩ := id Q
      obtain ⟨r0, r1, r2, r3, r4, r5, r6⟩ := id R
      go_wp2_with fail
      clear a0 a1 a2 a3 a4 a5 a6
      clear q0 q1 q2 q3 q4 q5 q6
      clear r0 r1 r2 r3 r4 r5 r6
      generalize ((v3.setCell ⟨jr, 0, none⟩ (.int .i64 0)).setCell ⟨jr, 1, none⟩ (.bool false)).setCell ⟨jr, 2, none⟩ (.int .i64 2) = vz at *
      obtain ⟨r0, r1, r2, r3, r4, r5, r6⟩ := id RR
      exact bodyPost_ret (v := (.agg #[.int .i64 0, .bool false, .int .i64 2])) (by simp (maxDischargeDepth := 6) [results, Tryz.results172, go_sem, *]) rfl ⟨rfl, HH, BB⟩
    · obtain ⟨e1, e2, e3, e4, e5⟩ := ar_old eb
      obtain ⟨g1, g2⟩ := gd_old (m := midI lo hi) eb
      rw [g1, g2, e4, e5]
      clear e1 e2 e3 e4 e5 eb g1 g2
      go_enter Tryz.func172, Tryz.ntmps172
      go_upto_region 1 with fail
      generalize (w.alloc (.cells #[.bool false, .int .i64 lo, .int .i64 hi] 242)).alloc (.cells #[.int .i64 0, .bool false, .int .i64 0] 239) = v at *
      generalize w.heap.size + 1 = jr at *
      obtain ⟨a0, a1, a2, a3, a4, a5, a6⟩ := id H
      go_wp2_with fail
      refine (appok_any true l _).mono ?_
      rintro e v2 ⟨rfl, hbl⟩
      rw [h1]
      clear a0 a1 a2 a3 a4 a5 a6
      replace H := H.below hbl
      replace Q := Q.below hbl
      replace R := R.below hbl
      replace B := B.trans (But.of_below hbl)
      clear hbl
      obtain ⟨q0, q1, q2, q3, q4, q5, q6⟩ := id Q
      go_wp2_with fail
      refine (lookok_any false lo hi _).mono ?_
      rintro e v3 ⟨rfl, hbl⟩
      rw [h2]
      clear q0 q1 q2 q3 q4 q5 q6
      replace H := H.below hbl
      replace Q := Q.below hbl
      replace R := R.below hbl
      replace B := B.trans (But.of_below hbl)
      clear hbl
      obtain ⟨a0, a1, a2, a3, a4, a5, a6⟩ := id H
      obtain ⟨q0, q1, q2, q3, q4, q5, q6⟩ := id Q
      have SK : Hid (∀ w', Below v3.heap.size v3 w' → ((fun w' => w'.cell? ⟨j, 0, none⟩ = some (.bool true) ∧ w'.cell? ⟨j, 1, none⟩ = some (.int .i64 l) ∧ w'.cell? ⟨j, 2, none⟩ = some ((.func (.func 171) #[] #[])) ∧ w'.cell? ⟨w.heap.size, 0, none⟩ = some (.bool false) ∧ w'.cell? ⟨w.heap.size, 1, none⟩ = some (.int .i64 lo) ∧ w'.cell? ⟨w.heap.size, 2, none⟩ = some (.int .i64 hi))) w') := fun w' hw => ⟨(H.below hw).2.1, (H.below hw).2.2.1, (H.below hw).2.2.2.1, (Q.below hw).2.1, (Q.below hw).2.2.1, (Q.below hw).2.2.2.1⟩
      go_upto_region 5 with fail
      refine wp_region_held_drew (S := (fun w' => w'.cell? ⟨j, 0, none⟩ = some (.bool true) ∧ w'.cell? ⟨j, 1, none⟩ = some (.int .i64 l) ∧ w'.cell? ⟨j, 2, none⟩ = some ((.func (.func 171) #[] #[])) ∧ w'.cell? ⟨w.heap.size, 0, none⟩ = some (.bool false) ∧ w'.cell? ⟨w.heap.size, 1, none⟩ = some (.int .i64 lo) ∧ w'.cell? ⟨w.heap.size, 2, none⟩ = some (.int .i64 hi))) (by kernel_rfl) ?_ (fun hHeld => ?_)
      · first | exact SK.out _ XB | exact SK.out _ (Below.drew (Below.refl _ _))
      have XB : Below v3.heap.size v3 v3.drew := Below.drew (Below.refl _ _)
      generalize v3.drew = vx at *
      refine zTk 0 ?_
      (try simp only [Act.put, zSb, zS0, zS1])
      refine zTk 1 ?_
      (try simp only [Act.put, zSb, zS0, zS1])
      refine zTk 2 ?_
      (try simp only [Act.put, zSb, zS0, zS1])
      refine zTk 3 ?_
      (try simp only [Act.put, zSb, zS0, zS1])
      refine zTn 4 ?_
      (try simp only [Act.put, zSb, zS0, zS1])
      refine zTn 5 ?_
      (try simp only [Act.put, zSb, zS0, zS1])
      refine zTn 6 ?_
      (try simp only [Act.put, zSb, zS0, zS1])
      refine zTn 7 ?_
      (try simp only [Act.put, zSb, zS0, zS1])
      refine zTn 8 ?_
      (try simp only [Act.put, zSb, zS0, zS1])
      refine zTn 9 ?_
      (try simp only [Act.put, zSb, zS0, zS1])
      refine zTn 10 ?_
      (try simp only [Act.put, zSb, zS0, zS1])
      refine zTk 11 ?_
      (try simp only [Act.put, zSb, zS0, zS1])
      refine wpAnyH_done (by kernel_rfl) ?_ _
      clear a0 a1 a2 a3 a4 a5 a6
      clear q0 q1 q2 q3 q4 q5 q6
      replace H := H.below XB
      replace Q := Q.below XB
      replace R := R.below XB
      replace B := B.trans (But.of_below XB)
      clear XB
      have RR := ((R.set0 (.int .i64 l)).set1 (.bool true)).set2 (.int .i64 0)
      have BB := ((B.setJ hjr 0 (.int .i64 l)).setJ hjr 1 (.bool true)).setJ hjr 2 (.int .i64 0)
      have HH := ((H.setO hjj.symm 0 (.int .i64 l)).setO hjj.symm 1 (.bool true)).setO hjj.symm 2 (.int .i64 0)
      obtain ⟨a0, a1, a2, a3, a4, a5, a6⟩ := id H
      obtain ⟨r0, r1, r2, r3, r4, r5, r6⟩ := id R
      go_wp2_with fail
      clear a0 a1 a2 a3 a4 a5 a6
      clear r0 r1 r2 r3 r4 r5 r6
      generalize ((vx.setCell ⟨jr, 0, none⟩ (.int .i64 l)).setCell ⟨jr, 1, none⟩ (.bool true)).setCell ⟨jr, 2, none⟩ (.int .i64 0) = vz at *
      obtain ⟨r0, r1, r2, r3, r4, r5, r6⟩ := id RR
      exact bodyPost_ret (v := (.agg #[.int .i64 l, .bool true, .int .i64 0])) (by simp (maxDischargeDepth := 6) [results, Tryz.results172, go_sem, *]) rfl ⟨rfl, HH, BB⟩
  have h3 : okI lo hi = true := h2
  have eb : arBad h l true lo hi = false := by rw [arBad, h1, h3]; rfl
  obtain ⟨e1, e2, e3, e4, e5⟩ := ar_known eb
  rw [e4, e5]
  clear e1 e2 e3 e4 e5
  cases hc : (h && decide (hi < l))
  · obtain ⟨g1, g2⟩ := gd_free (m := midI lo hi) eb hc
    rw [g1, g2]
    clear g1 g2 eb
    have CW := fun w' => implMiddle_any lo hi w'
    rw [h3] at CW
    have CL := fun w' => atLeast_any h l (midI lo hi) w'
    show Calls Tryz.prog 172 #[.pointer (some ⟨j, 0, none⟩), .agg #[.bool true, .int .i64 lo, .int .i64 hi]] w fun e w' => e = .returned (.agg #[.int .i64 (gdM h l (midI lo hi)), .bool false, .int .i64 0]) ∧ Tx3 w' j (.bool true) (.int .i64 (gdM h l (midI lo hi))) (.func (.func 171) #[] #[]) ∧ But j w w'
    generalize gdM h l (midI lo hi) = g at *
    generalize midI lo hi = mm at *
    clear h3
    go_enter Tryz.func172, Tryz.ntmps172
    go_upto_region 1 with fail
    generalize (w.alloc (.cells #[.bool true, .int .i64 lo, .int .i64 hi] 242)).alloc (.cells #[.int .i64 0, .bool false, .int .i64 0] 239) = v at *
    generalize w.heap.size + 1 = jr at *
    obtain ⟨a0, a1, a2, a3, a4, a5, a6⟩ := id H
    go_wp2_with fail
    refine (appok_any h l _).mono ?_
    rintro e v2 ⟨rfl, hbl⟩
    rw [h1]
    clear a0 a1 a2 a3 a4 a5 a6
    replace H := H.below hbl
    replace Q := Q.below hbl
    replace R := R.below hbl
    replace B := B.trans (But.of_below hbl)
    clear hbl
    obtain ⟨q0, q1, q2, q3, q4, q5, q6⟩ := id Q
    go_wp2_with fail
    refine (lookok_any true lo hi _).mono ?_
    rintro e v3 ⟨rfl, hbl⟩
    rw [h2]
    clear q0 q1 q2 q3 q4 q5 q6
    replace H := H.below hbl
    replace Q := Q.below hbl
    replace R := R.below hbl
    replace B := B.trans (But.of_below hbl)
    clear hbl
    obtain ⟨a0, a1, a2, a3, a4, a5, a6⟩ := id H
    obtain ⟨q0, q1, q2, q3, q4, q5, q6⟩ := id Q
    have SK : Hid (∀ w', Below v3.heap.size v3 w' → ((fun w' => w'.cell? ⟨j, 0, none⟩ = some (.bool h) ∧ w'.cell? ⟨j, 1, none⟩ = some (.int .i64 l) ∧ w'.cell? ⟨j, 2, none⟩ = some ((.func (.func 171) #[] #[])) ∧ w'.cell? ⟨w.heap.size, 0, none⟩ = some (.bool true) ∧ w'.cell? ⟨w.heap.size, 1, none⟩ = some (.int .i64 lo) ∧ w'.cell? ⟨w.heap.size, 2, none⟩ = some (.int .i64 hi))) w') := fun w' hw => ⟨(H.below hw).2.1, (H.below hw).2.2.1, (H.below hw).2.2.2.1, (Q.below hw).2.1, (Q.below hw).2.2.1, (Q.below hw).2.2.2.1⟩
    go_upto_region 5 with fail
    refine wp_region_held_drew (S := (fun w' => w'.cell? ⟨j, 0, none⟩ = some (.bool h) ∧ w'.cell? ⟨j, 1, none⟩ = some (.int .i64 l) ∧ w'.cell? ⟨j, 2, none⟩ = some ((.func (.func 171) #[] #[])) ∧ w'.cell? ⟨w.heap.size, 0, none⟩ = some (.bool true) ∧ w'.cell? ⟨w.heap.size, 1, none⟩ = some (.int .i64 lo) ∧ w'.cell? ⟨w.heap.size, 2, none⟩ = some (.int .i64 hi))) (by kernel_rfl) ?_ (fun hHeld => ?_)
    · first | exact SK.out _ XB | exact SK.out _ (Below.drew (Below.refl _ _))
    have XB : Below v3.heap.size v3 v3.drew := Below.drew (Below.refl _ _)
    generalize v3.drew = vx at *
    refine zTk 0 ?_
    (try simp only [Act.put, zSb, zS0, zS1])
    refine zTk 1 ?_
    (try simp only [Act.put, zSb, zS0, zS1])
    refine zTk 2 ?_
    (try simp only [Act.put, zSb, zS0, zS1])
    refine zTk 3 ?_
    (try simp only [Act.put, zSb, zS0, zS1])
    refine zTk 4 ?_
    (try simp only [Act.put, zSb, zS0, zS1])
    refine zTk 5 ?_
    (try simp only [Act.put, zSb, zS0, zS1])
    refine zTk 6 ?_
    (try simp only [Act.put, zSb, zS0, zS1])
    refine zTk 7 ?_
    (try simp only [Act.put, zSb, zS0, zS1])
    refine zTk 8 ?_
    (try simp only [Act.put, zSb, zS0, zS1])
    refine zTk 9 ?_
    (try simp only [Act.put, zSb, zS0, zS1])
    refine wpAnyH_ready (rs := [10]) (by kernel_rfl) (by simp) ?_
    refine AllReadyH.cons (by rw [List.getElem?_toArray]; rfl) (fun K hK => ?_) AllReadyH.nil
    go_simp
    refine (above_any h l lo hi vx).mono ?_; rintro ee vx ⟨rfl, hbl⟩; (replace XB := XB.trans (hbl.mono XB.size)); (clear hbl); (rw [hc])
    (try go_wp2_with fail)
    refine hK.out _ _ ?_ (fun hHeld => ?_)
    · first | exact SK.out _ XB | exact SK.out _ (Below.drew (Below.refl _ _))
    clear hK K
    (try simp only [Act.put, zSb, zS0, zS1])
    refine zTk 11 ?_
    (try simp only [Act.put, zSb, zS0, zS1])
    refine wpAnyH_done (by kernel_rfl) ?_ _
    clear a0 a1 a2 a3 a4 a5 a6
    clear q0 q1 q2 q3 q4 q5 q6
    clear SK
    replace H := H.below XB
    replace Q := Q.below XB
    replace R := R.below XB
    replace B := B.trans (But.of_below XB)
    clear XB
    obtain ⟨a0, a1, a2, a3, a4, a5, a6⟩ := id H
    obtain ⟨q0, q1, q2, q3, q4, q5, q6⟩ := id Q
    generalize vx = v4 at *
    have SK : Hid (∀ w', Below v4.heap.size v4 w' → ((fun w' => w'.cell? ⟨j, 0, none⟩ = some (.bool h) ∧ w'.cell? ⟨j, 1, none⟩ = some (.int .i64 l) ∧ w'.cell? ⟨j, 2, none⟩ = some ((.func (.func 171) #[] #[])) ∧ w'.cell? ⟨w.heap.size, 0, none⟩ = some (.bool true) ∧ w'.cell? ⟨w.heap.size, 1, none⟩ = some (.int .i64 lo) ∧ w'.cell? ⟨w.heap.size, 2, none⟩ = some (.int .i64 hi))) w') := fun w' hw => ⟨(H.below hw).2.1, (H.below hw).2.2.1, (H.below hw).2.2.2.1, (Q.below hw).2.1, (Q.below hw).2.2.1, (Q.below hw).2.2.2.1⟩
    go_upto_region 7 with fail
    refine wp_region_held_drew (S := (fun w' => w'.cell? ⟨j, 0, none⟩ = some (.bool h) ∧ w'.cell? ⟨j, 1, none⟩ = some (.int .i64 l) ∧ w'.cell? ⟨j, 2, none⟩ = some ((.func (.func 171) #[] #[])) ∧ w'.cell? ⟨w.heap.size, 0, none⟩ = some (.bool true) ∧ w'.cell? ⟨w.heap.size, 1, none⟩ = some (.int .i64 lo) ∧ w'.cell? ⟨w.heap.size, 2, none⟩ = some (.int .i64 hi))) (by kernel_rfl) ?_ (fun hHeld => ?_)
    · first | exact SK.out _ XB | exact SK.out _ (Below.drew (Below.refl _ _))
    have XB : Below v4.heap.size v4 v4.drew := Below.drew (Below.refl _ _)
    generalize v4.drew = vx at *
    refine zTk 0 ?_
    (try simp only [Act.put, zSb, zS0, zS1])
    refine zTk 1 ?_
    (try simp only [Act.put, zSb, zS0, zS1])
    refine zTk 2 ?_
    (try simp only [Act.put, zSb, zS0, zS1])
    refine zTk 3 ?_
    (try simp only [Act.put, zSb, zS0, zS1])
    refine zTk 4 ?_
    (try simp only [Act.put, zSb, zS0, zS1])
    refine zTk 5 ?_
    (try simp only [Act.put, zSb, zS0, zS1])
    refine wpAnyH_ready (rs := [6]) (by kernel_rfl) (by simp) ?_
    refine AllReadyH.cons (by rw [List.getElem?_toArray]; rfl) (fun K hK => ?_) AllReadyH.nil
    go_simp
    refine (CW vx).mono ?_; rintro ee vx ⟨rfl, hbl⟩; (replace XB := XB.trans (hbl.mono XB.size)); (clear hbl)
    (try go_wp2_with fail)
    refine hK.out _ _ ?_ (fun hHeld => ?_)
    · first | exact SK.out _ XB | exact SK.out _ (Below.drew (Below.refl _ _))
    clear hK K
    (try simp only [Act.put, zSb, zS0, zS1])
    refine zTk 7 ?_
    (try simp only [Act.put, zSb, zS0, zS1])
    refine zTk 8 ?_
    (try simp only [Act.put, zSb, zS0, zS1])
    refine zTk 9 ?_
    (try simp only [Act.put, zSb, zS0, zS1])
    refine zTk 10 ?_
    (try simp only [Act.put, zSb, zS0, zS1])
    refine zTk 11 ?_
    (try simp only [Act.put, zSb, zS0, zS1])
    refine wpAnyH_done (by kernel_rfl) ?_ _
    clear a0 a1 a2 a3 a4 a5 a6
    clear q0 q1 q2 q3 q4 q5 q6
    clear SK
    replace H := H.below XB
    replace Q := Q.below XB
    replace R := R.below XB
    replace B := B.trans (But.of_below XB)
    clear XB
    obtain ⟨a0, a1, a2, a3, a4, a5, a6⟩ := id H
    go_wp2_with fail
    refine (CL _).mono ?_
    rintro e v5 ⟨rfl, hbl⟩
    clear a0 a1 a2 a3 a4 a5 a6
    replace H := H.below hbl
    replace Q := Q.below hbl
    replace R := R.below hbl
    replace B := B.trans (But.of_below hbl)
    clear hbl
    have H5 := (H.set0 (.bool true)).set1 (.int .i64 g)
    have Q5 := (Q.setO hjl 0 (.bool true)).setO hjl 1 (.int .i64 g)
    have R5 := (R.setO hjj 0 (.bool true)).setO hjj 1 (.int .i64 g)
    have B5 := (B.setCell 0 (.bool true)).setCell 1 (.int .i64 g)
    obtain ⟨a0, a1, a2, a3, a4, a5, a6⟩ := id H
    go_upto_region 9 with fail
    clear a0 a1 a2 a3 a4 a5 a6
    generalize (v5.setCell ⟨j, 0, none⟩ (.bool true)).setCell ⟨j, 1, none⟩ (.int .i64 g) = v6 at *
    clear H Q R B
    have H := H5
    have Q := Q5
    have R := R5
    have B := B5
    clear H5 Q5 R5 B5
    have RR := ((R.set0 (.int .i64 g)).set1 (.bool false)).set2 (.int .i64 0)
    have BB := ((B.setJ hjr 0 (.int .i64 g)).setJ hjr 1 (.bool false)).setJ hjr 2 (.int .i64 0)
    have HH := ((H.setO hjj.symm 0 (.int .i64 g)).setO hjj.symm 1 (.bool false)).setO hjj.symm 2 (.int .i64 0)
    obtain ⟨a0, a1, a2, a3, a4, a5, a6⟩ := id H
    obtain ⟨r0, r1, r2, r3, r4, r5, r6⟩ := id R
    go_wp2_with fail
    clear a0 a1 a2 a3 a4 a5 a6
    clear r0 r1 r2 r3 r4 r5 r6
    generalize ((v6.setCell ⟨jr, 0, none⟩ (.int .i64 g)).setCell ⟨jr, 1, none⟩ (.bool false)).setCell ⟨jr, 2, none⟩ (.int .i64 0) = vz at *
    obtain ⟨r0, r1, r2, r3, r4, r5, r6⟩ := id RR
    exact bodyPost_ret (v := (.agg #[.int .i64 g, .bool false, .int .i64 0])) (by simp (maxDischargeDepth := 6) [results, Tryz.results172, go_sem, *]) rfl ⟨rfl, HH, BB⟩
  · obtain ⟨g1, g2⟩ := gd_held (m := midI lo hi) eb hc
    rw [g1, g2]
    clear g1 g2 eb
    go_enter Tryz.func172, Tryz.ntmps172
    go_upto_region 1 with fail
    generalize (w.alloc (.cells #[.bool true, .int .i64 lo, .int .i64 hi] 242)).alloc (.cells #[.int .i64 0, .bool false, .int .i64 0] 239) = v at *
    generalize w.heap.size + 1 = jr at *
    obtain ⟨a0, a1, a2, a3, a4, a5, a6⟩ := id H
    go_wp2_with fail
    refine (appok_any h l _).mono ?_
    rintro e v2 ⟨rfl, hbl⟩
    rw [h1]
    clear a0 a1 a2 a3 a4 a5 a6
    replace H := H.below hbl
    replace Q := Q.below hbl
    replace R := R.below hbl
    replace B := B.trans (But.of_below hbl)
    clear hbl
    obtain ⟨q0, q1, q2, q3, q4, q5, q6⟩ := id Q
    go_wp2_with fail
    refine (lookok_any true lo hi _).mono ?_
    rintro e v3 ⟨rfl, hbl⟩
    rw [h2]
    clear q0 q1 q2 q3 q4 q5 q6
    replace H := H.below hbl
    replace Q := Q.below hbl
    replace R := R.below hbl
    replace B := B.trans (But.of_below hbl)
    clear hbl
    obtain ⟨a0, a1, a2, a3, a4, a5, a6⟩ := id H
    obtain ⟨q0, q1, q2, q3, q4, q5, q6⟩ := id Q
    have SK : Hid (∀ w', Below v3.heap.size v3 w' → ((fun w' => w'.cell? ⟨j, 0, none⟩ = some (.bool h) ∧ w'.cell? ⟨j, 1, none⟩ = some (.int .i64 l) ∧ w'.cell? ⟨j, 2, none⟩ = some ((.func (.func 171) #[] #[])) ∧ w'.cell? ⟨w.heap.size, 0, none⟩ = some (.bool true) ∧ w'.cell? ⟨w.heap.size, 1, none⟩ = some (.int .i64 lo) ∧ w'.cell? ⟨w.heap.size, 2, none⟩ = some (.int .i64 hi))) w') := fun w' hw => ⟨(H.below hw).2.1, (H.below hw).2.2.1, (H.below hw).2.2.2.1, (Q.below hw).2.1, (Q.below hw).2.2.1, (Q.below hw).2.2.2.1⟩
    go_upto_region 5 with fail
    refine wp_region_held_drew (S := (fun w' => w'.cell? ⟨j, 0, none⟩ = some (.bool h) ∧ w'.cell? ⟨j, 1, none⟩ = some (.int .i64 l) ∧ w'.cell? ⟨j, 2, none⟩ = some ((.func (.func 171) #[] #[])) ∧ w'.cell? ⟨w.heap.size, 0, none⟩ = some (.bool true) ∧ w'.cell? ⟨w.heap.size, 1, none⟩ = some (.int .i64 lo) ∧ w'.cell? ⟨w.heap.size, 2, none⟩ = some (.int .i64 hi))) (by kernel_rfl) ?_ (fun hHeld => ?_)
    · first | exact SK.out _ XB | exact SK.out _ (Below.drew (Below.refl _ _))
    have XB : Below v3.heap.size v3 v3.drew := Below.drew (Below.refl _ _)
    generalize v3.drew = vx at *
    refine zTk 0 ?_
    (try simp only [Act.put, zSb, zS0, zS1])
    refine zTk 1 ?_
    (try simp only [Act.put, zSb, zS0, zS1])
    refine zTk 2 ?_
    (try simp only [Act.put, zSb, zS0, zS1])
    refine zTk 3 ?_
    (try simp only [Act.put, zSb, zS0, zS1])
    refine zTk 4 ?_
    (try simp only [Act.put, zSb, zS0, zS1])
    refine zTk 5 ?_
    (try simp only [Act.put, zSb, zS0, zS1])
    refine zTk 6 ?_
    (try simp only [Act.put, zSb, zS0, zS1])
    refine zTk 7 ?_
    (try simp only [Act.put, zSb, zS0, zS1])
    refine zTk 8 ?_
    (try simp only [Act.put, zSb, zS0, zS1])
    refine zTk 9 ?_
    (try simp only [Act.put, zSb, zS0, zS1])
    refine wpAnyH_ready (rs := [10]) (by kernel_rfl) (by simp) ?_
    refine AllReadyH.cons (by rw [List.getElem?_toArray]; rfl) (fun K hK => ?_) AllReadyH.nil
    go_simp
    refine (above_any h l lo hi vx).mono ?_; rintro ee vx ⟨rfl, hbl⟩; (replace XB := XB.trans (hbl.mono XB.size)); (clear hbl); (rw [hc])
    (try go_wp2_with fail)
    refine hK.out _ _ ?_ (fun hHeld => ?_)
    · first | exact SK.out _ XB | exact SK.out _ (Below.drew (Below.refl _ _))
    clear hK K
    (try simp only [Act.put, zSb, zS0, zS1])
    refine zTk 11 ?_
    (try simp only [Act.put, zSb, zS0, zS1])
    refine wpAnyH_done (by kernel_rfl) ?_ _
    clear a0 a1 a2 a3 a4 a5 a6
    clear q0 q1 q2 q3 q4 q5 q6
    clear SK
    replace H := H.below XB
    replace Q := Q.below XB
    replace R := R.below XB
    replace B := B.trans (But.of_below XB)
    clear XB
    have RR := ((R.set0 (.int .i64 l)).set1 (.bool true)).set2 (.int .i64 0)
    have BB := ((B.setJ hjr 0 (.int .i64 l)).setJ hjr 1 (.bool true)).setJ hjr 2 (.int .i64 0)
    have HH := ((H.setO hjj.symm 0 (.int .i64 l)).setO hjj.symm 1 (.bool true)).setO hjj.symm 2 (.int .i64 0)
    obtain ⟨a0, a1, a2, a3, a4, a5, a6⟩ := id H
    obtain ⟨r0, r1, r2, r3, r4, r5, r6⟩ := id R
    go_wp2_with fail
    clear a0 a1 a2 a3 a4 a5 a6
    clear r0 r1 r2 r3 r4 r5 r6
    generalize ((vx.setCell ⟨jr, 0, none⟩ (.int .i64 l)).setCell ⟨jr, 1, none⟩ (.bool true)).setCell ⟨jr, 2, none⟩ (.int .i64 0) = vz at *
    obtain ⟨r0, r1, r2, r3, r4, r5, r6⟩ := id RR
    exact bodyPost_ret (v := (.agg #[.int .i64 l, .bool true, .int .i64 0])) (by simp (maxDischargeDepth := 6) [results, Tryz.results172, go_sem, *]) rfl ⟨rfl, HH, BB⟩

end Go.Proofs.YtiecdkmnjdpgfaaGreat
namespace Go.Proofs.YtiecdkmnjdpgfaaGreat
open Go.RowKit
set_option linter.unusedVariables false
set_option maxRecDepth 100000 in
set_option maxHeartbeats 8000000 in
theorem implAppRead_any (h : Bool) (l : Int) (k : Bool) (lo hi : Int) (w : World) : Calls Tryz.prog 131 #[.agg #[.bool h, .int .i64 l], .bool k, .agg #[.int .i64 lo, .int .i64 hi]] w fun e w' => e = .returned (.tuple #[.agg #[.bool (arH h l k lo hi), .int .i64 (arL h l k lo hi)], .int .i64 (arX h l k lo hi), .bool (arD h l k lo hi), .int .i64 (arC h l k lo hi)]) ∧ Below w.heap.size w w' := by
  have A0 := Below.nw w (.cells #[.bool h, .int .i64 l] 54)
  have A1 := Below.nw (w.alloc (.cells #[.bool h, .int .i64 l] 54)) (.cells #[.int .i64 lo, .int .i64 hi] 47)
  have A2 := Below.nw ((w.alloc (.cells #[.bool h, .int .i64 l] 54)).alloc (.cells #[.int .i64 lo, .int .i64 hi] 47)) (.cells #[.bool false, .int .i64 0] 54)
  have N := ((Bx2.new w (.bool h) (.int .i64 l) 54).below A1).below A2
  have Q := (Bx2.new (w.alloc (.cells #[.bool h, .int .i64 l] 54)) (.int .i64 lo) (.int .i64 hi) 47).below A2
  have R := Bx2.new ((w.alloc (.cells #[.bool h, .int .i64 l] 54)).alloc (.cells #[.int .i64 lo, .int .i64 hi] 47)) (.bool false) (.int .i64 0) 54
  have B := (A0.trans (A1.mono A0.size)).trans (A2.mono (A0.trans (A1.mono A0.size)).size)
  simp only [World.size_alloc] at Q R
  clear A0 A1 A2
  have hj : w.heap.size ≤ w.heap.size + 1 + 1 := by omega
  obtain ⟨gm1, gm2⟩ := @gd_mid h l k lo hi
  have CR := fun (jc : Nat) (w' : World) (H : Tx3 w' jc (.bool h) (.int .i64 l) (.func (.func 171) #[] #[])) => read_mid jc h l k lo hi w' H
  rw [gm1, gm2] at CR
  clear gm1 gm2
  cases eb : arBad h l k lo hi
  · have e1 : (arC h l k lo hi == 1) = false ∧ anN (h, l) (k, lo, hi) = (arH h l k lo hi, arL h l k lo hi) := by
      have q : (arC h l k lo hi == 1) = false := by
        cases k
        · cases h
          · rw [(ar_no eb).2.2.2.2]; rfl
          · rw [(ar_old eb).2.2.2.2]; rfl
        · rw [(ar_known eb).2.2.2.2]; rfl
      refine ⟨q, ?_⟩
      unfold anN anC
      show (match (arC h l k lo hi != 1) with | true => _ | false => _) = _
      rw [bne, q]
      rfl
    obtain ⟨hne, e2⟩ := e1
    rw [e2] at CR
    clear e2 eb
    generalize arX h l k lo hi = X at *
    generalize arD h l k lo hi = D at *
    generalize arC h l k lo hi = C at *
    generalize arH h l k lo hi = H2 at *
    generalize arL h l k lo hi = T2 at *
    go_enter Tryz.func131, Tryz.ntmps131
    go_upto_region 1 with fail
    generalize (((w.alloc (.cells #[.bool h, .int .i64 l] 54)).alloc (.cells #[.int .i64 lo, .int .i64 hi] 47)).alloc (.cells #[.bool false, .int .i64 0] 54)) = v at *
    generalize w.heap.size + 1 + 1 = jr at *
    generalize w.heap.size + 1 = jb at *
    have NL := Below.nw v (.cells #[.bool h, .int .i64 l, (.func (.func 171) #[] #[])] 237)
    have K := Tx3.new v (.bool h) (.int .i64 l) (.func (.func 171) #[] #[]) 237
    have dcr : v.heap.size ≠ jr := Nat.ne_of_gt R.1
    have dcb : v.heap.size ≠ jb := Nat.ne_of_gt Q.1
    have hcw : w.heap.size ≤ v.heap.size := B.size
    obtain ⟨n0, n1, n2, n3, n4⟩ := id N
    go_upto_region 2 with fail
    clear n0 n1 n2 n3 n4 N
    replace Q := Q.below NL
    replace R := R.below NL
    replace B := B.trans (NL.mono B.size)
    clear NL
    generalize v.alloc (.cells #[.bool h, .int .i64 l, (.func (.func 171) #[] #[])] 237) = v2 at *
    generalize v.heap.size = jc at *
    obtain ⟨m0, m1, m2, m3, m4⟩ := id Q
    go_wp2_with fail
    refine (CR jc _ K).mono ?_
    rintro e v3 ⟨rfl, K3, bt⟩
    clear m0 m1 m2 m3 m4 Q K
    replace R := R.but bt dcr.symm
    replace B := B.trans (bt.below hcw B.size)
    clear bt
    have NL := Below.nw v3 (.cells #[.int .i64 X, .bool D, .int .i64 C] 239)
    have G := Tx3.new v3 (.int .i64 X) (.bool D) (.int .i64 C) 239
    have dgr : v3.heap.size ≠ jr := Nat.ne_of_gt R.1
    go_upto_region 3 with fail
    replace K3 := K3.below NL
    replace R := R.below NL
    replace B := B.trans (NL.mono B.size)
    clear NL
    generalize v3.alloc (.cells #[.int .i64 X, .bool D, .int .i64 C] 239) = v4 at *
    generalize v3.heap.size = jg at *
    have RR := (R.set0 (.bool H2)).set1 (.int .i64 T2)
    have BB := (B.setCell (p := ⟨jr, 0, none⟩) hj (.bool H2)).setCell (p := ⟨jr, 1, none⟩) hj (.int .i64 T2)
    obtain ⟨r0, r1, r2, r3, r4⟩ := id R
    obtain ⟨g0, g1, g2, g3, g4, g5, g6⟩ := id G
    obtain ⟨a0, a1, a2, a3, a4, a5, a6⟩ := id K3
    go_upto_region 5 with fail
    refine wp_region_held_drew (S := (fun w' => w'.cell? ⟨jc, 0, none⟩ = some (.bool H2) ∧ w'.cell? ⟨jc, 1, none⟩ = some (.int .i64 T2) ∧ w'.cell? ⟨jg, 0, none⟩ = some (.int .i64 X) ∧ w'.cell? ⟨jg, 1, none⟩ = some (.bool D) ∧ w'.cell? ⟨jg, 2, none⟩ = some (.int .i64 C))) (by kernel_rfl) ?_ (fun hHeld => ?_)
    · first | exact ⟨a1, a2, g1, g2, g3⟩ | exact ⟨keepC (keepC a1 dcr) dcr, keepC (keepC a2 dcr) dcr, keepC (keepC g1 dgr) dgr, keepC (keepC g2 dgr) dgr, keepC (keepC g3 dgr) dgr⟩
    refine zTk 0 ?_
    (try simp only [Act.put, zSb, zS0, zS1])
    refine zTk 1 ?_
    (try simp only [Act.put, zSb, zS0, zS1])
    refine zTk 2 ?_
    (try simp only [Act.put, zSb, zS0, zS1])
    refine zTk 3 ?_
    (try simp only [Act.put, zSb, zS0, zS1])
    refine zTk 4 ?_
    (try simp only [Act.put, zSb, zS0, zS1])
    refine zTk 5 ?_
    (try simp only [Act.put, zSb, zS0, zS1])
    refine zTk 6 ?_
    (try simp only [Act.put, zSb, zS0, zS1])
    refine zTk 7 ?_
    (try simp only [Act.put, zSb, zS0, zS1])
    refine wpAnyH_ready (rs := [8]) (by kernel_rfl) (by simp) ?_
    refine AllReadyH.cons (by rw [List.getElem?_toArray]; rfl) (fun K hK => ?_) AllReadyH.nil
    go_simp
    refine hK.out _ _ ?_ (fun hHeld => ?_)
    · first | exact ⟨a1, a2, g1, g2, g3⟩ | exact ⟨keepC (keepC a1 dcr) dcr, keepC (keepC a2 dcr) dcr, keepC (keepC g1 dgr) dgr, keepC (keepC g2 dgr) dgr, keepC (keepC g3 dgr) dgr⟩
    clear hK K
    (try simp only [Act.put, zSb, zS0, zS1])
    refine zTk 9 ?_
    (try simp only [Act.put, zSb, zS0, zS1])
    refine zTk 10 ?_
    (try simp only [Act.put, zSb, zS0, zS1])
    refine zTk 11 ?_
    (try simp only [Act.put, zSb, zS0, zS1])
    refine wpAnyH_done (by kernel_rfl) ?_ _
    go_wp2_with fail
    clear r0 r1 r2 r3 r4 g0 g1 g2 g3 g4 g5 g6
    generalize (v4.setCell ⟨jr, 0, none⟩ (.bool H2)).setCell ⟨jr, 1, none⟩ (.int .i64 T2) = vz at *
    obtain ⟨r0, r1, r2, r3, r4⟩ := id RR
    exact bodyPost_ret (v := (.tuple #[.agg #[.bool H2, .int .i64 T2], .int .i64 X, .bool D, .int .i64 C])) (by simp (maxDischargeDepth := 6) [results, Tryz.results131, go_sem, *]) rfl ⟨rfl, Below.drew BB⟩
  · obtain ⟨e1, e2, e3, e4, e5⟩ := ar_eqs eb
    rw [e3, e4, e5] at CR
    rw [e1, e2, e3, e4, e5]
    clear e1 e2 e3 e4 e5 eb
    generalize hS : anN (h, l) (k, lo, hi) = s at *
    clear hS
    go_enter Tryz.func131, Tryz.ntmps131
    go_upto_region 1 with fail
    generalize (((w.alloc (.cells #[.bool h, .int .i64 l] 54)).alloc (.cells #[.int .i64 lo, .int .i64 hi] 47)).alloc (.cells #[.bool false, .int .i64 0] 54)) = v at *
    generalize w.heap.size + 1 + 1 = jr at *
    generalize w.heap.size + 1 = jb at *
    have NL := Below.nw v (.cells #[.bool h, .int .i64 l, (.func (.func 171) #[] #[])] 237)
    have K := Tx3.new v (.bool h) (.int .i64 l) (.func (.func 171) #[] #[]) 237
    have dcr : v.heap.size ≠ jr := Nat.ne_of_gt R.1
    have dcb : v.heap.size ≠ jb := Nat.ne_of_gt Q.1
    have hcw : w.heap.size ≤ v.heap.size := B.size
    obtain ⟨n0, n1, n2, n3, n4⟩ := id N
    go_upto_region 2 with fail
    clear n0 n1 n2 n3 n4 N
    replace Q := Q.below NL
    replace R := R.below NL
    replace B := B.trans (NL.mono B.size)
    clear NL
    generalize v.alloc (.cells #[.bool h, .int .i64 l, (.func (.func 171) #[] #[])] 237) = v2 at *
    generalize v.heap.size = jc at *
    obtain ⟨m0, m1, m2, m3, m4⟩ := id Q
    go_wp2_with fail
    refine (CR jc _ K).mono ?_
    rintro e v3 ⟨rfl, K3, bt⟩
    clear m0 m1 m2 m3 m4 Q K
    replace R := R.but bt dcr.symm
    replace B := B.trans (bt.below hcw B.size)
    clear bt
    have NL := Below.nw v3 (.cells #[.int .i64 0, .bool false, .int .i64 1] 239)
    have G := Tx3.new v3 (.int .i64 0) (.bool false) (.int .i64 1) 239
    have dgr : v3.heap.size ≠ jr := Nat.ne_of_gt R.1
    go_upto_region 3 with fail
    replace K3 := K3.below NL
    replace R := R.below NL
    replace B := B.trans (NL.mono B.size)
    clear NL
    generalize v3.alloc (.cells #[.int .i64 0, .bool false, .int .i64 1] 239) = v4 at *
    generalize v3.heap.size = jg at *
    have RR := (R.set0 (.bool false)).set1 (.int .i64 0)
    have BB := (B.setCell (p := ⟨jr, 0, none⟩) hj (.bool false)).setCell (p := ⟨jr, 1, none⟩) hj (.int .i64 0)
    obtain ⟨r0, r1, r2, r3, r4⟩ := id R
    obtain ⟨g0, g1, g2, g3, g4, g5, g6⟩ := id G
    go_wp2_with fail
    clear r0 r1 r2 r3 r4 g0 g1 g2 g3 g4 g5 g6
    generalize (v4.setCell ⟨jr, 0, none⟩ (.bool false)).setCell ⟨jr, 1, none⟩ (.int .i64 0) = vz at *
    obtain ⟨r0, r1, r2, r3, r4⟩ := id RR
    exact bodyPost_ret (v := (.tuple #[.agg #[.bool false, .int .i64 0], .int .i64 0, .bool false, .int .i64 1])) (by simp (maxDischargeDepth := 6) [results, Tryz.results131, go_sem, *]) rfl ⟨rfl, BB⟩
end Go.Proofs.YtiecdkmnjdpgfaaGreat
