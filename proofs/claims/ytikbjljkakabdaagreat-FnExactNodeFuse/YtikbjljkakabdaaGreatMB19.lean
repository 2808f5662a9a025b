/- LifeStep in the specification. -/
import Derived.Test.YtikbjljkakabdaaGreatMB13
namespace Go.Proofs.YtikbjljkakabdaaGreat
open Go.RowKit
set_option linter.unusedVariables false
set_option maxRecDepth 100000
set_option maxHeartbeats 16000000
theorem eF (m e s k t : Int) (w : World) :
 Calls Tryz.prog 78 #[.agg #[.int .i64 m, .int .i64 e, .int .i64 s], .agg #[.int .i64 k, .int .i64 t]] w fun x w' => x = .returned (.tuple #[.agg #[.int .i64 (stM m e s k t), .int .i64 (stE m e s k t), .int .i64 (stS m e s k t)], .int .i64 (stC m e s k t)]) ∧ Below w.heap.size w w' := by
 have A0 := Below.nw w (.cells #[.int .i64 m, .int .i64 e, .int .i64 s] 46)
 have A1 := Below.nw (w.alloc (.cells #[.int .i64 m, .int .i64 e, .int .i64 s] 46)) (.cells #[.int .i64 k, .int .i64 t] 148)
 have A2 := Below.nw ((w.alloc (.cells #[.int .i64 m, .int .i64 e, .int .i64 s] 46)).alloc (.cells #[.int .i64 k, .int .i64 t] 148)) (.cells #[.int .i64 0, .int .i64 0, .int .i64 0] 46)
 have N := ((Tx3.new w (.int .i64 m) (.int .i64 e) (.int .i64 s) 46).below A1).below A2
 have E := (Bx2.new (w.alloc (.cells #[.int .i64 m, .int .i64 e, .int .i64 s] 46)) (.int .i64 k) (.int .i64 t) 148).below A2
 have R := Tx3.new ((w.alloc (.cells #[.int .i64 m, .int .i64 e, .int .i64 s] 46)).alloc (.cells #[.int .i64 k, .int .i64 t] 148)) (.int .i64 0) (.int .i64 0) (.int .i64 0) 46
 have B := (A0.trans (A1.mono A0.size)).trans (A2.mono (A0.trans (A1.mono A0.size)).size)
 simp only [World.size_alloc] at E R
 clear A0 A1 A2
 have C1 := fun w' => cE m e s w'
 have C2 : ∀ w', Calls Tryz.prog 113 #[.int .i64 k, .int .i64 1, .int .i64 6] w' fun e w'' => e = .returned (.bool (decide (1 ≤ k ∧ k ≤ 6))) ∧ w' = w'' := fun w' => aC k 1 6 w'
 have C3 : ∀ w', Calls Tryz.prog 113 #[.int .i64 t, .int .i64 s, .int .i64 1000000000000] w' fun e w'' => e = .returned (.bool (decide (s ≤ t ∧ t ≤ 1000000000000))) ∧ w' = w'' := fun w' => aC t s 1000000000000 w'
 have C4 := fun w' => fi m k w'
 cases h1 : lfB m e s
 ·have ev : evB m e s k t = false := by unfold evB; rw [h1]; rfl
  have hC : stC m e s k t = 1 := by rw [stC, ev]
  have hM : stM m e s k t = 0 := by rw [stM, ev]
  have hE : stE m e s k t = 0 := by rw [stE, ev]
  have hS : stS m e s k t = 0 := by rw [stS, ev]
  rw [hC, hM, hE, hS]
  clear ev hC hM hE hS
  go_enter Tryz.func78, Tryz.ntmps78
  go_upto_region 1 with fail
  generalize ((w.alloc (.cells #[.int .i64 m, .int .i64 e, .int .i64 s] 46)).alloc (.cells #[.int .i64 k, .int .i64 t] 148)).alloc (.cells #[.int .i64 0, .int .i64 0, .int .i64 0] 46) = v at *
  have n0 : _ ∧ _ := N
  go_wp2_with fail
  refine (C1 _).mono ?_
  rintro x w1 ⟨rfl, hb⟩
  clear n0
  rw [h1]
  replace B := B.trans (hb.mono B.size)
  replace N := N.below hb
  replace E := E.below hb
  replace R := R.below hb
  clear hb
  have RR := ((R.set0 (.int .i64 (0))).set1 (.int .i64 (0))).set2 (.int .i64 (0))
  have BB := ((B.setCell (p := ⟨w.heap.size + 2, 0, none⟩) (Nat.le_add_right w.heap.size 2) (.int .i64 (0))).setCell (p := ⟨w.heap.size + 2, 1, none⟩) (Nat.le_add_right w.heap.size 2) (.int .i64 (0))).setCell (p := ⟨w.heap.size + 2, 2, none⟩) (Nat.le_add_right w.heap.size 2) (.int .i64 (0))
  obtain ⟨r0, r1, r2, r3, r4, r5, r6⟩ := id R
  go_wp2_with fail
  clear r0 r1 r2 r3 r4 r5 r6
  generalize ((w1.setCell ⟨w.heap.size + 2, 0, none⟩ (.int .i64 (0))).setCell ⟨w.heap.size + 2, 1, none⟩ (.int .i64 (0))).setCell ⟨w.heap.size + 2, 2, none⟩ (.int .i64 (0)) = vz at *
  obtain ⟨r0, r1, r2, r3, r4, r5, r6⟩ := id RR
  exact bodyPost_ret (v := .tuple #[.agg #[.int .i64 (0), .int .i64 (0), .int .i64 (0)], .int .i64 1]) (by simp (maxDischargeDepth := 6) [results, Tryz.results78, go_sem, r1, r2, r3]) rfl ⟨rfl, BB⟩
 cases h2 : decide (1 ≤ k ∧ k ≤ 6)
 ·have ev : evB m e s k t = false := by unfold evB; rw [h1, h2]; rfl
  have hC : stC m e s k t = 1 := by rw [stC, ev]
  have hM : stM m e s k t = 0 := by rw [stM, ev]
  have hE : stE m e s k t = 0 := by rw [stE, ev]
  have hS : stS m e s k t = 0 := by rw [stS, ev]
  rw [hC, hM, hE, hS]
  clear ev hC hM hE hS
  go_enter Tryz.func78, Tryz.ntmps78
  go_upto_region 1 with fail
  generalize ((w.alloc (.cells #[.int .i64 m, .int .i64 e, .int .i64 s] 46)).alloc (.cells #[.int .i64 k, .int .i64 t] 148)).alloc (.cells #[.int .i64 0, .int .i64 0, .int .i64 0] 46) = v at *
  have n0 : _ ∧ _ := N
  go_wp2_with fail
  refine (C1 _).mono ?_
  rintro x w1 ⟨rfl, hb⟩
  clear n0
  rw [h1]
  replace B := B.trans (hb.mono B.size)
  replace N := N.below hb
  replace E := E.below hb
  replace R := R.below hb
  clear hb
  have e0_ : _ ∧ _ := E
  go_wp2_with fail
  refine (C2 _).mono ?_
  rintro x w' ⟨rfl, rfl⟩
  rw [h2]
  clear e0_
  have RR := ((R.set0 (.int .i64 (0))).set1 (.int .i64 (0))).set2 (.int .i64 (0))
  have BB := ((B.setCell (p := ⟨w.heap.size + 2, 0, none⟩) (Nat.le_add_right w.heap.size 2) (.int .i64 (0))).setCell (p := ⟨w.heap.size + 2, 1, none⟩) (Nat.le_add_right w.heap.size 2) (.int .i64 (0))).setCell (p := ⟨w.heap.size + 2, 2, none⟩) (Nat.le_add_right w.heap.size 2) (.int .i64 (0))
  obtain ⟨r0, r1, r2, r3, r4, r5, r6⟩ := id R
  go_wp2_with fail
  clear r0 r1 r2 r3 r4 r5 r6
  generalize ((w1.setCell ⟨w.heap.size + 2, 0, none⟩ (.int .i64 (0))).setCell ⟨w.heap.size + 2, 1, none⟩ (.int .i64 (0))).setCell ⟨w.heap.size + 2, 2, none⟩ (.int .i64 (0)) = vz at *
  obtain ⟨r0, r1, r2, r3, r4, r5, r6⟩ := id RR
  exact bodyPost_ret (v := .tuple #[.agg #[.int .i64 (0), .int .i64 (0), .int .i64 (0)], .int .i64 1]) (by simp (maxDischargeDepth := 6) [results, Tryz.results78, go_sem, r1, r2, r3]) rfl ⟨rfl, BB⟩
 cases h3 : decide (s ≤ t ∧ t ≤ 1000000000000)
 ·have ev : evB m e s k t = false := by unfold evB; rw [h1, h2, h3]; rfl
  have hC : stC m e s k t = 1 := by rw [stC, ev]
  have hM : stM m e s k t = 0 := by rw [stM, ev]
  have hE : stE m e s k t = 0 := by rw [stE, ev]
  have hS : stS m e s k t = 0 := by rw [stS, ev]
  rw [hC, hM, hE, hS]
  clear ev hC hM hE hS
  go_enter Tryz.func78, Tryz.ntmps78
  go_upto_region 1 with fail
  generalize ((w.alloc (.cells #[.int .i64 m, .int .i64 e, .int .i64 s] 46)).alloc (.cells #[.int .i64 k, .int .i64 t] 148)).alloc (.cells #[.int .i64 0, .int .i64 0, .int .i64 0] 46) = v at *
  have n0 : _ ∧ _ := N
  go_wp2_with fail
  refine (C1 _).mono ?_
  rintro x w1 ⟨rfl, hb⟩
  clear n0
  rw [h1]
  replace B := B.trans (hb.mono B.size)
  replace N := N.below hb
  replace E := E.below hb
  replace R := R.below hb
  clear hb
  have e0_ : _ ∧ _ := E
  go_wp2_with fail
  refine (C2 _).mono ?_
  rintro x w' ⟨rfl, rfl⟩
  rw [h2]
  clear e0_
  have e0_ : _ ∧ _ := E
  have n0 : _ ∧ _ := N
  go_wp2_with fail
  refine (C3 _).mono ?_
  rintro x w' ⟨rfl, rfl⟩
  rw [h3]
  clear e0_
  clear n0
  have RR := ((R.set0 (.int .i64 (0))).set1 (.int .i64 (0))).set2 (.int .i64 (0))
  have BB := ((B.setCell (p := ⟨w.heap.size + 2, 0, none⟩) (Nat.le_add_right w.heap.size 2) (.int .i64 (0))).setCell (p := ⟨w.heap.size + 2, 1, none⟩) (Nat.le_add_right w.heap.size 2) (.int .i64 (0))).setCell (p := ⟨w.heap.size + 2, 2, none⟩) (Nat.le_add_right w.heap.size 2) (.int .i64 (0))
  obtain ⟨r0, r1, r2, r3, r4, r5, r6⟩ := id R
  go_wp2_with fail
  clear r0 r1 r2 r3 r4 r5 r6
  generalize ((w1.setCell ⟨w.heap.size + 2, 0, none⟩ (.int .i64 (0))).setCell ⟨w.heap.size + 2, 1, none⟩ (.int .i64 (0))).setCell ⟨w.heap.size + 2, 2, none⟩ (.int .i64 (0)) = vz at *
  obtain ⟨r0, r1, r2, r3, r4, r5, r6⟩ := id RR
  exact bodyPost_ret (v := .tuple #[.agg #[.int .i64 (0), .int .i64 (0), .int .i64 (0)], .int .i64 1]) (by simp (maxDischargeDepth := 6) [results, Tryz.results78, go_sem, r1, r2, r3]) rfl ⟨rfl, BB⟩
 have ev : evB m e s k t = true := by unfold evB; rw [h1, h2, h3]; rfl
 cases h4 : lmB m k
 ·have mb : bT m e k = false := by unfold bT; rw [h4]; rfl
  have hC : stC m e s k t = 2 := by rw [stC, ev, mb]
  have hM : stM m e s k t = m := by rw [stM, ev, mb]
  have hE : stE m e s k t = e := by rw [stE, ev, mb]
  have hS : stS m e s k t = s := by rw [stS, ev, mb]
  rw [hC, hM, hE, hS]
  clear ev mb hC hM hE hS
  go_enter Tryz.func78, Tryz.ntmps78
  go_upto_region 1 with fail
  generalize ((w.alloc (.cells #[.int .i64 m, .int .i64 e, .int .i64 s] 46)).alloc (.cells #[.int .i64 k, .int .i64 t] 148)).alloc (.cells #[.int .i64 0, .int .i64 0, .int .i64 0] 46) = v at *
  have n0 : _ ∧ _ := N
  go_wp2_with fail
  refine (C1 _).mono ?_
  rintro x w1 ⟨rfl, hb⟩
  clear n0
  rw [h1]
  replace B := B.trans (hb.mono B.size)
  replace N := N.below hb
  replace E := E.below hb
  replace R := R.below hb
  clear hb
  have e0_ : _ ∧ _ := E
  go_wp2_with fail
  refine (C2 _).mono ?_
  rintro x w' ⟨rfl, rfl⟩
  rw [h2]
  clear e0_
  have e0_ : _ ∧ _ := E
  have n0 : _ ∧ _ := N
  go_wp2_with fail
  refine (C3 _).mono ?_
  rintro x w' ⟨rfl, rfl⟩
  rw [h3]
  clear e0_
  clear n0
  have e0_ : _ ∧ _ := E
  have n0 : _ ∧ _ := N
  go_wp2_with fail
  refine (C4 _).mono ?_
  rintro x w' ⟨rfl, rfl⟩
  rw [h4]
  clear e0_
  clear n0
  have n0 : _ ∧ _ := N
  have e0_ : _ ∧ _ := E
  have RR := ((R.set0 (.int .i64 (m))).set1 (.int .i64 (e))).set2 (.int .i64 (s))
  have BB := ((B.setCell (p := ⟨w.heap.size + 2, 0, none⟩) (Nat.le_add_right w.heap.size 2) (.int .i64 (m))).setCell (p := ⟨w.heap.size + 2, 1, none⟩) (Nat.le_add_right w.heap.size 2) (.int .i64 (e))).setCell (p := ⟨w.heap.size + 2, 2, none⟩) (Nat.le_add_right w.heap.size 2) (.int .i64 (s))
  obtain ⟨r0, r1, r2, r3, r4, r5, r6⟩ := id R
  go_wp2_with fail
  clear r0 r1 r2 r3 r4 r5 r6
  generalize ((w1.setCell ⟨w.heap.size + 2, 0, none⟩ (.int .i64 (m))).setCell ⟨w.heap.size + 2, 1, none⟩ (.int .i64 (e))).setCell ⟨w.heap.size + 2, 2, none⟩ (.int .i64 (s)) = vz at *
  obtain ⟨r0, r1, r2, r3, r4, r5, r6⟩ := id RR
  exact bodyPost_ret (v := .tuple #[.agg #[.int .i64 (m), .int .i64 (e), .int .i64 (s)], .int .i64 2]) (by simp (maxDischargeDepth := 6) [results, Tryz.results78, go_sem, r1, r2, r3]) rfl ⟨rfl, BB⟩
 have hk6 := of_decide_eq_true h2
 have hlk : lkB m k = true := by unfold lmB at h4; simp only [Bool.and_eq_true] at h4; exact h4.2
 have heb : 0 ≤ e ∧ e ≤ 100000 := by unfold lfB epB at h1; simp only [Bool.and_eq_true, decide_eq_true_eq] at h1; exact h1.2.1
 by_cases k1 : k = 1
 ·subst k1
  have hm0 : m = 0 := by unfold lkB at hlk; simpa using hlk
  by_cases he : e = 100000
  ·have hq : (e == 100000) = true := by simp [he]
   clear he hlk heb hm0 hk6
   have mb : bT m e 1 = false := by unfold bT; rw [hq]; simp
   have hC : stC m e s 1 t = 2 := by rw [stC, ev, mb]
   have hM : stM m e s 1 t = m := by rw [stM, ev, mb]
   have hE : stE m e s 1 t = e := by rw [stE, ev, mb]
   have hS : stS m e s 1 t = s := by rw [stS, ev, mb]
   rw [hC, hM, hE, hS]
   clear ev mb hC hM hE hS
   go_enter Tryz.func78, Tryz.ntmps78
   go_upto_region 1 with fail
   generalize ((w.alloc (.cells #[.int .i64 m, .int .i64 e, .int .i64 s] 46)).alloc (.cells #[.int .i64 1, .int .i64 t] 148)).alloc (.cells #[.int .i64 0, .int .i64 0, .int .i64 0] 46) = v at *
   have n0 : _ ∧ _ := N
   go_wp2_with fail
   refine (C1 _).mono ?_
   rintro x w1 ⟨rfl, hb⟩
   clear n0
   rw [h1]
   replace B := B.trans (hb.mono B.size)
   replace N := N.below hb
   replace E := E.below hb
   replace R := R.below hb
   clear hb
   have e0_ : _ ∧ _ := E
   go_wp2_with fail
   refine (C2 _).mono ?_
   rintro x w' ⟨rfl, rfl⟩
   rw [h2]
   clear e0_
   have e0_ : _ ∧ _ := E
   have n0 : _ ∧ _ := N
   go_wp2_with fail
   refine (C3 _).mono ?_
   rintro x w' ⟨rfl, rfl⟩
   rw [h3]
   clear e0_
   clear n0
   have e0_ : _ ∧ _ := E
   have n0 : _ ∧ _ := N
   go_wp2_with fail
   refine (C4 _).mono ?_
   rintro x w' ⟨rfl, rfl⟩
   rw [h4]
   clear e0_
   clear n0
   have n0 : _ ∧ _ := N
   have e0_ : _ ∧ _ := E
   have RR := ((R.set0 (.int .i64 (m))).set1 (.int .i64 (e))).set2 (.int .i64 (s))
   have BB := ((B.setCell (p := ⟨w.heap.size + 2, 0, none⟩) (Nat.le_add_right w.heap.size 2) (.int .i64 (m))).setCell (p := ⟨w.heap.size + 2, 1, none⟩) (Nat.le_add_right w.heap.size 2) (.int .i64 (e))).setCell (p := ⟨w.heap.size + 2, 2, none⟩) (Nat.le_add_right w.heap.size 2) (.int .i64 (s))
   obtain ⟨r0, r1, r2, r3, r4, r5, r6⟩ := id R
   go_wp2_with fail
   clear r0 r1 r2 r3 r4 r5 r6
   generalize ((w1.setCell ⟨w.heap.size + 2, 0, none⟩ (.int .i64 (m))).setCell ⟨w.heap.size + 2, 1, none⟩ (.int .i64 (e))).setCell ⟨w.heap.size + 2, 2, none⟩ (.int .i64 (s)) = vz at *
   obtain ⟨r0, r1, r2, r3, r4, r5, r6⟩ := id RR
   exact bodyPost_ret (v := .tuple #[.agg #[.int .i64 (m), .int .i64 (e), .int .i64 (s)], .int .i64 2]) (by simp (maxDischargeDepth := 6) [results, Tryz.results78, go_sem, r1, r2, r3]) rfl ⟨rfl, BB⟩
  ·have hq : (e == 100000) = false := by simp [he]
   have hw1 : wrap64 (e + 1) = e + 1 := Go.IntWalk.wrap64_in _ ⟨by omega, by omega⟩
   have hw2 : IntKind.i64.wrap (e + 1) = e + 1 := Go.IntWalk.i64_in _ ⟨by omega, by omega⟩
   have mb : bT m e 1 = true := by unfold bT; rw [h4, hq]; rfl
   have hC : stC m e s 1 t = 0 := by rw [stC, ev, mb]
   have hM : stM m e s 1 t = 1 := by rw [stM, ev, mb]; rfl
   have hE : stE m e s 1 t = e + 1 := by rw [stE, ev, mb]; rfl
   have hS : stS m e s 1 t = t := by rw [stS, ev, mb]; rw [if_neg (by rw [hm0]; decide)]
   rw [hC, hM, hE, hS]
   clear ev mb hC hM hE hS
   have hne : ((1 : Int) != m) = true := by rw [hm0]; rfl
   clear he hlk heb hm0 hk6
   go_enter Tryz.func78, Tryz.ntmps78
   go_upto_region 1 with fail
   generalize ((w.alloc (.cells #[.int .i64 m, .int .i64 e, .int .i64 s] 46)).alloc (.cells #[.int .i64 1, .int .i64 t] 148)).alloc (.cells #[.int .i64 0, .int .i64 0, .int .i64 0] 46) = v at *
   have n0 : _ ∧ _ := N
   go_wp2_with fail
   refine (C1 _).mono ?_
   rintro x w1 ⟨rfl, hb⟩
   clear n0
   rw [h1]
   replace B := B.trans (hb.mono B.size)
   replace N := N.below hb
   replace E := E.below hb
   replace R := R.below hb
   clear hb
   have e0_ : _ ∧ _ := E
   go_wp2_with fail
   refine (C2 _).mono ?_
   rintro x w' ⟨rfl, rfl⟩
   rw [h2]
   clear e0_
   have e0_ : _ ∧ _ := E
   have n0 : _ ∧ _ := N
   go_wp2_with fail
   refine (C3 _).mono ?_
   rintro x w' ⟨rfl, rfl⟩
   rw [h3]
   clear e0_
   clear n0
   have e0_ : _ ∧ _ := E
   have n0 : _ ∧ _ := N
   go_wp2_with fail
   refine (C4 _).mono ?_
   rintro x w' ⟨rfl, rfl⟩
   rw [h4]
   clear e0_
   clear n0
   have Y := Tx3.new w1 (.int .i64 m) (.int .i64 e) (.int .i64 s) 46
   have hb := Below.nw w1 (.cells #[.int .i64 m, .int .i64 e, .int .i64 s] 46)
   have hy : w.heap.size ≤ w1.heap.size := B.size
   have hyr : w.heap.size + 2 < w1.heap.size := R.1
   have n0 : _ ∧ _ := N
   have e0_ : _ ∧ _ := E
   go_upto_region 6 with fail
   clear n0
   clear e0_
   replace B := B.trans (hb.mono B.size)
   replace N := N.below hb
   replace E := E.below hb
   replace R := R.below hb
   clear hb
   generalize w1.alloc (.cells #[.int .i64 m, .int .i64 e, .int .i64 s] 46) = w2 at *
   generalize w1.heap.size = jy at *
   have y0 : _ ∧ _ := Y
   have e0_ : _ ∧ _ := E
   have n0 : _ ∧ _ := N
   go_upto_region 9 with fail
   clear n0
   clear e0_
   clear y0
   replace Y := Y.set0 (.int .i64 (1))
   have bz : But jy w2 _ := (But.refl jy w2).setCell 0 (.int .i64 (1))
   replace N := N.but bz (by omega)
   replace E := E.but bz (by omega)
   replace R := R.but bz (by omega)
   replace B := B.trans (bz.below hy B.size)
   clear bz
   generalize w2.setCell ⟨jy, 0, none⟩ (.int .i64 (1)) = w3 at *
   have y0 : _ ∧ _ := Y
   have e0_ : _ ∧ _ := E
   have n0 : _ ∧ _ := N
   go_upto_region 19 with fail
   clear n0
   clear e0_
   clear y0
   replace Y := Y.set1 (.int .i64 (e + 1))
   have bz : But jy w3 _ := (But.refl jy w3).setCell 1 (.int .i64 (e + 1))
   replace N := N.but bz (by omega)
   replace E := E.but bz (by omega)
   replace R := R.but bz (by omega)
   replace B := B.trans (bz.below hy B.size)
   clear bz
   generalize w3.setCell ⟨jy, 1, none⟩ (.int .i64 (e + 1)) = w4 at *
   have y0 : _ ∧ _ := Y
   have e0_ : _ ∧ _ := E
   have n0 : _ ∧ _ := N
   go_upto_region 21 with fail
   clear n0
   clear e0_
   clear y0
   replace Y := Y.set2 (.int .i64 (t))
   have bz : But jy w4 _ := (But.refl jy w4).setCell 2 (.int .i64 (t))
   replace N := N.but bz (by omega)
   replace E := E.but bz (by omega)
   replace R := R.but bz (by omega)
   replace B := B.trans (bz.below hy B.size)
   clear bz
   generalize w4.setCell ⟨jy, 2, none⟩ (.int .i64 (t)) = w5 at *
   have y0 : _ ∧ _ := Y
   have e0_ : _ ∧ _ := E
   have n0 : _ ∧ _ := N
   have RR := ((R.set0 (.int .i64 (1))).set1 (.int .i64 (e + 1))).set2 (.int .i64 (t))
   have BB := ((B.setCell (p := ⟨w.heap.size + 2, 0, none⟩) (Nat.le_add_right w.heap.size 2) (.int .i64 (1))).setCell (p := ⟨w.heap.size + 2, 1, none⟩) (Nat.le_add_right w.heap.size 2) (.int .i64 (e + 1))).setCell (p := ⟨w.heap.size + 2, 2, none⟩) (Nat.le_add_right w.heap.size 2) (.int .i64 (t))
   obtain ⟨r0, r1, r2, r3, r4, r5, r6⟩ := id R
   go_wp2_with fail
   clear r0 r1 r2 r3 r4 r5 r6
   generalize ((w5.setCell ⟨w.heap.size + 2, 0, none⟩ (.int .i64 (1))).setCell ⟨w.heap.size + 2, 1, none⟩ (.int .i64 (e + 1))).setCell ⟨w.heap.size + 2, 2, none⟩ (.int .i64 (t)) = vz at *
   obtain ⟨r0, r1, r2, r3, r4, r5, r6⟩ := id RR
   exact bodyPost_ret (v := .tuple #[.agg #[.int .i64 (1), .int .i64 (e + 1), .int .i64 (t)], .int .i64 0]) (by simp (maxDischargeDepth := 6) [results, Tryz.results78, go_sem, r1, r2, r3]) rfl ⟨rfl, BB⟩
 by_cases k2 : k = 2
 ·subst k2
  have hm0 : m ≠ 0 := by unfold lkB at hlk; simpa using hlk
  have mb : bT m e 2 = true := by unfold bT; rw [h4]; rfl
  have hC : stC m e s 2 t = 0 := by rw [stC, ev, mb]
  have hM : stM m e s 2 t = 0 := by rw [stM, ev, mb]; rfl
  have hE : stE m e s 2 t = e := by rw [stE, ev, mb]; rfl
  have hS : stS m e s 2 t = t := by rw [stS, ev, mb]; rw [if_neg (fun h => hm0 h.symm)]
  rw [hC, hM, hE, hS]
  clear ev mb hC hM hE hS
  have hne : ((0 : Int) != m) = true := by simp; exact fun h => hm0 h.symm
  clear hlk heb hm0 hk6 k1
  go_enter Tryz.func78, Tryz.ntmps78
  go_upto_region 1 with fail
  generalize ((w.alloc (.cells #[.int .i64 m, .int .i64 e, .int .i64 s] 46)).alloc (.cells #[.int .i64 2, .int .i64 t] 148)).alloc (.cells #[.int .i64 0, .int .i64 0, .int .i64 0] 46) = v at *
  have n0 : _ ∧ _ := N
  go_wp2_with fail
  refine (C1 _).mono ?_
  rintro x w1 ⟨rfl, hb⟩
  clear n0
  rw [h1]
  replace B := B.trans (hb.mono B.size)
  replace N := N.below hb
  replace E := E.below hb
  replace R := R.below hb
  clear hb
  have e0_ : _ ∧ _ := E
  go_wp2_with fail
  refine (C2 _).mono ?_
  rintro x w' ⟨rfl, rfl⟩
  rw [h2]
  clear e0_
  have e0_ : _ ∧ _ := E
  have n0 : _ ∧ _ := N
  go_wp2_with fail
  refine (C3 _).mono ?_
  rintro x w' ⟨rfl, rfl⟩
  rw [h3]
  clear e0_
  clear n0
  have e0_ : _ ∧ _ := E
  have n0 : _ ∧ _ := N
  go_wp2_with fail
  refine (C4 _).mono ?_
  rintro x w' ⟨rfl, rfl⟩
  rw [h4]
  clear e0_
  clear n0
  have Y := Tx3.new w1 (.int .i64 m) (.int .i64 e) (.int .i64 s) 46
  have hb := Below.nw w1 (.cells #[.int .i64 m, .int .i64 e, .int .i64 s] 46)
  have hy : w.heap.size ≤ w1.heap.size := B.size
  have hyr : w.heap.size + 2 < w1.heap.size := R.1
  have n0 : _ ∧ _ := N
  have e0_ : _ ∧ _ := E
  go_upto_region 6 with fail
  clear n0
  clear e0_
  replace B := B.trans (hb.mono B.size)
  replace N := N.below hb
  replace E := E.below hb
  replace R := R.below hb
  clear hb
  generalize w1.alloc (.cells #[.int .i64 m, .int .i64 e, .int .i64 s] 46) = w2 at *
  generalize w1.heap.size = jy at *
  have y0 : _ ∧ _ := Y
  have e0_ : _ ∧ _ := E
  have n0 : _ ∧ _ := N
  go_upto_region 19 with fail
  clear n0
  clear e0_
  clear y0
  replace Y := Y.set0 (.int .i64 (0))
  have bz : But jy w2 _ := (But.refl jy w2).setCell 0 (.int .i64 (0))
  replace N := N.but bz (by omega)
  replace E := E.but bz (by omega)
  replace R := R.but bz (by omega)
  replace B := B.trans (bz.below hy B.size)
  clear bz
  generalize w2.setCell ⟨jy, 0, none⟩ (.int .i64 (0)) = w3 at *
  have y0 : _ ∧ _ := Y
  have e0_ : _ ∧ _ := E
  have n0 : _ ∧ _ := N
  go_upto_region 21 with fail
  clear n0
  clear e0_
  clear y0
  replace Y := Y.set2 (.int .i64 (t))
  have bz : But jy w3 _ := (But.refl jy w3).setCell 2 (.int .i64 (t))
  replace N := N.but bz (by omega)
  replace E := E.but bz (by omega)
  replace R := R.but bz (by omega)
  replace B := B.trans (bz.below hy B.size)
  clear bz
  generalize w3.setCell ⟨jy, 2, none⟩ (.int .i64 (t)) = w4 at *
  have y0 : _ ∧ _ := Y
  have e0_ : _ ∧ _ := E
  have n0 : _ ∧ _ := N
  have RR := ((R.set0 (.int .i64 (0))).set1 (.int .i64 (e))).set2 (.int .i64 (t))
  have BB := ((B.setCell (p := ⟨w.heap.size + 2, 0, none⟩) (Nat.le_add_right w.heap.size 2) (.int .i64 (0))).setCell (p := ⟨w.heap.size + 2, 1, none⟩) (Nat.le_add_right w.heap.size 2) (.int .i64 (e))).setCell (p := ⟨w.heap.size + 2, 2, none⟩) (Nat.le_add_right w.heap.size 2) (.int .i64 (t))
  obtain ⟨r0, r1, r2, r3, r4, r5, r6⟩ := id R
  go_wp2_with fail
  clear r0 r1 r2 r3 r4 r5 r6
  generalize ((w4.setCell ⟨w.heap.size + 2, 0, none⟩ (.int .i64 (0))).setCell ⟨w.heap.size + 2, 1, none⟩ (.int .i64 (e))).setCell ⟨w.heap.size + 2, 2, none⟩ (.int .i64 (t)) = vz at *
  obtain ⟨r0, r1, r2, r3, r4, r5, r6⟩ := id RR
  exact bodyPost_ret (v := .tuple #[.agg #[.int .i64 (0), .int .i64 (e), .int .i64 (t)], .int .i64 0]) (by simp (maxDischargeDepth := 6) [results, Tryz.results78, go_sem, r1, r2, r3]) rfl ⟨rfl, BB⟩
 by_cases k3 : k = 3
 ·subst k3
  by_cases hm2 : m = 2
  ·have hne : ((2 : Int) != m) = false := by rw [hm2]; rfl
   have mb : bT m e 3 = true := by unfold bT; rw [h4]; rfl
   have hC : stC m e s 3 t = 0 := by rw [stC, ev, mb]
   have hM : stM m e s 3 t = 2 := by rw [stM, ev, mb]; rfl
   have hE : stE m e s 3 t = e := by rw [stE, ev, mb]; rfl
   have hS : stS m e s 3 t = s := by rw [stS, ev, mb]; rw [if_pos (by rw [hm2]; rfl)]
   rw [hC, hM, hE, hS]
   clear ev mb hC hM hE hS
   clear hlk heb hm2 hk6 k1 k2
   go_enter Tryz.func78, Tryz.ntmps78
   go_upto_region 1 with fail
   generalize ((w.alloc (.cells #[.int .i64 m, .int .i64 e, .int .i64 s] 46)).alloc (.cells #[.int .i64 3, .int .i64 t] 148)).alloc (.cells #[.int .i64 0, .int .i64 0, .int .i64 0] 46) = v at *
   have n0 : _ ∧ _ := N
   go_wp2_with fail
   refine (C1 _).mono ?_
   rintro x w1 ⟨rfl, hb⟩
   clear n0
   rw [h1]
   replace B := B.trans (hb.mono B.size)
   replace N := N.below hb
   replace E := E.below hb
   replace R := R.below hb
   clear hb
   have e0_ : _ ∧ _ := E
   go_wp2_with fail
   refine (C2 _).mono ?_
   rintro x w' ⟨rfl, rfl⟩
   rw [h2]
   clear e0_
   have e0_ : _ ∧ _ := E
   have n0 : _ ∧ _ := N
   go_wp2_with fail
   refine (C3 _).mono ?_
   rintro x w' ⟨rfl, rfl⟩
   rw [h3]
   clear e0_
   clear n0
   have e0_ : _ ∧ _ := E
   have n0 : _ ∧ _ := N
   go_wp2_with fail
   refine (C4 _).mono ?_
   rintro x w' ⟨rfl, rfl⟩
   rw [h4]
   clear e0_
   clear n0
   have Y := Tx3.new w1 (.int .i64 m) (.int .i64 e) (.int .i64 s) 46
   have hb := Below.nw w1 (.cells #[.int .i64 m, .int .i64 e, .int .i64 s] 46)
   have hy : w.heap.size ≤ w1.heap.size := B.size
   have hyr : w.heap.size + 2 < w1.heap.size := R.1
   have n0 : _ ∧ _ := N
   have e0_ : _ ∧ _ := E
   go_upto_region 6 with fail
   clear n0
   clear e0_
   replace B := B.trans (hb.mono B.size)
   replace N := N.below hb
   replace E := E.below hb
   replace R := R.below hb
   clear hb
   generalize w1.alloc (.cells #[.int .i64 m, .int .i64 e, .int .i64 s] 46) = w2 at *
   generalize w1.heap.size = jy at *
   have y0 : _ ∧ _ := Y
   have e0_ : _ ∧ _ := E
   have n0 : _ ∧ _ := N
   go_upto_region 19 with fail
   clear n0
   clear e0_
   clear y0
   replace Y := Y.set0 (.int .i64 (2))
   have bz : But jy w2 _ := (But.refl jy w2).setCell 0 (.int .i64 (2))
   replace N := N.but bz (by omega)
   replace E := E.but bz (by omega)
   replace R := R.but bz (by omega)
   replace B := B.trans (bz.below hy B.size)
   clear bz
   generalize w2.setCell ⟨jy, 0, none⟩ (.int .i64 (2)) = w3 at *
   have y0 : _ ∧ _ := Y
   have e0_ : _ ∧ _ := E
   have n0 : _ ∧ _ := N
   have RR := ((R.set0 (.int .i64 (2))).set1 (.int .i64 (e))).set2 (.int .i64 (s))
   have BB := ((B.setCell (p := ⟨w.heap.size + 2, 0, none⟩) (Nat.le_add_right w.heap.size 2) (.int .i64 (2))).setCell (p := ⟨w.heap.size + 2, 1, none⟩) (Nat.le_add_right w.heap.size 2) (.int .i64 (e))).setCell (p := ⟨w.heap.size + 2, 2, none⟩) (Nat.le_add_right w.heap.size 2) (.int .i64 (s))
   obtain ⟨r0, r1, r2, r3, r4, r5, r6⟩ := id R
   go_wp2_with fail
   clear r0 r1 r2 r3 r4 r5 r6
   generalize ((w3.setCell ⟨w.heap.size + 2, 0, none⟩ (.int .i64 (2))).setCell ⟨w.heap.size + 2, 1, none⟩ (.int .i64 (e))).setCell ⟨w.heap.size + 2, 2, none⟩ (.int .i64 (s)) = vz at *
   obtain ⟨r0, r1, r2, r3, r4, r5, r6⟩ := id RR
   exact bodyPost_ret (v := .tuple #[.agg #[.int .i64 (2), .int .i64 (e), .int .i64 (s)], .int .i64 0]) (by simp (maxDischargeDepth := 6) [results, Tryz.results78, go_sem, r1, r2, r3]) rfl ⟨rfl, BB⟩
  ·have hne : ((2 : Int) != m) = true := by simp; exact fun h => hm2 h.symm
   have mb : bT m e 3 = true := by unfold bT; rw [h4]; rfl
   have hC : stC m e s 3 t = 0 := by rw [stC, ev, mb]
   have hM : stM m e s 3 t = 2 := by rw [stM, ev, mb]; rfl
   have hE : stE m e s 3 t = e := by rw [stE, ev, mb]; rfl
   have hS : stS m e s 3 t = t := by rw [stS, ev, mb]; rw [if_neg (fun h => hm2 h.symm)]
   rw [hC, hM, hE, hS]
   clear ev mb hC hM hE hS
   clear hlk heb hm2 hk6 k1 k2
   go_enter Tryz.func78, Tryz.ntmps78
   go_upto_region 1 with fail
   generalize ((w.alloc (.cells #[.int .i64 m, .int .i64 e, .int .i64 s] 46)).alloc (.cells #[.int .i64 3, .int .i64 t] 148)).alloc (.cells #[.int .i64 0, .int .i64 0, .int .i64 0] 46) = v at *
   have n0 : _ ∧ _ := N
   go_wp2_with fail
   refine (C1 _).mono ?_
   rintro x w1 ⟨rfl, hb⟩
   clear n0
   rw [h1]
   replace B := B.trans (hb.mono B.size)
   replace N := N.below hb
   replace E := E.below hb
   replace R := R.below hb
   clear hb
   have e0_ : _ ∧ _ := E
   go_wp2_with fail
   refine (C2 _).mono ?_
   rintro x w' ⟨rfl, rfl⟩
   rw [h2]
   clear e0_
   have e0_ : _ ∧ _ := E
   have n0 : _ ∧ _ := N
   go_wp2_with fail
   refine (C3 _).mono ?_
   rintro x w' ⟨rfl, rfl⟩
   rw [h3]
   clear e0_
   clear n0
   have e0_ : _ ∧ _ := E
   have n0 : _ ∧ _ := N
   go_wp2_with fail
   refine (C4 _).mono ?_
   rintro x w' ⟨rfl, rfl⟩
   rw [h4]
   clear e0_
   clear n0
   have Y := Tx3.new w1 (.int .i64 m) (.int .i64 e) (.int .i64 s) 46
   have hb := Below.nw w1 (.cells #[.int .i64 m, .int .i64 e, .int .i64 s] 46)
   have hy : w.heap.size ≤ w1.heap.size := B.size
   have hyr : w.heap.size + 2 < w1.heap.size := R.1
   have n0 : _ ∧ _ := N
   have e0_ : _ ∧ _ := E
   go_upto_region 6 with fail
   clear n0
   clear e0_
   replace B := B.trans (hb.mono B.size)
   replace N := N.below hb
   replace E := E.below hb
   replace R := R.below hb
   clear hb
   generalize w1.alloc (.cells #[.int .i64 m, .int .i64 e, .int .i64 s] 46) = w2 at *
   generalize w1.heap.size = jy at *
   have y0 : _ ∧ _ := Y
   have e0_ : _ ∧ _ := E
   have n0 : _ ∧ _ := N
   go_upto_region 19 with fail
   clear n0
   clear e0_
   clear y0
   replace Y := Y.set0 (.int .i64 (2))
   have bz : But jy w2 _ := (But.refl jy w2).setCell 0 (.int .i64 (2))
   replace N := N.but bz (by omega)
   replace E := E.but bz (by omega)
   replace R := R.but bz (by omega)
   replace B := B.trans (bz.below hy B.size)
   clear bz
   generalize w2.setCell ⟨jy, 0, none⟩ (.int .i64 (2)) = w3 at *
   have y0 : _ ∧ _ := Y
   have e0_ : _ ∧ _ := E
   have n0 : _ ∧ _ := N
   go_upto_region 21 with fail
   clear n0
   clear e0_
   clear y0
   replace Y := Y.set2 (.int .i64 (t))
   have bz : But jy w3 _ := (But.refl jy w3).setCell 2 (.int .i64 (t))
   replace N := N.but bz (by omega)
   replace E := E.but bz (by omega)
   replace R := R.but bz (by omega)
   replace B := B.trans (bz.below hy B.size)
   clear bz
   generalize w3.setCell ⟨jy, 2, none⟩ (.int .i64 (t)) = w4 at *
   have y0 : _ ∧ _ := Y
   have e0_ : _ ∧ _ := E
   have n0 : _ ∧ _ := N
   have RR := ((R.set0 (.int .i64 (2))).set1 (.int .i64 (e))).set2 (.int .i64 (t))
   have BB := ((B.setCell (p := ⟨w.heap.size + 2, 0, none⟩) (Nat.le_add_right w.heap.size 2) (.int .i64 (2))).setCell (p := ⟨w.heap.size + 2, 1, none⟩) (Nat.le_add_right w.heap.size 2) (.int .i64 (e))).setCell (p := ⟨w.heap.size + 2, 2, none⟩) (Nat.le_add_right w.heap.size 2) (.int .i64 (t))
   obtain ⟨r0, r1, r2, r3, r4, r5, r6⟩ := id R
   go_wp2_with fail
   clear r0 r1 r2 r3 r4 r5 r6
   generalize ((w4.setCell ⟨w.heap.size + 2, 0, none⟩ (.int .i64 (2))).setCell ⟨w.heap.size + 2, 1, none⟩ (.int .i64 (e))).setCell ⟨w.heap.size + 2, 2, none⟩ (.int .i64 (t)) = vz at *
   obtain ⟨r0, r1, r2, r3, r4, r5, r6⟩ := id RR
   exact bodyPost_ret (v := .tuple #[.agg #[.int .i64 (2), .int .i64 (e), .int .i64 (t)], .int .i64 0]) (by simp (maxDischargeDepth := 6) [results, Tryz.results78, go_sem, r1, r2, r3]) rfl ⟨rfl, BB⟩
 by_cases k4 : k = 4
 ·subst k4
  have hm0 : m = 2 := by unfold lkB at hlk; simpa using hlk
  have mb : bT m e 4 = true := by unfold bT; rw [h4]; rfl
  have hC : stC m e s 4 t = 0 := by rw [stC, ev, mb]
  have hM : stM m e s 4 t = 3 := by rw [stM, ev, mb]; rfl
  have hE : stE m e s 4 t = e := by rw [stE, ev, mb]; rfl
  have hS : stS m e s 4 t = t := by rw [stS, ev, mb]; rw [if_neg (by rw [hm0]; decide)]
  rw [hC, hM, hE, hS]
  clear ev mb hC hM hE hS
  have hne : ((3 : Int) != m) = true := by rw [hm0]; rfl
  clear hlk heb hm0 hk6 k1 k2 k3
  go_enter Tryz.func78, Tryz.ntmps78
  go_upto_region 1 with fail
  generalize ((w.alloc (.cells #[.int .i64 m, .int .i64 e, .int .i64 s] 46)).alloc (.cells #[.int .i64 4, .int .i64 t] 148)).alloc (.cells #[.int .i64 0, .int .i64 0, .int .i64 0] 46) = v at *
  have n0 : _ ∧ _ := N
  go_wp2_with fail
  refine (C1 _).mono ?_
  rintro x w1 ⟨rfl, hb⟩
  clear n0
  rw [h1]
  replace B := B.trans (hb.mono B.size)
  replace N := N.below hb
  replace E := E.below hb
  replace R := R.below hb
  clear hb
  have e0_ : _ ∧ _ := E
  go_wp2_with fail
  refine (C2 _).mono ?_
  rintro x w' ⟨rfl, rfl⟩
  rw [h2]
  clear e0_
  have e0_ : _ ∧ _ := E
  have n0 : _ ∧ _ := N
  go_wp2_with fail
  refine (C3 _).mono ?_
  rintro x w' ⟨rfl, rfl⟩
  rw [h3]
  clear e0_
  clear n0
  have e0_ : _ ∧ _ := E
  have n0 : _ ∧ _ := N
  go_wp2_with fail
  refine (C4 _).mono ?_
  rintro x w' ⟨rfl, rfl⟩
  rw [h4]
  clear e0_
  clear n0
  have Y := Tx3.new w1 (.int .i64 m) (.int .i64 e) (.int .i64 s) 46
  have hb := Below.nw w1 (.cells #[.int .i64 m, .int .i64 e, .int .i64 s] 46)
  have hy : w.heap.size ≤ w1.heap.size := B.size
  have hyr : w.heap.size + 2 < w1.heap.size := R.1
  have n0 : _ ∧ _ := N
  have e0_ : _ ∧ _ := E
  go_upto_region 6 with fail
  clear n0
  clear e0_
  replace B := B.trans (hb.mono B.size)
  replace N := N.below hb
  replace E := E.below hb
  replace R := R.below hb
  clear hb
  generalize w1.alloc (.cells #[.int .i64 m, .int .i64 e, .int .i64 s] 46) = w2 at *
  generalize w1.heap.size = jy at *
  have y0 : _ ∧ _ := Y
  have e0_ : _ ∧ _ := E
  have n0 : _ ∧ _ := N
  go_upto_region 19 with fail
  clear n0
  clear e0_
  clear y0
  replace Y := Y.set0 (.int .i64 (3))
  have bz : But jy w2 _ := (But.refl jy w2).setCell 0 (.int .i64 (3))
  replace N := N.but bz (by omega)
  replace E := E.but bz (by omega)
  replace R := R.but bz (by omega)
  replace B := B.trans (bz.below hy B.size)
  clear bz
  generalize w2.setCell ⟨jy, 0, none⟩ (.int .i64 (3)) = w3 at *
  have y0 : _ ∧ _ := Y
  have e0_ : _ ∧ _ := E
  have n0 : _ ∧ _ := N
  go_upto_region 21 with fail
  clear n0
  clear e0_
  clear y0
  replace Y := Y.set2 (.int .i64 (t))
  have bz : But jy w3 _ := (But.refl jy w3).setCell 2 (.int .i64 (t))
  replace N := N.but bz (by omega)
  replace E := E.but bz (by omega)
  replace R := R.but bz (by omega)
  replace B := B.trans (bz.below hy B.size)
  clear bz
  generalize w3.setCell ⟨jy, 2, none⟩ (.int .i64 (t)) = w4 at *
  have y0 : _ ∧ _ := Y
  have e0_ : _ ∧ _ := E
  have n0 : _ ∧ _ := N
  have RR := ((R.set0 (.int .i64 (3))).set1 (.int .i64 (e))).set2 (.int .i64 (t))
  have BB := ((B.setCell (p := ⟨w.heap.size + 2, 0, none⟩) (Nat.le_add_right w.heap.size 2) (.int .i64 (3))).setCell (p := ⟨w.heap.size + 2, 1, none⟩) (Nat.le_add_right w.heap.size 2) (.int .i64 (e))).setCell (p := ⟨w.heap.size + 2, 2, none⟩) (Nat.le_add_right w.heap.size 2) (.int .i64 (t))
  obtain ⟨r0, r1, r2, r3, r4, r5, r6⟩ := id R
  go_wp2_with fail
  clear r0 r1 r2 r3 r4 r5 r6
  generalize ((w4.setCell ⟨w.heap.size + 2, 0, none⟩ (.int .i64 (3))).setCell ⟨w.heap.size + 2, 1, none⟩ (.int .i64 (e))).setCell ⟨w.heap.size + 2, 2, none⟩ (.int .i64 (t)) = vz at *
  obtain ⟨r0, r1, r2, r3, r4, r5, r6⟩ := id RR
  exact bodyPost_ret (v := .tuple #[.agg #[.int .i64 (3), .int .i64 (e), .int .i64 (t)], .int .i64 0]) (by simp (maxDischargeDepth := 6) [results, Tryz.results78, go_sem, r1, r2, r3]) rfl ⟨rfl, BB⟩
 by_cases k5 : k = 5
 ·subst k5
  have hm0 : m = 3 := by unfold lkB at hlk; simpa using hlk
  have mb : bT m e 5 = true := by unfold bT; rw [h4]; rfl
  have hC : stC m e s 5 t = 0 := by rw [stC, ev, mb]
  have hM : stM m e s 5 t = 2 := by rw [stM, ev, mb]; rfl
  have hE : stE m e s 5 t = e := by rw [stE, ev, mb]; rfl
  have hS : stS m e s 5 t = t := by rw [stS, ev, mb]; rw [if_neg (by rw [hm0]; decide)]
  rw [hC, hM, hE, hS]
  clear ev mb hC hM hE hS
  have hne : ((2 : Int) != m) = true := by rw [hm0]; rfl
  clear hlk heb hm0 hk6 k1 k2 k3 k4
  go_enter Tryz.func78, Tryz.ntmps78
  go_upto_region 1 with fail
  generalize ((w.alloc (.cells #[.int .i64 m, .int .i64 e, .int .i64 s] 46)).alloc (.cells #[.int .i64 5, .int .i64 t] 148)).alloc (.cells #[.int .i64 0, .int .i64 0, .int .i64 0] 46) = v at *
  have n0 : _ ∧ _ := N
  go_wp2_with fail
  refine (C1 _).mono ?_
  rintro x w1 ⟨rfl, hb⟩
  clear n0
  rw [h1]
  replace B := B.trans (hb.mono B.size)
  replace N := N.below hb
  replace E := E.below hb
  replace R := R.below hb
  clear hb
  have e0_ : _ ∧ _ := E
  go_wp2_with fail
  refine (C2 _).mono ?_
  rintro x w' ⟨rfl, rfl⟩
  rw [h2]
  clear e0_
  have e0_ : _ ∧ _ := E
  have n0 : _ ∧ _ := N
  go_wp2_with fail
  refine (C3 _).mono ?_
  rintro x w' ⟨rfl, rfl⟩
  rw [h3]
  clear e0_
  clear n0
  have e0_ : _ ∧ _ := E
  have n0 : _ ∧ _ := N
  go_wp2_with fail
  refine (C4 _).mono ?_
  rintro x w' ⟨rfl, rfl⟩
  rw [h4]
  clear e0_
  clear n0
  have Y := Tx3.new w1 (.int .i64 m) (.int .i64 e) (.int .i64 s) 46
  have hb := Below.nw w1 (.cells #[.int .i64 m, .int .i64 e, .int .i64 s] 46)
  have hy : w.heap.size ≤ w1.heap.size := B.size
  have hyr : w.heap.size + 2 < w1.heap.size := R.1
  have n0 : _ ∧ _ := N
  have e0_ : _ ∧ _ := E
  go_upto_region 6 with fail
  clear n0
  clear e0_
  replace B := B.trans (hb.mono B.size)
  replace N := N.below hb
  replace E := E.below hb
  replace R := R.below hb
  clear hb
  generalize w1.alloc (.cells #[.int .i64 m, .int .i64 e, .int .i64 s] 46) = w2 at *
  generalize w1.heap.size = jy at *
  have y0 : _ ∧ _ := Y
  have e0_ : _ ∧ _ := E
  have n0 : _ ∧ _ := N
  go_upto_region 19 with fail
  clear n0
  clear e0_
  clear y0
  replace Y := Y.set0 (.int .i64 (2))
  have bz : But jy w2 _ := (But.refl jy w2).setCell 0 (.int .i64 (2))
  replace N := N.but bz (by omega)
  replace E := E.but bz (by omega)
  replace R := R.but bz (by omega)
  replace B := B.trans (bz.below hy B.size)
  clear bz
  generalize w2.setCell ⟨jy, 0, none⟩ (.int .i64 (2)) = w3 at *
  have y0 : _ ∧ _ := Y
  have e0_ : _ ∧ _ := E
  have n0 : _ ∧ _ := N
  go_upto_region 21 with fail
  clear n0
  clear e0_
  clear y0
  replace Y := Y.set2 (.int .i64 (t))
  have bz : But jy w3 _ := (But.refl jy w3).setCell 2 (.int .i64 (t))
  replace N := N.but bz (by omega)
  replace E := E.but bz (by omega)
  replace R := R.but bz (by omega)
  replace B := B.trans (bz.below hy B.size)
  clear bz
  generalize w3.setCell ⟨jy, 2, none⟩ (.int .i64 (t)) = w4 at *
  have y0 : _ ∧ _ := Y
  have e0_ : _ ∧ _ := E
  have n0 : _ ∧ _ := N
  have RR := ((R.set0 (.int .i64 (2))).set1 (.int .i64 (e))).set2 (.int .i64 (t))
  have BB := ((B.setCell (p := ⟨w.heap.size + 2, 0, none⟩) (Nat.le_add_right w.heap.size 2) (.int .i64 (2))).setCell (p := ⟨w.heap.size + 2, 1, none⟩) (Nat.le_add_right w.heap.size 2) (.int .i64 (e))).setCell (p := ⟨w.heap.size + 2, 2, none⟩) (Nat.le_add_right w.heap.size 2) (.int .i64 (t))
  obtain ⟨r0, r1, r2, r3, r4, r5, r6⟩ := id R
  go_wp2_with fail
  clear r0 r1 r2 r3 r4 r5 r6
  generalize ((w4.setCell ⟨w.heap.size + 2, 0, none⟩ (.int .i64 (2))).setCell ⟨w.heap.size + 2, 1, none⟩ (.int .i64 (e))).setCell ⟨w.heap.size + 2, 2, none⟩ (.int .i64 (t)) = vz at *
  obtain ⟨r0, r1, r2, r3, r4, r5, r6⟩ := id RR
  exact bodyPost_ret (v := .tuple #[.agg #[.int .i64 (2), .int .i64 (e), .int .i64 (t)], .int .i64 0]) (by simp (maxDischargeDepth := 6) [results, Tryz.results78, go_sem, r1, r2, r3]) rfl ⟨rfl, BB⟩
 obtain rfl : k = 6 := by omega
 have hm0 : m ≠ 1 := by
  intro h
  rw [h] at hlk
  exact absurd hlk (by decide)
 have mb : bT m e 6 = true := by unfold bT; rw [h4]; rfl
 have hC : stC m e s 6 t = 0 := by rw [stC, ev, mb]
 have hM : stM m e s 6 t = 1 := by rw [stM, ev, mb]; rfl
 have hE : stE m e s 6 t = e := by rw [stE, ev, mb]; rfl
 have hS : stS m e s 6 t = t := by rw [stS, ev, mb]; rw [if_neg (fun h => hm0 h.symm)]
 rw [hC, hM, hE, hS]
 clear ev mb hC hM hE hS
 have hne : ((1 : Int) != m) = true := by simp; exact fun h => hm0 h.symm
 clear hlk heb hm0 hk6 k1 k2 k3 k4 k5
 go_enter Tryz.func78, Tryz.ntmps78
 go_upto_region 1 with fail
 generalize ((w.alloc (.cells #[.int .i64 m, .int .i64 e, .int .i64 s] 46)).alloc (.cells #[.int .i64 6, .int .i64 t] 148)).alloc (.cells #[.int .i64 0, .int .i64 0, .int .i64 0] 46) = v at *
 have n0 : _ ∧ _ := N
 go_wp2_with fail
 refine (C1 _).mono ?_
 rintro x w1 ⟨rfl, hb⟩
 clear n0
 rw [h1]
 replace B := B.trans (hb.mono B.size)
 replace N := N.below hb
 replace E := E.below hb
 replace R := R.below hb
 clear hb
 have e0_ : _ ∧ _ := E
 go_wp2_with fail
 refine (C2 _).mono ?_
 rintro x w' ⟨rfl, rfl⟩
 rw [h2]
 clear e0_
 have e0_ : _ ∧ _ := E
 have n0 : _ ∧ _ := N
 go_wp2_with fail
 refine (C3 _).mono ?_
 rintro x w' ⟨rfl, rfl⟩
 rw [h3]
 clear e0_
 clear n0
 have e0_ : _ ∧ _ := E
 have n0 : _ ∧ _ := N
 go_wp2_with fail
 refine (C4 _).mono ?_
 rintro x w' ⟨rfl, rfl⟩
 rw [h4]
 clear e0_
 clear n0
 have Y := Tx3.new w1 (.int .i64 m) (.int .i64 e) (.int .i64 s) 46
 have hb := Below.nw w1 (.cells #[.int .i64 m, .int .i64 e, .int .i64 s] 46)
 have hy : w.heap.size ≤ w1.heap.size := B.size
 have hyr : w.heap.size + 2 < w1.heap.size := R.1
 have n0 : _ ∧ _ := N
 have e0_ : _ ∧ _ := E
 go_upto_region 6 with fail
 clear n0
 clear e0_
 replace B := B.trans (hb.mono B.size)
 replace N := N.below hb
 replace E := E.below hb
 replace R := R.below hb
 clear hb
 generalize w1.alloc (.cells #[.int .i64 m, .int .i64 e, .int .i64 s] 46) = w2 at *
 generalize w1.heap.size = jy at *
 have y0 : _ ∧ _ := Y
 have e0_ : _ ∧ _ := E
 have n0 : _ ∧ _ := N
 go_upto_region 19 with fail
 clear n0
 clear e0_
 clear y0
 replace Y := Y.set0 (.int .i64 (1))
 have bz : But jy w2 _ := (But.refl jy w2).setCell 0 (.int .i64 (1))
 replace N := N.but bz (by omega)
 replace E := E.but bz (by omega)
 replace R := R.but bz (by omega)
 replace B := B.trans (bz.below hy B.size)
 clear bz
 generalize w2.setCell ⟨jy, 0, none⟩ (.int .i64 (1)) = w3 at *
 have y0 : _ ∧ _ := Y
 have e0_ : _ ∧ _ := E
 have n0 : _ ∧ _ := N
 go_upto_region 21 with fail
 clear n0
 clear e0_
 clear y0
 replace Y := Y.set2 (.int .i64 (t))
 have bz : But jy w3 _ := (But.refl jy w3).setCell 2 (.int .i64 (t))
 replace N := N.but bz (by omega)
 replace E := E.but bz (by omega)
 replace R := R.but bz (by omega)
 replace B := B.trans (bz.below hy B.size)
 clear bz
 generalize w3.setCell ⟨jy, 2, none⟩ (.int .i64 (t)) = w4 at *
 have y0 : _ ∧ _ := Y
 have e0_ : _ ∧ _ := E
 have n0 : _ ∧ _ := N
 have RR := ((R.set0 (.int .i64 (1))).set1 (.int .i64 (e))).set2 (.int .i64 (t))
 have BB := ((B.setCell (p := ⟨w.heap.size + 2, 0, none⟩) (Nat.le_add_right w.heap.size 2) (.int .i64 (1))).setCell (p := ⟨w.heap.size + 2, 1, none⟩) (Nat.le_add_right w.heap.size 2) (.int .i64 (e))).setCell (p := ⟨w.heap.size + 2, 2, none⟩) (Nat.le_add_right w.heap.size 2) (.int .i64 (t))
 obtain ⟨r0, r1, r2, r3, r4, r5, r6⟩ := id R
 go_wp2_with fail
 clear r0 r1 r2 r3 r4 r5 r6
 generalize ((w4.setCell ⟨w.heap.size + 2, 0, none⟩ (.int .i64 (1))).setCell ⟨w.heap.size + 2, 1, none⟩ (.int .i64 (e))).setCell ⟨w.heap.size + 2, 2, none⟩ (.int .i64 (t)) = vz at *
 obtain ⟨r0, r1, r2, r3, r4, r5, r6⟩ := id RR
 exact bodyPost_ret (v := .tuple #[.agg #[.int .i64 (1), .int .i64 (e), .int .i64 (t)], .int .i64 0]) (by simp (maxDischargeDepth := 6) [results, Tryz.results78, go_sem, r1, r2, r3]) rfl ⟨rfl, BB⟩
end Go.Proofs.YtikbjljkakabdaaGreat
