/- AppOk and AppRead in the specification. -/
import Derived.Test.YtiecdkmnjdpgfaaGreatM0
import Derived.Test.YtiecdkmnjdpgfaaGreatM7
namespace Go.Proofs.YtiecdkmnjdpgfaaGreat
open Go.RowKit
set_option linter.unusedVariables false
def inT (l : Int) : Bool := decide (-1000000000000 ≤ l ∧ l ≤ 1000000000000)
def apB (h : Bool) (l : Int) : Bool := inT l && (h || (l == 0))
theorem inT_t {l : Int} (h : inT l = true) : -1000000000000 ≤ l ∧ l ≤ 1000000000000 := of_decide_eq_true h
theorem apB_t {h : Bool} {l : Int} (e : apB h l = true) : (-1000000000000 ≤ l ∧ l ≤ 1000000000000) ∧ (h = false → l = 0) := by
  unfold apB at e
  simp only [Bool.and_eq_true, Bool.or_eq_true, beq_iff_eq] at e
  exact ⟨inT_t e.1, fun hh => by rcases e.2 with q | q; · rw [hh] at q; cases q
                                 · exact q⟩
def arBad (h : Bool) (l : Int) (k : Bool) (lo hi : Int) : Bool := !apB h l || (k && !okI lo hi)
def arC (h : Bool) (l : Int) (k : Bool) (lo hi : Int) : Int := match arBad h l k lo hi, k, h with | true, _, _ => 1 | false, false, false => 2 | false, _, _ => 0
def arD (h : Bool) (l : Int) (k : Bool) (lo hi : Int) : Bool := match arBad h l k lo hi, k with | true, _ => false | false, false => h | false, true => h && decide (hi < l)
def arM (h : Bool) (l : Int) (lo hi : Int) : Int := match h with | true => imx ((lo + hi) / 2) l | false => (lo + hi) / 2
def arX (h : Bool) (l : Int) (k : Bool) (lo hi : Int) : Int := match arBad h l k lo hi, k, (h && decide (hi < l)) with | true, _, _ => 0 | false, false, _ => (match h with | true => l | false => 0) | false, true, true => l | false, true, false => arM h l lo hi
def arH (h : Bool) (l : Int) (k : Bool) (lo hi : Int) : Bool := match arBad h l k lo hi, k with | true, _ => false | false, false => h | false, true => true
def arL (h : Bool) (l : Int) (k : Bool) (lo hi : Int) : Int := match arBad h l k lo hi, k with | true, _ => 0 | false, false => l | false, true => arX h l true lo hi
set_option maxHeartbeats 2000000 in
theorem specAppOk_any (h : Bool) (l : Int) (w : World) : Calls Tryz.prog 127 #[.agg #[.bool h, .int .i64 l]] w fun e w' => e = .returned (.bool (apB h l)) ∧ Below w.heap.size w w' := by
  have A := Below.nw w (.cells #[.bool h, .int .i64 l] 54)
  have N := Bx2.new w (.bool h) (.int .i64 l) 54
  have C1 := fun w' => l1In_any l (-1000000000000) 1000000000000 w'
  unfold apB
  have e0 : decide (-1000000000000 ≤ l ∧ l ≤ 1000000000000) = inT l := rfl
  rw [e0] at C1
  clear e0
  generalize inT l = q at *
  cases q
  · go_enter Tryz.func127, Tryz.ntmps127
    go_upto_region 1 with fail
    generalize w.alloc (.cells #[.bool h, .int .i64 l] 54) = v at *
    obtain ⟨n0, n1, n2, n3, n4⟩ := id N
    go_wp2_with fail
    refine (C1 _).mono ?_
    rintro e w' ⟨rfl, rfl⟩
    go_wp2_with fail
    go_ret
    exact ⟨rfl, A⟩
  · cases h
    · cases hz : (l == 0)
      all_goals
        go_enter Tryz.func127, Tryz.ntmps127
        go_upto_region 1 with fail
        generalize w.alloc (.cells #[.bool false, .int .i64 l] 54) = v at *
        obtain ⟨n0, n1, n2, n3, n4⟩ := id N
        go_wp2_with fail
        refine (C1 _).mono ?_
        rintro e w' ⟨rfl, rfl⟩
        go_wp2_with fail
        go_ret
        exact ⟨by first | rfl | (rw [hz]; rfl) | (simp; done), A⟩
    · go_enter Tryz.func127, Tryz.ntmps127
      go_upto_region 1 with fail
      generalize w.alloc (.cells #[.bool true, .int .i64 l] 54) = v at *
      obtain ⟨n0, n1, n2, n3, n4⟩ := id N
      go_wp2_with fail
      refine (C1 _).mono ?_
      rintro e w' ⟨rfl, rfl⟩
      go_wp2_with fail
      go_ret
      exact ⟨rfl, A⟩
theorem ar_eqs {h : Bool} {l : Int} {k : Bool} {lo hi : Int} (e : arBad h l k lo hi = true) : arH h l k lo hi = false ∧ arL h l k lo hi = 0 ∧ arX h l k lo hi = 0 ∧ arD h l k lo hi = false ∧ arC h l k lo hi = 1 := by
  refine ⟨?_, ?_, ?_, ?_, ?_⟩
  · unfold arH; rw [e]
  · unfold arL; rw [e]
  · unfold arX; rw [e]
  · unfold arD; rw [e]
  · unfold arC; rw [e]
theorem ar_no {l : Int} {lo hi : Int} (e : arBad false l false lo hi = false) : arH false l false lo hi = false ∧ arL false l false lo hi = l ∧ arX false l false lo hi = 0 ∧ arD false l false lo hi = false ∧ arC false l false lo hi = 2 := by
  refine ⟨?_, ?_, ?_, ?_, ?_⟩
  · unfold arH; rw [e]
  · unfold arL; rw [e]
  · unfold arX; rw [e]
  · unfold arD; rw [e]
  · unfold arC; rw [e]
theorem ar_old {l : Int} {lo hi : Int} (e : arBad true l false lo hi = false) : arH true l false lo hi = true ∧ arL true l false lo hi = l ∧ arX true l false lo hi = l ∧ arD true l false lo hi = true ∧ arC true l false lo hi = 0 := by
  refine ⟨?_, ?_, ?_, ?_, ?_⟩
  · unfold arH; rw [e]
  · unfold arL; rw [e]
  · unfold arX; rw [e]
  · unfold arD; rw [e]
  · unfold arC; rw [e]
theorem ar_known {h : Bool} {l : Int} {lo hi : Int} (e : arBad h l true lo hi = false) : arH h l true lo hi = true ∧ arL h l true lo hi = arX h l true lo hi ∧ arX h l true lo hi = (match (h && decide (hi < l)) with | true => l | false => arM h l lo hi) ∧ arD h l true lo hi = (h && decide (hi < l)) ∧ arC h l true lo hi = 0 := by
  refine ⟨?_, ?_, ?_, ?_, ?_⟩
  · unfold arH; rw [e]
  · unfold arL; rw [e]
  · unfold arX; rw [e]; cases (h && decide (hi < l)) <;> rfl
  · unfold arD; rw [e]
  · unfold arC; rw [e]
set_option maxRecDepth 100000 in
set_option maxHeartbeats 8000000 in
theorem specAppRead_any (h : Bool) (l : Int) (k : Bool) (lo hi : Int) (w : World) : Calls Tryz.prog 77 #[.agg #[.bool h, .int .i64 l], .bool k, .agg #[.int .i64 lo, .int .i64 hi]] w fun e w' => e = .returned (.tuple #[.agg #[.bool (arH h l k lo hi), .int .i64 (arL h l k lo hi)], .int .i64 (arX h l k lo hi), .bool (arD h l k lo hi), .int .i64 (arC h l k lo hi)]) ∧ Below w.heap.size w w' := by
  have A0 := Below.nw w (.cells #[.bool h, .int .i64 l] 54)
  have A1 := Below.nw (w.alloc (.cells #[.bool h, .int .i64 l] 54)) (.cells #[.int .i64 lo, .int .i64 hi] 47)
  have A2 := Below.nw ((w.alloc (.cells #[.bool h, .int .i64 l] 54)).alloc (.cells #[.int .i64 lo, .int .i64 hi] 47)) (.cells #[.bool false, .int .i64 0] 54)
  have N := ((Bx2.new w (.bool h) (.int .i64 l) 54).below A1).below A2
  have Q := (Bx2.new (w.alloc (.cells #[.bool h, .int .i64 l] 54)) (.int .i64 lo) (.int .i64 hi) 47).below A2
  have R := Bx2.new ((w.alloc (.cells #[.bool h, .int .i64 l] 54)).alloc (.cells #[.int .i64 lo, .int .i64 hi] 47)) (.bool false) (.int .i64 0) 54
  have B := (A0.trans (A1.mono A0.size)).trans (A2.mono (A0.trans (A1.mono A0.size)).size)
  simp only [World.size_alloc] at Q R
  clear A0 A1 A2
  have hj : w.heap.size ≤ w.heap.size + 1 + 1 := by omega
  have d1 : w.heap.size ≠ w.heap.size + 1 + 1 := by omega
  cases h1 : apB h l
  · have eb : arBad h l k lo hi = true := by rw [arBad, h1]; rfl
    obtain ⟨e1, e2, e3, e4, e5⟩ := ar_eqs eb
    rw [e1, e2, e3, e4, e5]
    clear e1 e2 e3 e4 e5 eb
    go_enter Tryz.func77, Tryz.ntmps77; go_upto_region 1 with fail; generalize (((w.alloc (.cells #[.bool h, .int .i64 l] 54)).alloc (.cells #[.int .i64 lo, .int .i64 hi] 47)).alloc (.cells #[.bool false, .int .i64 0] 54)) = v at *; generalize w.heap.size + 1 + 1 = jr at *; generalize w.heap.size + 1 = jb at *
    obtain ⟨n0, n1, n2, n3, n4⟩ := id N; go_wp2_with fail; refine (specAppOk_any h l v).mono ?_; rintro e v2 ⟨rfl, hbl⟩; rw [h1]; clear n0 n1 n2 n3 n4; replace N := N.below hbl; replace Q := Q.below hbl; replace R := R.below hbl; replace B := B.trans (hbl.mono B.size); clear hbl
    have RR := (R.set0 (.bool false)).set1 (.int .i64 0)
    have BB := (B.setCell (p := ⟨jr, 0, none⟩) hj (.bool false)).setCell (p := ⟨jr, 1, none⟩) hj (.int .i64 0)
    obtain ⟨n0, n1, n2, n3, n4⟩ := id N
    obtain ⟨r0, r1, r2, r3, r4⟩ := id R
    go_wp2_with fail
    clear n0 n1 n2 n3 n4 r0 r1 r2 r3 r4
    generalize (v2.setCell ⟨jr, 0, none⟩ (.bool false)).setCell ⟨jr, 1, none⟩ (.int .i64 0) = vz at *
    obtain ⟨r0, r1, r2, r3, r4⟩ := id RR
    exact bodyPost_ret (v := (.tuple #[.agg #[.bool false, .int .i64 0], .int .i64 0, .bool false, .int .i64 1])) (by simp (maxDischargeDepth := 6) [results, Tryz.results77, go_sem, *]) rfl ⟨rfl, BB⟩
  cases k
  · have eb : arBad h l false lo hi = false := by rw [arBad, h1]; rfl
    cases h
    · obtain ⟨e1, e2, e3, e4, e5⟩ := ar_no eb
      rw [e1, e2, e3, e4, e5]
      clear e1 e2 e3 e4 e5 eb
      go_enter Tryz.func77, Tryz.ntmps77; go_upto_region 1 with fail; generalize (((w.alloc (.cells #[.bool false, .int .i64 l] 54)).alloc (.cells #[.int .i64 lo, .int .i64 hi] 47)).alloc (.cells #[.bool false, .int .i64 0] 54)) = v at *; generalize w.heap.size + 1 + 1 = jr at *; generalize w.heap.size + 1 = jb at *
      obtain ⟨n0, n1, n2, n3, n4⟩ := id N; go_wp2_with fail; refine (specAppOk_any false l v).mono ?_; rintro e v2 ⟨rfl, hbl⟩; rw [h1]; clear n0 n1 n2 n3 n4; replace N := N.below hbl; replace Q := Q.below hbl; replace R := R.below hbl; replace B := B.trans (hbl.mono B.size); clear hbl
      have RR := (R.set0 (.bool false)).set1 (.int .i64 l)
      have BB := (B.setCell (p := ⟨jr, 0, none⟩) hj (.bool false)).setCell (p := ⟨jr, 1, none⟩) hj (.int .i64 l)
      obtain ⟨n0, n1, n2, n3, n4⟩ := id N
      obtain ⟨r0, r1, r2, r3, r4⟩ := id R
      go_wp2_with fail
      clear n0 n1 n2 n3 n4 r0 r1 r2 r3 r4
      generalize (v2.setCell ⟨jr, 0, none⟩ (.bool false)).setCell ⟨jr, 1, none⟩ (.int .i64 l) = vz at *
      obtain ⟨r0, r1, r2, r3, r4⟩ := id RR
      exact bodyPost_ret (v := (.tuple #[.agg #[.bool false, .int .i64 l], .int .i64 0, .bool false, .int .i64 2])) (by simp (maxDischargeDepth := 6) [results, Tryz.results77, go_sem, *]) rfl ⟨rfl, BB⟩
    · obtain ⟨e1, e2, e3, e4, e5⟩ := ar_old eb
      rw [e1, e2, e3, e4, e5]
      clear e1 e2 e3 e4 e5 eb
      go_enter Tryz.func77, Tryz.ntmps77; go_upto_region 1 with fail; generalize (((w.alloc (.cells #[.bool true, .int .i64 l] 54)).alloc (.cells #[.int .i64 lo, .int .i64 hi] 47)).alloc (.cells #[.bool false, .int .i64 0] 54)) = v at *; generalize w.heap.size + 1 + 1 = jr at *; generalize w.heap.size + 1 = jb at *
      obtain ⟨n0, n1, n2, n3, n4⟩ := id N; go_wp2_with fail; refine (specAppOk_any true l v).mono ?_; rintro e v2 ⟨rfl, hbl⟩; rw [h1]; clear n0 n1 n2 n3 n4; replace N := N.below hbl; replace Q := Q.below hbl; replace R := R.below hbl; replace B := B.trans (hbl.mono B.size); clear hbl
      have RR := (R.set0 (.bool true)).set1 (.int .i64 l)
      have BB := (B.setCell (p := ⟨jr, 0, none⟩) hj (.bool true)).setCell (p := ⟨jr, 1, none⟩) hj (.int .i64 l)
      obtain ⟨n0, n1, n2, n3, n4⟩ := id N
      obtain ⟨r0, r1, r2, r3, r4⟩ := id R
      go_upto_region 6 with fail
      refine wp_region_held_drew (S := (fun w' => w'.cell? ⟨w.heap.size, 0, none⟩ = some (.bool true) ∧ w'.cell? ⟨w.heap.size, 1, none⟩ = some (.int .i64 l))) (by kernel_rfl) ?_ (fun hHeld => ?_)
      · first | exact ⟨n1, n2⟩ | exact ⟨keepC (keepC n1 d1) d1, keepC (keepC n2 d1) d1⟩
      refine zTk 0 ?_
      (try simp only [Act.put, zSb, zS0, zS1])
      refine zTk 1 ?_
      (try simp only [Act.put, zSb, zS0, zS1])
      refine zTk 2 ?_
      (try simp only [Act.put, zSb, zS0, zS1])
      refine wpAnyH_ready (rs := [3]) (by kernel_rfl) (by simp) ?_
      refine AllReadyH.cons (by rw [List.getElem?_toArray]; rfl) (fun K hK => ?_) AllReadyH.nil
      go_simp
      refine hK.out _ _ ?_ (fun hHeld => ?_)
      · first | exact ⟨n1, n2⟩ | exact ⟨keepC (keepC n1 d1) d1, keepC (keepC n2 d1) d1⟩
      clear hK K
      (try simp only [Act.put, zSb, zS0, zS1])
      refine zTk 4 ?_
      (try simp only [Act.put, zSb, zS0, zS1])
      refine zTk 5 ?_
      (try simp only [Act.put, zSb, zS0, zS1])
      refine zTk 6 ?_
      (try simp only [Act.put, zSb, zS0, zS1])
      refine wpAnyH_done (by kernel_rfl) ?_ _
      go_wp2_with fail
      clear n0 n1 n2 n3 n4 r0 r1 r2 r3 r4
      generalize (v2.setCell ⟨jr, 0, none⟩ (.bool true)).setCell ⟨jr, 1, none⟩ (.int .i64 l) = vz at *
      obtain ⟨r0, r1, r2, r3, r4⟩ := id RR
      exact bodyPost_ret (v := (.tuple #[.agg #[.bool true, .int .i64 l], .int .i64 l, .bool true, .int .i64 0])) (by simp (maxDischargeDepth := 6) [results, Tryz.results77, go_sem, *]) rfl ⟨rfl, Below.drew BB⟩
  cases h2 : okI lo hi
  · have eb : arBad h l true lo hi = true := by rw [arBad, h1, h2]; rfl
    obtain ⟨e1, e2, e3, e4, e5⟩ := ar_eqs eb
    rw [e1, e2, e3, e4, e5]
    clear e1 e2 e3 e4 e5 eb
    go_enter Tryz.func77, Tryz.ntmps77; go_upto_region 1 with fail; generalize (((w.alloc (.cells #[.bool h, .int .i64 l] 54)).alloc (.cells #[.int .i64 lo, .int .i64 hi] 47)).alloc (.cells #[.bool false, .int .i64 0] 54)) = v at *; generalize w.heap.size + 1 + 1 = jr at *; generalize w.heap.size + 1 = jb at *
    obtain ⟨n0, n1, n2, n3, n4⟩ := id N; go_wp2_with fail; refine (specAppOk_any h l v).mono ?_; rintro e v2 ⟨rfl, hbl⟩; rw [h1]; clear n0 n1 n2 n3 n4; replace N := N.below hbl; replace Q := Q.below hbl; replace R := R.below hbl; replace B := B.trans (hbl.mono B.size); clear hbl
    obtain ⟨m0, m1, m2, m3, m4⟩ := id Q; go_wp2_with fail; refine (specIvalOk_any lo hi v2).mono ?_; rintro e v3 ⟨rfl, hbl⟩; rw [h2]; clear m0 m1 m2 m3 m4; replace N := N.below hbl; replace Q := Q.below hbl; replace R := R.below hbl; replace B := B.trans (hbl.mono B.size); clear hbl
    have RR := (R.set0 (.bool false)).set1 (.int .i64 0)
    have BB := (B.setCell (p := ⟨jr, 0, none⟩) hj (.bool false)).setCell (p := ⟨jr, 1, none⟩) hj (.int .i64 0)
    obtain ⟨n0, n1, n2, n3, n4⟩ := id N
    obtain ⟨r0, r1, r2, r3, r4⟩ := id R
    go_wp2_with fail
    clear n0 n1 n2 n3 n4 r0 r1 r2 r3 r4
    generalize (v3.setCell ⟨jr, 0, none⟩ (.bool false)).setCell ⟨jr, 1, none⟩ (.int .i64 0) = vz at *
    obtain ⟨r0, r1, r2, r3, r4⟩ := id RR
    exact bodyPost_ret (v := (.tuple #[.agg #[.bool false, .int .i64 0], .int .i64 0, .bool false, .int .i64 1])) (by simp (maxDischargeDepth := 6) [results, Tryz.results77, go_sem, *]) rfl ⟨rfl, BB⟩
  have eb : arBad h l true lo hi = false := by rw [arBad, h1, h2]; rfl
  obtain ⟨e1, e2, e3, e4, e5⟩ := ar_known eb
  rw [e2, e1, e3, e4, e5]
  clear e1 e2 e3 e4 e5 eb
  have CM := fun w' => specMiddle_any lo hi w'
  rw [midI_t h2] at CM
  have i1 := okI_t h2
  have i2 := (apB_t h1).1
  have i3 : -1000000000000 ≤ (lo + hi) / 2 ∧ (lo + hi) / 2 ≤ 1000000000000 := by omega
  cases h
  · show Calls Tryz.prog 77 #[.agg #[.bool false, .int .i64 l], .bool true, .agg #[.int .i64 lo, .int .i64 hi]] w fun e w' => e = .returned (.tuple #[.agg #[.bool true, .int .i64 ((lo + hi) / 2)], .int .i64 ((lo + hi) / 2), .bool false, .int .i64 0]) ∧ Below w.heap.size w w'
    generalize (lo + hi) / 2 = md at *
    clear i1 i2 i3
    go_enter Tryz.func77, Tryz.ntmps77; go_upto_region 1 with fail; generalize (((w.alloc (.cells #[.bool false, .int .i64 l] 54)).alloc (.cells #[.int .i64 lo, .int .i64 hi] 47)).alloc (.cells #[.bool false, .int .i64 0] 54)) = v at *; generalize w.heap.size + 1 + 1 = jr at *; generalize w.heap.size + 1 = jb at *
    obtain ⟨n0, n1, n2, n3, n4⟩ := id N; go_wp2_with fail; refine (specAppOk_any false l v).mono ?_; rintro e v2 ⟨rfl, hbl⟩; rw [h1]; clear n0 n1 n2 n3 n4; replace N := N.below hbl; replace Q := Q.below hbl; replace R := R.below hbl; replace B := B.trans (hbl.mono B.size); clear hbl
    obtain ⟨m0, m1, m2, m3, m4⟩ := id Q; go_wp2_with fail; refine (specIvalOk_any lo hi v2).mono ?_; rintro e v3 ⟨rfl, hbl⟩; rw [h2]; clear m0 m1 m2 m3 m4; replace N := N.below hbl; replace Q := Q.below hbl; replace R := R.below hbl; replace B := B.trans (hbl.mono B.size); clear hbl
    obtain ⟨n0, n1, n2, n3, n4⟩ := id N
    obtain ⟨m0, m1, m2, m3, m4⟩ := id Q
    go_wp2_with fail
    refine (CM _).mono ?_
    rintro e v4 ⟨rfl, hbl⟩
    clear n0 n1 n2 n3 n4 m0 m1 m2 m3 m4
    replace N := N.below hbl; replace Q := Q.below hbl; replace R := R.below hbl; replace B := B.trans (hbl.mono B.size); clear hbl
    have RR := (R.set0 (.bool true)).set1 (.int .i64 md)
    have BB := (B.setCell (p := ⟨jr, 0, none⟩) hj (.bool true)).setCell (p := ⟨jr, 1, none⟩) hj (.int .i64 md)
    obtain ⟨n0, n1, n2, n3, n4⟩ := id N
    obtain ⟨r0, r1, r2, r3, r4⟩ := id R
    go_wp2_with fail
    clear n0 n1 n2 n3 n4 r0 r1 r2 r3 r4
    generalize (v4.setCell ⟨jr, 0, none⟩ (.bool true)).setCell ⟨jr, 1, none⟩ (.int .i64 md) = vz at *
    obtain ⟨r0, r1, r2, r3, r4⟩ := id RR
    exact bodyPost_ret (v := (.tuple #[.agg #[.bool true, .int .i64 md], .int .i64 md, .bool false, .int .i64 0])) (by simp (maxDischargeDepth := 6) [results, Tryz.results77, go_sem, *]) rfl ⟨rfl, BB⟩
  · by_cases c : hi < l
    · have c' : decide (hi < l) = true := decide_eq_true c
      rw [c']
      show Calls Tryz.prog 77 #[.agg #[.bool true, .int .i64 l], .bool true, .agg #[.int .i64 lo, .int .i64 hi]] w fun e w' => e = .returned (.tuple #[.agg #[.bool true, .int .i64 l], .int .i64 l, .bool true, .int .i64 0]) ∧ Below w.heap.size w w'
      clear i1 i2 i3 CM
      go_enter Tryz.func77, Tryz.ntmps77; go_upto_region 1 with fail; generalize (((w.alloc (.cells #[.bool true, .int .i64 l] 54)).alloc (.cells #[.int .i64 lo, .int .i64 hi] 47)).alloc (.cells #[.bool false, .int .i64 0] 54)) = v at *; generalize w.heap.size + 1 + 1 = jr at *; generalize w.heap.size + 1 = jb at *
      obtain ⟨n0, n1, n2, n3, n4⟩ := id N; go_wp2_with fail; refine (specAppOk_any true l v).mono ?_; rintro e v2 ⟨rfl, hbl⟩; rw [h1]; clear n0 n1 n2 n3 n4; replace N := N.below hbl; replace Q := Q.below hbl; replace R := R.below hbl; replace B := B.trans (hbl.mono B.size); clear hbl
      obtain ⟨m0, m1, m2, m3, m4⟩ := id Q; go_wp2_with fail; refine (specIvalOk_any lo hi v2).mono ?_; rintro e v3 ⟨rfl, hbl⟩; rw [h2]; clear m0 m1 m2 m3 m4; replace N := N.below hbl; replace Q := Q.below hbl; replace R := R.below hbl; replace B := B.trans (hbl.mono B.size); clear hbl
      obtain ⟨m0, m1, m2, m3, m4⟩ := id Q
      have RR := (R.set0 (.bool true)).set1 (.int .i64 l)
      have BB := (B.setCell (p := ⟨jr, 0, none⟩) hj (.bool true)).setCell (p := ⟨jr, 1, none⟩) hj (.int .i64 l)
      obtain ⟨n0, n1, n2, n3, n4⟩ := id N
      obtain ⟨r0, r1, r2, r3, r4⟩ := id R
      go_upto_region 8 with fail
      refine wp_region_held_drew (S := (fun w' => w'.cell? ⟨w.heap.size, 0, none⟩ = some (.bool true) ∧ w'.cell? ⟨w.heap.size, 1, none⟩ = some (.int .i64 l))) (by kernel_rfl) ?_ (fun hHeld => ?_)
      · first | exact ⟨n1, n2⟩ | exact ⟨keepC (keepC n1 d1) d1, keepC (keepC n2 d1) d1⟩
      refine zTk 0 ?_
      (try simp only [Act.put, zSb, zS0, zS1])
      refine zTk 1 ?_
      (try simp only [Act.put, zSb, zS0, zS1])
      refine zTk 2 ?_
      (try simp only [Act.put, zSb, zS0, zS1])
      refine wpAnyH_ready (rs := [3]) (by kernel_rfl) (by simp) ?_
      refine AllReadyH.cons (by rw [List.getElem?_toArray]; rfl) (fun K hK => ?_) AllReadyH.nil
      go_simp
      refine hK.out _ _ ?_ (fun hHeld => ?_)
      · first | exact ⟨n1, n2⟩ | exact ⟨keepC (keepC n1 d1) d1, keepC (keepC n2 d1) d1⟩
      clear hK K
      (try simp only [Act.put, zSb, zS0, zS1])
      refine zTk 4 ?_
      (try simp only [Act.put, zSb, zS0, zS1])
      refine zTk 5 ?_
      (try simp only [Act.put, zSb, zS0, zS1])
      refine zTk 6 ?_
      (try simp only [Act.put, zSb, zS0, zS1])
      refine wpAnyH_done (by kernel_rfl) ?_ _
      go_wp2_with fail
      clear m0 m1 m2 m3 m4
      clear n0 n1 n2 n3 n4 r0 r1 r2 r3 r4
      generalize (v3.setCell ⟨jr, 0, none⟩ (.bool true)).setCell ⟨jr, 1, none⟩ (.int .i64 l) = vz at *
      obtain ⟨r0, r1, r2, r3, r4⟩ := id RR
      exact bodyPost_ret (v := (.tuple #[.agg #[.bool true, .int .i64 l], .int .i64 l, .bool true, .int .i64 0])) (by simp (maxDischargeDepth := 6) [results, Tryz.results77, go_sem, *]) rfl ⟨rfl, Below.drew BB⟩
    · have c' : decide (hi < l) = false := decide_eq_false c
      rw [c']
      show Calls Tryz.prog 77 #[.agg #[.bool true, .int .i64 l], .bool true, .agg #[.int .i64 lo, .int .i64 hi]] w fun e w' => e = .returned (.tuple #[.agg #[.bool true, .int .i64 (imx ((lo + hi) / 2) l)], .int .i64 (imx ((lo + hi) / 2) l), .bool false, .int .i64 0]) ∧ Below w.heap.size w w'
      have CX := fun w' => l1Max_any ((lo + hi) / 2) l w'
      generalize (lo + hi) / 2 = md at *
      generalize imx md l = mx at *
      clear i1 i2 i3
      go_enter Tryz.func77, Tryz.ntmps77; go_upto_region 1 with fail; generalize (((w.alloc (.cells #[.bool true, .int .i64 l] 54)).alloc (.cells #[.int .i64 lo, .int .i64 hi] 47)).alloc (.cells #[.bool false, .int .i64 0] 54)) = v at *; generalize w.heap.size + 1 + 1 = jr at *; generalize w.heap.size + 1 = jb at *
      obtain ⟨n0, n1, n2, n3, n4⟩ := id N; go_wp2_with fail; refine (specAppOk_any true l v).mono ?_; rintro e v2 ⟨rfl, hbl⟩; rw [h1]; clear n0 n1 n2 n3 n4; replace N := N.below hbl; replace Q := Q.below hbl; replace R := R.below hbl; replace B := B.trans (hbl.mono B.size); clear hbl
      obtain ⟨m0, m1, m2, m3, m4⟩ := id Q; go_wp2_with fail; refine (specIvalOk_any lo hi v2).mono ?_; rintro e v3 ⟨rfl, hbl⟩; rw [h2]; clear m0 m1 m2 m3 m4; replace N := N.below hbl; replace Q := Q.below hbl; replace R := R.below hbl; replace B := B.trans (hbl.mono B.size); clear hbl
      obtain ⟨n0, n1, n2, n3, n4⟩ := id N
      obtain ⟨m0, m1, m2, m3, m4⟩ := id Q
      go_wp2_with fail
      refine (CM _).mono ?_
      rintro e v4 ⟨rfl, hbl⟩
      clear n0 n1 n2 n3 n4 m0 m1 m2 m3 m4
      replace N := N.below hbl; replace Q := Q.below hbl; replace R := R.below hbl; replace B := B.trans (hbl.mono B.size); clear hbl
      obtain ⟨n0, n1, n2, n3, n4⟩ := id N
      go_wp2_with fail
      refine (CX _).mono ?_
      rintro e w' ⟨rfl, rfl⟩
      clear n0 n1 n2 n3 n4
      have RR := (R.set0 (.bool true)).set1 (.int .i64 mx)
      have BB := (B.setCell (p := ⟨jr, 0, none⟩) hj (.bool true)).setCell (p := ⟨jr, 1, none⟩) hj (.int .i64 mx)
      obtain ⟨n0, n1, n2, n3, n4⟩ := id N
      obtain ⟨r0, r1, r2, r3, r4⟩ := id R
      go_wp2_with fail
      clear n0 n1 n2 n3 n4 r0 r1 r2 r3 r4
      generalize (v4.setCell ⟨jr, 0, none⟩ (.bool true)).setCell ⟨jr, 1, none⟩ (.int .i64 mx) = vz at *
      obtain ⟨r0, r1, r2, r3, r4⟩ := id RR
      exact bodyPost_ret (v := (.tuple #[.agg #[.bool true, .int .i64 mx], .int .i64 mx, .bool false, .int .i64 0])) (by simp (maxDischargeDepth := 6) [results, Tryz.results77, go_sem, *]) rfl ⟨rfl, BB⟩
end Go.Proofs.YtiecdkmnjdpgfaaGreat
