/- Numbers of a clock that tells a reading wherever it is free to. -/
import Derived.Test.YtdllkfllnljaaaaA132
import Derived.Test.YtdllkfllnljaaaaA130
import Derived.WalkKit
import Derived.WalkSpells
import Derived.WalkLawsBesides
import Derived.Deep.RegionHeld
namespace Go.Proofs.Ytdllkfllnljaaaa
open Go.RowKit
set_option linter.unusedVariables false
/- A clock that tells a reading wherever it is free to: it tells just that reading where the reading may be told. -/
theorem near_is {lo hi x : Int} (h : okI lo hi = true) : (lo ≤ nearI lo hi x ∧ nearI lo hi x ≤ hi) ∧ ((lo ≤ x ∧ x ≤ hi) → nearI lo hi x = x) ∧ (x < lo → nearI lo hi x = lo) ∧ (hi < x → nearI lo hi x = hi) := by
  have i1 := okI_t h
  have e : nearI lo hi x = imn (imx x lo) hi := by unfold nearI; rw [h]
  rw [e]
  unfold imn imx
  split <;> split <;> omega
theorem rk1_bad {H : Bool} {L : Int} {y : Bool} {lo hi x : Int} {d : Bool} {c : Int} (e : (y && !okI lo hi) = true) : rk1 H L y lo hi x d c = false := by unfold rk1; rw [e]
theorem rk1_un {H : Bool} {L : Int} {y : Bool} {lo hi x : Int} {d : Bool} (e : (y && !okI lo hi) = false) : rk1 H L y lo hi x d 2 = !(y || H || (x != 0) || d) := by unfold rk1; rw [e]; rfl
def weB (H : Bool) (L : Int) (y : Bool) (lo hi x : Int) (d : Bool) : Bool := match y, d with | false, d => d && H && (x == L) | true, true => H && (x == L) && !decide (x ≤ hi) | true, false => holdsI lo hi x && !(H && decide (x < L))
theorem rk1_we {H : Bool} {L : Int} {y : Bool} {lo hi x : Int} {d : Bool} (e : (y && !okI lo hi) = false) : rk1 H L y lo hi x d 0 = weB H L y lo hi x d := by unfold rk1 weB; rw [e]; cases y <;> cases d <;> rfl
theorem rk1_no {H : Bool} {L : Int} {y : Bool} {lo hi x : Int} {d : Bool} {c : Int} (h2 : c ≠ 2) (h0 : c ≠ 0) : rk1 H L y lo hi x d c = false := by
  unfold rk1
  rw [beq_eq_false_iff_ne.2 h2, beq_eq_false_iff_ne.2 h0]
  cases (y && !okI lo hi) <;> rfl
theorem holds_iff {lo hi x : Int} (h : okI lo hi = true) : holdsI lo hi x = decide (lo ≤ x ∧ x ≤ hi) := by unfold holdsI; rw [h]; rfl
def nrB (H : Bool) (L : Int) (y : Bool) (lo hi x : Int) (d : Bool) (c : Int) : Bool := ((gdX H L y lo hi (nearI lo hi x) == x && (arD H L y lo hi == d)) && (arC H L y lo hi == c))
theorem nr_eq {X x C c : Int} {D d : Bool} : ((X == x && (D == d)) && (C == c)) = true ↔ X = x ∧ D = d ∧ C = c := by
  simp only [Bool.and_eq_true, beq_iff_eq, and_assoc]
theorem near_rk {H : Bool} {L : Int} {y : Bool} {lo hi x : Int} {d : Bool} {c : Int} (ha : apB H L = true) : rk1 H L y lo hi x d c = (nrB H L y lo hi x d c && !(arC H L y lo hi == 1)) := by
  unfold nrB
  cases eb : arBad H L y lo hi
  · have hb : (y && !okI lo hi) = false := by
      unfold arBad at eb
      rw [ha] at eb
      simpa using eb
    cases y
    · cases H
      · obtain ⟨e1, e2, e3, e4, e5⟩ := ar_no eb
        rw [(gd_no eb).1, e4, e5]
        by_cases h2 : c = 2
        · subst h2
          rw [rk1_un hb, Bool.eq_iff_iff]
          cases d
          · simp; omega
          · simp
        · rw [show ((2 : Int) == c) = false from beq_eq_false_iff_ne.2 (fun q => h2 q.symm), Bool.and_false, Bool.false_and]
          by_cases h0 : c = 0
          · subst h0
            rw [rk1_we hb]
            unfold weB
            simp
          · exact rk1_no h2 h0
      · obtain ⟨e1, e2, e3, e4, e5⟩ := ar_old eb
        rw [(gd_old eb).1, e4, e5]
        by_cases h0 : c = 0
        · subst h0
          rw [rk1_we hb, Bool.eq_iff_iff]
          unfold weB
          cases d
          · simp
          · simp; omega
        · rw [show ((0 : Int) == c) = false from beq_eq_false_iff_ne.2 (fun q => h0 q.symm), Bool.and_false, Bool.false_and]
          by_cases h2 : c = 2
          · subst h2
            rw [rk1_un hb]
            simp
          · exact rk1_no h2 h0
    · have ho : okI lo hi = true := by simpa using hb
      have i1 := okI_t ho
      obtain ⟨e1, e2, e3, e4, e5⟩ := ar_known eb
      rw [e4, e5]
      by_cases h0 : c = 0
      · subst h0
        rw [rk1_we hb, Bool.eq_iff_iff]
        obtain ⟨n1, n2, n3, n4⟩ := near_is (x := x) ho
        cases hc : (H && decide (hi < L))
        · rw [(gd_free eb hc).1]
          cases d
          · show (holdsI lo hi x && !(H && decide (x < L))) = true ↔ _
            rw [holds_iff ho]
            cases H
            · show _ ↔ ((nearI lo hi x == x && true) && true && true) = true
              simp
              omega
            · have c' : ¬ hi < L := of_decide_eq_false hc
              show _ ↔ ((imx (nearI lo hi x) L == x && true) && true && true) = true
              have hx := imx_is (nearI lo hi x) L
              simp
              omega
          · show (H && (x == L) && !decide (x ≤ hi)) = true ↔ _
            cases H
            · simp
            · have c' : ¬ hi < L := of_decide_eq_false hc
              simp
              omega
        · rw [(gd_held eb hc).1]
          have hh : H = true := by cases H <;> simp at hc ⊢
          subst hh
          have c' : hi < L := of_decide_eq_true hc
          cases d
          · show (holdsI lo hi x && !(true && decide (x < L))) = true ↔ _
            rw [holds_iff ho]
            simp
            omega
          · show (true && (x == L) && !decide (x ≤ hi)) = true ↔ _
            simp
            omega
      · rw [show ((0 : Int) == c) = false from beq_eq_false_iff_ne.2 (fun q => h0 q.symm), Bool.and_false, Bool.false_and]
        by_cases h2 : c = 2
        · subst h2
          rw [rk1_un hb]
          simp
        · exact rk1_no h2 h0
  · have hb : (y && !okI lo hi) = true := by
      unfold arBad at eb
      rw [ha] at eb
      simpa using eb
    rw [rk1_bad hb, (ar_eqs eb).2.2.2.2]
    simp
theorem near_next {H : Bool} {L : Int} {y : Bool} {lo hi x : Int} {d : Bool} {c : Int} (ha : apB H L = true) (hr : nrB H L y lo hi x d c = true) (h1 : (arC H L y lo hi == 1) = false) :
    apB (gdS H L y lo hi (nearI lo hi x)).1 (gdS H L y lo hi (nearI lo hi x)).2 = true ∧ ((c == 2) = true → gdS H L y lo hi (nearI lo hi x) = (H, L)) ∧ ((c == 2) = false → gdS H L y lo hi (nearI lo hi x) = (true, x)) := by
  have hk := near_rk (y := y) (lo := lo) (hi := hi) (x := x) (d := d) (c := c) ha
  unfold nrB at hr
  obtain ⟨q1, q2, q3⟩ := nr_eq.1 hr
  have hT := (apB_t ha).1
  cases eb : arBad H L y lo hi
  · have hb : (y && !okI lo hi) = false := by
      unfold arBad at eb
      rw [ha] at eb
      simpa using eb
    cases y
    · cases H
      · obtain ⟨e1, e2, e3, e4, e5⟩ := ar_no eb
        rw [(gd_no eb).2]
        rw [e5] at q3
        subst q3
        exact ⟨ha, fun _ => rfl, fun q => absurd q (by decide)⟩
      · obtain ⟨e1, e2, e3, e4, e5⟩ := ar_old eb
        rw [(gd_old eb).2]
        rw [(gd_old eb).1] at q1
        rw [e5] at q3
        subst q3 q1
        exact ⟨ha, fun q => absurd q (by decide), fun _ => rfl⟩
    · have ho : okI lo hi = true := by simpa using hb
      have i1 := okI_t ho
      obtain ⟨e1, e2, e3, e4, e5⟩ := ar_known eb
      rw [e5] at q3
      obtain ⟨n1, n2, n3, n4⟩ := near_is (x := x) ho
      cases hc : (H && decide (hi < L))
      · rw [(gd_free eb hc).2]
        rw [(gd_free eb hc).1] at q1
        rw [q1]
        subst q3
        refine ⟨apB_of ?_, fun q => absurd q (by decide), fun _ => rfl⟩
        show -1000000000000 ≤ x ∧ x ≤ 1000000000000
        cases H
        · have q1' : nearI lo hi x = x := q1
          omega
        · have q1' : imx (nearI lo hi x) L = x := q1
          have hx := imx_is (nearI lo hi x) L
          omega
      · rw [(gd_held eb hc).2]
        rw [(gd_held eb hc).1] at q1
        have hh : H = true := by cases H <;> simp at hc ⊢
        subst hh q3 q1
        exact ⟨ha, fun q => absurd q (by decide), fun _ => rfl⟩
  · rw [(ar_eqs eb).2.2.2.2] at h1
    exact absurd h1 (by decide)
end Go.Proofs.Ytdllkfllnljaaaa
