/- Numbers of one reading. -/
import Derived.Test.YtdllkfllnljaaaaA130
import Derived.Test.YtdllkfllnljaaaaA125
import Derived.WalkKit
import Derived.WalkSpells
import Derived.WalkLawsBesides
import Derived.Deep.RegionHeld
namespace Go.Proofs.Ytdllkfllnljaaaa
open Go.RowKit
set_option linter.unusedVariables false
/- Numbers of one reading. -/
theorem one_not {h : Bool} {l : Int} {k : Bool} {lo hi : Int} (e : (arC h l k lo hi != 0) = true) : (arX h l k lo hi == 0) = true ∧ arD h l k lo hi = false := by
  cases eb : arBad h l k lo hi
  · cases k
    · cases h
      · obtain ⟨e1, e2, e3, e4, e5⟩ := ar_no eb
        rw [e3, e4]
        exact ⟨rfl, rfl⟩
      · obtain ⟨e1, e2, e3, e4, e5⟩ := ar_old eb
        rw [e5] at e
        exact absurd e (by decide)
    · obtain ⟨e1, e2, e3, e4, e5⟩ := ar_known eb
      rw [e5] at e
      exact absurd e (by decide)
  · obtain ⟨e1, e2, e3, e4, e5⟩ := ar_eqs eb
    rw [e3, e4]
    exact ⟨rfl, rfl⟩
theorem arBad_f {h : Bool} {l : Int} {k : Bool} {lo hi : Int} (e : arBad h l k lo hi = false) : apB h l = true ∧ (k = true → okI lo hi = true) := by
  unfold arBad at e
  cases h1 : apB h l <;> cases k <;> cases h2 : okI lo hi <;> simp [h1, h2] at e ⊢
theorem one_well {h : Bool} {l : Int} {k : Bool} {lo hi : Int} (e : (arC h l k lo hi != 0) = false) :
    arH h l k lo hi = true ∧ arL h l k lo hi = arX h l k lo hi ∧ (h = true → ¬ arX h l k lo hi < l) ∧ (arD h l k lo hi = true → (arX h l k lo hi != l) = false) ∧ (k = true → (decide (0 < lgI h l lo hi) = arD h l k lo hi) ∧ (arD h l k lo hi = false → holdsI lo hi (arX h l k lo hi) = true)) ∧ (-1000000000000 ≤ arX h l k lo hi ∧ arX h l k lo hi ≤ 1000000000000) := by
  cases eb : arBad h l k lo hi
  · obtain ⟨ha, hk⟩ := arBad_f eb
    have hT := (apB_t ha).1
    cases k
    · cases h
      · obtain ⟨e1, e2, e3, e4, e5⟩ := ar_no eb
        rw [e5] at e
        exact absurd e (by decide)
      · obtain ⟨e1, e2, e3, e4, e5⟩ := ar_old eb
        rw [e1, e2, e3, e4]
        exact ⟨rfl, rfl, fun _ => by omega, fun _ => by simp, fun q => absurd q (by decide), hT⟩
    · have h2 := hk rfl
      have i1 := okI_t h2
      obtain ⟨r1, r2, r3, r4⟩ := an_right ha hk
      obtain ⟨e1, e2, e3, e4, e5⟩ := ar_known eb
      have hx := imx_is 0 (l - hi)
      rw [e1, e2, e3, e4]
      clear r1 r2 r3 r4 e1 e2 e3 e4 e5 e eb
      cases h
      · rw [lgI_no (by rw [ha, h2]; rfl)]
        have hm : lo ≤ (lo + hi) / 2 ∧ (lo + hi) / 2 ≤ hi := by omega
        refine ⟨rfl, rfl, fun q => absurd q (by decide), fun q => absurd q (by simp), fun _ => ⟨by simp, fun _ => holds_of h2 hm.1 hm.2⟩, ?_⟩
        show -1000000000000 ≤ (lo + hi) / 2 ∧ (lo + hi) / 2 ≤ 1000000000000
        omega
      · rw [lgI_yes (by rw [ha, h2]; rfl)]
        by_cases c : hi < l
        · have c' : decide (hi < l) = true := decide_eq_true c
          rw [c']
          refine ⟨rfl, rfl, fun _ => by show ¬ l < l; omega, fun _ => by show (l != l) = false; simp, fun _ => ⟨?_, fun q => absurd q (by simp)⟩, hT⟩
          show decide (0 < imx 0 (l - hi)) = true
          exact decide_eq_true (by omega)
        · have c' : decide (hi < l) = false := decide_eq_false c
          rw [c']
          have hx2 := imx_is ((lo + hi) / 2) l
          have hm : lo ≤ (lo + hi) / 2 ∧ (lo + hi) / 2 ≤ hi := by omega
          refine ⟨rfl, rfl, fun _ => by show ¬ imx ((lo + hi) / 2) l < l; omega, fun q => absurd q (by simp), fun _ => ⟨?_, fun _ => by show holdsI lo hi (imx ((lo + hi) / 2) l) = true; exact holds_of h2 (by omega) (by omega)⟩, ?_⟩
          · show decide (0 < imx 0 (l - hi)) = false
            exact decide_eq_false (by omega)
          · show -1000000000000 ≤ imx ((lo + hi) / 2) l ∧ imx ((lo + hi) / 2) l ≤ 1000000000000
            omega
  · obtain ⟨e1, e2, e3, e4, e5⟩ := ar_eqs eb
    rw [e5] at e
    exact absurd e (by decide)
/- Two looks at x, the second from x - 1: the same twice may be told, the one below may not. -/
def twoL (x : Int) : Nat → LkT | 0 => (true, x, x) | _ => (true, x - 1, x)
def twoR (x y : Int) : Nat → RgT | 0 => (x, false, 0) | _ => (y, false, 0)
theorem okI_of {lo hi : Int} (h1 : -1000000000000 ≤ lo) (h2 : lo ≤ hi) (h3 : hi ≤ 1000000000000) : okI lo hi = true := by
  have := @okI_t lo hi
  cases h : okI lo hi
  · exfalso
    unfold okI at h
    simp at h
    omega
  · rfl
theorem two_rk {H : Bool} {L lo hi x : Int} (h2 : okI lo hi = true) : rk1 H L true lo hi x false 0 = (holdsI lo hi x && !(H && decide (x < L))) := by unfold rk1; rw [h2]; rfl
theorem two_told {x y : Int} (h1 : -1000000000000 ≤ x - 1) (h2 : x ≤ 1000000000000) (hy : x - 1 ≤ y ∧ y ≤ x) : rkB (twoL x) (twoR x y) 2 2 = !decide (y < x) := by
  have o1 : okI x x = true := okI_of (by omega) (Int.le_refl _) h2
  have o2 : okI (x - 1) x = true := okI_of h1 (by omega) h2
  have a1 : rkA (twoL x) (twoR x y) 1 = true := by
    rw [rkA_step (M := twoL x) (R := twoR x y) (k := 0) (H := false) (L := 0) (y := true) (lo := x) (hi := x) (x := x) (d := false) (c := 0) rfl rfl rfl rfl, two_rk o1, holds_of o1 (Int.le_refl _) (Int.le_refl _)]
    rfl
  have a2 : rkA (twoL x) (twoR x y) 2 = !decide (y < x) := by
    rw [rkA_step (M := twoL x) (R := twoR x y) (k := 1) (H := true) (L := x) (y := true) (lo := x - 1) (hi := x) (x := y) (d := false) (c := 0) rfl rfl rfl a1, two_rk o2, holds_of o2 hy.1 hy.2]
    rfl
  rw [rkB, a2]
  rfl
end Go.Proofs.Ytdllkfllnljaaaa
