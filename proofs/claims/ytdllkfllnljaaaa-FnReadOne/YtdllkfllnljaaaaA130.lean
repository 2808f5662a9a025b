/- Numbers of readings. -/
import Derived.Test.YtdllkfllnljaaaaA128
import Derived.WalkKit
import Derived.WalkSpells
import Derived.WalkLawsBesides
import Derived.Deep.RegionHeld
namespace Go.Proofs.Ytdllkfllnljaaaa
open Go.RowKit
set_option linter.unusedVariables false
/- Numbers of readings: what a right clock tells of a look whose interval is right may be told, and leaves a right clock. -/
theorem imx_is (a b : Int) : (a ≤ imx a b ∧ b ≤ imx a b) ∧ (imx a b = a ∨ imx a b = b) := by unfold imx; split <;> omega
theorem inT_of {x : Int} (h : -1000000000000 ≤ x ∧ x ≤ 1000000000000) : inT x = true := decide_eq_true h
theorem apB_of {x : Int} (h : -1000000000000 ≤ x ∧ x ≤ 1000000000000) : apB true x = true := by unfold apB; rw [inT_of h]; rfl
theorem holds_of {lo hi x : Int} (h : okI lo hi = true) (h1 : lo ≤ x) (h2 : x ≤ hi) : holdsI lo hi x = true := by unfold holdsI; rw [h, decide_eq_true ⟨h1, h2⟩]; rfl
theorem an_right {H : Bool} {T : Int} {y : Bool} {lo hi : Int} (ha : apB H T = true) (hy : y = true → okI lo hi = true) :
    rk1 H T y lo hi (arX H T y lo hi) (arD H T y lo hi) (arC H T y lo hi) = true ∧ apB (arH H T y lo hi) (arL H T y lo hi) = true ∧ (arC H T y lo hi != 1) = true ∧
    (((arC H T y lo hi == 2) = true ∧ (arC H T y lo hi != 0) = true ∧ (arH H T y lo hi, arL H T y lo hi) = (H, T)) ∨ ((arC H T y lo hi == 2) = false ∧ (arC H T y lo hi != 0) = false ∧ (arH H T y lo hi, arL H T y lo hi) = (true, arX H T y lo hi) ∧ (H = true → T ≤ arX H T y lo hi))) := by
  have hT := (apB_t ha).1
  cases y
  · have eb : arBad H T false lo hi = false := by rw [arBad, ha]; rfl
    cases H
    · obtain ⟨e1, e2, e3, e4, e5⟩ := ar_no eb
      rw [e1, e2, e3, e4, e5]
      exact ⟨rfl, ha, rfl, .inl ⟨rfl, rfl, rfl⟩⟩
    · obtain ⟨e1, e2, e3, e4, e5⟩ := ar_old eb
      rw [e1, e2, e3, e4, e5]
      refine ⟨?_, ha, rfl, .inr ⟨rfl, rfl, rfl, fun _ => Int.le_refl _⟩⟩
      show (true && true && (T == T)) = true
      simp
  · have h2 := hy rfl
    have i1 := okI_t h2
    have eb : arBad H T true lo hi = false := by rw [arBad, ha, h2]; rfl
    obtain ⟨e1, e2, e3, e4, e5⟩ := ar_known eb
    rw [e1, e2, e3, e4, e5]
    have hk : ∀ (x : Int) (d : Bool), rk1 H T true lo hi x d 0 = (match d with | true => H && (x == T) && !decide (x ≤ hi) | false => holdsI lo hi x && !(H && decide (x < T))) := by
      intro x d
      unfold rk1
      rw [h2]
      cases d <;> rfl
    cases H
    · have hm : lo ≤ (lo + hi) / 2 ∧ (lo + hi) / 2 ≤ hi := by omega
      refine ⟨?_, apB_of (by show -1000000000000 ≤ (lo + hi) / 2 ∧ (lo + hi) / 2 ≤ 1000000000000; omega), rfl, .inr ⟨rfl, rfl, rfl, fun q => absurd q (by decide)⟩⟩
      rw [hk]
      show (holdsI lo hi ((lo + hi) / 2) && !(false && _)) = true
      rw [holds_of h2 hm.1 hm.2]
      rfl
    · by_cases c : hi < T
      · have c' : decide (hi < T) = true := decide_eq_true c
        rw [c']
        refine ⟨?_, apB_of hT, rfl, .inr ⟨rfl, rfl, rfl, fun _ => Int.le_refl _⟩⟩
        rw [hk]
        show (true && (T == T) && !decide (T ≤ hi)) = true
        rw [decide_eq_false (by omega : ¬ T ≤ hi)]
        simp
      · have c' : decide (hi < T) = false := decide_eq_false c
        rw [c']
        have hx := imx_is ((lo + hi) / 2) T
        have hm : lo ≤ (lo + hi) / 2 ∧ (lo + hi) / 2 ≤ hi := by omega
        have hl : lo ≤ imx ((lo + hi) / 2) T ∧ imx ((lo + hi) / 2) T ≤ hi ∧ T ≤ imx ((lo + hi) / 2) T := by omega
        refine ⟨?_, apB_of (by show -1000000000000 ≤ imx ((lo + hi) / 2) T ∧ imx ((lo + hi) / 2) T ≤ 1000000000000; omega), rfl, .inr ⟨rfl, rfl, rfl, fun _ => hl.2.2⟩⟩
        rw [hk]
        show (holdsI lo hi (imx ((lo + hi) / 2) T) && !(true && decide (imx ((lo + hi) / 2) T < T))) = true
        rw [holds_of h2 hl.1 hl.2.1, decide_eq_false (by omega : ¬ imx ((lo + hi) / 2) T < T)]
        rfl
/- A row of looks whose intervals are right, by a clock without a reading. -/
theorem gG_at {M : Nat → LkT} {h : Bool} {l : Int} : ∀ {n k : Nat}, k < n → gG (anR M h l n) k = anG (anS M h l k) (M k)
  | 0, k, hk => absurd hk (Nat.not_lt_zero _)
  | n + 1, k, hk => by
    rw [anR]
    by_cases e : k = n
    · subst e
      have q := gG_new (anR M h l k) (anG (anS M h l k) (M k))
      rw [anR_len] at q
      exact q
    · rw [gG_old (by rw [anR_len]; omega)]
      exact gG_at (by omega)
theorem an_all {M : Nat → LkT} {n : Nat} (hM : ∀ k, k < n → (M k).1 = true → okI (M k).2.1 (M k).2.2 = true) :
    ∀ k, k ≤ n → apB (anS M false 0 k).1 (anS M false 0 k).2 = true ∧ rkS (gG (anR M false 0 n)) k = anS M false 0 k ∧ rkA M (gG (anR M false 0 n)) k = true
  | 0, _ => ⟨rfl, rfl, rfl⟩
  | k + 1, hk => by
    obtain ⟨h1, h2, h3⟩ := an_all hM k (by omega)
    obtain ⟨r1, r2, r3, r4⟩ := an_right h1 (hM k (by omega))
    have hg := gG_at (M := M) (h := false) (l := 0) (show k < n by omega)
    have hS : anS M false 0 (k + 1) = (arH (anS M false 0 k).1 (anS M false 0 k).2 (M k).1 (M k).2.1 (M k).2.2, arL (anS M false 0 k).1 (anS M false 0 k).2 (M k).1 (M k).2.1 (M k).2.2) := by
      rw [anS, anN, anC, r3]
    refine ⟨by rw [hS]; exact r2, ?_, ?_⟩
    · rcases r4 with ⟨q1, q2, q3⟩ | ⟨q1, q2, q3, q4⟩
      · rw [rkS_un (x := (gG (anR M false 0 n) k).1) (d := (gG (anR M false 0 n) k).2.1) (c := (gG (anR M false 0 n) k).2.2) rfl (by rw [hg]; exact q1), h2, hS, q3]
      · rw [rkS_we (x := (gG (anR M false 0 n) k).1) (d := (gG (anR M false 0 n) k).2.1) (c := (gG (anR M false 0 n) k).2.2) rfl (by rw [hg]; exact q1), hS, q3, hg]
        rfl
    · rw [rkA_step (H := (anS M false 0 k).1) (L := (anS M false 0 k).2) (y := (M k).1) (lo := (M k).2.1) (hi := (M k).2.2) (x := (gG (anR M false 0 n) k).1) (d := (gG (anR M false 0 n) k).2.1) (c := (gG (anR M false 0 n) k).2.2) h2 rfl rfl h3, hg]
      exact r1
theorem an_told {M : Nat → LkT} {n : Nat} (hM : ∀ k, k < n → (M k).1 = true → okI (M k).2.1 (M k).2.2 = true) (hn : n ≤ 200) : rkB M (gG (anR M false 0 n)) n n = true := rkB_yes (an_all hM n (Nat.le_refl _)).2.2 hn
theorem an_left {M : Nat → LkT} {n : Nat} (hM : ∀ k, k < n → (M k).1 = true → okI (M k).2.1 (M k).2.2 = true) : apB (anS M false 0 n).1 (anS M false 0 n).2 = true := (an_all hM n (Nat.le_refl _)).1
/- One reading: it is passed over (and the clock is as it was), or it is not below the one ahead. -/
theorem an_next {M : Nat → LkT} {n k : Nat} (hM : ∀ k, k < n → (M k).1 = true → okI (M k).2.1 (M k).2.2 = true) (hk : k < n) {H : Bool} {T : Int} {x : Int} {d : Bool} {c : Int} (hS : anS M false 0 k = (H, T)) (hR : gG (anR M false 0 n) k = (x, d, c)) :
    ((c != 0) = true ∧ anS M false 0 (k + 1) = (H, T)) ∨ ((c != 0) = false ∧ anS M false 0 (k + 1) = (true, x) ∧ (H = true → T ≤ x)) := by
  obtain ⟨h1, h2, h3⟩ := an_all hM k (by omega)
  obtain ⟨r1, r2, r3, r4⟩ := an_right h1 (hM k hk)
  have hg := gG_at (M := M) (h := false) (l := 0) hk
  have hS1 : anS M false 0 (k + 1) = (arH (anS M false 0 k).1 (anS M false 0 k).2 (M k).1 (M k).2.1 (M k).2.2, arL (anS M false 0 k).1 (anS M false 0 k).2 (M k).1 (M k).2.1 (M k).2.2) := by
    rw [anS, anN, anC, r3]
  rw [hg, hS] at hR
  rw [hS] at hS1 r4
  have hc : arC H T (M k).1 (M k).2.1 (M k).2.2 = c := congrArg (fun q : RgT => q.2.2) hR
  have hx : arX H T (M k).1 (M k).2.1 (M k).2.2 = x := congrArg (fun q : RgT => q.1) hR
  simp only [hc, hx] at r4
  rcases r4 with ⟨q1, q2, q3⟩ | ⟨q1, q2, q3, q4⟩
  · exact .inl ⟨q2, hS1.trans q3⟩
  · exact .inr ⟨q2, hS1.trans q3, q4⟩
end Go.Proofs.Ytdllkfllnljaaaa
