/- Widths never fall; the walk of FnKnownFor. -/
import Derived.Test.YtlfbbdeoejafkaaZ2
import Derived.Test.YtlfbbdeoejafkaaQ6
import Derived.WalkKit
import Derived.WalkSpells
import Derived.WalkLawsBesides
import Derived.Deep.RegionHeld
import Derived.Deep.RegionHeld3
namespace Go.Proofs.Ytlfbbdeoejafkaa
open Go.RowKit
set_option linter.unusedVariables false
theorem dn_step {n d x m : Int} (hn : 0 ≤ n) (hd : 1 ≤ d) (h2 : 2 * n ≤ d) (hm : 0 ≤ m) : dnI (x * d) (d - n) + m ≤ dnI ((x + m) * d) (d - n) := by
  unfold dnI
  have hp : 0 < d - n := by omega
  have e : x * d + m * (d - n) ≤ (x + m) * d := by
    rw [Int.add_mul, Int.mul_sub]
    have := Int.mul_nonneg hm hn
    omega
  have h1 := Int.ediv_le_ediv hp e
  rw [Int.add_mul_ediv_right _ _ (by omega)] at h1
  exact h1
theorem up_step {n d x m : Int} (hn : 0 ≤ n) (hd : 1 ≤ d) (hm : 0 ≤ m) : upI ((x + m) * d) (d + n) ≤ upI (x * d) (d + n) + m := by
  unfold upI
  have hp : 0 < d + n := by omega
  have e : (x + m) * d + (d + n) - 1 ≤ x * d + (d + n) - 1 + m * (d + n) := by
    rw [Int.add_mul, Int.mul_add]
    have := Int.mul_nonneg hm hn
    omega
  have h1 := Int.ediv_le_ediv hp e
  rw [Int.add_mul_ediv_right _ _ (by omega)] at h1
  exact h1
theorem crC_z {lo hi a n d c : Int} (h : crC true lo hi a n d c = 0) : crP true lo hi a n d c = true ∧ ¬ c < a ∧ crL true lo hi a n d c = lo + upI ((c - a) * d) (d + n) ∧ crH true lo hi a n d c = hi + dnI ((c - a) * d) (d - n) := by
  cases hp : crP true lo hi a n d c
  · rw [(crC_1 hp).1] at h; exact absurd h (by decide)
  by_cases h4 : c < a
  · rw [(crC_3 hp h4).1] at h; exact absurd h (by decide)
  cases h5 : btB n d (c - a)
  · rw [(crC_4 hp h4 h5).1] at h; exact absurd h (by decide)
  cases h6 : plusB lo hi (upI ((c - a) * d) (d + n)) (dnI ((c - a) * d) (d - n))
  · rw [(crC_5 hp h4 h5 h6).1] at h; exact absurd h (by decide)
  · obtain ⟨_, e2, e3⟩ := crC_0 hp h4 h5 h6; exact ⟨rfl, h4, e2, e3⟩
theorem wd_mono {lo hi a n d : Int} {j k : Int} (hj : 0 ≤ j) (hjk : j ≤ k) (h : 0 ≤ wdI true lo hi a n d (a + k)) : wdI true lo hi a n d (a + j) ≤ wdI true lo hi a n d (a + k) := by
  by_cases h1 : crC true lo hi a n d (a + j) = 0
  · by_cases h2 : crC true lo hi a n d (a + k) = 0
    · obtain ⟨p1, _, l1, r1⟩ := crC_z h1
      obtain ⟨p2, _, l2, r2⟩ := crC_z h2
      have o1 := (cr_ok h1).2.2
      have o2 := (cr_ok h2).2.2
      obtain ⟨d1, d2, d3, d4⟩ := okD_t (crP_p p1).2.2.1
      rw [show wdI true lo hi a n d (a + j) = wideI (crL true lo hi a n d (a + j)) (crH true lo hi a n d (a + j)) by simp [wdI, h1], show wdI true lo hi a n d (a + k) = wideI (crL true lo hi a n d (a + k)) (crH true lo hi a n d (a + k)) by simp [wdI, h2], wideI_t o1, wideI_t o2, l1, l2, r1, r2]
      have e1 : a + j - a = j := by omega
      have e2 : a + k - a = j + (k - j) := by omega
      rw [e1, e2]
      have s1 := dn_step (x := j) (m := k - j) d3 d1 d4 (by omega)
      have s2 := up_step (x := j) (m := k - j) d3 d1 (by omega)
      omega
    · have e : wdI true lo hi a n d (a + k) = -1 := by simp [wdI, h2]
      omega
  · have e : wdI true lo hi a n d (a + j) = -1 := by simp [wdI, h1]
    omega
theorem bst_hit {g : Nat → Bool} : ∀ {K : Nat}, 0 ≤ bst g K → ∃ k : Nat, bst g K = (k : Int) ∧ k < K ∧ g k = true ∧ (k + 1 < K → g (k + 1) = false) := by
  intro K; induction K with
  | zero => intro h; exact absurd h (by show ¬ (0 : Int) ≤ -1; decide)
  | succ K ih =>
    intro h
    cases hg : g K
    · rw [bst_f hg] at h ⊢
      obtain ⟨k, e, hk, h1, h2⟩ := ih h
      refine ⟨k, e, by omega, h1, fun hlt => ?_⟩
      by_cases hq : k + 1 = K
      · rw [hq]; exact hg
      · exact h2 (by omega)
    · rw [bst_t hg]; exact ⟨K, rfl, by omega, hg, fun h => by omega⟩
theorem bst_miss {g : Nat → Bool} : ∀ {K : Nat}, bst g K < 0 → ∀ k, k < K → g k = false := by
  intro K; induction K with
  | zero => intro _ k hk; omega
  | succ K ih =>
    intro h k hk
    cases hg : g K
    · rw [bst_f hg] at h
      by_cases hq : k = K
      · rw [hq]; exact hg
      · exact ih h k (by omega)
    · rw [bst_t hg] at h; omega
theorem kf_false {kn : Bool} {lo hi a n d m : Int} (h : kfB kn lo hi a n d m = false) : wdI kn lo hi a n d a < 0 ∨ m < wdI kn lo hi a n d a := by
  cases ho : kfO kn lo hi a
  · left
    have e : crC kn lo hi a n d a ≠ 0 := by
      intro hz
      have h1 := (cr_ok hz).1
      subst h1
      have h2 := crC_z hz
      have h3 : okL true lo hi a = true := by have := h2.1; simp [crP] at this; exact this.1.1
      simp [kfO, h3] at ho
    have : wdI kn lo hi a n d a = -1 := by simp [wdI, e]
    omega
  · have hk : kn = true := by cases kn with | false => exact absurd ho (by simp [kfO]) | true => rfl
    subst hk
    have hb : bst (kfG lo hi a n d m) 4001 < 0 := by
      by_cases hb : 0 ≤ bst (kfG lo hi a n d m) 4001
      · have : kfB true lo hi a n d m = true := by simp [kfB, ho, hb]
        rw [this] at h; exact absurd h (by decide)
      · omega
    have h0 := bst_miss hb 0 (by omega)
    have h1 := of_decide_eq_false h0
    have e : a + ((0 : Nat) : Int) = a := by omega
    rw [e] at h1
    omega
theorem kf_true {kn : Bool} {lo hi a n d m : Int} (h : kfB kn lo hi a n d m = true) : ∃ z : Nat, kn = true ∧ okT a = true ∧ kfN kn lo hi a n d m = (z : Int) ∧ z ≤ 4000 ∧ 0 ≤ wdI kn lo hi a n d (a + z) ∧ wdI kn lo hi a n d (a + z) ≤ m ∧ (z = 4000 ∨ wdI kn lo hi a n d (a + z + 1) < 0 ∨ m < wdI kn lo hi a n d (a + z + 1)) ∧ wdI kn lo hi a n d (a + (z : Int) / 2) ≤ wdI kn lo hi a n d (a + z) := by
  have h0 := h
  simp [kfB] at h0
  obtain ⟨ho, hb⟩ := h0
  have hk : kn = true := by cases kn with | false => exact absurd ho (by simp [kfO]) | true => rfl
  subst hk
  have hl : okL true lo hi a = true := by simpa [kfO] using ho
  obtain ⟨z, e, hz, hg, hn⟩ := bst_hit hb
  have hg' := of_decide_eq_true hg
  refine ⟨z, rfl, (okL_t hl).2, by simp [kfN, h, e], by omega, hg'.1, hg'.2, ?_, wd_mono (by omega) (by omega) hg'.1⟩
  by_cases hq : z = 4000
  · exact .inl hq
  · have h2 := of_decide_eq_false (hn (by omega))
    have e2 : a + ((z + 1 : Nat) : Int) = a + z + 1 := by omega
    rw [e2] at h2
    right
    omega
set_option maxRecDepth 100000 in
set_option maxHeartbeats 4000000 in
theorem walkKnownFor (a0 : Option Addr) (l0 c0 : Nat) (w : World) (hcode : CodeB w w.heap.size a0 l0) :
    Calls Try.prog 5 #[.slice a0 l0 c0] w fun e w' => e = .returned (.bool true) ∧ Below w.heap.size w w' := by
  have HC : Hid (CodeB w w.heap.size a0 l0) := hcode
  clear hcode
  go_enter Try.func5, Try.ntmps5
  go_wp2_with fail
  refine (big_any _ _ _ _).mono ?_
  rintro e w' ⟨rfl, rfl⟩
  by_cases hbg : 1048576 < (l0 : Int)
  · have hbd : decide (1048576 < (l0 : Int)) = true := decide_eq_true hbg
    go_wp2
    go_ret
    exact ⟨rfl, Below.refl _ _⟩
  have hbd : decide (1048576 < (l0 : Int)) = false := decide_eq_false hbg
  go_wp2_with fail
  refine (DrawKnownFor_any a0 l0 c0 w (by omega) HC.out).mono ?_
  rintro e v ⟨kn, lo, hi, a, n, d, m, rfl, B⟩
  clear HC hbd hbg
  have N := (BoxL.new v kn lo hi a 39).alloc (.cells #[.int .i64 n, .int .i64 d] 25)
  have M := Bx.new (v.alloc (.cells #[.bool kn, .int .i64 lo, .int .i64 hi, .int .i64 a] 39)) n d 25
  simp only [World.size_alloc] at M
  replace B := (B.alloc B.size (.cells #[.bool kn, .int .i64 lo, .int .i64 hi, .int .i64 a] 39)).alloc (by have := B.size; simp; omega) (.cells #[.int .i64 n, .int .i64 d] 25)
  have CI := fun w' => implKnownFor_any kn lo hi a n d m w'
  have CS := fun w' => specKnownFor_any kn lo hi a n d m w'
  have CW : ∀ (z : Int) w', Calls Try.prog 23 #[.agg #[.bool kn, .int .i64 lo, .int .i64 hi, .int .i64 a], .agg #[.int .i64 n, .int .i64 d], .int .i64 z] w' fun e w'' => e = .returned (.int .i64 (wdI kn lo hi a n d z)) ∧ Below w'.heap.size w' w'' := fun z w' => implWidthAt_any kn lo hi a n d z w'
  cases hk : kfB kn lo hi a n d m
  · have FF := kf_false hk
    rw [hk] at CI CS
    generalize kfN kn lo hi a n d m = X at *
    have HF : Hid (wdI kn lo hi a n d a < 0 ∨ m < wdI kn lo hi a n d a) := FF
    clear FF hk
    go_wp2_with fail
    refine (CI _).mono ?_
    rintro e v1 ⟨rfl, hb⟩
    (replace B := B.trans (hb.mono B.size)); (replace N := N.below hb); (replace M := M.below hb); clear hb; (obtain ⟨n0, n1, n2, n3, n4, n5, n6, n7, n8⟩ := id N); (obtain ⟨m0, m1, m2, m3, m4⟩ := id M)
    go_wp2_with fail
    refine (CS _).mono ?_
    rintro e v2 ⟨rfl, hb⟩
    clear n0 n1 n2 n3 n4 n5 n6 n7 n8 m0 m1 m2 m3 m4
    (replace B := B.trans (hb.mono B.size)); (replace N := N.below hb); (replace M := M.below hb); clear hb; (obtain ⟨n0, n1, n2, n3, n4, n5, n6, n7, n8⟩ := id N); (obtain ⟨m0, m1, m2, m3, m4⟩ := id M)
    go_wp2_with fail
    refine (CW _ _).mono ?_
    rintro e v3 ⟨rfl, hb⟩
    clear n0 n1 n2 n3 n4 n5 n6 n7 n8 m0 m1 m2 m3 m4
    (replace B := B.trans (hb.mono B.size)); (replace N := N.below hb); (replace M := M.below hb); clear hb; (obtain ⟨n0, n1, n2, n3, n4, n5, n6, n7, n8⟩ := id N); (obtain ⟨m0, m1, m2, m3, m4⟩ := id M)
    clear CI CS
    by_cases c1 : wdI kn lo hi a n d a < 0
    · have d1 : decide (wdI kn lo hi a n d a < 0) = true := decide_eq_true c1
      go_wp2
      go_ret
      exact ⟨rfl, B⟩
    · have d1 : decide (wdI kn lo hi a n d a < 0) = false := decide_eq_false c1
      have c2 : m < wdI kn lo hi a n d a := HF.out.resolve_left c1
      have d2 : decide (m < wdI kn lo hi a n d a) = true := decide_eq_true c2
      go_wp2_with fail
      refine (CW _ _).mono ?_
      rintro e v4 ⟨rfl, hb⟩
      clear n0 n1 n2 n3 n4 n5 n6 n7 n8 m0 m1 m2 m3 m4
      (replace B := B.trans (hb.mono B.size)); (replace N := N.below hb); (replace M := M.below hb); clear hb; (obtain ⟨n0, n1, n2, n3, n4, n5, n6, n7, n8⟩ := id N); (obtain ⟨m0, m1, m2, m3, m4⟩ := id M)
      go_wp2
      go_ret
      exact ⟨rfl, B⟩
  · obtain ⟨z, hkn, hT, hz, z4, f1, f2, f3, f4⟩ := kf_true hk
    obtain ⟨a1, a2⟩ := okT_t hT
    rw [hk, hz] at CI CS
    clear hk hz hkn hT
    have HF : Hid (z = 4000 ∨ wdI kn lo hi a n d (a + z + 1) < 0 ∨ m < wdI kn lo hi a n d (a + z + 1)) := f3
    have d1 : decide (0 ≤ wdI kn lo hi a n d (a + z)) = true := decide_eq_true f1
    have d2 : decide (wdI kn lo hi a n d (a + z) ≤ m) = true := decide_eq_true f2
    have d4 : decide (wdI kn lo hi a n d (a + (z : Int) / 2) ≤ wdI kn lo hi a n d (a + z)) = true := decide_eq_true f4
    have d3 : decide ((z : Int) ≤ 4000) = true := decide_eq_true (by omega)
    clear f1 f2 f3 f4
    go_wp2_with fail
    refine (CI _).mono ?_
    rintro e v1 ⟨rfl, hb⟩
    (replace B := B.trans (hb.mono B.size)); (replace N := N.below hb); (replace M := M.below hb); clear hb; (obtain ⟨n0, n1, n2, n3, n4, n5, n6, n7, n8⟩ := id N); (obtain ⟨m0, m1, m2, m3, m4⟩ := id M)
    go_wp2_with fail
    refine (CS _).mono ?_
    rintro e v2 ⟨rfl, hb⟩
    clear n0 n1 n2 n3 n4 n5 n6 n7 n8 m0 m1 m2 m3 m4
    (replace B := B.trans (hb.mono B.size)); (replace N := N.below hb); (replace M := M.below hb); clear hb; (obtain ⟨n0, n1, n2, n3, n4, n5, n6, n7, n8⟩ := id N); (obtain ⟨m0, m1, m2, m3, m4⟩ := id M)
    clear CI CS
    go_wp2_with fail
    refine (CW _ _).mono ?_
    rintro e v3 ⟨rfl, hb⟩
    clear n0 n1 n2 n3 n4 n5 n6 n7 n8 m0 m1 m2 m3 m4
    (replace B := B.trans (hb.mono B.size)); (replace N := N.below hb); (replace M := M.below hb); clear hb; (obtain ⟨n0, n1, n2, n3, n4, n5, n6, n7, n8⟩ := id N); (obtain ⟨m0, m1, m2, m3, m4⟩ := id M)
    go_wp2_with fail
    refine (CW _ _).mono ?_
    rintro e v4 ⟨rfl, hb⟩
    clear n0 n1 n2 n3 n4 n5 n6 n7 n8 m0 m1 m2 m3 m4
    (replace B := B.trans (hb.mono B.size)); (replace N := N.below hb); (replace M := M.below hb); clear hb; (obtain ⟨n0, n1, n2, n3, n4, n5, n6, n7, n8⟩ := id N); (obtain ⟨m0, m1, m2, m3, m4⟩ := id M)
    by_cases g1 : (z : Int) = 4000
    · have k1 : ((z : Int) == 4000) = true := by rw [g1]; rfl
      have d5 : decide (wdI kn lo hi a n d (a + 2000) ≤ wdI kn lo hi a n d (a + 4000)) = true := by
        have h := of_decide_eq_true d4
        rw [g1, show (4000 : Int) / 2 = 2000 from rfl] at h
        exact decide_eq_true h
      have d6 : decide (0 ≤ wdI kn lo hi a n d (a + 4000)) = true := by have h := d1; rw [g1] at h; exact h
      have d7 : decide (wdI kn lo hi a n d (a + 4000) ≤ m) = true := by have h := d2; rw [g1] at h; exact h
      go_wp2_with fail
      refine (CW _ _).mono ?_
      rintro e v5 ⟨rfl, hb⟩
      clear n0 n1 n2 n3 n4 n5 n6 n7 n8 m0 m1 m2 m3 m4
      (replace B := B.trans (hb.mono B.size)); (replace N := N.below hb); (replace M := M.below hb); clear hb; (obtain ⟨n0, n1, n2, n3, n4, n5, n6, n7, n8⟩ := id N); (obtain ⟨m0, m1, m2, m3, m4⟩ := id M)
      go_wp2
      go_ret
      exact ⟨rfl, B⟩
    · have k1 : ((z : Int) == 4000) = false := by simp [g1]
      by_cases g2 : wdI kn lo hi a n d (a + z + 1) < 0
      · have k2 : decide (wdI kn lo hi a n d (a + z + 1) < 0) = true := decide_eq_true g2
        go_wp2_with fail
        refine (CW _ _).mono ?_
        rintro e v5 ⟨rfl, hb⟩
        clear n0 n1 n2 n3 n4 n5 n6 n7 n8 m0 m1 m2 m3 m4
        (replace B := B.trans (hb.mono B.size)); (replace N := N.below hb); (replace M := M.below hb); clear hb; (obtain ⟨n0, n1, n2, n3, n4, n5, n6, n7, n8⟩ := id N); (obtain ⟨m0, m1, m2, m3, m4⟩ := id M)
        go_wp2
        go_ret
        exact ⟨rfl, B⟩
      · have k2 : decide (wdI kn lo hi a n d (a + z + 1) < 0) = false := decide_eq_false g2
        have g3 : m < wdI kn lo hi a n d (a + z + 1) := by
          rcases HF.out with h | h | h
          · exact absurd (by omega) g1
          · exact absurd h g2
          · exact h
        have k3 : decide (m < wdI kn lo hi a n d (a + z + 1)) = true := decide_eq_true g3
        go_wp2_with fail
        refine (CW _ _).mono ?_
        rintro e v5 ⟨rfl, hb⟩
        clear n0 n1 n2 n3 n4 n5 n6 n7 n8 m0 m1 m2 m3 m4
        (replace B := B.trans (hb.mono B.size)); (replace N := N.below hb); (replace M := M.below hb); clear hb; (obtain ⟨n0, n1, n2, n3, n4, n5, n6, n7, n8⟩ := id N); (obtain ⟨m0, m1, m2, m3, m4⟩ := id M)
        go_wp2
        go_ret
        exact ⟨rfl, B⟩
end Go.Proofs.Ytlfbbdeoejafkaa
