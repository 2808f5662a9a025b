/- The walk of FnNarrow. -/
import Derived.Test.YtlfbbdeoejafkaaZ2
import Derived.Test.YtlfbbdeoejafkaaQ4
import Derived.Test.YtlfbbdeoejafkaaW6
import Derived.Test.YtlfbbdeoejafkaaW7
import Derived.WalkKit
import Derived.WalkSpells
import Derived.WalkLawsBesides
import Derived.Deep.RegionHeld
import Derived.Deep.RegionHeld3
namespace Go.Proofs.Ytlfbbdeoejafkaa
open Go.RowKit
set_option linter.unusedVariables false
theorem within_mk {al ah bl bh : Int} (h1 : okI al ah = true) (h2 : okI bl bh = true) (h3 : bl ≤ al) (h4 : ah ≤ bh) : withinI al ah bl bh = true := by
  simp [withinI, okII, h1, h2, h3, h4]
theorem nw_five {kn : Bool} {lo hi a n d c x y : Int} (h : nwC kn lo hi a n d c x y = 5) : crC kn lo hi a n d c = 0 ∧ 0 < apartI (crL kn lo hi a n d c) (crH kn lo hi a n d c) x y := by
  unfold nwC at h
  split at h
  · exact absurd h (by decide)
  next h1 =>
  have h1' : crC kn lo hi a n d c ≠ 1 ∧ okI x y = true := by
    constructor
    · intro e; exact h1 (.inl e)
    · cases ho : okI x y with | false => exact absurd (.inr ho) h1 | true => rfl
  split at h
  · exact absurd h (by decide)
  split at h
  · next h0 =>
    refine ⟨h0, ?_⟩
    split at h
    · exact absurd h (by decide)
    next hm =>
    have hm' : meetB (crL kn lo hi a n d c) (crH kn lo hi a n d c) x y = false := by simpa using hm
    have o1 := (cr_ok h0).2.2
    have oo : okII (crL kn lo hi a n d c) (crH kn lo hi a n d c) x y = true := by simp [okII, o1, h1'.2]
    rw [apartI_t oo]
    simp [meetB, oo] at hm'
    obtain ⟨p1, p2, p3⟩ := okI_t o1
    obtain ⟨q1, q2, q3⟩ := okI_t h1'.2
    have hk := okI_f hm'
    generalize crL kn lo hi a n d c = X at *
    generalize crH kn lo hi a n d c = Y at *
    have e1 : imx X x = X ∨ imx X x = x := by unfold imx; split <;> simp
    have e2 : imn Y y = Y ∨ imn Y y = y := by unfold imn; split <;> simp
    generalize imx X x = P at *
    generalize imn Y y = Q at *
    unfold imx
    split <;> omega
  · exact absurd h (by
      rcases cr_cases kn lo hi a n d c with ⟨_, e⟩ | ⟨_, _, e⟩ | ⟨_, _, e | e | e⟩ <;> rw [e] <;> decide)
theorem nw_well {kn : Bool} {lo hi a n d c x y : Int} (h : nwC kn lo hi a n d c x y = 0) : nwK kn lo hi a n d c x y = true ∧ nwA kn lo hi a n d c x y = c ∧ withinI (nwL kn lo hi a n d c x y) (nwH kn lo hi a n d c x y) x y = true ∧ (crC kn lo hi a n d c = 0 → withinI (nwL kn lo hi a n d c x y) (nwH kn lo hi a n d c x y) (crL kn lo hi a n d c) (crH kn lo hi a n d c) = true) ∧ okL (nwK kn lo hi a n d c x y) (nwL kn lo hi a n d c x y) (nwH kn lo hi a n d c x y) (nwA kn lo hi a n d c x y) = true := by
  have ho : okI x y = true := by
    cases ho : okI x y
    · have := (nw_1 (kn := kn) (lo := lo) (hi := hi) (a := a) (n := n) (d := d) (c := c) (.inr ho)).2.2.2.2
      rw [this] at h; exact absurd h (by decide)
    · rfl
  rcases cr_cases kn lo hi a n d c with ⟨_, e⟩ | ⟨hp, _, e⟩ | ⟨hp, _, e⟩
  · have := (nw_1 (x := x) (y := y) (.inl e)).2.2.2.2
    rw [this] at h; exact absurd h (by decide)
  · obtain ⟨e1, e2, e3, e4, _⟩ := nw_2 e ho
    rw [e1, e2, e3, e4]
    have hc : okT c = true := by simp [crP] at hp; exact hp.2
    refine ⟨rfl, rfl, within_mk ho ho (Int.le_refl _) (Int.le_refl _), fun hz => ?_, by simp [okL, ho, hc]⟩
    rw [e] at hz; exact absurd hz (by decide)
  · by_cases hz : crC kn lo hi a n d c = 0
    · cases hm : meetB (crL kn lo hi a n d c) (crH kn lo hi a n d c) x y
      · have := (nw_5 hz ho hm).2.2.2.2
        rw [this] at h; exact absurd h (by decide)
      obtain ⟨e1, e2, e3, e4, _⟩ := nw_0 hz ho hm
      rw [e1, e2, e3, e4]
      have hc : okT c = true := by simp [crP] at hp; exact hp.2
      have o1 := (cr_ok hz).2.2
      have om : okI (imx (crL kn lo hi a n d c) x) (imn (crH kn lo hi a n d c) y) = true := by simp [meetB] at hm; exact hm.2
      generalize crL kn lo hi a n d c = X at *
      generalize crH kn lo hi a n d c = Y at *
      have g1 : X ≤ imx X x ∧ x ≤ imx X x := by unfold imx; split <;> omega
      have g2 : imn Y y ≤ Y ∧ imn Y y ≤ y := by unfold imn; split <;> omega
      exact ⟨rfl, rfl, within_mk om ho g1.2 g2.2, fun _ => within_mk om o1 g1.1 g2.1, by simp [okL, om, hc]⟩
    · have h1 : crC kn lo hi a n d c ≠ 1 := by rcases e with h | h | h <;> rw [h] <;> decide
      have h2 : crC kn lo hi a n d c ≠ 2 := by rcases e with h | h | h <;> rw [h] <;> decide
      have := (nw_3 (x := x) (y := y) h1 h2 hz ho).2.2.2.2
      rw [this] at h; exact absurd h hz
set_option maxRecDepth 100000 in
set_option maxHeartbeats 4000000 in
theorem walkNarrow (a0 : Option Addr) (l0 c0 : Nat) (w : World) (hcode : CodeB w w.heap.size a0 l0) :
    Calls Try.prog 4 #[.slice a0 l0 c0] w fun e w' => e = .returned (.bool true) ∧ Below w.heap.size w w' := by
  have HC : Hid (CodeB w w.heap.size a0 l0) := hcode
  clear hcode
  go_enter Try.func4, Try.ntmps4
  go_wp2_with fail
  refine (big_any _ _ _ _).mono ?_
  rintro e w' ⟨rfl, rfl⟩
  by_cases hbg : 1048576 < (l0 : Int)
  · have hbd : decide (1048576 < (l0 : Int)) = true := decide_eq_true hbg
    go_wp2
    go_ret
    exact ⟨rfl, Below.refl _ _⟩
  have hbd : decide (1048576 < (l0 : Int)) = false := decide_eq_false hbg
  go_wp2_with fail
  refine (DrawNarrow_any a0 l0 c0 w (by omega) HC.out).mono ?_
  rintro e v ⟨kn, lo, hi, a, n, d, m, x, y, rfl, B⟩
  clear HC hbd hbg
  have N := ((BoxL.new v kn lo hi a 39).alloc (.cells #[.int .i64 n, .int .i64 d] 25)).alloc (.cells #[.int .i64 x, .int .i64 y] 35)
  have M := (Bx.new (v.alloc (.cells #[.bool kn, .int .i64 lo, .int .i64 hi, .int .i64 a] 39)) n d 25).alloc (.cells #[.int .i64 x, .int .i64 y] 35)
  have V := Bx.new ((v.alloc (.cells #[.bool kn, .int .i64 lo, .int .i64 hi, .int .i64 a] 39)).alloc (.cells #[.int .i64 n, .int .i64 d] 25)) x y 35
  simp only [World.size_alloc] at M V
  replace B := ((B.alloc B.size (.cells #[.bool kn, .int .i64 lo, .int .i64 hi, .int .i64 a] 39)).alloc (by have := B.size; simp; omega) (.cells #[.int .i64 n, .int .i64 d] 25)).alloc (by have := B.size; simp; omega) (.cells #[.int .i64 x, .int .i64 y] 35)
  have CC := fun w' => specCarryOn_any kn lo hi a n d m w'
  have CI := fun w' => implNarrow_any kn lo hi a n d m x y w'
  have CS := fun w' => specNarrow_any kn lo hi a n d m x y w'
  have H5 : Hid (nwC kn lo hi a n d m x y = 5 → crC kn lo hi a n d m = 0 ∧ 0 < apartI (crL kn lo hi a n d m) (crH kn lo hi a n d m) x y) := fun h => nw_five h
  have H0 : Hid (nwC kn lo hi a n d m x y = 0 → nwK kn lo hi a n d m x y = true ∧ nwA kn lo hi a n d m x y = m ∧ withinI (nwL kn lo hi a n d m x y) (nwH kn lo hi a n d m x y) x y = true ∧ (crC kn lo hi a n d m = 0 → withinI (nwL kn lo hi a n d m x y) (nwH kn lo hi a n d m x y) (crL kn lo hi a n d m) (crH kn lo hi a n d m) = true) ∧ okL (nwK kn lo hi a n d m x y) (nwL kn lo hi a n d m x y) (nwH kn lo hi a n d m x y) (nwA kn lo hi a n d m x y) = true) := fun h => nw_well h
  go_wp2_with fail
  generalize nwK kn lo hi a n d m x y = k1 at *
  generalize nwL kn lo hi a n d m x y = k2 at *
  generalize nwH kn lo hi a n d m x y = k3 at *
  generalize nwA kn lo hi a n d m x y = k4 at *
  generalize nwC kn lo hi a n d m x y = kz at *
  generalize crL kn lo hi a n d m = X at *
  generalize crH kn lo hi a n d m = Y at *
  generalize crC kn lo hi a n d m = Z at *
  refine (CC _).mono ?_
  rintro e v1 ⟨rfl, hb⟩
  (replace B := B.trans (hb.mono B.size)); (replace N := N.below hb); (replace M := M.below hb); (replace V := V.below hb); (try (replace A := A.below hb)); (try (replace P := P.below hb)); clear hb
  have A := Bx.new v1 X Y 35
  (replace B := B.alloc B.size (.cells #[.int .i64 X, .int .i64 Y] 35)); (replace N := N.alloc (.cells #[.int .i64 X, .int .i64 Y] 35)); (replace M := M.alloc (.cells #[.int .i64 X, .int .i64 Y] 35)); (replace V := V.alloc (.cells #[.int .i64 X, .int .i64 Y] 35)); (try (replace P := P.alloc (.cells #[.int .i64 X, .int .i64 Y] 35)))
  (obtain ⟨n0, n1, n2, n3, n4, n5, n6, n7, n8⟩ := id N); (obtain ⟨m0, m1, m2, m3, m4⟩ := id M); (obtain ⟨v0, v1, v2, v3, v4⟩ := id V); (try (obtain ⟨b0, b1, b2, b3, b4⟩ := id A)); (try (obtain ⟨p0, p1, p2, p3, p4, p5, p6, p7, p8⟩ := id P))
  clear CC
  go_wp2_with fail
  refine (CI _).mono ?_
  rintro e w2 ⟨rfl, hb⟩
  clear n0 n1 n2 n3 n4 n5 n6 n7 n8 m0 m1 m2 m3 m4 v0 v1 v2 v3 v4; (try clear b0 b1 b2 b3 b4); (try clear p0 p1 p2 p3 p4 p5 p6 p7 p8)
  (replace B := B.trans (hb.mono B.size)); (replace N := N.below hb); (replace M := M.below hb); (replace V := V.below hb); (try (replace A := A.below hb)); (try (replace P := P.below hb)); clear hb
  have P := BoxL.new w2 k1 k2 k3 k4 39
  replace A := A.alloc (.cells #[.bool k1, .int .i64 k2, .int .i64 k3, .int .i64 k4] 39)
  replace B := B.alloc B.size (.cells #[.bool k1, .int .i64 k2, .int .i64 k3, .int .i64 k4] 39)
  replace N := N.alloc (.cells #[.bool k1, .int .i64 k2, .int .i64 k3, .int .i64 k4] 39)
  replace M := M.alloc (.cells #[.bool k1, .int .i64 k2, .int .i64 k3, .int .i64 k4] 39)
  replace V := V.alloc (.cells #[.bool k1, .int .i64 k2, .int .i64 k3, .int .i64 k4] 39)
  (obtain ⟨n0, n1, n2, n3, n4, n5, n6, n7, n8⟩ := id N); (obtain ⟨m0, m1, m2, m3, m4⟩ := id M); (obtain ⟨v0, v1, v2, v3, v4⟩ := id V); (try (obtain ⟨b0, b1, b2, b3, b4⟩ := id A)); (try (obtain ⟨p0, p1, p2, p3, p4, p5, p6, p7, p8⟩ := id P))
  clear CI
  go_wp2_with fail
  refine (CS _).mono ?_
  rintro e w3 ⟨rfl, hb⟩
  clear n0 n1 n2 n3 n4 n5 n6 n7 n8 m0 m1 m2 m3 m4 v0 v1 v2 v3 v4; (try clear b0 b1 b2 b3 b4); (try clear p0 p1 p2 p3 p4 p5 p6 p7 p8)
  (replace B := B.trans (hb.mono B.size)); (replace N := N.below hb); (replace M := M.below hb); (replace V := V.below hb); (try (replace A := A.below hb)); (try (replace P := P.below hb)); clear hb
  replace A := A.alloc (.cells #[.bool k1, .int .i64 k2, .int .i64 k3, .int .i64 k4] 39)
  (replace B := B.alloc B.size (.cells #[.bool k1, .int .i64 k2, .int .i64 k3, .int .i64 k4] 39)); (replace N := N.alloc (.cells #[.bool k1, .int .i64 k2, .int .i64 k3, .int .i64 k4] 39)); (replace M := M.alloc (.cells #[.bool k1, .int .i64 k2, .int .i64 k3, .int .i64 k4] 39)); (replace V := V.alloc (.cells #[.bool k1, .int .i64 k2, .int .i64 k3, .int .i64 k4] 39)); (try (replace P := P.alloc (.cells #[.bool k1, .int .i64 k2, .int .i64 k3, .int .i64 k4] 39)))
  (obtain ⟨n0, n1, n2, n3, n4, n5, n6, n7, n8⟩ := id N); (obtain ⟨m0, m1, m2, m3, m4⟩ := id M); (obtain ⟨v0, v1, v2, v3, v4⟩ := id V); (try (obtain ⟨b0, b1, b2, b3, b4⟩ := id A)); (try (obtain ⟨p0, p1, p2, p3, p4, p5, p6, p7, p8⟩ := id P))
  clear CS
  by_cases hz : kz = 0
  · obtain ⟨e1, e2, e3, e4, e5⟩ := H0.out hz
    have CW := fun w' => implWithin_any k2 k3 x y w'
    have CX := fun w' => implWithin_any k2 k3 X Y w'
    have CO := fun w' => implLocalOk_any k1 k2 k3 k4 w'
    rw [e3] at CW
    rw [e5] at CO
    replace e4 : Hid (Z = 0 → withinI k2 k3 X Y = true) := e4
    subst hz e1 e2
    clear e3 e5 H0 H5
    go_wp2_with fail
    refine (CW _).mono ?_
    rintro e w4 ⟨rfl, hb⟩
    clear n0 n1 n2 n3 n4 n5 n6 n7 n8 m0 m1 m2 m3 m4 v0 v1 v2 v3 v4; (try clear b0 b1 b2 b3 b4); (try clear p0 p1 p2 p3 p4 p5 p6 p7 p8)
    (replace B := B.trans (hb.mono B.size)); (replace N := N.below hb); (replace M := M.below hb); (replace V := V.below hb); (try (replace A := A.below hb)); (try (replace P := P.below hb)); clear hb
    (obtain ⟨n0, n1, n2, n3, n4, n5, n6, n7, n8⟩ := id N); (obtain ⟨m0, m1, m2, m3, m4⟩ := id M); (obtain ⟨v0, v1, v2, v3, v4⟩ := id V); (try (obtain ⟨b0, b1, b2, b3, b4⟩ := id A)); (try (obtain ⟨p0, p1, p2, p3, p4, p5, p6, p7, p8⟩ := id P))
    by_cases hZ : Z = 0
    · rw [e4.out hZ] at CX
      subst hZ
      clear e4 CW
      go_wp2_with fail
      refine (CX _).mono ?_
      rintro e w5 ⟨rfl, hb⟩
      clear n0 n1 n2 n3 n4 n5 n6 n7 n8 m0 m1 m2 m3 m4 v0 v1 v2 v3 v4; (try clear b0 b1 b2 b3 b4); (try clear p0 p1 p2 p3 p4 p5 p6 p7 p8)
      (replace B := B.trans (hb.mono B.size)); (replace N := N.below hb); (replace M := M.below hb); (replace V := V.below hb); (try (replace A := A.below hb)); (try (replace P := P.below hb)); clear hb
      (obtain ⟨n0, n1, n2, n3, n4, n5, n6, n7, n8⟩ := id N); (obtain ⟨m0, m1, m2, m3, m4⟩ := id M); (obtain ⟨v0, v1, v2, v3, v4⟩ := id V); (try (obtain ⟨b0, b1, b2, b3, b4⟩ := id A)); (try (obtain ⟨p0, p1, p2, p3, p4, p5, p6, p7, p8⟩ := id P))
      go_wp2_with fail
      refine (CO _).mono ?_
      rintro e w6 ⟨rfl, hb⟩
      clear n0 n1 n2 n3 n4 n5 n6 n7 n8 m0 m1 m2 m3 m4 v0 v1 v2 v3 v4; (try clear b0 b1 b2 b3 b4); (try clear p0 p1 p2 p3 p4 p5 p6 p7 p8)
      (replace B := B.trans (hb.mono B.size)); (replace N := N.below hb); (replace M := M.below hb); (replace V := V.below hb); (try (replace A := A.below hb)); (try (replace P := P.below hb)); clear hb
      go_wp2
      go_ret
      exact ⟨rfl, B⟩
    · have kZ : (Z == 0) = false := by simp [hZ]
      clear e4 CW CX
      go_wp2_with fail
      refine (CO _).mono ?_
      rintro e w6 ⟨rfl, hb⟩
      clear n0 n1 n2 n3 n4 n5 n6 n7 n8 m0 m1 m2 m3 m4 v0 v1 v2 v3 v4; (try clear b0 b1 b2 b3 b4); (try clear p0 p1 p2 p3 p4 p5 p6 p7 p8)
      (replace B := B.trans (hb.mono B.size)); (replace N := N.below hb); (replace M := M.below hb); (replace V := V.below hb); (try (replace A := A.below hb)); (try (replace P := P.below hb)); clear hb
      go_wp2
      go_ret
      exact ⟨rfl, B⟩
  · have kZ0 : (kz == 0) = false := by simp [hz]
    by_cases h5 : kz = 5
    · obtain ⟨e1, e2⟩ := H5.out h5
      have CA := fun w' => implApart_any X Y x y w'
      subst e1 h5
      clear H0 H5
      generalize apartI X Y x y = G at *
      have dG : decide (0 < G) = true := decide_eq_true e2
      go_wp2_with fail
      refine (CA _).mono ?_
      rintro e w4 ⟨rfl, hb⟩
      clear n0 n1 n2 n3 n4 n5 n6 n7 n8 m0 m1 m2 m3 m4 v0 v1 v2 v3 v4; (try clear b0 b1 b2 b3 b4); (try clear p0 p1 p2 p3 p4 p5 p6 p7 p8)
      (replace B := B.trans (hb.mono B.size)); (replace N := N.below hb); (replace M := M.below hb); (replace V := V.below hb); (try (replace A := A.below hb)); (try (replace P := P.below hb)); clear hb
      go_wp2
      go_ret
      exact ⟨rfl, B⟩
    · have kZ5 : (kz == 5) = false := by simp [h5]
      clear H0 H5
      go_wp2
      go_ret
      exact ⟨rfl, B⟩
end Go.Proofs.Ytlfbbdeoejafkaa
