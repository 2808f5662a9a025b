/- GateBudget in the specification. -/
import Derived.Test.YtcakhfobkbgfoaaDoorC141
import Derived.Test.YtcakhfobkbgfoaaDoorB133
import Derived.WalkKit
import Derived.WalkSpells
import Derived.WalkLawsBesides
import Derived.Deep.RegionHeld
namespace Go.Proofs.YtcakhfobkbgfoaaDoor
open Go.RowKit
set_option linter.unusedVariables false
theorem bst_yes {M : Nat → SlT} {o : Int} {j : Nat} {x l : Int} (hM : M j = (x, l)) (h : (x == o) = true) : bst M o (j + 1) = imx (bst M o j) l := by rw [bst, hM]; show (match (x == o) with | true => _ | false => _) = _; rw [h]
theorem bst_no {M : Nat → SlT} {o : Int} {j : Nat} {x l : Int} (hM : M j = (x, l)) (h : (x == o) = false) : bst M o (j + 1) = bst M o j := by rw [bst, hM]; show (match (x == o) with | true => _ | false => _) = _; rw [h]
theorem bst_bd {M : Nat → SlT} {n : Nat} {o : Int} (hA : slA M n = true) : ∀ k, k ≤ n → 0 ≤ bst M o k ∧ bst M o k ≤ 1000000
  | 0, _ => by rw [bst]; decide
  | k + 1, hk => by
    have ih := bst_bd (o := o) hA k (by omega)
    have hl := (slB_t (slA_at hA (show k < n by omega))).2
    rw [bst]
    cases e : ((M k).1 == o)
    · exact ih
    · show 0 ≤ imx (bst M o k) (M k).2 ∧ imx (bst M o k) (M k).2 ≤ 1000000
      unfold imx
      split <;> omega
theorem gb_no {s g : Int} {M : Nat → SlT} {m : Nat} {o n d x : Int} (h : gbB s g M m o n d x = false) : gbI s g M m o n d x = 0 := sel_f h _
theorem gb_pl {s g : Int} {M : Nat → SlT} {m : Nat} {o n d x : Int} (h : plB s g M m = false) : gbB s g M m o n d x = false := by unfold gbB; rw [h]; rfl
theorem mo_bd {n d x : Int} (h : moB n d x = true) : 0 ≤ moT n d x ∧ moT n d x ≤ 1000000000000 := by
  unfold moT
  rw [sel_t h]
  unfold moB rB at h
  simp only [Bool.and_eq_true] at h
  exact okT_t h.2
set_option maxRecDepth 100000 in
set_option maxHeartbeats 8000000 in
theorem specGateBudget_any (s g : Int) (a : Option Addr) (m c : Nat) (M : Nat → SlT) (o n d x : Int) (w : World) (hm : m ≤ maxLen) (hs : SrcC w a (m * 2) (MFSlot M)) :
    Calls Tryd.prog 34 #[.agg #[.int .i64 s, .int .i64 g, .slice a m c], .int .i64 o, .agg #[.int .i64 n, .int .i64 d], .int .i64 x] w fun e w' => e = .returned (.tuple #[.int .i64 (gbI s g M m o n d x), .bool (gbB s g M m o n d x)]) ∧ Below w.heap.size w w' := by
  have A0 := Below.nw w (.cells #[.int .i64 s, .int .i64 g, .slice a m c] 30)
  have A1 := Below.nw (w.alloc (.cells #[.int .i64 s, .int .i64 g, .slice a m c] 30)) (.cells #[.int .i64 n, .int .i64 d] 27)
  have N := (Tx3.new w (.int .i64 s) (.int .i64 g) (.slice a m c) 30).below A1
  have D := Bx2.new (w.alloc (.cells #[.int .i64 s, .int .i64 g, .slice a m c] 30)) (.int .i64 n) (.int .i64 d) 27
  have B := A0.trans (A1.mono A0.size)
  simp only [World.size_alloc] at D
  clear A0 A1
  have HS : Hid (SrcC w a (m * 2) (MFSlot M)) := hs
  clear hs
  have CP := fun w' h => specPlanOk_any s g a m c M w' hm h
  have CM := fun w' => mo_any n d x w'
  cases h1 : plB s g M m
  · have e1 := gb_pl (o := o) (n := n) (d := d) (x := x) h1
    rw [e1, gb_no e1]
    rw [h1] at CP
    clear e1 h1 CM
    go_enter Tryd.func34, Tryd.ntmps34
    go_upto_region 1 with fail
    generalize (w.alloc (.cells #[.int .i64 s, .int .i64 g, .slice a m c] 30)).alloc (.cells #[.int .i64 n, .int .i64 d] 27) = v at *
    obtain ⟨n0, n1, n2, n3, n4, n5, n6⟩ := id N
    go_wp2_with fail
    refine (CP _ (HS.out.below B)).mono ?_
    rintro e v1 ⟨rfl, hb⟩
    clear n0 n1 n2 n3 n4 n5 n6
    replace B := B.trans (hb.mono B.size)
    go_wp2_with fail
    go_ret2
    exact ⟨rfl, B⟩
  obtain ⟨p1, p2, p3, p4⟩ := plB_t h1
  obtain ⟨b, off, rfl, hf⟩ : ∃ b off, a = some ⟨b, off, none⟩ ∧ Cs w b off (m * 2) (MFSlot M) := by
    rcases HS.out with q | q
    · exact absurd q (by omega)
    · exact q
  have HF : Hid (Cs w b off (m * 2) (MFSlot M)) := hf
  have hbb := bst_bd (o := o) p4 m (Nat.le_refl _)
  have HG : Hid (gbB s g M m o n d x = (!(bst M o m == 0) && (!decide (x < 1) && (moB n d x && !decide (bst M o m < moT n d x))))) := by unfold Hid gbB; rw [h1]; rfl
  have HI : Hid (gbI s g M m o n d x = sel (gbB s g M m o n d x) (bst M o m - moT n d x)) := rfl
  have HM := mo_bd (n := n) (d := d) (x := x)
  rw [h1] at CP
  clear hf p1 p2 p4 h1
  generalize gbI s g M m o n d x = RI at *
  generalize gbB s g M m o n d x = RB at *
  generalize moT n d x = t at *
  generalize moB n d x = Q at *
  go_enter Tryd.func34, Tryd.ntmps34
  go_upto_region 1 with fail
  generalize (w.alloc (.cells #[.int .i64 s, .int .i64 g, .slice (some ⟨b, off, none⟩) m c] 30)).alloc (.cells #[.int .i64 n, .int .i64 d] 27) = v at *
  generalize w.heap.size + 1 = jd at *
  obtain ⟨n0, n1, n2, n3, n4, n5, n6⟩ := id N
  go_wp2_with fail
  refine (CP _ (HS.out.below B)).mono ?_
  rintro e v1 ⟨rfl, hb⟩
  clear n0 n1 n2 n3 n4 n5 n6
  replace B := B.trans (hb.mono B.size)
  replace N := N.below hb
  replace D := D.below hb
  clear hb CP
  go_wp2_with fail
  go_loopw [10, 11] (fun s10 i wr => ∃ (j : Nat), j ≤ m ∧ i = .int .i64 j ∧ s10 = .int .i64 (bst M o j) ∧ v1 = wr) (fun _ i _ => m - (intOf i).toNat)
  case atStart => exact ⟨0, Nat.zero_le _, rfl, rfl, by first | rfl | trivial⟩
  case round =>
    obtain ⟨j, hj2, rfl, rfl, rfl⟩ := hrel
    by_cases hlt : j < m
    · obtain ⟨y, l, hM⟩ := tupSlot M j
      obtain ⟨c1, c2⟩ := (HF.out.below B HF.out.1).elSlot hlt hM
      have HLT : Hid (j < m) := hlt
      have hli : (j : Int) < (m : Int) := by omega
      clear hlt hj2 HM hbb
      obtain ⟨n0, n1, n2, n3, n4, n5, n6⟩ := id N
      cases ho : (y == o)
      · have HE : Hid (bst M o (j + 1) = bst M o j) := bst_no hM ho
        clear hM HG HI
        generalize bst M o j = bj at *
        go_wp2_with fail
        go_roundw
        case rel => exact ⟨j + 1, HLT.out, by go_num, by rw [HE.out], by first | rfl | trivial⟩
        case measure => have hlt' := HLT.out; simp [intOf]; omega
      · have HE : Hid (bst M o (j + 1) = imx (bst M o j) l) := bst_yes hM ho
        clear hM HG HI
        generalize bst M o j = bj at *
        go_wp2_with fail
        refine (l1Max_any bj l _).mono ?_
        rintro e w' ⟨rfl, rfl⟩
        go_wp2_with fail
        go_roundw
        case rel => exact ⟨j + 1, HLT.out, by go_num, by rw [HE.out], by first | rfl | trivial⟩
        case measure => have hlt' := HLT.out; simp [intOf]; omega
    · have hkn : j = m := by omega
      subst hkn
      have hli : ¬ (j : Int) < (j : Int) := by omega
      generalize bst M o j = bj at *
      clear hlt hj2
      obtain ⟨n0, n1, n2, n3, n4, n5, n6⟩ := id N
      obtain ⟨d0, d1, d2, d3, d4⟩ := id D
      go_wp2_with fail
      refine (CM _).mono ?_
      rintro e v2 ⟨rfl, hb⟩
      clear n0 n1 n2 n3 n4 n5 n6
      clear d0 d1 d2 d3 d4
      replace B := B.trans (hb.mono B.size)
      clear hb N D CM
      cases q1 : (bj == 0)
      · by_cases q2 : x < 1
        · have hR : RB = false := by rw [HG.out, q1, decide_eq_true q2]; simp
          have hR2 : RI = 0 := by rw [HI.out, hR]; rfl
          subst hR hR2
          clear HG HI HM
          go_wp2_with fail
          go_ret2
          exact ⟨rfl, B⟩
        cases Q
        · have hR : RB = false := by rw [HG.out]; simp
          have hR2 : RI = 0 := by rw [HI.out, hR]; rfl
          subst hR hR2
          clear HG HI HM
          go_wp2_with fail
          go_ret2
          exact ⟨rfl, B⟩
        by_cases q3 : bj < t
        · have hR : RB = false := by rw [HG.out, decide_eq_true q3]; simp
          have hR2 : RI = 0 := by rw [HI.out, hR]; rfl
          subst hR hR2
          clear HG HI HM
          go_wp2_with fail
          go_ret2
          exact ⟨rfl, B⟩
        have hR : RB = true := by rw [HG.out, q1, decide_eq_false q2, decide_eq_false q3]; rfl
        have hR2 : RI = bj - t := by rw [HI.out, hR]; rfl
        have hw : IntKind.i64.wrap (bj - t) = bj - t := by
          have := HM rfl
          exact Go.IntWalk.i64_in _ ⟨by omega, by omega⟩
        subst hR hR2
        clear HG HI HM
        go_wp2_with fail
        go_ret2
        exact ⟨rfl, B⟩
      · have hR : RB = false := by rw [HG.out, q1]; rfl
        have hR2 : RI = 0 := by rw [HI.out, hR]; rfl
        subst hR hR2
        clear HG HI HM
        go_wp2_with fail
        go_ret2
        exact ⟨rfl, B⟩
end Go.Proofs.YtcakhfobkbgfoaaDoor
