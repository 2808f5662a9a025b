/- The longest slot of an owner, and GateBudget in the program. -/
import Derived.Test.YtcakhfobkbgfoaaDoorC146
import Derived.Test.YtcakhfobkbgfoaaDoorC143
import Derived.Test.YtcakhfobkbgfoaaDoorB141
import Derived.Deep.RegionHeld3
import Derived.Deep.DeepCutAuto
import Derived.WalkKit
import Derived.WalkSpells
import Derived.WalkLawsBesides
import Derived.Deep.RegionHeld
namespace Go.Proofs.YtcakhfobkbgfoaaDoor
open Go.RowKit
set_option linter.unusedVariables false
set_option maxRecDepth 100000 in
set_option maxHeartbeats 8000000 in
theorem longest_any (s g : Int) (a : Option Addr) (m c : Nat) (M : Nat → SlT) (o : Int) (w : World) (hm : m ≤ maxLen) (hs : SrcC w a (m * 2) (MFSlot M)) :
    Calls Tryd.prog 77 #[.agg #[.int .i64 s, .int .i64 g, .slice a m c], .int .i64 o] w fun e w' => e = .returned (.int .i64 (loI s g M m o)) ∧ Below w.heap.size w w' := by
  have B := Below.nw w (.cells #[.int .i64 s, .int .i64 g, .slice a m c] 30)
  have N := Tx3.new w (.int .i64 s) (.int .i64 g) (.slice a m c) 30
  have HS : Hid (SrcC w a (m * 2) (MFSlot M)) := hs
  clear hs
  have CP := fun w' h => planOk_any s g a m c M w' hm h
  cases h1 : plB s g M m
  · have e1 : loI s g M m o = 0 := sel_f h1 _
    rw [e1]
    rw [h1] at CP
    clear e1 h1
    go_enter Tryd.func77, Tryd.ntmps77
    go_upto_region 1 with fail
    generalize w.alloc (.cells #[.int .i64 s, .int .i64 g, .slice a m c] 30) = v at *
    obtain ⟨n0, n1, n2, n3, n4, n5, n6⟩ := id N
    go_wp2_with fail
    refine (CP _ (HS.out.below B)).mono ?_
    rintro e v1 ⟨rfl, hb⟩
    clear n0 n1 n2 n3 n4 n5 n6
    replace B := B.trans (hb.mono B.size)
    go_wp2_with fail
    go_ret
    exact ⟨rfl, B⟩
  have e1 : loI s g M m o = bst M o m := sel_t h1 _
  rw [e1]
  obtain ⟨p1, p2, p3, p4⟩ := plB_t h1
  obtain ⟨b, off, rfl, hf⟩ : ∃ b off, a = some ⟨b, off, none⟩ ∧ Cs w b off (m * 2) (MFSlot M) := by
    rcases HS.out with q | q
    · exact absurd q (by omega)
    · exact q
  have HF : Hid (Cs w b off (m * 2) (MFSlot M)) := hf
  rw [h1] at CP
  clear hf p1 p2 p4 h1 e1
  go_enter Tryd.func77, Tryd.ntmps77
  go_upto_region 1 with fail
  generalize w.alloc (.cells #[.int .i64 s, .int .i64 g, .slice (some ⟨b, off, none⟩) m c] 30) = v at *
  obtain ⟨n0, n1, n2, n3, n4, n5, n6⟩ := id N
  go_wp2_with fail
  refine (CP _ (HS.out.below B)).mono ?_
  rintro e v1 ⟨rfl, hb⟩
  clear n0 n1 n2 n3 n4 n5 n6
  replace B := B.trans (hb.mono B.size)
  replace N := N.below hb
  clear hb CP
  obtain ⟨n0, n1, n2, n3, n4, n5, n6⟩ := id N
  go_wp2_with fail
  clear n0 n1 n2 n3 n4 n5 n6
  clear N
  go_loopw [5, 15] (fun s5 i wr => ∃ (j : Nat), j ≤ m ∧ i = .int .i64 j ∧ s5 = .int .i64 (bst M o j) ∧ Below w.heap.size w wr) (fun _ i _ => m - (intOf i).toNat)
  case atStart => exact ⟨0, Nat.zero_le _, rfl, rfl, B⟩
  case round =>
    clear B
    obtain ⟨j, hj2, rfl, rfl, B⟩ := hrel
    by_cases hlt : j < m
    · obtain ⟨y, l, hM⟩ := tupSlot M j
      obtain ⟨c1, c2⟩ := (HF.out.below B HF.out.1).elSlot hlt hM
      have HLT : Hid (j < m) := hlt
      have hli : (j : Int) < (m : Int) := by omega
      clear hlt hj2
      have A1 := Below.nw wr (.cells #[.int .i64 y, .int .i64 l] 42)
      have D := Bx2.new wr (.int .i64 y) (.int .i64 l) 42
      replace B := B.trans (A1.mono B.size)
      clear A1
      obtain ⟨d0, d1, d2, d3, d4⟩ := id D
      cases ho : (y == o)
      · have HE : Hid (bst M o (j + 1) = bst M o j) := bst_no hM ho
        clear hM
        generalize bst M o j = bj at *
        go_wp2_with fail
        go_roundw
        case rel => exact ⟨j + 1, HLT.out, by go_num, by rw [HE.out], B⟩
        case measure => have hlt' := HLT.out; simp [intOf]; omega
      · have HE : Hid (bst M o (j + 1) = imx (bst M o j) l) := bst_yes hM ho
        clear hM
        generalize bst M o j = bj at *
        go_wp2_with fail
        refine (ranked_any bj l _).mono ?_
        rintro e w' ⟨rfl, rfl⟩
        go_wp2_with fail
        go_roundw
        case rel => exact ⟨j + 1, HLT.out, by go_num, by rw [HE.out], B⟩
        case measure => have hlt' := HLT.out; simp [intOf]; omega
    · have hkn : j = m := by omega
      subst hkn
      have hli : ¬ (j : Int) < (j : Int) := by omega
      clear hlt hj2
      go_wp2_with fail
      go_ret
      exact ⟨rfl, B⟩
theorem lo_bd (s g : Int) (M : Nat → SlT) (m : Nat) (o : Int) : 0 ≤ loI s g M m o ∧ loI s g M m o ≤ 1000000 := by
  unfold loI
  cases h : plB s g M m
  · rw [sel_f rfl]; exact ⟨by decide, by decide⟩
  · rw [sel_t rfl]; exact bst_bd (plB_t h).2.2.2 m (Nat.le_refl _)
set_option maxRecDepth 100000 in
set_option maxHeartbeats 8000000 in
theorem implGateBudget_any (s g : Int) (a : Option Addr) (m c : Nat) (M : Nat → SlT) (o n d x : Int) (w : World) (E : EM w) (hm : m ≤ maxLen) (hs : SrcC w a (m * 2) (MFSlot M)) :
    Calls Tryd.prog 35 #[.agg #[.int .i64 s, .int .i64 g, .slice a m c], .int .i64 o, .agg #[.int .i64 n, .int .i64 d], .int .i64 x] w fun e w' => e = .returned (.tuple #[.int .i64 (gbI s g M m o n d x), .bool (gbB s g M m o n d x)]) ∧ Below w.heap.size w w' := by
  have A0 := Below.nw w (.cells #[.int .i64 s, .int .i64 g, .slice a m c] 30)
  have A1 := Below.nw (w.alloc (.cells #[.int .i64 s, .int .i64 g, .slice a m c] 30)) (.cells #[.int .i64 n, .int .i64 d] 27)
  have N := (Tx3.new w (.int .i64 s) (.int .i64 g) (.slice a m c) 30).below A1
  have D := Bx2.new (w.alloc (.cells #[.int .i64 s, .int .i64 g, .slice a m c] 30)) (.int .i64 n) (.int .i64 d) 27
  have B := A0.trans (A1.mono A0.size)
  simp only [World.size_alloc] at D
  clear A0 A1
  have HS : Hid (SrcC w a (m * 2) (MFSlot M)) := hs
  clear hs
  have CG := fun w' h => longest_any s g a m c M o w' hm h
  have CM := fun w' E => outMost_any n d x w' E
  have hb1 := lo_bd s g M m o
  have nN := neNo
  have nY := neYes
  go_enter Tryd.func35, Tryd.ntmps35
  go_upto_region 1 with fail
  generalize (w.alloc (.cells #[.int .i64 s, .int .i64 g, .slice a m c] 30)).alloc (.cells #[.int .i64 n, .int .i64 d] 27) = v at *
  generalize w.heap.size + 1 = jd at *
  obtain ⟨n0, n1, n2, n3, n4, n5, n6⟩ := id N
  go_wp2_with fail
  refine (CG _ (HS.out.below B)).mono ?_
  rintro e v1 ⟨rfl, hb⟩
  clear n0 n1 n2 n3 n4 n5 n6
  replace B := B.trans (hb.mono B.size)
  replace D := D.below hb
  clear hb CG N HS
  obtain ⟨d0, d1, d2, d3, d4⟩ := id D
  go_wp2_with fail
  refine (CM _ (E.below B)).mono ?_
  rintro e v2 ⟨⟨u, rfl, hv⟩, hb⟩
  clear d0 d1 d2 d3 d4
  replace B := B.trans (hb.mono B.size)
  clear hb CM D
  cases h1 : mzB n d x
  · obtain ⟨k, rfl⟩ := hv.no h1
    have HR : Hid (gbB s g M m o n d x = false ∧ gbI s g M m o n d x = 0) := gb_mz h1
    clear hv h1
    generalize mzT n d x = T at *
    generalize loI s g M m o = L at *
    go_wp2_with fail
    go_ret2
    exact ⟨by rw [HR.out.1, HR.out.2]; rfl, B⟩
  obtain rfl := hv.yes h1
  by_cases h2 : loI s g M m o < mzT n d x
  · have HR : Hid (gbB s g M m o n d x = false ∧ gbI s g M m o n d x = 0) := gb_lt h1 h2
    clear hv h1
    generalize mzT n d x = T at *
    generalize loI s g M m o = L at *
    go_wp2_with fail
    go_ret2
    exact ⟨by rw [HR.out.1, HR.out.2]; rfl, B⟩
  have HR : Hid (gbB s g M m o n d x = true ∧ gbI s g M m o n d x = loI s g M m o - mzT n d x) := gb_in h1 h2
  have hp := mz_pos h1
  clear hv h1
  generalize mzT n d x = T at *
  generalize loI s g M m o = L at *
  have hw : IntKind.i64.wrap (L - T) = L - T := Go.IntWalk.i64_in _ ⟨by omega, by omega⟩
  go_wp2_with fail
  go_ret2
  exact ⟨by rw [HR.out.1, HR.out.2]; rfl, B⟩
end Go.Proofs.YtcakhfobkbgfoaaDoor
