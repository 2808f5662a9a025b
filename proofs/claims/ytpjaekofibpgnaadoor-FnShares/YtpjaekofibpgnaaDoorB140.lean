/- ShareOf in the specification. -/
import Derived.Test.YtpjaekofibpgnaaDoorB134
import Derived.Test.YtpjaekofibpgnaaDoorF113
import Derived.Deep.RegionHeld3
import Derived.WalkKit
import Derived.WalkSpells
import Derived.WalkLawsBesides
import Derived.Deep.RegionHeld
namespace Go.Proofs.YtpjaekofibpgnaaDoor
open Go.RowKit
set_option linter.unusedVariables false
/- How much of a round is an owner's, in the specification. -/
def shB (s g : Int) (M : Nat → SlT) (n : Nat) (o : Int) : Bool := plB s g M n && foB (smS M o n) (upS g M n)
def shX (s g : Int) (M : Nat → SlT) (n : Nat) (o : Int) : Int := match plB s g M n with | true => foX (smS M o n) (upS g M n) | false => 0
def shY (s g : Int) (M : Nat → SlT) (n : Nat) (o : Int) : Int := match plB s g M n with | true => foY (smS M o n) (upS g M n) | false => 0
theorem sh_no {s g : Int} {M : Nat → SlT} {n : Nat} {o : Int} (h : plB s g M n = false) : shB s g M n o = false ∧ shX s g M n o = 0 ∧ shY s g M n o = 0 := by
  unfold shB shX shY
  rw [h]
  exact ⟨rfl, rfl, rfl⟩
theorem sh_yes {s g : Int} {M : Nat → SlT} {n : Nat} {o : Int} (h : plB s g M n = true) : shB s g M n o = foB (smS M o n) (upS g M n) ∧ shX s g M n o = foX (smS M o n) (upS g M n) ∧ shY s g M n o = foY (smS M o n) (upS g M n) := by
  unfold shB shX shY
  rw [h]
  exact ⟨rfl, rfl, rfl⟩
theorem smS_yes {M : Nat → SlT} {o : Int} {j : Nat} {x l : Int} (hM : M j = (x, l)) (h : (x == o) = true) : smS M o (j + 1) = smS M o j + l := by rw [smS, hM]; show (match (x == o) with | true => _ | false => _) = _; rw [h]
theorem smS_no {M : Nat → SlT} {o : Int} {j : Nat} {x l : Int} (hM : M j = (x, l)) (h : (x == o) = false) : smS M o (j + 1) = smS M o j := by rw [smS, hM]; show (match (x == o) with | true => _ | false => _) = _; rw [h]
set_option maxRecDepth 100000 in
set_option maxHeartbeats 8000000 in
theorem specShareOf_any (s g : Int) (a : Option Addr) (n c : Nat) (M : Nat → SlT) (o : Int) (w : World) (hm : n ≤ maxLen) (hs : SrcC w a (n * 2) (MFSlot M)) :
    Calls Tryd.prog 6 #[.agg #[.int .i64 s, .int .i64 g, .slice a n c], .int .i64 o] w fun e w' => e = .returned (.tuple #[.agg #[.int .i64 (shX s g M n o), .int .i64 (shY s g M n o)], .bool (shB s g M n o)]) ∧ Below w.heap.size w w' := by
  have A0 := Below.nw w (.cells #[.int .i64 s, .int .i64 g, .slice a n c] 32)
  have A1 := Below.nw (w.alloc (.cells #[.int .i64 s, .int .i64 g, .slice a n c] 32)) (.cells #[.int .i64 0, .int .i64 0] 27)
  have N := (Tx3.new w (.int .i64 s) (.int .i64 g) (.slice a n c) 32).below A1
  have R := Bx2.new (w.alloc (.cells #[.int .i64 s, .int .i64 g, .slice a n c] 32)) (.int .i64 0) (.int .i64 0) 27
  have B := A0.trans (A1.mono A0.size)
  simp only [World.size_alloc] at R
  clear A0 A1
  have hj : w.heap.size ≤ w.heap.size + 1 := by omega
  have HS : Hid (SrcC w a (n * 2) (MFSlot M)) := hs
  clear hs
  have C1 := fun w' h => specPlanOk_any s g a n c M w' hm h
  cases h1 : plB s g M n
  · obtain ⟨e1, e2, e3⟩ := sh_no (o := o) h1
    rw [e1, e2, e3]
    rw [h1] at C1
    clear e1 e2 e3
    go_enter Tryd.func6, Tryd.ntmps6; go_upto_region 1 with fail; generalize (w.alloc (.cells #[.int .i64 s, .int .i64 g, .slice a n c] 32)).alloc (.cells #[.int .i64 0, .int .i64 0] 27) = v at *; generalize w.heap.size + 1 = jr at *
    obtain ⟨n0, n1, n2, n3, n4, n5, n6⟩ := id N; go_wp2_with fail; refine (C1 _ (HS.out.below B)).mono ?_; rintro e v1 ⟨rfl, hb⟩; clear n0 n1 n2 n3 n4 n5 n6; replace B := B.trans (hb.mono B.size); replace N := N.below hb; replace R := R.below hb; clear hb
    have RR := (R.set0 (.int .i64 0)).set1 (.int .i64 0)
    have BB := (B.setCell (p := ⟨jr, 0, none⟩) hj (.int .i64 0)).setCell (p := ⟨jr, 1, none⟩) hj (.int .i64 0)
    obtain ⟨r0, r1, r2, r3, r4⟩ := id R
    go_wp2_with fail
    clear r0 r1 r2 r3 r4
    generalize (v1.setCell ⟨jr, 0, none⟩ (.int .i64 0)).setCell ⟨jr, 1, none⟩ (.int .i64 0) = vz at *
    obtain ⟨r0, r1, r2, r3, r4⟩ := id RR
    exact bodyPost_ret (v := (.tuple #[.agg #[.int .i64 0, .int .i64 0], .bool false])) (by simp (maxDischargeDepth := 6) [results, Tryd.results6, go_sem, *]) rfl ⟨rfl, BB⟩
  obtain ⟨e1, e2, e3⟩ := sh_yes (o := o) h1
  rw [e1, e2, e3]
  have CR := fun w' h => specRoundOf_any s g a n c M w' hm h
  rw [rnI_t h1] at CR
  obtain ⟨p1, p2, p3, p4⟩ := plB_t h1
  obtain ⟨b, off, rfl, hf⟩ : ∃ b off, a = some ⟨b, off, none⟩ ∧ Cs w b off (n * 2) (MFSlot M) := by
    rcases HS.out with q | q
    · exact absurd q (by omega)
    · exact q
  have HF : Hid (Cs w b off (n * 2) (MFSlot M)) := hf
  have HP4 : Hid (slA M n = true) := p4
  have CF := fun w' => specFracOf_any (smS M o n) (upS g M n) w'
  rw [h1] at C1
  clear e1 e2 e3 hf p1 p2 p4 h1
  generalize foX (smS M o n) (upS g M n) = X at *
  generalize foY (smS M o n) (upS g M n) = Y at *
  generalize foB (smS M o n) (upS g M n) = Q at *
  generalize upS g M n = u at *
  go_enter Tryd.func6, Tryd.ntmps6; go_upto_region 1 with fail; generalize (w.alloc (.cells #[.int .i64 s, .int .i64 g, .slice (some ⟨b, off, none⟩) n c] 32)).alloc (.cells #[.int .i64 0, .int .i64 0] 27) = v at *; generalize w.heap.size + 1 = jr at *
  obtain ⟨n0, n1, n2, n3, n4, n5, n6⟩ := id N; go_wp2_with fail; refine (C1 _ (HS.out.below B)).mono ?_; rintro e v1 ⟨rfl, hb⟩; clear n0 n1 n2 n3 n4 n5 n6; replace B := B.trans (hb.mono B.size); replace N := N.below hb; replace R := R.below hb; clear hb
  clear C1
  go_wp2_with fail
  go_loopw [6, 7] (fun s6 i wr => ∃ (j : Nat), j ≤ n ∧ i = .int .i64 j ∧ s6 = .int .i64 (smS M o j) ∧ v1 = wr) (fun _ i _ => n - (intOf i).toNat)
  case atStart => exact ⟨0, Nat.zero_le _, rfl, rfl, by first | rfl | trivial⟩
  case round =>
    obtain ⟨j, hj2, rfl, rfl, rfl⟩ := hrel
    by_cases hlt : j < n
    · obtain ⟨x, l, hM⟩ := tupSlot M j
      obtain ⟨c1, c2⟩ := (HF.out.below B HF.out.1).elSlot hlt hM
      have hb := smS_bd (o := o) HP4.out j (by omega)
      have hl := (slB_t (slA_at HP4.out hlt)).2
      rw [hM] at hl
      have HLT : Hid (j < n) := hlt
      have hli : (j : Int) < (n : Int) := by omega
      have hw : IntKind.i64.wrap (smS M o j + l) = smS M o j + l := Go.IntWalk.i64_in _ ⟨by omega, by omega⟩
      clear hb hl hlt hj2
      obtain ⟨n0, n1, n2, n3, n4, n5, n6⟩ := id N
      cases ho : (x == o)
      · have HE : Hid (smS M o (j + 1) = smS M o j) := smS_no hM ho
        clear hM
        generalize smS M o j = sm at *
        go_wp2_with fail
        go_roundw
        case rel => exact ⟨j + 1, HLT.out, by go_num, by rw [HE.out], by first | rfl | trivial⟩
        case measure => have hlt' := HLT.out; simp [intOf]; omega
      · have HE : Hid (smS M o (j + 1) = smS M o j + l) := smS_yes hM ho
        clear hM
        generalize smS M o j = sm at *
        go_wp2_with fail
        go_roundw
        case rel => exact ⟨j + 1, HLT.out, by go_num, by rw [HE.out], by first | rfl | trivial⟩
        case measure => have hlt' := HLT.out; simp [intOf]; omega
    · have hkn : j = n := by omega
      subst hkn
      have hli : ¬ (j : Int) < (j : Int) := by omega
      generalize smS M o j = sm at *
      obtain ⟨n0, n1, n2, n3, n4, n5, n6⟩ := id N
      go_wp2_with fail
      refine (CR _ (HS.out.below B)).mono ?_
      rintro e v2 ⟨rfl, hb⟩
      clear n0 n1 n2 n3 n4 n5 n6
      replace B := B.trans (hb.mono B.size)
      replace R := R.below hb
      clear hb
      go_wp2_with fail
      refine (CF _).mono ?_
      rintro e v3 ⟨rfl, hb⟩
      replace B := B.trans (hb.mono B.size)
      replace R := R.below hb
      clear hb
      have RR := (R.set0 (.int .i64 X)).set1 (.int .i64 Y)
      have BB := (B.setCell (p := ⟨jr, 0, none⟩) hj (.int .i64 X)).setCell (p := ⟨jr, 1, none⟩) hj (.int .i64 Y)
      obtain ⟨r0, r1, r2, r3, r4⟩ := id R
      go_wp2_with fail
      clear r0 r1 r2 r3 r4
      generalize (v3.setCell ⟨jr, 0, none⟩ (.int .i64 X)).setCell ⟨jr, 1, none⟩ (.int .i64 Y) = vz at *
      obtain ⟨r0, r1, r2, r3, r4⟩ := id RR
      exact bodyPost_ret (v := (.tuple #[.agg #[.int .i64 X, .int .i64 Y], .bool Q])) (by simp (maxDischargeDepth := 6) [results, Tryd.results6, go_sem, *]) rfl ⟨rfl, BB⟩
end Go.Proofs.YtpjaekofibpgnaaDoor
