/- The walk of the exact law of LifeRun. -/
import Derived.Test.YteifibajafdnlaaT172
import Derived.Test.YteifibajafdnlaaT180
import Derived.Test.YteifibajafdnlaaT174
import Derived.Deep.RegionHeld3
import Derived.Deep.DeepCutAuto
import Derived.WalkKit
import Derived.WalkSpells
import Derived.WalkLawsBesides
import Derived.Deep.RegionHeld
namespace Go.Proofs.Yteifibajafdnlaa
open Go.RowKit
set_option linter.unusedVariables false
theorem szEventS_le (a : Option Addr) (n c : Nat) (Z : Int) (w : World) (hm : n ≤ maxLen) (h0 : 0 ≤ Z) (h1 : Z ≤ 1048576) :
    Calls Try.prog 26 #[.slice a n c, .int .i64 Z] w fun e w' => ∃ L : Int, e = .returned (.int .i64 L) ∧ (0 ≤ L → n ≤ 1048576 ∧ L ≤ 1048576) ∧ Below w.heap.size w w' := by
  refine (szEventS_any a n c Z w hm h0 h1).mono ?_
  rintro e w' ⟨rfl, rfl⟩
  refine ⟨_, rfl, fun h => ?_, Below.refl _ _⟩
  split at h
  · rename_i hq; rw [if_pos hq]; constructor <;> omega
  · omega
theorem lrL_len (M : Nat → VT) (n : Nat) (m e s : Int) : (lrL M n m e s).length ≤ 200 := by
  unfold lrL
  by_cases h : n ≤ 200
  · rw [decide_eq_true h]; simp only; rw [lrC_len]; exact h
  · rw [decide_eq_false h]; simp
set_option maxRecDepth 100000 in
set_option maxHeartbeats 16000000 in
theorem lawLifeRun (m e s : Int) (a : Option Addr) (n c : Nat) (M : Nat → VT) (w : World) (hm : n ≤ maxLen) (hs : SrcC w a (n * 2) (MFIval M)) (hw : ∀ i, i < n → (Lit.int .i64 (M i).1).wf = true) :
    Calls Try.prog 7 #[.agg #[.int .i64 m, .int .i64 e, .int .i64 s], .slice a n c] w fun x w' => x = .returned (.bool true) ∧ Below w.heap.size w w' := by
  have HA : Hid (SrcC w a (n * 2) (MFIval M)) := hs
  clear hs hw
  have CS := fun (w' : World) (a' : Option Addr) (h : SrcC w' a' (n * 2) (MFIval M)) => specLifeRun_any m e s a' n n M w' hm h
  have CI := fun (w' : World) (a' : Option Addr) (h : SrcC w' a' (n * 2) (MFIval M)) => implLifeRun_any m e s a' n n M w' hm h
  have hL0 := lrL_len M n m e s
  generalize lrL M n m e s = L0 at *
  generalize lrA M n m e s = TT at *
  obtain ⟨AA, EE, SS⟩ := TT
  simp only at CS CI
  have hmL : L0.length ≤ maxLen := by unfold maxLen; omega
  have hnL : L0.length ≤ 1048576 := by omega
  have hk2 : ¬ (1 + (L0.length : Int) * 1 < 0) := by omega
  have B := Below.nw w (.cells #[.int .i64 m, .int .i64 e, .int .i64 s] 39)
  have N := Tx3.new w (.int .i64 m) (.int .i64 e) (.int .i64 s) 39
  go_enter Try.func7, Try.ntmps7
  go_upto_region 1 with fail
  generalize w.alloc (.cells #[.int .i64 m, .int .i64 e, .int .i64 s] 39) = v at *
  go_wp2_with fail
  refine (szEventS_le a n c 1048576 _ hm (by decide) (by decide)).mono ?_
  rintro x w1 ⟨Z, rfl, hZ, hb⟩
  replace B := B.trans (hb.mono B.size)
  replace N := N.below hb
  clear hb
  by_cases hz0 : Z < 0
  · clear CS CI
    go_wp2_with fail
    go_ret
    exact ⟨rfl, B⟩
  obtain ⟨hn, _⟩ := hZ (by omega)
  clear hZ
  obtain ⟨n0, n1, n2, n3, n4, n5, n6⟩ := id N
  go_wp2_with fail
  refine (toLife_any m e s _).mono ?_
  rintro x w2 ⟨rfl, hb⟩
  clear n0 n1 n2 n3 n4 n5 n6
  replace B := B.trans (hb.mono B.size)
  replace N := N.below hb
  clear hb
  go_wp2_with fail
  refine (toEventS_any a n c M _ hn (HA.out.below B)).mono ?_
  rintro x w3 ⟨rfl, RY, hb⟩
  replace B := B.trans (hb.mono B.size)
  replace N := N.below hb
  clear hb
  go_wp2_with fail
  refine (CS _ _ (.inr ⟨_, _, rfl, RY.cs (Nat.le_refl _)⟩)).mono ?_
  rintro x w4 ⟨vs, rfl, OWr, hb⟩
  clear RY
  replace B := B.trans (hb.mono B.size)
  replace N := N.below hb
  clear hb
  obtain ⟨sa, sc, rfl, _, _, Q0⟩ := ownF_src OWr
  have V0 := SrcK.of Q0
  have hv : w4.heap.size ≤ w4.heap.size := Nat.le_refl _
  have os : w.heap.size < w4.heap.size := N.1
  generalize hj5 : w4.heap.size = j5 at V0 os
  replace hv : j5 ≤ w4.heap.size := Nat.le_of_eq hj5.symm
  clear hj5 Q0 OWr
  have h6 : j5 ≤ w4.heap.size := hv
  have Y6 := Tx3.new w4 (.int .i64 AA) (.int .i64 EE) (.int .i64 SS) 25
  have hb := Below.nw w4 (.cells #[.int .i64 AA, .int .i64 EE, .int .i64 SS] 25)
  go_upto_region 6 with fail
  replace B := B.trans (hb.mono B.size)
  replace N := N.below hb
  replace V0 := V0.below hb
  replace hv := Nat.le_trans hv hb.size
  clear hb
  generalize w4.alloc (.cells #[.int .i64 AA, .int .i64 EE, .int .i64 SS] 25) = w5 at *
  generalize w4.heap.size = k6 at *
  have hx1 : j5 ≤ w5.heap.size := hv
  have hx2 : k6 < w5.heap.size := Y6.1
  go_wp2_with fail
  refine (toEventS_any a n c M _ hn (HA.out.below B)).mono ?_
  rintro x w6 ⟨rfl, RX, hb⟩
  replace B := B.trans (hb.mono B.size)
  replace N := N.below hb
  replace V0 := V0.below hb
  replace hv := Nat.le_trans hv hb.size
  replace Y6 := Y6.below hb
  clear hb
  generalize w5.heap.size = jx at *
  obtain ⟨n0, n1, n2, n3, n4, n5, n6⟩ := id N
  go_wp2_with fail
  refine (toLife_any m e s _).mono ?_
  rintro x w7 ⟨rfl, hb⟩
  clear n0 n1 n2 n3 n4 n5 n6
  replace B := B.trans (hb.mono B.size)
  replace N := N.below hb
  replace V0 := V0.below hb
  replace hv := Nat.le_trans hv hb.size
  replace Y6 := Y6.below hb
  replace RX := RowF.below' hb RX
  clear hb
  go_wp2_with fail
  refine (CI _ _ (.inr ⟨_, _, rfl, RX.cs (Nat.le_refl _)⟩)).mono ?_
  rintro x w8 ⟨vg, rfl, G0, hb⟩
  have hg1 : jx < w7.heap.size := RX.lt
  have hg2 : j5 ≤ w7.heap.size := hv
  have hg3 : k6 < w7.heap.size := Y6.1
  have hg4 : w.heap.size < w7.heap.size := N.1
  replace B := B.trans (hb.mono B.size)
  replace N := N.below hb
  replace V0 := V0.below hb
  replace hv := Nat.le_trans hv hb.size
  replace Y6 := Y6.below hb
  replace RX := RowF.below' hb RX
  clear hb
  obtain ⟨ga0, gc0, rfl, _, _, _⟩ := ownF_src G0
  have RG0 : Hid (∀ q, (Value.slice ga0 L0.length gc0).ownBlock = some q → w7.heap.size ≤ q ∧ q < w8.heap.size) := fun q hq => World.ownsRow.lt G0 q hq
  generalize w7.heap.size = j8 at *
  have hk9 : jx < w8.heap.size := RX.lt
  have Y9 := Tx3.new w8 (.int .i64 AA) (.int .i64 EE) (.int .i64 SS) 25
  have hb := Below.nw w8 (.cells #[.int .i64 AA, .int .i64 EE, .int .i64 SS] 25)
  go_upto_region 8 with fail
  replace B := B.trans (hb.mono B.size)
  replace N := N.below hb
  replace V0 := V0.below hb
  replace hv := Nat.le_trans hv hb.size
  replace Y6 := Y6.below hb
  replace RX := RowF.below' hb RX
  replace G0 := own_belK' G0 hb
  clear hb
  generalize w8.alloc (.cells #[.int .i64 AA, .int .i64 EE, .int .i64 SS] 25) = w9 at *
  generalize w8.heap.size = k9 at *
  obtain ⟨a0_, a1_, a2_, a3_, a4_, a5_, a6_⟩ := id Y6; obtain ⟨b0_, b1_, b2_, b3_, b4_, b5_, b6_⟩ := id Y9
  go_wp2_with fail
  refine (eqLife_same AA EE SS _).mono ?_
  rintro x w10 ⟨rfl, hb⟩
  clear a0_ a1_ a2_ a3_ a4_ a5_ a6_ b0_ b1_ b2_ b3_ b4_ b5_ b6_
  replace B := B.trans (hb.mono B.size)
  replace N := N.below hb
  replace V0 := V0.below hb
  replace hv := Nat.le_trans hv hb.size
  replace Y6 := Y6.below hb
  replace RX := RowF.below' hb RX
  replace G0 := own_belK' G0 hb
  replace Y9 := Y9.below hb
  clear hb
  go_wp2_with fail
  refine (eqIntS_src _ _ _ _ _ (gI L0) _ hmL (ownS G0) V0.src).mono ?_
  rintro x w11 ⟨rfl, hb⟩
  replace B := B.trans (hb.mono B.size)
  replace N := N.below hb
  replace V0 := V0.below hb
  replace hv := Nat.le_trans hv hb.size
  replace Y6 := Y6.below hb
  replace RX := RowF.below' hb RX
  replace G0 := own_belK' G0 hb
  replace Y9 := Y9.below hb
  clear hb
  go_wp2_with fail
  refine (toEventS_any a n c M _ hn (HA.out.below B)).mono ?_
  rintro x w12 ⟨rfl, R9, hb⟩
  replace B := B.trans (hb.mono B.size)
  replace N := N.below hb
  replace V0 := V0.below hb
  replace hv := Nat.le_trans hv hb.size
  replace Y6 := Y6.below hb
  replace RX := RowF.below' hb RX
  replace G0 := own_belK' G0 hb
  replace Y9 := Y9.below hb
  clear hb
  go_wp2_with fail
  refine (eqEventS_src _ _ _ _ _ M _ hm (.inr ⟨_, _, rfl, RX.cs (Nat.le_refl _)⟩) (.inr ⟨_, _, rfl, R9.cs (Nat.le_refl _)⟩)).mono ?_
  rintro x w13 ⟨rfl, hb⟩
  replace B := B.trans (hb.mono B.size)
  replace N := N.below hb
  replace V0 := V0.below hb
  replace hv := Nat.le_trans hv hb.size
  replace Y6 := Y6.below hb
  replace RX := RowF.below' hb RX
  replace G0 := own_belK' G0 hb
  replace Y9 := Y9.below hb
  clear hb
  clear R9
  go_wp2_with fail
  refine (markEventS_row jx (n * 2) n n 1 _ hn (by omega) (by omega) (Nat.le_refl _) (RX.zero _)).mono ?_
  rintro x w14 ⟨rfl, _, hb⟩
  replace B := B.trans (hb.below (B := w.heap.size) (by omega) B.size)
  replace N := N.kept hb.grK (fun e => by (have e' := Option.some.inj e); omega)
  replace V0 := V0.kept hb.grK (fun b h e => by (have e' := Option.some.inj e); omega)
  replace Y6 := Y6.kept hb.grK (fun e => by (have e' := Option.some.inj e); omega)
  replace Y9 := Y9.kept hb.grK (fun e => by (have e' := Option.some.inj e); omega)
  replace G0 := own_butK G0 hb (by omega)
  have hk1 : ¬ (1 + (n : Int) * 2 < 0) := by omega
  clear hb RX hv
  obtain ⟨a0_, a1_, a2_, a3_, a4_, a5_, a6_⟩ := id Y6; obtain ⟨b0_, b1_, b2_, b3_, b4_, b5_, b6_⟩ := id Y9
  go_wp2_with fail
  refine (eqLife_same AA EE SS _).mono ?_
  rintro x w15 ⟨rfl, hb⟩
  clear a0_ a1_ a2_ a3_ a4_ a5_ a6_ b0_ b1_ b2_ b3_ b4_ b5_ b6_
  replace B := B.trans (hb.mono B.size)
  replace N := N.below hb
  replace V0 := V0.below hb
  replace Y6 := Y6.below hb
  replace G0 := own_belK' G0 hb
  replace Y9 := Y9.below hb
  clear hb
  go_wp2_with fail
  refine (eqIntS_src _ _ _ _ _ (gI L0) _ hmL (ownS G0) V0.src).mono ?_
  rintro x w16 ⟨rfl, hb⟩
  replace B := B.trans (hb.mono B.size)
  replace N := N.below hb
  replace V0 := V0.below hb
  replace Y6 := Y6.below hb
  replace G0 := own_belK' G0 hb
  replace Y9 := Y9.below hb
  clear hb
  go_wp2_with fail
  refine (markIntS_own _ _ _ _ 1 _ _ hnL (by omega) (by omega) G0).mono ?_
  rintro x w17 ⟨rfl, HM0, hb⟩
  replace B := B.trans (grown_bel hb B.size (fun b h e => by have := RG0.out _ e.symm; omega))
  replace N := N.kept hb (fun e => by have := RG0.out _ e.symm; omega)
  replace V0 := V0.kept hb (fun b h e => by have := RG0.out _ e.symm; omega)
  replace Y6 := Y6.kept hb (fun e => by have := RG0.out _ e.symm; omega)
  have HK0 : Hid (SrcC w17 ga0 (L0.length * 1) (mkInt 1)) := HM0
  clear hb HM0 G0 Y9
  go_wp2_with fail
  refine (heldIntS_any _ _ _ 1 _ hnL (by omega) (by omega) HK0.out).mono ?_
  rintro x w' ⟨rfl, rfl⟩
  obtain ⟨n0, n1, n2, n3, n4, n5, n6⟩ := id N
  go_wp2_with fail
  refine (toLife_any m e s _).mono ?_
  rintro x w18 ⟨rfl, hb⟩
  clear n0 n1 n2 n3 n4 n5 n6
  replace B := B.trans (hb.mono B.size)
  replace N := N.below hb
  replace V0 := V0.below hb
  replace Y6 := Y6.below hb
  replace HK0 : Hid (SrcC _ ga0 (L0.length * 1) (mkInt 1)) := HK0.out.below hb
  clear hb
  go_wp2_with fail
  refine (toEventS_any a n c M _ hn (HA.out.below B)).mono ?_
  rintro x w19 ⟨rfl, RY, hb⟩
  replace B := B.trans (hb.mono B.size)
  replace N := N.below hb
  replace V0 := V0.below hb
  replace Y6 := Y6.below hb
  replace HK0 : Hid (SrcC _ ga0 (L0.length * 1) (mkInt 1)) := HK0.out.below hb
  clear hb
  go_wp2_with fail
  refine (CI _ _ (.inr ⟨_, _, rfl, RY.cs (Nat.le_refl _)⟩)).mono ?_
  rintro x w20 ⟨vh, rfl, OWr, hb⟩
  clear RY
  replace B := B.trans (hb.mono B.size)
  replace N := N.below hb
  replace V0 := V0.below hb
  replace Y6 := Y6.below hb
  replace HK0 : Hid (SrcC _ ga0 (L0.length * 1) (mkInt 1)) := HK0.out.below hb
  clear hb
  obtain ⟨ha0, hc0, rfl, _, _, Q0⟩ := ownF_src OWr
  have UK0 := SrcK.of Q0
  clear Q0 OWr CS CI
  have Y3 := Tx3.new w20 (.int .i64 AA) (.int .i64 EE) (.int .i64 SS) 25
  have hb := Below.nw w20 (.cells #[.int .i64 AA, .int .i64 EE, .int .i64 SS] 25)
  go_upto_region 25 with fail
  replace B := B.trans (hb.mono B.size)
  replace N := N.below hb
  replace V0 := V0.below hb
  replace Y6 := Y6.below hb
  replace HK0 : Hid (SrcC _ ga0 (L0.length * 1) (mkInt 1)) := HK0.out.below hb
  replace UK0 := UK0.below hb
  clear hb
  generalize w20.alloc (.cells #[.int .i64 AA, .int .i64 EE, .int .i64 SS] 25) = w21 at *
  obtain ⟨a0_, a1_, a2_, a3_, a4_, a5_, a6_⟩ := id Y6; obtain ⟨b0_, b1_, b2_, b3_, b4_, b5_, b6_⟩ := id Y3
  go_wp2_with fail
  refine (eqLife_same AA EE SS _).mono ?_
  rintro x w22 ⟨rfl, hb⟩
  clear a0_ a1_ a2_ a3_ a4_ a5_ a6_ b0_ b1_ b2_ b3_ b4_ b5_ b6_
  replace B := B.trans (hb.mono B.size)
  replace N := N.below hb
  replace V0 := V0.below hb
  replace Y6 := Y6.below hb
  replace HK0 : Hid (SrcC _ ga0 (L0.length * 1) (mkInt 1)) := HK0.out.below hb
  replace UK0 := UK0.below hb
  replace Y3 := Y3.below hb
  clear hb
  go_wp2_with fail
  refine (eqIntS_src _ _ _ _ _ (gI L0) _ hmL UK0.src V0.src).mono ?_
  rintro x w23 ⟨rfl, hb⟩
  replace B := B.trans (hb.mono B.size)
  replace N := N.below hb
  replace V0 := V0.below hb
  replace HK0 : Hid (SrcC _ ga0 (L0.length * 1) (mkInt 1)) := HK0.out.below hb
  clear hb
  go_wp2_with fail
  refine (heldIntS_any _ _ _ 1 _ hnL (by omega) (by omega) HK0.out).mono ?_
  rintro x w' ⟨rfl, rfl⟩
  go_wp2_with fail
  go_ret
  exact ⟨rfl, B⟩
end Go.Proofs.Yteifibajafdnlaa
