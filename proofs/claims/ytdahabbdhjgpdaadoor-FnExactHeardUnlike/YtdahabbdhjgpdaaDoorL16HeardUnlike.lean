/- The walk of the exact law of HeardUnlike. -/
import Derived.Test.YtdahabbdhjgpdaaDoorS166
import Derived.Test.YtdahabbdhjgpdaaDoorS169
import Derived.Test.YtdahabbdhjgpdaaDoorS180
import Derived.Test.YtdahabbdhjgpdaaDoorI106
import Derived.Deep.RegionHeld3
import Derived.Deep.DeepCutAuto
import Derived.WalkKit
import Derived.WalkSpells
import Derived.WalkLawsBesides
import Derived.Deep.RegionHeld
namespace Go.Proofs.YtdahabbdhjgpdaaDoor
open Go.RowKit
set_option linter.unusedVariables false
set_option maxRecDepth 100000 in
set_option maxHeartbeats 16000000 in
theorem lawHeardUnlike (a0 : Option Addr) (n0 c0 : Nat) (M0 : Nat → VT) (a1 : Option Addr) (n1 c1 : Nat) (M1 : Nat → VT) (w : World) (E : Tb w) (hm0 : n0 ≤ maxLen) (hs0 : SrcC w a0 (n0 * 2) (MFIval M0)) (hw0 : ∀ i, i < n0 → (Lit.int .i64 (M0 i).1).wf = true) (hm1 : n1 ≤ maxLen) (hs1 : SrcC w a1 (n1 * 2) (MFIval M1)) (hw1 : ∀ i, i < n1 → (Lit.int .i64 (M1 i).1).wf = true) :
    Calls Tryd.prog 6 #[.slice a0 n0 c0, .slice a1 n1 c1] w fun e w' => e = .returned (.bool true) ∧ Below w.heap.size w w' := by
  have HA0 : Hid (SrcC w a0 (n0 * 2) (MFIval M0)) := hs0
  have HA1 : Hid (SrcC w a1 (n1 * 2) (MFIval M1)) := hs1
  have HT : Hid (Tb w) := E
  clear E
  clear hs0 hw0 hs1 hw1
  have hL0 : (unL M0 n0 M1 n1).length ≤ 61 := unL_len M0 n0 M1 n1
  have CS := fun (w' : World) (a0' : Option Addr) (h0 : SrcC w' a0' (n0 * 2) (MFIval M0)) (a1' : Option Addr) (h1 : SrcC w' a1' (n1 * 2) (MFIval M1)) => specHeardUnlike_any a0' n0 n0 M0 a1' n1 n1 M1 w' hm0 h0 hm1 h1
  have CI := fun (w' : World) (hBT : Below w.heap.size w w') (a0' : Option Addr) (h0 : SrcC w' a0' (n0 * 2) (MFIval M0)) (a1' : Option Addr) (h1 : SrcC w' a1' (n1 * 2) (MFIval M1)) => implHeardUnlike_any a0' n0 n0 M0 a1' n1 n1 M1 w' (HT.out.below hBT) hm0 h0 hm1 h1
  generalize unL M0 n0 M1 n1 = L0 at *
  have hmL : L0.length ≤ maxLen := by unfold maxLen; omega
  have hnL : L0.length ≤ 1048576 := by omega
  have hk2 : ¬ (1 + (L0.length : Int) * 1 < 0) := by omega
  have B := Below.refl w.heap.size w
  go_enter Tryd.func6, Tryd.ntmps6
  go_upto_region 1 with fail
  go_wp2_with fail
  refine (szHeardS_le a0 n0 c0 1048576 _ hm0 (by decide) (by decide)).mono ?_
  rintro e w1 ⟨Z1, rfl, hZ1, hb⟩
  replace B := B.trans (hb.mono B.size)
  clear hb
  by_cases hz1 : Z1 < 0
  · clear CS CI
    go_wp2_with fail
    go_ret
    exact ⟨rfl, B⟩
  obtain ⟨hn0, hy1⟩ := hZ1 (by omega)
  clear hZ1
  have hg1 : 0 ≤ Z1 := by omega
  go_wp2_with fail
  refine (szHeardS_le a1 n1 c1 Z1 _ hm1 hg1 hy1).mono ?_
  rintro e w2 ⟨Z2, rfl, hZ2, hb⟩
  replace B := B.trans (hb.mono B.size)
  clear hb
  by_cases hz2 : Z2 < 0
  · clear CS CI
    go_wp2_with fail
    go_ret
    exact ⟨rfl, B⟩
  obtain ⟨hn1, hy2⟩ := hZ2 (by omega)
  clear hZ2
  have hg2 : 0 ≤ Z2 := by omega
  go_wp2_with fail
  refine (toHeardS_any a0 n0 c0 M0 _ hn0 (HA0.out.below (B))).mono ?_
  rintro e w3 ⟨rfl, RY0, hb⟩
  replace B := B.trans (hb.mono B.size)
  clear hb
  go_wp2_with fail
  refine (toHeardS_any a1 n1 c1 M1 _ hn1 (HA1.out.below (B))).mono ?_
  rintro e w4 ⟨rfl, RY1, hb⟩
  replace B := B.trans (hb.mono B.size)
  replace RY0 := RowF.below' hb RY0
  clear hb
  go_wp2_with fail
  refine (CS _ _ (.inr ⟨_, _, rfl, RY0.cs (Nat.le_refl _)⟩) _ (.inr ⟨_, _, rfl, RY1.cs (Nat.le_refl _)⟩)).mono ?_
  rintro e w5 ⟨vs, rfl, OWr, hb⟩
  clear RY0 RY1
  replace B := B.trans (hb.mono B.size)
  clear hb
  obtain ⟨sa, sc, rfl, _, _, Q0⟩ := ownF_src OWr
  have V0 := SrcK.of Q0
  have hv : w5.heap.size ≤ w5.heap.size := Nat.le_refl _
  have os_w : w.heap.size ≤ w5.heap.size := B.size
  clear Q0 OWr
  generalize hj5 : w5.heap.size = j5 at V0  os_w
  replace hv : j5 ≤ w5.heap.size := Nat.le_of_eq hj5.symm
  clear hj5
  go_wp2_with fail
  refine (toHeardS_any a0 n0 c0 M0 _ hn0 (HA0.out.below (B))).mono ?_
  rintro e w6 ⟨rfl, RX0, hb⟩
  have ox0_w : w.heap.size ≤ w5.heap.size := B.size
  have ox0_v : j5 ≤ w5.heap.size := hv
  replace B := B.trans (hb.mono B.size)
  replace V0 := V0.below hb
  replace hv := Nat.le_trans hv hb.size
  clear hb
  generalize hjx0 : w5.heap.size = jr0 at *
  clear hjx0
  go_wp2_with fail
  refine (toHeardS_any a1 n1 c1 M1 _ hn1 (HA1.out.below (B))).mono ?_
  rintro e w7 ⟨rfl, RX1, hb⟩
  have ox1_1 : jr0 < w6.heap.size := RX0.lt
  have ox1_w : w.heap.size ≤ w6.heap.size := B.size
  have ox1_v : j5 ≤ w6.heap.size := hv
  replace B := B.trans (hb.mono B.size)
  replace V0 := V0.below hb
  replace hv := Nat.le_trans hv hb.size
  replace RX0 := RowF.below' hb RX0
  clear hb
  generalize hjx1 : w6.heap.size = jr1 at *
  clear hjx1
  go_wp2_with fail
  refine (CI _ B _ (.inr ⟨_, _, rfl, RX0.cs (Nat.le_refl _)⟩) _ (.inr ⟨_, _, rfl, RX1.cs (Nat.le_refl _)⟩)).mono ?_
  rintro e w8 ⟨vg, rfl, G0, hb⟩
  have og_1 : jr0 < w7.heap.size := RX0.lt
  have og_2 : jr1 < w7.heap.size := RX1.lt
  have og_w : w.heap.size ≤ w7.heap.size := B.size
  have og_v : j5 ≤ w7.heap.size := hv
  replace B := B.trans (hb.mono B.size)
  replace V0 := V0.below hb
  replace hv := Nat.le_trans hv hb.size
  replace RX0 := RowF.below' hb RX0
  replace RX1 := RowF.below' hb RX1
  clear hb
  obtain ⟨sa, sc, rfl, _, _, _⟩ := ownF_src G0
  have RG0 : Hid (∀ q, (Value.slice sa L0.length sc).ownBlock = some q → w7.heap.size ≤ q ∧ q < w8.heap.size) := fun q hq => World.ownsRow.lt G0 q hq
  generalize hj8 : w7.heap.size = j8 at *
  clear hj8
  generalize sa = ga0 at *
  generalize sc = gc0 at *
  go_wp2_with fail
  refine (eqIntS_src _ _ _ _ _ (gI L0) _ hmL (ownS G0) V0.src).mono ?_
  rintro e w9 ⟨rfl, hb⟩
  replace B := B.trans (hb.mono B.size)
  replace V0 := V0.below hb
  replace hv := Nat.le_trans hv hb.size
  replace RX0 := RowF.below' hb RX0
  replace RX1 := RowF.below' hb RX1
  replace G0 := own_belK' G0 hb
  clear hb
  go_wp2_with fail
  refine (toHeardS_any a0 n0 c0 M0 _ hn0 (HA0.out.below (B))).mono ?_
  rintro e w10 ⟨rfl, R9, hb⟩
  replace B := B.trans (hb.mono B.size)
  replace V0 := V0.below hb
  replace hv := Nat.le_trans hv hb.size
  replace RX0 := RowF.below' hb RX0
  replace RX1 := RowF.below' hb RX1
  replace G0 := own_belK' G0 hb
  clear hb
  go_wp2_with fail
  refine (eqHeardS_src _ _ _ _ _ M0 _ hm0 (.inr ⟨_, _, rfl, RX0.cs (Nat.le_refl _)⟩) (.inr ⟨_, _, rfl, R9.cs (Nat.le_refl _)⟩)).mono ?_
  rintro e w11 ⟨rfl, hb⟩
  replace B := B.trans (hb.mono B.size)
  replace V0 := V0.below hb
  replace hv := Nat.le_trans hv hb.size
  replace RX0 := RowF.below' hb RX0
  replace RX1 := RowF.below' hb RX1
  replace G0 := own_belK' G0 hb
  clear hb
  clear R9
  go_wp2_with fail
  refine (toHeardS_any a1 n1 c1 M1 _ hn1 (HA1.out.below (B))).mono ?_
  rintro e w12 ⟨rfl, R9, hb⟩
  replace B := B.trans (hb.mono B.size)
  replace V0 := V0.below hb
  replace hv := Nat.le_trans hv hb.size
  replace RX0 := RowF.below' hb RX0
  replace RX1 := RowF.below' hb RX1
  replace G0 := own_belK' G0 hb
  clear hb
  go_wp2_with fail
  refine (eqHeardS_src _ _ _ _ _ M1 _ hm1 (.inr ⟨_, _, rfl, RX1.cs (Nat.le_refl _)⟩) (.inr ⟨_, _, rfl, R9.cs (Nat.le_refl _)⟩)).mono ?_
  rintro e w13 ⟨rfl, hb⟩
  replace B := B.trans (hb.mono B.size)
  replace V0 := V0.below hb
  replace hv := Nat.le_trans hv hb.size
  replace RX0 := RowF.below' hb RX0
  replace RX1 := RowF.below' hb RX1
  replace G0 := own_belK' G0 hb
  clear hb
  clear R9
  go_wp2_with fail
  refine (markHeardS_row jr0 (n0 * 2) n0 n0 (1) _ hn0 (by omega) (by omega) (Nat.le_refl _) (RX0.zero _)).mono ?_
  rintro e w14 ⟨rfl, _, hb⟩
  replace B := B.trans (hb.below (B := w.heap.size) (by omega) B.size)
  replace V0 := V0.kept hb.grK (fun b h e => by (have e' := Option.some.inj e); omega)
  replace RX1 := rowF_but RX1 hb (by omega)
  replace G0 := own_butK G0 hb (by omega)
  clear hb
  clear RX0
  go_wp2_with fail
  refine (markHeardS_row jr1 (n1 * 2) n1 n1 (1 + (n0 : Int) * 2) _ hn1 (by omega) (by omega) (Nat.le_refl _) (RX1.zero _)).mono ?_
  rintro e w15 ⟨rfl, _, hb⟩
  replace B := B.trans (hb.below (B := w.heap.size) (by omega) B.size)
  replace V0 := V0.kept hb.grK (fun b h e => by (have e' := Option.some.inj e); omega)
  replace G0 := own_butK G0 hb (by omega)
  clear hb
  clear RX1
  have hk1 : ¬ (1 + (n0 : Int) * 2 + (n1 : Int) * 2 < 0) := by omega
  clear hv
  have hv : 0 ≤ 0 := Nat.le_refl _
  clear hv
  go_wp2_with fail
  refine (eqIntS_src _ _ _ _ _ (gI L0) _ hmL (ownS G0) V0.src).mono ?_
  rintro e w16 ⟨rfl, hb⟩
  replace B := B.trans (hb.mono B.size)
  replace V0 := V0.below hb
  replace G0 := own_belK' G0 hb
  clear hb
  go_wp2_with fail
  refine (markIntS_own _ _ _ _ 1 _ _ hnL (by omega) (by omega) G0).mono ?_
  rintro e w17 ⟨rfl, HM0, hb⟩
  replace B := B.trans (grown_bel hb B.size (fun b h e => by have := RG0.out _ e.symm; omega))
  replace V0 := V0.kept hb (fun b h e => by have := RG0.out _ e.symm; omega)
  have HK0 : Hid (SrcC w17 ga0 (L0.length * 1) (mkInt 1)) := HM0
  clear hb HM0 G0
  go_wp2_with fail
  refine (heldIntS_any _ _ _ 1 _ hnL (by omega) (by omega) HK0.out).mono ?_
  rintro e w' ⟨rfl, rfl⟩
  go_wp2_with fail
  refine (toHeardS_any a0 n0 c0 M0 _ hn0 (HA0.out.below (B))).mono ?_
  rintro e w18 ⟨rfl, RY0, hb⟩
  replace B := B.trans (hb.mono B.size)
  replace V0 := V0.below hb
  replace HK0 : Hid (SrcC _ ga0 (L0.length * 1) (mkInt 1)) := HK0.out.below hb
  clear hb
  go_wp2_with fail
  refine (toHeardS_any a1 n1 c1 M1 _ hn1 (HA1.out.below (B))).mono ?_
  rintro e w19 ⟨rfl, RY1, hb⟩
  replace B := B.trans (hb.mono B.size)
  replace V0 := V0.below hb
  replace HK0 : Hid (SrcC _ ga0 (L0.length * 1) (mkInt 1)) := HK0.out.below hb
  replace RY0 := RowF.below' hb RY0
  clear hb
  go_wp2_with fail
  refine (CI _ B _ (.inr ⟨_, _, rfl, RY0.cs (Nat.le_refl _)⟩) _ (.inr ⟨_, _, rfl, RY1.cs (Nat.le_refl _)⟩)).mono ?_
  rintro e w20 ⟨vh, rfl, OWr, hb⟩
  clear RY0 RY1
  replace B := B.trans (hb.mono B.size)
  replace V0 := V0.below hb
  replace HK0 : Hid (SrcC _ ga0 (L0.length * 1) (mkInt 1)) := HK0.out.below hb
  clear hb
  obtain ⟨sa, sc, rfl, _, _, Q0⟩ := ownF_src OWr
  clear OWr CS CI
  go_wp2_with fail
  refine (eqIntS_src _ _ _ _ _ (gI L0) _ hmL Q0 V0.src).mono ?_
  rintro e w21 ⟨rfl, hb⟩
  replace B := B.trans (hb.mono B.size)
  replace V0 := V0.below hb
  replace HK0 : Hid (SrcC _ ga0 (L0.length * 1) (mkInt 1)) := HK0.out.below hb
  clear hb
  go_wp2_with fail
  refine (heldIntS_any _ _ _ 1 _ hnL (by omega) (by omega) HK0.out).mono ?_
  rintro e w' ⟨rfl, rfl⟩
  go_wp2_with fail
  go_ret
  exact ⟨rfl, B⟩
end Go.Proofs.YtdahabbdhjgpdaaDoor
