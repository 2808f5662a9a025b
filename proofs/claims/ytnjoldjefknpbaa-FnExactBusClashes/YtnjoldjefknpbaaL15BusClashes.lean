/- The walk of the exact law of BusClashes. -/
import Derived.Test.YtnjoldjefknpbaaL150
import Derived.Test.YtnjoldjefknpbaaQ170
import Derived.WalkKit
import Derived.WalkSpells
import Derived.WalkLawsBesides
import Derived.Deep.RegionHeld
namespace Go.Proofs.Ytnjoldjefknpbaa
open Go.RowKit
set_option linter.unusedVariables false
set_option maxRecDepth 100000 in
set_option maxHeartbeats 16000000 in
theorem lawBusClashes (a : Option Addr) (n c : Nat) (M : Nat → FrT) (w : World) (hm : n ≤ maxLen) (hsrc : SrcC w a (n * 6) (MFFrame M)) (hz : ∀ i, i < n → (M i).2.2.2.2.2.size ≤ maxLen) :
    Calls Try.prog 9 #[.slice a n c] w fun e w' => e = .returned (.bool true) ∧ Below w.heap.size w w' := by
  have HA : Hid (SrcC w a (n * 6) (MFFrame M)) := hsrc
  have CS := fun (w' : World) (a' : Option Addr) (h : SrcC w' a' (n * 6) (MFFrame M)) => specBusClashes_any a' n n M w' hm h hz
  have CI := fun (w' : World) (a' : Option Addr) (h : SrcC w' a' (n * 6) (MFFrame M)) => implBusClashes_any a' n n M w' hm h hz
  clear hsrc
  have hL0 : (clL M n).length ≤ 3600 := clL_len M n
  generalize clL M n = L0 at *
  have hm0 : L0.length ≤ maxLen := by unfold maxLen; omega
  have hn0 : L0.length ≤ 1048576 := by omega
  have B := Below.refl w.heap.size w
  go_enter Try.func9, Try.ntmps9
  go_wp2_with fail
  refine (szFrameS_any a n c M _ hm (HA.out.below B) hz).mono ?_
  rintro e w1 ⟨Z, rfl, hZ, hb⟩
  replace B := B.trans (hb.mono B.size)
  clear hb
  by_cases hz0 : Z < 0
  · clear CS CI hz
    go_wp2_with fail
    go_ret
    exact ⟨rfl, B⟩
  have hn : n ≤ 1048576 := (hZ (by omega)).1
  clear hZ hz
  go_wp2_with fail
  refine (toFrameS_any a n c M _ hn (HA.out.below B)).mono ?_
  rintro e w2 ⟨rfl, R2, hb⟩
  replace B := B.trans (hb.mono B.size)
  clear hb
  go_wp2_with fail
  refine (CS _ _ (.inr ⟨_, _, rfl, R2.cs (Nat.le_refl _)⟩)).mono ?_
  rintro e w3 ⟨vs0, rfl, S0, hb⟩
  replace B := B.trans (hb.mono B.size)
  clear hb R2
  obtain ⟨sa0, sc0, rfl, _, _, Q0⟩ := ownF_src S0
  have V0 := SrcK.of Q0
  clear S0 Q0
  have hJ3 : w.heap.size ≤ w3.heap.size := B.size
  go_wp2_with fail
  refine (toFrameS_any a n c M _ hn (HA.out.below B)).mono ?_
  rintro e w4 ⟨rfl, RX, hb⟩
  replace B := B.trans (hb.mono B.size)
  replace V0 := V0.below hb
  clear hb
  have hbx : w3.heap.size < w4.heap.size := RX.lt
  generalize hj3 : w3.heap.size = j3 at *
  clear hj3
  go_wp2_with fail
  refine (CI _ _ (.inr ⟨_, _, rfl, RX.cs (Nat.le_refl _)⟩)).mono ?_
  rintro e w6 ⟨vg0, rfl, G0, hb⟩
  have hbi : j3 < w4.heap.size := RX.lt
  replace B := B.trans (hb.mono B.size)
  replace V0 := V0.below hb
  replace RX := RowF.below' hb RX
  have s56 := hb.size
  clear hb
  obtain ⟨ga0, gc0, rfl, _, _, _⟩ := ownF_src G0
  have RG0 : Hid (∀ g, (Value.slice ga0 L0.length gc0).ownBlock = some g → w4.heap.size ≤ g ∧ g < w6.heap.size) := fun g hg => World.ownsRow.lt G0 g hg
  generalize hj5 : w4.heap.size = j5 at *
  clear hj5
  go_wp2_with fail
  refine (eqClashS_src _ _ _ _ _ (gV L0) _ hm0 (ownS G0) V0.src).mono ?_
  rintro e w70 ⟨rfl, hb⟩
  replace B := B.trans (hb.mono B.size)
  replace V0 := V0.below hb
  replace RX := RowF.below' hb RX
  replace G0 := own_belK' G0 hb
  clear hb
  go_wp2_with fail
  refine (toFrameS_any a n c M _ hn (HA.out.below B)).mono ?_
  rintro e w9 ⟨rfl, R9, hb⟩
  replace B := B.trans (hb.mono B.size)
  replace V0 := V0.below hb
  replace RX := RowF.below' hb RX
  replace G0 := own_belK' G0 hb
  clear hb
  go_wp2_with fail
  refine (eqFrameS_src _ _ _ _ _ M _ hm (.inr ⟨_, _, rfl, RX.cs (Nat.le_refl _)⟩) (.inr ⟨_, _, rfl, R9.cs (Nat.le_refl _)⟩)).mono ?_
  rintro e w9b ⟨rfl, hb⟩
  replace B := B.trans (hb.mono B.size)
  replace V0 := V0.below hb
  replace RX := RowF.below' hb RX
  replace G0 := own_belK' G0 hb
  clear hb
  clear R9
  go_wp2_with fail
  refine (markFrameS_row j3 (n * 6) n n _ hn (Nat.le_refl _) (RX.zero _)).mono ?_
  rintro e w11 ⟨rfl, _, hb⟩
  replace B := B.trans (hb.below (B := w.heap.size) (by omega) B.size)
  replace V0 := V0.kept hb.grK (fun b h e => by (have e' := Option.some.inj e); omega)
  replace G0 := own_butK G0 hb hbi
  have hk1 : ¬ (1 + (n : Int) * 6 < 0) := by omega
  clear hb RX
  go_wp2_with fail
  refine (eqClashS_src _ _ _ _ _ (gV L0) _ hm0 (ownS G0) V0.src).mono ?_
  rintro e w120 ⟨rfl, hb⟩
  replace B := B.trans (hb.mono B.size)
  replace V0 := V0.below hb
  replace G0 := own_belK' G0 hb
  clear hb
  go_wp2_with fail
  refine (markClashS_own _ _ _ _ _ _ _ hn0 (by omega) (by omega) G0).mono ?_
  rintro e w130 ⟨rfl, HM0, hb⟩
  replace B := B.trans (grown_bel hb B.size (fun b h e => by have := RG0.out _ e.symm; omega))
  replace V0 := V0.kept hb (fun b h e => by have := RG0.out _ e.symm; omega)
  have HK0 : Hid (SrcC w130 ga0 (L0.length * 2) (mkIval (1))) := HM0
  clear hb HM0 G0
  go_wp2_with fail
  refine (heldClashS_any _ _ _ _ _ hn0 (by omega) (by omega) HK0.out).mono ?_
  rintro e w' ⟨rfl, rfl⟩
  have hk20 : ¬ (1 + (L0.length : Int) * 2 < 0) := by omega
  go_wp2_with fail
  refine (toFrameS_any a n c M _ hn (HA.out.below B)).mono ?_
  rintro e w15 ⟨rfl, R15, hb⟩
  replace B := B.trans (hb.mono B.size)
  replace V0 := V0.below hb
  replace HK0 : Hid (SrcC _ ga0 (L0.length * 2) (mkIval (1))) := HK0.out.below hb
  clear hb
  go_wp2_with fail
  refine (CI _ _ (.inr ⟨_, _, rfl, R15.cs (Nat.le_refl _)⟩)).mono ?_
  rintro e w16 ⟨vh0, rfl, H0, hb⟩
  replace B := B.trans (hb.mono B.size)
  replace V0 := V0.below hb
  replace HK0 : Hid (SrcC _ ga0 (L0.length * 2) (mkIval (1))) := HK0.out.below hb
  clear hb R15
  obtain ⟨ha0, hc0, rfl, _, _, U0⟩ := ownF_src H0
  clear H0
  have UK0 := SrcK.of U0
  clear U0
  clear CS CI
  go_wp2_with fail
  refine (eqClashS_src _ _ _ _ _ (gV L0) _ hm0 UK0.src V0.src).mono ?_
  rintro e w180 ⟨rfl, hb⟩
  replace B := B.trans (hb.mono B.size)
  replace V0 := V0.below hb
  replace HK0 : Hid (SrcC _ ga0 (L0.length * 2) (mkIval (1))) := HK0.out.below hb
  replace UK0 := UK0.below hb
  clear hb
  go_wp2_with fail
  refine (heldClashS_any _ _ _ _ _ hn0 (by omega) (by omega) HK0.out).mono ?_
  rintro e w' ⟨rfl, rfl⟩
  go_wp2_with fail
  go_ret
  exact ⟨rfl, B⟩
end Go.Proofs.Ytnjoldjefknpbaa
