/- The walk of the exact law of TellsOf. -/
import Derived.Test.YtbicpkelejjnjaaJ203
import Derived.WalkKit
import Derived.WalkSpells
import Derived.WalkLawsBesides
import Derived.Deep.RegionHeld
namespace Go.Proofs.Ytbicpkelejjnjaa
open Go.RowKit
set_option linter.unusedVariables false
set_option maxRecDepth 100000 in
set_option maxHeartbeats 16000000 in
theorem lawTellsOf (a : Option Addr) (n c : Nat) (M : Nat → TdT) (x : Int) (w : World) (hm : n ≤ maxLen) (hsrc : SrcC w a (n * 10) (MFTold M)) (hw : ∀ i, i < n → (Lit.int .i64 (M i).1).wf = true) (w_x : (Lit.int .i64 x).wf = true) :
    Calls Try.prog 3 #[.slice a n c, .int .i64 x] w fun e w' => e = .returned (.bool true) ∧ Below w.heap.size w w' := by
  have HA : Hid (SrcC w a (n * 10) (MFTold M)) := hsrc
  have CS := fun (w' : World) (a' : Option Addr) (h : SrcC w' a' (n * 10) (MFTold M)) => specTellsOf_any a' n n M x w' hm h
  have CI := fun (w' : World) (a' : Option Addr) (h : SrcC w' a' (n * 10) (MFTold M)) => implTellsOf_any a' n n M x w' hm h w_x
  clear hw hsrc w_x
  have hL0 : (tlL M n x).length ≤ 200 := by exact TellsOf_len M n x
  generalize tlL M n x = L0 at *
  have hm0 : L0.length ≤ maxLen := by unfold maxLen; omega
  have hn0 : L0.length ≤ 1048576 := by omega
  have B := Below.refl w.heap.size w
  by_cases hbig : (n : Int) ≤ 1048576
  · have hn : n ≤ 1048576 := by omega
    have HN : Hid ((if (n : Int) ≤ 1048576 then 1048576 - (n : Int) else -1) = 1048576 - (n : Int)) := by rw [Hid, if_pos hbig]
    have hd : decide (1048576 - (n : Int) < 0) = false := by simp; omega
    go_enter Try.func3, Try.ntmps3
    go_wp2_with fail
    refine (szToldS_any a n c _ _ hm (by omega) (by omega)).mono ?_
    rintro e w' ⟨rfl, rfl⟩
    rw [HN.out]
    go_wp2_with fail
    refine (toToldS_any a n c M _ hn (HA.out.below B)).mono ?_
    rintro e w2 ⟨rfl, R2, hb⟩
    replace B := B.trans (hb.mono B.size)
    clear hb
    go_wp2_with fail
    refine (CS _ _ (.inr ⟨_, _, rfl, R2.cs (Nat.le_refl _)⟩)).mono ?_
    rintro e w3 ⟨vs0, rfl, S0, hb⟩
    replace B := B.trans (hb.mono B.size)
    clear hb R2
    obtain ⟨sa0, sc0, rfl, _, _, Q0⟩ := ownF_src S0
    have V0 := SrcK.of Q0
    clear S0 Q0
    have hJ3 : w.heap.size ≤ w3.heap.size := B.size
    go_wp2_with fail
    refine (toToldS_any a n c M _ hn (HA.out.below B)).mono ?_
    rintro e w4 ⟨rfl, RX, hb⟩
    replace B := B.trans (hb.mono B.size)
    replace V0 := V0.below hb
    clear hb
    have hbx : w3.heap.size < w4.heap.size := RX.lt
    generalize hj3 : w3.heap.size = j3 at *
    clear hj3
    go_wp2_with fail
    refine (CI _ _ (.inr ⟨_, _, rfl, RX.cs (Nat.le_refl _)⟩)).mono ?_
    rintro e w6 ⟨vg0, rfl, G0, hb⟩
    have hbi : j3 < w4.heap.size := RX.lt
    replace B := B.trans (hb.mono B.size)
    replace V0 := V0.below hb
    replace RX := RowF.below' hb RX
    have s56 := hb.size
    clear hb
    obtain ⟨ga0, gc0, rfl, _, _, _⟩ := ownF_src G0
    have RG0 : Hid (∀ g, (Value.slice ga0 L0.length gc0).ownBlock = some g → w4.heap.size ≤ g ∧ g < w6.heap.size) := fun g hg => World.ownsRow.lt G0 g hg
    generalize hj5 : w4.heap.size = j5 at *
    clear hj5
    go_wp2_with fail
    refine (eqToldS_src _ _ _ _ _ (gTd L0) _ hm0 (ownS G0) V0.src).mono ?_
    rintro e w70 ⟨rfl, hb⟩
    replace B := B.trans (hb.mono B.size)
    replace V0 := V0.below hb
    replace RX := RowF.below' hb RX
    replace G0 := own_belK' G0 hb
    clear hb
    go_wp2_with fail
    refine (toToldS_any a n c M _ hn (HA.out.below B)).mono ?_
    rintro e w9 ⟨rfl, R9, hb⟩
    replace B := B.trans (hb.mono B.size)
    replace V0 := V0.below hb
    replace RX := RowF.below' hb RX
    replace G0 := own_belK' G0 hb
    clear hb
    go_wp2_with fail
    refine (eqToldS_src _ _ _ _ _ M _ hm (.inr ⟨_, _, rfl, RX.cs (Nat.le_refl _)⟩) (.inr ⟨_, _, rfl, R9.cs (Nat.le_refl _)⟩)).mono ?_
    rintro e w9b ⟨rfl, hb⟩
    replace B := B.trans (hb.mono B.size)
    replace V0 := V0.below hb
    replace RX := RowF.below' hb RX
    replace G0 := own_belK' G0 hb
    clear hb
    clear R9
    go_wp2_with fail
    refine (markToldS_row j3 (n * 10) n n 1 _ hn (by omega) (by omega) (Nat.le_refl _) (RX.zero _)).mono ?_
    rintro e w11 ⟨rfl, _, hb⟩
    replace B := B.trans (hb.below (B := w.heap.size) (by omega) B.size)
    replace V0 := V0.kept hb.grK (fun b h e => by (have e' := Option.some.inj e); omega)
    replace G0 := own_butK G0 hb hbi
    have hk1 : ¬ (1 + (n : Int) * 10 < 0) := by omega
    clear hb RX
    go_wp2_with fail
    refine (eqToldS_src _ _ _ _ _ (gTd L0) _ hm0 (ownS G0) V0.src).mono ?_
    rintro e w120 ⟨rfl, hb⟩
    replace B := B.trans (hb.mono B.size)
    replace V0 := V0.below hb
    replace G0 := own_belK' G0 hb
    clear hb
    go_wp2_with fail
    refine (markToldS_own _ _ _ _ _ _ _ hn0 (by omega) (by omega) G0).mono ?_
    rintro e w130 ⟨rfl, HM0, hb⟩
    replace B := B.trans (grown_bel hb B.size (fun b h e => by have := RG0.out _ e.symm; omega))
    replace V0 := V0.kept hb (fun b h e => by have := RG0.out _ e.symm; omega)
    have HK0 : Hid (SrcC w130 ga0 (L0.length * 10) (mkTold (1))) := HM0
    clear hb HM0 G0
    go_wp2_with fail
    refine (heldToldS_any _ _ _ _ _ hn0 (by omega) (by omega) HK0.out).mono ?_
    rintro e w' ⟨rfl, rfl⟩
    have hk20 : ¬ (1 + (L0.length : Int) * 10 < 0) := by omega
    go_wp2_with fail
    refine (toToldS_any a n c M _ hn (HA.out.below B)).mono ?_
    rintro e w15 ⟨rfl, R15, hb⟩
    replace B := B.trans (hb.mono B.size)
    replace V0 := V0.below hb
    replace HK0 : Hid (SrcC _ ga0 (L0.length * 10) (mkTold (1))) := HK0.out.below hb
    clear hb
    go_wp2_with fail
    refine (CI _ _ (.inr ⟨_, _, rfl, R15.cs (Nat.le_refl _)⟩)).mono ?_
    rintro e w16 ⟨vh0, rfl, H0, hb⟩
    replace B := B.trans (hb.mono B.size)
    replace V0 := V0.below hb
    replace HK0 : Hid (SrcC _ ga0 (L0.length * 10) (mkTold (1))) := HK0.out.below hb
    clear hb R15
    obtain ⟨ha0, hc0, rfl, _, _, U0⟩ := ownF_src H0
    clear H0
    have UK0 := SrcK.of U0
    clear U0
    clear CS CI
    go_wp2_with fail
    refine (eqToldS_src _ _ _ _ _ (gTd L0) _ hm0 UK0.src V0.src).mono ?_
    rintro e w180 ⟨rfl, hb⟩
    replace B := B.trans (hb.mono B.size)
    replace V0 := V0.below hb
    replace HK0 : Hid (SrcC _ ga0 (L0.length * 10) (mkTold (1))) := HK0.out.below hb
    replace UK0 := UK0.below hb
    clear hb
    go_wp2_with fail
    refine (heldToldS_any _ _ _ _ _ hn0 (by omega) (by omega) HK0.out).mono ?_
    rintro e w' ⟨rfl, rfl⟩
    go_wp2_with fail
    go_ret
    exact ⟨rfl, B⟩
  · have HN : Hid ((if (n : Int) ≤ 1048576 then 1048576 - (n : Int) else -1) = -1) := by rw [Hid, if_neg hbig]
    clear CS CI
    go_enter Try.func3, Try.ntmps3
    go_wp2_with fail
    refine (szToldS_any a n c _ _ hm (by omega) (by omega)).mono ?_
    rintro e w' ⟨rfl, rfl⟩
    rw [HN.out]
    go_wp2_with fail
    go_ret
    exact ⟨rfl, B⟩
end Go.Proofs.Ytbicpkelejjnjaa
