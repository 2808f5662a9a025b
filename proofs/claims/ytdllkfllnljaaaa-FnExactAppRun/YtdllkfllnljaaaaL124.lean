/- The walk of the exact law of AppRun. -/
import Derived.Test.YtdllkfllnljaaaaA135
import Derived.Test.YtdllkfllnljaaaaA129
import Derived.Deep.RegionHeld3
import Derived.WalkKit
import Derived.WalkSpells
import Derived.WalkLawsBesides
import Derived.Deep.RegionHeld
namespace Go.Proofs.Ytdllkfllnljaaaa
open Go.RowKit
set_option linter.unusedVariables false
theorem markReadingS_own (a : Option Addr) (n c base : Nat) (q0 : Int) (xs : List Value) (w : World) (hn : n ≤ 1048576) (hq : 0 < q0) (hq1 : q0 ≤ 1073741824) (h : w.ownsRow base 40 3 (.slice a n c) n xs) :
    Calls Try.prog 32 #[.slice a n c, .int .i64 q0] w fun e w' => e = .returned (.int .i64 (q0 + (n : Int) * 3)) ∧ SrcC w' a (n * 3) (mkReading q0) ∧ w.grownBy w' (Value.slice a n c).ownBlock := by
  rcases h.2 with ⟨he, h0⟩ | ⟨g, cap, cur, he, _⟩
  · simp at he
    obtain ⟨rfl, rfl, rfl⟩ := he
    exact (markReadingS_zero none 0 q0 w).mono fun e w' ⟨h1, h2⟩ => ⟨by rw [h1]; simp, .inl (by omega), h2 ▸ bel_grown (Below.refl _ _)⟩
  · simp at he
    obtain ⟨rfl, rfl⟩ := he
    obtain ⟨h1, h2, _, h3⟩ := ownF_row (mkReading q0) h
    exact (markReadingS_row g (c * 3) n c q0 w hn hq hq1 (Nat.mul_le_mul_right _ h2) h3).mono fun e w' ⟨r1, r2, r3⟩ => ⟨r1, .inr ⟨g, 0, rfl, r2.cs (Nat.mul_le_mul_right _ h2)⟩, r3.grK⟩

set_option maxRecDepth 100000 in
set_option maxHeartbeats 16000000 in
theorem lawAppRun (h : Bool) (l : Int) (a : Option Addr) (n c : Nat) (M : Nat → LkT) (w : World) (wl : (Lit.int .i64 l).wf = true) (hm : n ≤ maxLen) (hsrc : SrcC w a (n * 3) (MFLook M)) (hw : ∀ i, i < n → (Lit.int .i64 (M i).2.1).wf = true) :
    Calls Try.prog 8 #[.agg #[.bool h, .int .i64 l], .slice a n c] w fun e w' => e = .returned (.bool true) ∧ Below w.heap.size w w' := by
  have HA : Hid (SrcC w a (n * 3) (MFLook M)) := hsrc
  have CS := fun (w' : World) (a' : Option Addr) (hh : SrcC w' a' (n * 3) (MFLook M)) => specAppRun_any h l a' n n M w' hm hh
  have CI := fun (w' : World) (a' : Option Addr) (hh : SrcC w' a' (n * 3) (MFLook M)) => implAppRun_any h l a' n n M w' hm hh
  clear hw hsrc wl
  have hL0 : (anR M h l (anZ n)).length ≤ 200 := by
    rw [anR_len]
    unfold anZ
    by_cases q : n ≤ 200
    · rw [decide_eq_true q]; exact q
    · rw [decide_eq_false q]; exact Nat.zero_le _
  generalize anR M h l (anZ n) = Ls at *
  generalize anS M h l (anZ n) = s at *
  obtain ⟨H, T⟩ := s
  have hm0 : Ls.length ≤ maxLen := by unfold maxLen; omega
  have hn0 : Ls.length ≤ 1048576 := by omega
  have B := Below.nw w (.cells #[.bool h, .int .i64 l] 47)
  have N := Bx2.new w (.bool h) (.int .i64 l) 47
  by_cases hbig : (n : Int) ≤ 1048576
  · have hn : n ≤ 1048576 := by omega
    have HN : Hid ((if (n : Int) ≤ 1048576 then 1048576 - (n : Int) else -1) = 1048576 - (n : Int)) := by rw [Hid, if_pos hbig]
    have hd : decide (1048576 - (n : Int) < 0) = false := by simp; omega
    go_enter Try.func8, Try.ntmps8
    go_upto_region 1 with fail
    generalize w.alloc (.cells #[.bool h, .int .i64 l] 47) = v at *
    go_wp2_with fail
    refine (szLookS_any a n c _ _ hm (by omega) (by omega)).mono ?_
    rintro e w' ⟨rfl, rfl⟩
    rw [HN.out]
    obtain ⟨n0, n1, n2, n3, n4⟩ := id N
    go_wp2_with fail
    refine (toApp_any h l _).mono ?_
    rintro e w1 ⟨rfl, hb⟩
    clear n0 n1 n2 n3 n4
    replace B := B.trans (hb.mono B.size)
    replace N := N.below hb
    clear hb
    obtain ⟨n0, n1, n2, n3, n4⟩ := id N
    go_wp2_with fail
    refine (toLookS_any a n c M _ hn (HA.out.below B)).mono ?_
    rintro e w2 ⟨rfl, R2, hb⟩
    clear n0 n1 n2 n3 n4
    replace B := B.trans (hb.mono B.size)
    replace N := N.below hb
    clear hb
    obtain ⟨n0, n1, n2, n3, n4⟩ := id N
    go_wp2_with fail
    refine (CS _ _ (.inr ⟨_, _, rfl, R2.cs (Nat.le_refl _)⟩)).mono ?_
    rintro e w3 ⟨vs, rfl, S0, hb⟩
    clear n0 n1 n2 n3 n4
    replace B := B.trans (hb.mono B.size)
    replace N := N.below hb
    clear hb
    clear R2
    obtain ⟨sa, sc, rfl, _, _, Q0⟩ := ownF_src S0
    have V0 := SrcK.of Q0
    clear S0 Q0
    have NL := Below.nw w3 (.cells #[.bool H, .int .i64 T] 25)
    have ZS := Bx2.new w3 (.bool H) (.int .i64 T) 25
    have hwk : w.heap.size < w3.heap.size := N.1
    go_upto_region 6 with fail
    replace B := B.trans (NL.mono B.size)
    replace N := N.below NL
    replace V0 := V0.below NL
    clear NL
    generalize w3.alloc (.cells #[.bool H, .int .i64 T] 25) = w3b at *
    generalize w3.heap.size = ks at *
    have hks : ks < w3b.heap.size := ZS.1
    obtain ⟨n0, n1, n2, n3, n4⟩ := id N
    go_wp2_with fail
    refine (toLookS_any a n c M _ hn (HA.out.below B)).mono ?_
    rintro e w4 ⟨rfl, RX, hb⟩
    clear n0 n1 n2 n3 n4
    replace B := B.trans (hb.mono B.size)
    replace N := N.below hb
    replace V0 := V0.below hb
    replace ZS := ZS.below hb
    clear hb
    have hbx : w3b.heap.size < w4.heap.size := RX.lt
    generalize hj3 : w3b.heap.size = j3 at *
    clear hj3
    obtain ⟨n0, n1, n2, n3, n4⟩ := id N
    go_wp2_with fail
    refine (toApp_any h l _).mono ?_
    rintro e w5 ⟨rfl, hb⟩
    clear n0 n1 n2 n3 n4
    replace B := B.trans (hb.mono B.size)
    replace N := N.below hb
    replace V0 := V0.below hb
    replace ZS := ZS.below hb
    replace RX := RowF.below' hb RX
    clear hb
    have hbi : j3 < w5.heap.size := RX.lt
    obtain ⟨n0, n1, n2, n3, n4⟩ := id N
    go_wp2_with fail
    refine (CI _ _ (.inr ⟨_, _, rfl, RX.cs (Nat.le_refl _)⟩)).mono ?_
    rintro e w6 ⟨vg, rfl, G0, hb⟩
    have h56 := hb.size
    clear n0 n1 n2 n3 n4
    replace B := B.trans (hb.mono B.size)
    replace N := N.below hb
    replace V0 := V0.below hb
    replace ZS := ZS.below hb
    replace RX := RowF.below' hb RX
    clear hb
    obtain ⟨ga, gc, rfl, _, _, _⟩ := ownF_src G0
    have RG : Hid (∀ g, (Value.slice ga Ls.length gc).ownBlock = some g → w5.heap.size ≤ g ∧ g < w6.heap.size) := fun g hg => World.ownsRow.lt G0 g hg
    generalize hj5 : w5.heap.size = j5 at *
    clear hj5
    have NL := Below.nw w6 (.cells #[.bool H, .int .i64 T] 25)
    have ZG := Bx2.new w6 (.bool H) (.int .i64 T) 25
    go_upto_region 8 with fail
    replace B := B.trans (NL.mono B.size)
    replace N := N.below NL
    replace V0 := V0.below NL
    replace ZS := ZS.below NL
    replace RX := RowF.below' NL RX
    replace G0 := own_belK' G0 NL
    clear NL
    generalize w6.alloc (.cells #[.bool H, .int .i64 T] 25) = w6b at *
    generalize w6.heap.size = kg at *
    skip
    go_wp2_with fail
    refine (eqReadingS_src _ _ _ _ _ (gG Ls) _ hm0 (ownS G0) V0.src).mono ?_
    rintro e w7 ⟨rfl, hb⟩
    skip
    replace B := B.trans (hb.mono B.size)
    replace N := N.below hb
    replace V0 := V0.below hb
    replace ZS := ZS.below hb
    replace RX := RowF.below' hb RX
    replace G0 := own_belK' G0 hb
    replace ZG := ZG.below hb
    clear hb
    obtain ⟨x0, x1, x2, x3, x4⟩ := id ZS; obtain ⟨y0, y1, y2, y3, y4⟩ := id ZG
    go_wp2_with fail
    refine (eqApp_same H T _).mono ?_
    rintro e w7b ⟨rfl, hb⟩
    clear x0 x1 x2 x3 x4 y0 y1 y2 y3 y4
    replace B := B.trans (hb.mono B.size)
    replace N := N.below hb
    replace V0 := V0.below hb
    replace ZS := ZS.below hb
    replace RX := RowF.below' hb RX
    replace G0 := own_belK' G0 hb
    replace ZG := ZG.below hb
    clear hb
    skip
    go_wp2_with fail
    refine (toLookS_any a n c M _ hn (HA.out.below B)).mono ?_
    rintro e w9 ⟨rfl, R9, hb⟩
    skip
    replace B := B.trans (hb.mono B.size)
    replace N := N.below hb
    replace V0 := V0.below hb
    replace ZS := ZS.below hb
    replace RX := RowF.below' hb RX
    replace G0 := own_belK' G0 hb
    replace ZG := ZG.below hb
    clear hb
    skip
    go_wp2_with fail
    refine (eqLookS_src _ _ _ _ _ M _ hm (.inr ⟨_, _, rfl, RX.cs (Nat.le_refl _)⟩) (.inr ⟨_, _, rfl, R9.cs (Nat.le_refl _)⟩)).mono ?_
    rintro e w9b ⟨rfl, hb⟩
    skip
    replace B := B.trans (hb.mono B.size)
    replace N := N.below hb
    replace V0 := V0.below hb
    replace ZS := ZS.below hb
    replace RX := RowF.below' hb RX
    replace G0 := own_belK' G0 hb
    replace ZG := ZG.below hb
    clear hb
    clear R9
    go_wp2_with fail
    refine (markLookS_row j3 (n * 3) n n 1 _ hn (by omega) (by omega) (Nat.le_refl _) (RX.zero _)).mono ?_
    rintro e w11 ⟨rfl, _, hb⟩
    replace B := B.trans (hb.below (B := w.heap.size) (by omega) B.size)
    replace N := N.but hb (by omega)
    replace V0 := V0.kept hb.grK (fun b h e => by (have e' := Option.some.inj e); omega)
    replace ZS := ZS.but hb (by omega)
    replace G0 := own_butK G0 hb hbi
    replace ZG := ZG.but hb (by omega)
    have hk1 : ¬ (1 + (n : Int) * 3 < 0) := by omega
    clear hb RX
    skip
    go_wp2_with fail
    refine (eqReadingS_src _ _ _ _ _ (gG Ls) _ hm0 (ownS G0) V0.src).mono ?_
    rintro e w12 ⟨rfl, hb⟩
    skip
    replace B := B.trans (hb.mono B.size)
    replace N := N.below hb
    replace V0 := V0.below hb
    replace ZS := ZS.below hb
    replace G0 := own_belK' G0 hb
    replace ZG := ZG.below hb
    clear hb
    obtain ⟨x0, x1, x2, x3, x4⟩ := id ZS; obtain ⟨y0, y1, y2, y3, y4⟩ := id ZG
    go_wp2_with fail
    refine (eqApp_same H T _).mono ?_
    rintro e w12b ⟨rfl, hb⟩
    clear x0 x1 x2 x3 x4 y0 y1 y2 y3 y4
    replace B := B.trans (hb.mono B.size)
    replace N := N.below hb
    replace V0 := V0.below hb
    replace ZS := ZS.below hb
    replace G0 := own_belK' G0 hb
    replace ZG := ZG.below hb
    clear hb
    clear ZG
    go_wp2_with fail
    refine (markReadingS_own _ _ _ _ _ _ _ hn0 (by omega) (by omega) G0).mono ?_
    rintro e w13 ⟨rfl, HM0, hb⟩
    replace B := B.trans (grown_bel hb B.size (fun b h e => by have := RG.out _ e.symm; omega))
    replace N := N.kept hb (fun e => by have := RG.out _ e.symm; omega)
    replace V0 := V0.kept hb (fun b h e => by have := RG.out _ e.symm; omega)
    replace ZS := ZS.kept hb (fun e => by have := RG.out _ e.symm; omega)
    have HK : Hid (SrcC w13 ga (Ls.length * 3) (mkReading (1))) := HM0
    clear hb HM0 G0
    go_wp2_with fail
    refine (heldReadingS_any _ _ _ _ _ hn0 (by omega) (by omega) HK.out).mono ?_
    rintro e w' ⟨rfl, rfl⟩
    have hk2 : ¬ (1 + (Ls.length : Int) * 3 < 0) := by omega
    obtain ⟨n0, n1, n2, n3, n4⟩ := id N
    go_wp2_with fail
    refine (toApp_any h l _).mono ?_
    rintro e w14 ⟨rfl, hb⟩
    clear n0 n1 n2 n3 n4
    replace B := B.trans (hb.mono B.size)
    replace N := N.below hb
    replace V0 := V0.below hb
    replace ZS := ZS.below hb
    replace HK : Hid (SrcC _ ga (Ls.length * 3) (mkReading 1)) := HK.out.below hb
    clear hb
    obtain ⟨n0, n1, n2, n3, n4⟩ := id N
    go_wp2_with fail
    refine (toLookS_any a n c M _ hn (HA.out.below B)).mono ?_
    rintro e w15 ⟨rfl, R15, hb⟩
    clear n0 n1 n2 n3 n4
    replace B := B.trans (hb.mono B.size)
    replace N := N.below hb
    replace V0 := V0.below hb
    replace ZS := ZS.below hb
    replace HK : Hid (SrcC _ ga (Ls.length * 3) (mkReading 1)) := HK.out.below hb
    clear hb
    obtain ⟨n0, n1, n2, n3, n4⟩ := id N
    go_wp2_with fail
    refine (CI _ _ (.inr ⟨_, _, rfl, R15.cs (Nat.le_refl _)⟩)).mono ?_
    rintro e w16 ⟨vh, rfl, H0, hb⟩
    clear n0 n1 n2 n3 n4
    replace B := B.trans (hb.mono B.size)
    replace N := N.below hb
    replace V0 := V0.below hb
    replace ZS := ZS.below hb
    replace HK : Hid (SrcC _ ga (Ls.length * 3) (mkReading 1)) := HK.out.below hb
    clear hb
    clear R15 CS CI
    obtain ⟨ha, hc, rfl, _, _, U0⟩ := ownF_src H0
    clear H0
    have UK := SrcK.of U0
    clear U0
    have NL := Below.nw w16 (.cells #[.bool H, .int .i64 T] 25)
    have ZH := Bx2.new w16 (.bool H) (.int .i64 T) 25
    go_upto_region 25 with fail
    replace B := B.trans (NL.mono B.size)
    replace N := N.below NL
    replace V0 := V0.below NL
    replace ZS := ZS.below NL
    replace HK : Hid (SrcC _ ga (Ls.length * 3) (mkReading 1)) := HK.out.below NL
    replace UK := UK.below NL
    clear NL
    generalize w16.alloc (.cells #[.bool H, .int .i64 T] 25) = w16b at *
    generalize w16.heap.size = kh at *
    skip
    go_wp2_with fail
    refine (eqReadingS_src _ _ _ _ _ (gG Ls) _ hm0 UK.src V0.src).mono ?_
    rintro e w18 ⟨rfl, hb⟩
    skip
    replace B := B.trans (hb.mono B.size)
    replace N := N.below hb
    replace V0 := V0.below hb
    replace ZS := ZS.below hb
    replace HK : Hid (SrcC _ ga (Ls.length * 3) (mkReading 1)) := HK.out.below hb
    replace UK := UK.below hb
    replace ZH := ZH.below hb
    clear hb
    obtain ⟨x0, x1, x2, x3, x4⟩ := id ZS; obtain ⟨y0, y1, y2, y3, y4⟩ := id ZH
    go_wp2_with fail
    refine (eqApp_same H T _).mono ?_
    rintro e w18b ⟨rfl, hb⟩
    clear x0 x1 x2 x3 x4 y0 y1 y2 y3 y4
    replace B := B.trans (hb.mono B.size)
    replace N := N.below hb
    replace V0 := V0.below hb
    replace ZS := ZS.below hb
    replace HK : Hid (SrcC _ ga (Ls.length * 3) (mkReading 1)) := HK.out.below hb
    replace UK := UK.below hb
    replace ZH := ZH.below hb
    clear hb
    go_wp2_with fail
    refine (heldReadingS_any _ _ _ _ _ hn0 (by omega) (by omega) HK.out).mono ?_
    rintro e w' ⟨rfl, rfl⟩
    go_wp2_with fail
    go_ret
    exact ⟨rfl, B⟩
  · have HN : Hid ((if (n : Int) ≤ 1048576 then 1048576 - (n : Int) else -1) = -1) := by rw [Hid, if_neg hbig]
    clear CS CI
    go_enter Try.func8, Try.ntmps8
    go_upto_region 1 with fail
    generalize w.alloc (.cells #[.bool h, .int .i64 l] 47) = v at *
    go_wp2_with fail
    refine (szLookS_any a n c _ _ hm (by omega) (by omega)).mono ?_
    rintro e w' ⟨rfl, rfl⟩
    rw [HN.out]
    go_wp2_with fail
    go_ret
    exact ⟨rfl, B⟩
end Go.Proofs.Ytdllkfllnljaaaa
