/- The walk of the exact law of NetCut. -/
import Derived.Test.YtjhnfnehdiapcaaN84
import Derived.Deep.RegionHeld3
import Derived.Deep.DeepCutAuto
import Derived.WalkKit
import Derived.WalkSpells
import Derived.WalkLawsBesides
import Derived.Deep.RegionHeld
namespace Go.Proofs.Ytjhnfnehdiapcaa
open Go.RowKit
set_option linter.unusedVariables false
set_option maxRecDepth 100000 in
set_option maxHeartbeats 16000000 in
theorem lawNetCut (nx : Int) (a : Option Addr) (n c : Nat) (M : Nat → FT) (i : Int) (w : World) (hm : n ≤ maxLen) (hsrc : SrcC w a (n * 5) (MFFlight M)) (hs : ∀ i, i < n → ((M i).2.2.2.1).size ≤ maxLen) (hw : ∀ i, i < n → (Lit.int .i64 (M i).1).wf = true) (wi : (Lit.int .i64 i).wf = true) :
    Calls Try.prog 8 #[.agg #[.int .i64 nx, .slice a n c], .int .i64 i] w fun e w' => e = .returned (.bool true) ∧ Below w.heap.size w w' := by
  clear wi
  obtain ⟨Xn, mm, G, Y, Cc, TK, hmm⟩ := cu_ex nx M n i
  obtain ⟨y0, y1, y2, y3, y4⟩ := Y
  have HA : Hid (SrcC w a (n * 5) (MFFlight M)) := hsrc
  have N := NB.new w nx a n c 43
  have B := Below.nw w (.cells #[.int .i64 nx, .slice a n c] 43)
  have C := szNet_any nx a n c M _ hm (hsrc.below B) hs
  clear hsrc
  go_enter Try.func8, Try.ntmps8
  go_wp2_with fail
  refine C.mono ?_
  rintro e w1 ⟨L, rfl, hL, hb⟩
  replace N := N.below hb
  replace B := B.trans (hb.mono B.size)
  clear hb C
  by_cases hneg : L < 0
  · clear hL
    go_wp2_with fail
    go_ret
    exact ⟨rfl, B⟩
  obtain ⟨hn, -⟩ := hL (by omega)
  clear hL
  have CS := fun (w' : World) (b : Nat) (h : Cs w' b 0 (n * 5) (MFFlight M)) => specNetCut_any nx i b n n M Xn mm G w' hm h hs TK.1
  have CI := fun (w' : World) (b : Nat) (h : Cs w' b 0 (n * 5) (MFFlight M)) => implNetCut_any nx i b n n M Xn mm G w' hm h hs hw TK.1
  have hLm : mm ≤ maxLen := Nat.le_trans hmm hm
  have hLn : mm ≤ 1048576 := Nat.le_trans hmm hn
  clear hs hw TK
  obtain ⟨n0, n1, n2⟩ := id N
  go_wp2_with fail
  refine (toNet_any nx a n c M _ hn (HA.out.below B)).mono ?_
  rintro e w2 ⟨rfl, R2, hb⟩
  replace N := N.below hb
  replace B := B.trans (hb.mono B.size)
  clear hb n0 n1 n2
  go_wp2_with fail
  refine (CS _ _ (R2.cs (Nat.le_refl _))).mono ?_
  rintro e w3 ⟨az, cz, rfl, V0, hb⟩
  have V := SrcL.of (own_srcF V0)
  replace N := N.below hb
  replace B := B.trans (hb.mono B.size)
  have hJ3 : w.heap.size < w3.heap.size := N.1
  clear hb CS R2 V0
  have A3 := Below.nw w3 (.cells #[.int .i64 Xn, .slice az mm cz] 26)
  have Q1 := NB.new w3 Xn az mm cz 26
  replace N := N.below A3
  replace V := V.below A3
  replace B := B.trans (A3.mono B.size)
  clear A3
  obtain ⟨n0, n1, n2⟩ := id N
  go_upto_region 6 with fail
  generalize hj6 : w3.heap.size = j6 at *
  generalize w3.alloc (.cells #[.int .i64 Xn, .slice az mm cz] 26) = w3b at *
  go_wp2_with fail
  refine (toNet_any nx a n c M _ hn (HA.out.below B)).mono ?_
  rintro e w4 ⟨rfl, RX, hb⟩
  have hq3 : j6 < w3b.heap.size := Q1.1
  clear n0 n1 n2
  replace N := N.below hb
  replace Q1 := Q1.below hb
  replace V := V.below hb
  replace B := B.trans (hb.mono B.size)
  have hb24 : w3b.heap.size + 3 < w4.heap.size := RX.lt
  clear hb
  generalize hb2 : w3b.heap.size + 3 = b2 at *
  have A4 := Below.nw w4 (.cells #[.int .i64 nx, .slice (some ⟨b2, 0, none⟩) n n] 26)
  have X := NB.new w4 nx (some ⟨b2, 0, none⟩) n n 26
  replace N := N.below A4
  replace Q1 := Q1.below A4
  replace V := V.below A4
  replace B := B.trans (A4.mono B.size)
  replace RX := RowF.below' A4 RX
  clear A4
  go_upto_region 7 with fail
  generalize w4.alloc (.cells #[.int .i64 nx, .slice (some ⟨b2, 0, none⟩) n n] 26) = w5 at *
  generalize hbx : w4.heap.size = bx at *
  obtain ⟨m0, m1, m2⟩ := id X
  go_wp2_with fail
  refine (CI _ _ (RX.cs (Nat.le_refl _))).mono ?_
  rintro e w6 ⟨ag, cg, rfl, G0, hb⟩
  clear m0 m1 m2
  have hb5 : b2 < w5.heap.size := RX.lt
  have hx5 : bx < w5.heap.size := X.1
  replace N := N.below hb
  replace Q1 := Q1.below hb
  replace X := X.below hb
  replace V := V.below hb
  replace B := B.trans (hb.mono B.size)
  replace RX := RowF.below' hb RX
  have s56 := hb.size
  clear hb
  have A6 := Below.nw w6 (.cells #[.int .i64 Xn, .slice ag mm cg] 26)
  have Gl : ∀ g, (Value.slice ag mm cg).ownBlock = some g → g < w6.heap.size := fun g hg => (World.ownsRow.lt G0 g hg).2
  have G1 := NB.new w6 Xn ag mm cg 26
  replace N := N.below A6
  replace Q1 := Q1.below A6
  replace X := X.below A6
  replace V := V.below A6
  replace RX := RowF.below' A6 RX
  replace G0 := own_belowF G0 A6
  replace B := B.trans (A6.mono B.size)
  clear A6
  go_upto_region 8 with fail
  generalize hj10 : w6.heap.size = j10 at *
  generalize w6.alloc (.cells #[.int .i64 Xn, .slice ag mm cg] 26) = w7 at *
  (obtain ⟨n0, n1, n2⟩ := id N); (obtain ⟨qa0, qa1, qa2⟩ := id Q1); (obtain ⟨m0, m1, m2⟩ := id X); (obtain ⟨ga0, ga1, ga2⟩ := id G1)
  go_wp2_with fail
  refine (eqNet_same Xn _ _ mm _ _ G _ hLm (own_srcF G0) V.src).mono ?_
  rintro e w8a ⟨rfl, hb⟩
  clear n0 n1 n2 qa0 qa1 qa2 m0 m1 m2 ga0 ga1 ga2
  replace N := N.below hb
  replace Q1 := Q1.below hb
  replace X := X.below hb
  replace G1 := G1.below hb
  replace V := V.below hb
  replace G0 := own_belowF G0 hb
  replace B := B.trans (hb.mono B.size)
  replace RX := RowF.below' hb RX
  clear hb
  (obtain ⟨n0, n1, n2⟩ := id N); (obtain ⟨qa0, qa1, qa2⟩ := id Q1); (obtain ⟨m0, m1, m2⟩ := id X); (obtain ⟨ga0, ga1, ga2⟩ := id G1)
  go_wp2_with fail
  refine wp_region_held_drew (S := (fun w' => w'.cell? ⟨w.heap.size, 0, none⟩ = some (.int .i64 nx) ∧ w'.cell? ⟨w.heap.size, 1, none⟩ = some (.slice a n c) ∧ w'.cell? ⟨bx, 0, none⟩ = some (.int .i64 nx) ∧ w'.cell? ⟨bx, 1, none⟩ = some (.slice (some ⟨b2, 0, none⟩) n n))) (by kernel_rfl) ?_ (fun hHeld => ?_)
  · first | exact ⟨n1, n2, m1, m2⟩ | (simp (maxDischargeDepth := 6) [go_sem, *]; done)
  clear n0 n1 n2 qa0 qa1 qa2 m0 m1 m2 ga0 ga1 ga2
  replace N := N.drew
  replace Q1 := Q1.drew
  replace X := X.drew
  replace G1 := G1.drew
  replace V : SrcL w8a.drew az (mm * 5) (MFFlight G) j6 := V
  replace G0 := World.ownsRow.drew G0
  replace RX : RowF w8a.drew b2 30 (n * 5) (n * 5) (MFFlight M) := RX
  replace B := Below.drew B
  generalize w8a.drew = w9 at *
  (obtain ⟨n0, n1, n2⟩ := id N); (obtain ⟨qa0, qa1, qa2⟩ := id Q1); (obtain ⟨m0, m1, m2⟩ := id X); (obtain ⟨ga0, ga1, ga2⟩ := id G1)
  refine wpAnyH_take (i := 0) (v := ?_) (by rw [List.getElem?_toArray]; rfl) (by kernel_rfl) (by kernel_rfl) (by kernel_rfl) (by intro _ _ _ h; exact h) (Or.inl ⟨by rfl, ?_⟩) (by assumption) ?_
  rotate_left
  · (intro w hSw; (try dsimp only at hSw); go_simp; all_goals with_reducible rfl)
  (try simp only [Act.put, List.setIfInBounds_toArray, List.set_cons_zero, List.set_cons_succ])
  refine wpAnyH_take (i := 1) (v := ?_) (by rw [List.getElem?_toArray]; rfl) (by kernel_rfl) (by kernel_rfl) (by kernel_rfl) (by intro _ _ _ h; exact h) (Or.inl ⟨by rfl, ?_⟩) (by assumption) ?_
  rotate_left
  · (intro w hSw; (try dsimp only at hSw); go_simp; all_goals with_reducible rfl)
  (try simp only [Act.put, List.setIfInBounds_toArray, List.set_cons_zero, List.set_cons_succ])
  refine wpAnyH_ready (rs := [2]) (by kernel_rfl) (by simp) ?_
  refine AllReadyH.cons (by rw [List.getElem?_toArray]; rfl) (fun K hK => ?_) AllReadyH.nil
  go_simp
  refine (toNet_any nx a n c M _ hn (HA.out.below B)).mono ?_; rintro e w9a ⟨rfl, R9, hb⟩; clear n0 n1 n2 qa0 qa1 qa2 m0 m1 m2 ga0 ga1 ga2; (replace N := N.below hb); (replace Q1 := Q1.below hb); (replace X := X.below hb); (replace G1 := G1.below hb); (replace V := V.below hb); (replace G0 := own_belowF G0 hb); (replace RX := RowF.below' hb RX); (replace B := B.trans (hb.mono B.size)); clear hb; (obtain ⟨n0, n1, n2⟩ := id N); (obtain ⟨qa0, qa1, qa2⟩ := id Q1); (obtain ⟨m0, m1, m2⟩ := id X); (obtain ⟨ga0, ga1, ga2⟩ := id G1)
  (try go_wp2_with fail)
  refine hK.out _ _ ?_ (fun hHeld => ?_)
  · first | exact ⟨n1, n2, m1, m2⟩ | (simp (maxDischargeDepth := 6) [go_sem, *]; done)
  clear hK K
  (try simp only [Act.put, List.setIfInBounds_toArray, List.set_cons_zero, List.set_cons_succ])
  refine wpAnyH_ready (rs := [3]) (by kernel_rfl) (by simp) ?_
  refine AllReadyH.cons (by rw [List.getElem?_toArray]; rfl) (fun K hK => ?_) AllReadyH.nil
  go_simp
  refine (eqNet_same nx _ _ n n n M _ hm (.inr ⟨_, _, rfl, RX.cs (Nat.le_refl _)⟩) (.inr ⟨_, _, rfl, R9.cs (Nat.le_refl _)⟩)).mono ?_; rintro e w9b ⟨rfl, hb⟩; clear n0 n1 n2 qa0 qa1 qa2 m0 m1 m2 ga0 ga1 ga2; (replace N := N.below hb); (replace Q1 := Q1.below hb); (replace X := X.below hb); (replace G1 := G1.below hb); (replace V := V.below hb); (replace G0 := own_belowF G0 hb); (replace RX := RowF.below' hb RX); (replace B := B.trans (hb.mono B.size)); clear hb; (obtain ⟨n0, n1, n2⟩ := id N); (obtain ⟨qa0, qa1, qa2⟩ := id Q1); (obtain ⟨m0, m1, m2⟩ := id X); (obtain ⟨ga0, ga1, ga2⟩ := id G1)
  (try go_wp2_with fail)
  refine hK.out _ _ ?_ (fun hHeld => ?_)
  · first | exact ⟨n1, n2, m1, m2⟩ | (simp (maxDischargeDepth := 6) [go_sem, *]; done)
  clear hK K
  (try simp only [Act.put, List.setIfInBounds_toArray, List.set_cons_zero, List.set_cons_succ])
  refine wpAnyH_take (i := 4) (v := ?_) (by rw [List.getElem?_toArray]; rfl) (by kernel_rfl) (by kernel_rfl) (by kernel_rfl) (by intro _ _ _ h; exact h) (Or.inl ⟨by rfl, ?_⟩) (by assumption) ?_
  rotate_left
  · (intro w hSw; (try dsimp only at hSw); go_simp; all_goals with_reducible rfl)
  (try simp only [Act.put, List.setIfInBounds_toArray, List.set_cons_zero, List.set_cons_succ])
  refine wpAnyH_done (by kernel_rfl) ?_ _
  go_wp2_with fail
  refine (markNet_row nx b2 (n * 5) n n _ hn (Nat.le_refl _) (RX.zero _)).mono ?_
  rintro e w11 ⟨rfl, RX1, hb⟩
  clear n0 n1 n2 qa0 qa1 qa2 m0 m1 m2 ga0 ga1 ga2
  replace N := N.but hb (by omega)
  replace Q1 := Q1.but hb (by omega)
  replace X := X.but hb (by omega)
  replace G1 := G1.but hb (by omega)
  replace B := B.trans (hb.below (B := w.heap.size) (by omega) B.size)
  replace V := V.but hb (by omega)
  replace G0 := own_butNe G0 hb hb5
  have hk1 : ¬ (1 + (n : Int) * 5 < 0) := by omega
  clear hb RX RX1 R9 hHeld
  (obtain ⟨n0, n1, n2⟩ := id N); (obtain ⟨qa0, qa1, qa2⟩ := id Q1); (obtain ⟨m0, m1, m2⟩ := id X); (obtain ⟨ga0, ga1, ga2⟩ := id G1)
  go_wp2_with fail
  refine (eqNet_same Xn _ _ mm _ _ G _ hLm (own_srcF G0) V.src).mono ?_
  rintro e w12a ⟨rfl, hb⟩
  clear n0 n1 n2 qa0 qa1 qa2 m0 m1 m2 ga0 ga1 ga2
  replace N := N.below hb
  replace Q1 := Q1.below hb
  replace X := X.below hb
  replace G1 := G1.below hb
  replace V := V.below hb
  replace G0 := own_belowF G0 hb
  replace B := B.trans (hb.mono B.size)
  clear hb
  clear X
  (obtain ⟨n0, n1, n2⟩ := id N); (obtain ⟨qa0, qa1, qa2⟩ := id Q1); (obtain ⟨ga0, ga1, ga2⟩ := id G1)
  go_wp2_with fail
  rcases G0.2 with ⟨hv, h0⟩ | ⟨g, cap, cur, hv, hbg, hgc, hcap, hcm, hsz, htk⟩
  · injection hv with e1 e2 e3
    subst e1 e2 e3
    refine (markNet_any Xn none 0 0 w12a.heap.size [] _ hLn (Nat.le_refl _) (World.ownsRow_nil _ _ _ _)).mono ?_
    rintro e w13 ⟨rfl, HM0, hb⟩
    have HM : Hid (SrcC w13 none (0 * 5) mkFlight) := HM0
    clear n0 n1 n2 qa0 qa1 qa2 ga0 ga1 ga2
    replace N := N.below hb
    replace Q1 := Q1.below hb
    replace G1 := G1.below hb
    replace V := V.below hb
    replace B := B.trans (hb.mono B.size)
    clear hb HM0 G0
    (obtain ⟨n0, n1, n2⟩ := id N); (obtain ⟨qa0, qa1, qa2⟩ := id Q1); (obtain ⟨ga0, ga1, ga2⟩ := id G1)
    go_wp2_with fail
    refine (heldNet_any Xn none 0 0 _ hLn HM.out).mono ?_
    rintro e w14 ⟨rfl, hb⟩
    clear n0 n1 n2 qa0 qa1 qa2 ga0 ga1 ga2
    replace N := N.below hb
    replace Q1 := Q1.below hb
    replace G1 := G1.below hb
    replace V := V.below hb
    replace B := B.trans (hb.mono B.size)
    replace HM : Hid (SrcC _ none (0 * 5) mkFlight) := HM.out.below hb
    clear hb
    have hk2 : ¬ (1 + (0 : Int) * 5 < 0) := by omega
    (obtain ⟨n0, n1, n2⟩ := id N); (obtain ⟨qa0, qa1, qa2⟩ := id Q1); (obtain ⟨ga0, ga1, ga2⟩ := id G1)
    go_wp2_with fail
    refine (toNet_any nx a n c M _ hn (HA.out.below B)).mono ?_
    rintro e w15 ⟨rfl, R15, hb⟩
    clear n0 n1 n2 qa0 qa1 qa2 ga0 ga1 ga2
    replace N := N.below hb
    replace Q1 := Q1.below hb
    replace G1 := G1.below hb
    replace V := V.below hb
    replace B := B.trans (hb.mono B.size)
    replace HM : Hid (SrcC _ none (0 * 5) mkFlight) := HM.out.below hb
    clear hb
    go_wp2_with fail
    refine (CI _ _ (R15.cs (Nat.le_refl _))).mono ?_
    rintro e w16 ⟨ah, ch, rfl, H0, hb⟩
    replace N := N.below hb
    replace Q1 := Q1.below hb
    replace G1 := G1.below hb
    replace V := V.below hb
    replace B := B.trans (hb.mono B.size)
    replace HM : Hid (SrcC _ none (0 * 5) mkFlight) := HM.out.below hb
    clear hb
    clear R15 CI
    have A7 := Below.nw w16 (.cells #[.int .i64 Xn, .slice ah 0 ch] 26)
    have K1 := NB.new w16 Xn ah 0 ch 26
    replace N := N.below A7
    replace Q1 := Q1.below A7
    replace G1 := G1.below A7
    replace V := V.below A7
    replace HM : Hid (SrcC _ none (0 * 5) mkFlight) := HM.out.below A7
    replace H0 := own_belowF H0 A7
    replace B := B.trans (A7.mono B.size)
    clear A7
    go_upto_region 25 with fail
    generalize w16.heap.size = j16 at *
    generalize w16.alloc (.cells #[.int .i64 Xn, .slice ah 0 ch] 26) = w17 at *
    (obtain ⟨n0, n1, n2⟩ := id N); (obtain ⟨qa0, qa1, qa2⟩ := id Q1); (obtain ⟨ga0, ga1, ga2⟩ := id G1); (obtain ⟨ka0, ka1, ka2⟩ := id K1)
    go_wp2_with fail
    refine (eqNet_same Xn _ _ 0 _ _ G _ hLm (own_srcF H0) V.src).mono ?_
    rintro e w18 ⟨rfl, hb⟩
    clear n0 n1 n2 qa0 qa1 qa2 ga0 ga1 ga2 ka0 ka1 ka2
    replace N := N.below hb
    replace Q1 := Q1.below hb
    replace G1 := G1.below hb
    replace K1 := K1.below hb
    replace V := V.below hb
    replace B := B.trans (hb.mono B.size)
    replace HM : Hid (SrcC _ none (0 * 5) mkFlight) := HM.out.below hb
    clear hb
    (obtain ⟨n0, n1, n2⟩ := id N); (obtain ⟨qa0, qa1, qa2⟩ := id Q1); (obtain ⟨ga0, ga1, ga2⟩ := id G1); (obtain ⟨ka0, ka1, ka2⟩ := id K1)
    go_wp2_with fail
    refine (heldNet_any Xn none 0 0 _ hLn HM.out).mono ?_
    rintro e w20 ⟨rfl, hb⟩
    replace B := B.trans (hb.mono B.size)
    clear hb
    clear n0 n1 n2 qa0 qa1 qa2 ga0 ga1 ga2 ka0 ka1 ka2
    go_wp2_with fail
    go_ret
    exact ⟨rfl, B⟩
  · injection hv with e1 e2 e3
    subst e1 e3
    have hgj : g < j10 := Gl g rfl
    obtain ⟨_, hcc, _, RG⟩ := ownF_row mkFlight G0
    refine (markNet_row Xn g (cg * 5) mm cg _ hLn (Nat.mul_le_mul_right 5 hcc) RG).mono ?_
    rintro e w13 ⟨rfl, RM, hb⟩
    have HM : Hid (SrcC w13 (some ⟨g, 0, none⟩) (mm * 5) mkFlight) := .inr ⟨g, 0, rfl, RM.cs (Nat.mul_le_mul_right 5 hcc)⟩
    clear n0 n1 n2 qa0 qa1 qa2 ga0 ga1 ga2
    replace N := N.but hb (by omega)
    replace Q1 := Q1.but hb (by omega)
    replace G1 := G1.but hb (by omega)
    replace V := V.but hb (by omega)
    replace B := B.trans (hb.below (B := w.heap.size) (by omega) B.size)
    clear hb RG RM G0 hgc hsz htk
    (obtain ⟨n0, n1, n2⟩ := id N); (obtain ⟨qa0, qa1, qa2⟩ := id Q1); (obtain ⟨ga0, ga1, ga2⟩ := id G1)
    go_wp2_with fail
    refine (heldNet_any Xn (some ⟨g, 0, none⟩) mm cg _ hLn HM.out).mono ?_
    rintro e w14 ⟨rfl, hb⟩
    clear n0 n1 n2 qa0 qa1 qa2 ga0 ga1 ga2
    replace N := N.below hb
    replace Q1 := Q1.below hb
    replace G1 := G1.below hb
    replace V := V.below hb
    replace B := B.trans (hb.mono B.size)
    replace HM : Hid (SrcC _ (some ⟨g, 0, none⟩) (mm * 5) mkFlight) := HM.out.below hb
    clear hb
    have hk2 : ¬ (1 + (mm : Int) * 5 < 0) := by omega
    (obtain ⟨n0, n1, n2⟩ := id N); (obtain ⟨qa0, qa1, qa2⟩ := id Q1); (obtain ⟨ga0, ga1, ga2⟩ := id G1)
    go_wp2_with fail
    refine (toNet_any nx a n c M _ hn (HA.out.below B)).mono ?_
    rintro e w15 ⟨rfl, R15, hb⟩
    clear n0 n1 n2 qa0 qa1 qa2 ga0 ga1 ga2
    replace N := N.below hb
    replace Q1 := Q1.below hb
    replace G1 := G1.below hb
    replace V := V.below hb
    replace B := B.trans (hb.mono B.size)
    replace HM : Hid (SrcC _ (some ⟨g, 0, none⟩) (mm * 5) mkFlight) := HM.out.below hb
    clear hb
    go_wp2_with fail
    refine (CI _ _ (R15.cs (Nat.le_refl _))).mono ?_
    rintro e w16 ⟨ah, ch, rfl, H0, hb⟩
    replace N := N.below hb
    replace Q1 := Q1.below hb
    replace G1 := G1.below hb
    replace V := V.below hb
    replace B := B.trans (hb.mono B.size)
    replace HM : Hid (SrcC _ (some ⟨g, 0, none⟩) (mm * 5) mkFlight) := HM.out.below hb
    clear hb
    clear R15 CI
    have A7 := Below.nw w16 (.cells #[.int .i64 Xn, .slice ah mm ch] 26)
    have K1 := NB.new w16 Xn ah mm ch 26
    replace N := N.below A7
    replace Q1 := Q1.below A7
    replace G1 := G1.below A7
    replace V := V.below A7
    replace HM : Hid (SrcC _ (some ⟨g, 0, none⟩) (mm * 5) mkFlight) := HM.out.below A7
    replace H0 := own_belowF H0 A7
    replace B := B.trans (A7.mono B.size)
    clear A7
    go_upto_region 25 with fail
    generalize w16.heap.size = j16 at *
    generalize w16.alloc (.cells #[.int .i64 Xn, .slice ah mm ch] 26) = w17 at *
    (obtain ⟨n0, n1, n2⟩ := id N); (obtain ⟨qa0, qa1, qa2⟩ := id Q1); (obtain ⟨ga0, ga1, ga2⟩ := id G1); (obtain ⟨ka0, ka1, ka2⟩ := id K1)
    go_wp2_with fail
    refine (eqNet_same Xn _ _ mm _ _ G _ hLm (own_srcF H0) V.src).mono ?_
    rintro e w18 ⟨rfl, hb⟩
    clear n0 n1 n2 qa0 qa1 qa2 ga0 ga1 ga2 ka0 ka1 ka2
    replace N := N.below hb
    replace Q1 := Q1.below hb
    replace G1 := G1.below hb
    replace K1 := K1.below hb
    replace V := V.below hb
    replace B := B.trans (hb.mono B.size)
    replace HM : Hid (SrcC _ (some ⟨g, 0, none⟩) (mm * 5) mkFlight) := HM.out.below hb
    clear hb
    (obtain ⟨n0, n1, n2⟩ := id N); (obtain ⟨qa0, qa1, qa2⟩ := id Q1); (obtain ⟨ga0, ga1, ga2⟩ := id G1); (obtain ⟨ka0, ka1, ka2⟩ := id K1)
    go_wp2_with fail
    refine (heldNet_any Xn (some ⟨g, 0, none⟩) mm cg _ hLn HM.out).mono ?_
    rintro e w20 ⟨rfl, hb⟩
    replace B := B.trans (hb.mono B.size)
    clear hb
    clear n0 n1 n2 qa0 qa1 qa2 ga0 ga1 ga2 ka0 ka1 ka2
    go_wp2_with fail
    go_ret
    exact ⟨rfl, B⟩
end Go.Proofs.Ytjhnfnehdiapcaa
