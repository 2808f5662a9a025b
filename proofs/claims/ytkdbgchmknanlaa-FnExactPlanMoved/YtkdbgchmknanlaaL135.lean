/- The walk of the exact law of PlanMoved. -/
import Derived.Test.YtkdbgchmknanlaaB132
import Derived.Test.YtkdbgchmknanlaaB150
import Derived.Test.YtkdbgchmknanlaaB139
import Derived.Deep.RegionHeld3
import Derived.WalkKit
import Derived.WalkSpells
import Derived.WalkLawsBesides
import Derived.Deep.RegionHeld
namespace Go.Proofs.Ytkdbgchmknanlaa
open Go.RowKit
set_option linter.unusedVariables false
theorem grown_after {w w1 w2 : World} {o : Option Nat} (hb : Below w.heap.size w w1) (hg : w1.grownBy w2 o) : w.grownBy w2 o := ⟨hg.os.trans hb.os, hg.tape.trans hb.tape, hg.output.trans hb.output, Nat.le_trans hb.size hg.size, fun k hk hne => (hg.block k (Nat.lt_of_lt_of_le hk hb.size) hne).trans (hb.block k hk)⟩
theorem markSlotS_own (a : Option Addr) (n c base : Nat) (q0 : Int) (xs : List Value) (w : World) (hn : n ≤ 1048576) (hq : 0 < q0) (hq1 : q0 ≤ 1073741824) (h : w.ownsRow base 60 2 (.slice a n c) n xs) :
    Calls Try.prog 64 #[.slice a n c, .int .i64 q0] w fun e w' => e = .returned (.int .i64 (q0 + (n : Int) * 2)) ∧ SrcC w' a (n * 2) (mkSlot q0) ∧ w.grownBy w' (Value.slice a n c).ownBlock := by
  rcases h.2 with ⟨he, h0⟩ | ⟨g, cap, cur, he, _⟩
  · simp at he
    obtain ⟨rfl, rfl, rfl⟩ := he
    exact (markSlotS_zero none 0 q0 w).mono fun e w' ⟨h1, h2⟩ => ⟨by rw [h1]; simp, .inl (by omega), h2 ▸ bel_grown (Below.refl _ _)⟩
  · simp at he
    obtain ⟨rfl, rfl⟩ := he
    obtain ⟨h1, h2, _, h3⟩ := ownF_row (mkSlot q0) h
    exact (markSlotS_row g (c * 2) n c q0 w hn hq hq1 (Nat.mul_le_mul_right _ h2) h3).mono fun e w' ⟨r1, r2, r3⟩ => ⟨r1, .inr ⟨g, 0, rfl, r2.cs (Nat.mul_le_mul_right _ h2)⟩, r3.grK⟩
set_option maxHeartbeats 2000000 in
theorem markPlan_own (ep us : Int) (a : Option Addr) (n c base : Nat) (xs : List Value) (w : World) (hn : n ≤ 1048576) (h : w.ownsRow base 60 2 (.slice a n c) n xs) :
    Calls Try.prog 35 #[.agg #[.int .i64 ep, .int .i64 us, .slice a n c], .int .i64 1] w fun e w' => e = .returned (.int .i64 (1 + (n : Int) * 2)) ∧ SrcC w' a (n * 2) (mkSlot 1) ∧ w.grownBy w' (Value.slice a n c).ownBlock := by
  have A0 := Below.nw w (.cells #[.int .i64 ep, .int .i64 us, .slice a n c] 29)
  have C := markSlotS_own a n c base 1 xs (w.alloc (.cells #[.int .i64 ep, .int .i64 us, .slice a n c] 29)) hn (by omega) (by omega) (World.ownsRow.alloc h _)
  clear h
  go_enter Try.func35, Try.ntmps35
  go_wp2_with fail
  refine C.mono ?_
  rintro e w1 ⟨rfl, R1, hg⟩
  have G := grown_after A0 hg
  go_wp2_with fail
  go_ret
  exact ⟨rfl, R1, G⟩
theorem pm_le (s g : Int) (M : Nat → SlT) (n : Nat) (b : Int) : pmN s g M n b ≤ 12 := by
  unfold pmN
  cases h : pmB s g M n b
  · exact Nat.zero_le _
  · unfold pmB at h
    rw [Bool.and_eq_true] at h
    exact (plB_t h.1).2.2.1.2
set_option maxRecDepth 100000 in
set_option maxHeartbeats 16000000 in
theorem lawPlanMoved (s g : Int) (a : Option Addr) (n c : Nat) (M : Nat → SlT) (q : Int) (w : World) (hm : n ≤ maxLen) (hsrc : SrcC w a (n * 2) (MFSlot M)) (hw : ∀ i, i < n → (Lit.int .i64 (M i).1).wf = true) (w_q : (Lit.int .i64 q).wf = true) :
    Calls Try.prog 11 #[.agg #[.int .i64 s, .int .i64 g, .slice a n c], .int .i64 q] w fun e w' => e = .returned (.bool true) ∧ Below w.heap.size w w' := by
  have HA : Hid (SrcC w a (n * 2) (MFSlot M)) := hsrc
  have CS := fun (w' : World) (a' : Option Addr) (c' : Nat) (hh : SrcC w' a' (n * 2) (MFSlot M)) => specPlanMoved_any s g a' n c' M q w' hm hh
  have CI := fun (w' : World) (a' : Option Addr) (c' : Nat) (hh : SrcC w' a' (n * 2) (MFSlot M)) => implPlanMoved_any s g a' n c' M q w' hm hh
  clear hw hsrc w_q
  have hL0 := pm_le s g M n q
  generalize pmS s g M n q = XS at *
  generalize pmG s g M n q = XG at *
  generalize pmN s g M n q = XN at *
  generalize pmB s g M n q = XQ at *
  have hqq : (XQ != XQ) = false := by simp
  have hm0 : XN ≤ maxLen := by unfold maxLen; omega
  have hn0 : XN ≤ 1048576 := by omega
  have B := Below.nw w (.cells #[.int .i64 s, .int .i64 g, .slice a n c] 24)
  have N := Tx3.new w (.int .i64 s) (.int .i64 g) (.slice a n c) 24
  go_enter Try.func11, Try.ntmps11
  go_upto_region 1 with fail
  generalize w.alloc (.cells #[.int .i64 s, .int .i64 g, .slice a n c] 24) = v at *
  obtain ⟨n0, n1, n2, n3, n4, n5, n6⟩ := id N
  go_wp2_with fail
  refine (szPlan_any s g a n c _ hm).mono ?_
  rintro e v1 ⟨Lf, rfl, hLf, hb⟩
  clear n0 n1 n2 n3 n4 n5 n6
  replace B := B.trans (hb.mono B.size)
  replace N := N.below hb
  clear hb
  by_cases hneg : Lf < 0
  · go_wp2_with fail
    go_ret
    exact ⟨rfl, B⟩
  have hn : n ≤ 1048576 := hLf (by omega)
  obtain ⟨n0, n1, n2, n3, n4, n5, n6⟩ := id N
  go_wp2_with fail
  refine (toPlan_any s g a n c M _ hn (HA.out.below B)).mono ?_
  rintro e v2 ⟨rfl, R2, hb⟩
  clear n0 n1 n2 n3 n4 n5 n6
  replace B := B.trans (hb.mono B.size)
  replace N := N.below hb
  clear hb
  go_wp2_with fail
  refine (CS _ _ _ (.inr ⟨_, _, rfl, R2.cs (Nat.le_refl _)⟩)).mono ?_
  rintro e v3 ⟨sa, sc, rfl, S0, hb⟩
  replace B := B.trans (hb.mono B.size)
  replace N := N.below hb
  clear hb
  clear R2 CS
  have V0 := SrcK.of (ownS S0)
  clear S0
  have hN3 : w.heap.size < v3.heap.size := N.1
  have NL := Below.nw v3 (.cells #[.int .i64 XS, .int .i64 XG, .slice sa XN sc] 29)
  have ZS := Tx3.new v3 (.int .i64 XS) (.int .i64 XG) (.slice sa XN sc) 29
  go_upto_region 6 with fail
  replace B := B.trans (NL.mono B.size)
  replace N := N.below NL
  replace V0 := V0.below NL
  clear NL
  generalize v3.alloc (.cells #[.int .i64 XS, .int .i64 XG, .slice sa XN sc] 29) = v3b at *
  generalize v3.heap.size = ks at *
  have hks : ks < v3b.heap.size := ZS.1
  obtain ⟨n0, n1, n2, n3, n4, n5, n6⟩ := id N
  go_wp2_with fail
  refine (toPlan_any s g a n c M _ hn (HA.out.below B)).mono ?_
  rintro e v4 ⟨rfl, RX, hb⟩
  clear n0 n1 n2 n3 n4 n5 n6
  replace B := B.trans (hb.mono B.size)
  replace N := N.below hb
  replace V0 := V0.below hb
  replace ZS := ZS.below hb
  clear hb
  have hx4 : v3b.heap.size + 3 < v4.heap.size := RX.lt
  have hV3 : ks ≤ v3b.heap.size + 3 := by omega
  generalize hjx : v3b.heap.size + 3 = jx at *
  have NL := Below.nw v4 (.cells #[.int .i64 s, .int .i64 g, .slice (some ⟨jx, 0, none⟩) n n] 29)
  have X := Tx3.new v4 (.int .i64 s) (.int .i64 g) (.slice (some ⟨jx, 0, none⟩) n n) 29
  go_upto_region 7 with fail
  replace B := B.trans (NL.mono B.size)
  replace N := N.below NL
  replace V0 := V0.below NL
  replace ZS := ZS.below NL
  replace RX := RowF.below' NL RX
  clear NL
  generalize v4.alloc (.cells #[.int .i64 s, .int .i64 g, .slice (some ⟨jx, 0, none⟩) n n] 29) = v5 at *
  generalize v4.heap.size = kx at *
  have hkx : kx < v5.heap.size := X.1
  obtain ⟨x0, x1, x2, x3, x4, x5, x6⟩ := id X
  go_wp2_with fail
  refine (CI _ _ _ (.inr ⟨_, _, rfl, RX.cs (Nat.le_refl _)⟩)).mono ?_
  rintro e v6 ⟨ga, gc, rfl, G0, hb⟩
  clear x0 x1 x2 x3 x4 x5 x6
  replace B := B.trans (hb.mono B.size)
  replace N := N.below hb
  replace V0 := V0.below hb
  replace ZS := ZS.below hb
  replace RX := RowF.below' hb RX
  replace X := X.below hb
  have h56 := hb.size
  clear hb
  have RG : Hid (∀ b, (Value.slice ga XN gc).ownBlock = some b → v5.heap.size ≤ b ∧ b < v6.heap.size) := fun b hb => World.ownsRow.lt G0 b hb
  generalize hj5 : v5.heap.size = j5 at *
  clear hj5
  have NL := Below.nw v6 (.cells #[.int .i64 XS, .int .i64 XG, .slice ga XN gc] 29)
  have ZG := Tx3.new v6 (.int .i64 XS) (.int .i64 XG) (.slice ga XN gc) 29
  go_upto_region 8 with fail
  replace B := B.trans (NL.mono B.size)
  replace N := N.below NL
  replace V0 := V0.below NL
  replace ZS := ZS.below NL
  replace RX := RowF.below' NL RX
  replace X := X.below NL
  replace G0 := own_belK' G0 NL
  clear NL
  generalize v6.alloc (.cells #[.int .i64 XS, .int .i64 XG, .slice ga XN gc] 29) = v6b at *
  generalize v6.heap.size = kg at *
  obtain ⟨y0, y1, y2, y3, y4, y5, y6⟩ := id ZS
  obtain ⟨z0, z1, z2, z3, z4, z5, z6⟩ := id ZG
  go_wp2_with fail
  refine (eqPlan_same XS XG _ _ XN _ _ M _ hm0 (ownS G0) V0.src).mono ?_
  rintro e v7 ⟨rfl, hb⟩
  clear y0 y1 y2 y3 y4 y5 y6 z0 z1 z2 z3 z4 z5 z6
  replace B := B.trans (hb.mono B.size)
  replace N := N.below hb
  replace V0 := V0.below hb
  replace ZS := ZS.below hb
  replace RX := RowF.below' hb RX
  replace X := X.below hb
  replace G0 := own_belK' G0 hb
  replace ZG := ZG.below hb
  clear hb
  have SK : Hid (∀ w', Below v7.heap.size v7 w' → ((fun w' => w'.cell? ⟨w.heap.size, 0, none⟩ = some (.int .i64 s) ∧ w'.cell? ⟨w.heap.size, 1, none⟩ = some (.int .i64 g) ∧ w'.cell? ⟨w.heap.size, 2, none⟩ = some (.slice a n c) ∧ w'.cell? ⟨kx, 0, none⟩ = some (.int .i64 s) ∧ w'.cell? ⟨kx, 1, none⟩ = some (.int .i64 g) ∧ w'.cell? ⟨kx, 2, none⟩ = some (.slice (some ⟨jx, 0, none⟩) n n))) w') := fun w' hw => ⟨(N.below hw).2.1, (N.below hw).2.2.1, (N.below hw).2.2.2.1, (X.below hw).2.1, (X.below hw).2.2.1, (X.below hw).2.2.2.1⟩
  obtain ⟨n0, n1, n2, n3, n4, n5, n6⟩ := id N
  obtain ⟨x0, x1, x2, x3, x4, x5, x6⟩ := id X
  go_upto_region 10 with fail
  refine wp_region_held_drew (S := (fun w' => w'.cell? ⟨w.heap.size, 0, none⟩ = some (.int .i64 s) ∧ w'.cell? ⟨w.heap.size, 1, none⟩ = some (.int .i64 g) ∧ w'.cell? ⟨w.heap.size, 2, none⟩ = some (.slice a n c) ∧ w'.cell? ⟨kx, 0, none⟩ = some (.int .i64 s) ∧ w'.cell? ⟨kx, 1, none⟩ = some (.int .i64 g) ∧ w'.cell? ⟨kx, 2, none⟩ = some (.slice (some ⟨jx, 0, none⟩) n n))) (by kernel_rfl) ?_ (fun hHeld => ?_)
  · first | exact SK.out _ XB | exact SK.out _ (Below.drew (Below.refl _ _))
  have XB : Below v7.heap.size v7 v7.drew := Below.drew (Below.refl _ _)
  generalize v7.drew = vx at *
  refine wpAnyH_take (i := 0) (v := ?_) (by rw [List.getElem?_toArray]; rfl) (by kernel_rfl) (by kernel_rfl) (by kernel_rfl) (by intro _ _ _ h; exact h) (Or.inl ⟨by rfl, ?_⟩) (by assumption) ?_
  rotate_left
  · (intro w hSw; (try dsimp only at hSw); go_simp; all_goals with_reducible rfl)
  (try simp only [Act.put, List.setIfInBounds_toArray, List.set_cons_zero, List.set_cons_succ])
  refine wpAnyH_take (i := 1) (v := ?_) (by rw [List.getElem?_toArray]; rfl) (by kernel_rfl) (by kernel_rfl) (by kernel_rfl) (by intro _ _ _ h; exact h) (Or.inl ⟨by rfl, ?_⟩) (by assumption) ?_
  rotate_left
  · (intro w hSw; (try dsimp only at hSw); go_simp; all_goals with_reducible rfl)
  (try simp only [Act.put, List.setIfInBounds_toArray, List.set_cons_zero, List.set_cons_succ])
  refine wpAnyH_ready (rs := [2]) (by kernel_rfl) (by simp) ?_
  refine AllReadyH.cons (by rw [List.getElem?_toArray]; rfl) (fun K hK => ?_) AllReadyH.nil
  go_simp
  refine (toPlan_any s g a n c M vx hn (HA.out.below (B.trans (XB.mono B.size)))).mono ?_; rintro ee vx2 ⟨rfl, RY, hbl⟩; (replace XB := XB.trans (hbl.mono XB.size)); (clear hbl); (generalize vx.heap.size + 3 = jy at *); (generalize hvv : vx2 = vx at *); (clear hvv)
  (try go_wp2_with fail)
  refine hK.out _ _ ?_ (fun hHeld => ?_)
  · first | exact SK.out _ XB | exact SK.out _ (Below.drew (Below.refl _ _))
  clear hK K
  (try simp only [Act.put, List.setIfInBounds_toArray, List.set_cons_zero, List.set_cons_succ])
  refine wpAnyH_ready (rs := [3]) (by kernel_rfl) (by simp) ?_
  refine AllReadyH.cons (by rw [List.getElem?_toArray]; rfl) (fun K hK => ?_) AllReadyH.nil
  go_simp
  refine (eqPlan_same s g (some ⟨jx, 0, none⟩) (some ⟨jy, 0, none⟩) n n n M vx hm (.inr ⟨_, _, rfl, (RowF.below' XB RX).cs (Nat.le_refl _)⟩) (.inr ⟨_, _, rfl, RY.cs (Nat.le_refl _)⟩)).mono ?_; rintro ee vx3 ⟨rfl, hbl⟩; (replace XB := XB.trans (hbl.mono XB.size)); (clear hbl RY)
  (try go_wp2_with fail)
  refine hK.out _ _ ?_ (fun hHeld => ?_)
  · first | exact SK.out _ XB | exact SK.out _ (Below.drew (Below.refl _ _))
  clear hK K
  (try simp only [Act.put, List.setIfInBounds_toArray, List.set_cons_zero, List.set_cons_succ])
  refine wpAnyH_take (i := 4) (v := ?_) (by rw [List.getElem?_toArray]; rfl) (by kernel_rfl) (by kernel_rfl) (by kernel_rfl) (by intro _ _ _ h; exact h) (Or.inl ⟨by rfl, ?_⟩) (by assumption) ?_
  rotate_left
  · (intro w hSw; (try dsimp only at hSw); go_simp; all_goals with_reducible rfl)
  (try simp only [Act.put, List.setIfInBounds_toArray, List.set_cons_zero, List.set_cons_succ])
  refine wpAnyH_done (by kernel_rfl) ?_ _
  clear n0 n1 n2 n3 n4 n5 n6
  clear x0 x1 x2 x3 x4 x5 x6
  replace B := B.trans (XB.mono B.size)
  replace N := N.below XB
  replace V0 := V0.below XB
  replace ZS := ZS.below XB
  replace RX := RowF.below' XB RX
  replace X := X.below XB
  replace G0 := own_belK' G0 XB
  replace ZG := ZG.below XB
  clear XB SK
  generalize vx3 = v9 at *
  obtain ⟨x0, x1, x2, x3, x4, x5, x6⟩ := id X
  go_wp2_with fail
  refine (markPlan_row s g jx (n * 2) n n _ hn (Nat.le_refl _) (RX.zero _)).mono ?_
  rintro e v11 ⟨rfl, _, hb⟩
  clear x0 x1 x2 x3 x4 x5 x6
  replace B := B.trans (hb.below (B := w.heap.size) (by omega) B.size)
  replace N := N.but hb (by omega)
  replace V0 := V0.kept hb.grK (fun b h e => by (have e' := Option.some.inj e); omega)
  replace ZS := ZS.but hb (by omega)
  replace X := X.but hb (by omega)
  replace G0 := own_butK G0 hb (by omega)
  replace ZG := ZG.but hb (by omega)
  have hk1 : ¬ (1 + (n : Int) * 2 < 0) := by omega
  clear hb RX X
  obtain ⟨y0, y1, y2, y3, y4, y5, y6⟩ := id ZS
  obtain ⟨z0, z1, z2, z3, z4, z5, z6⟩ := id ZG
  go_wp2_with fail
  refine (eqPlan_same XS XG _ _ XN _ _ M _ hm0 (ownS G0) V0.src).mono ?_
  rintro e v12 ⟨rfl, hb⟩
  clear y0 y1 y2 y3 y4 y5 y6 z0 z1 z2 z3 z4 z5 z6
  replace B := B.trans (hb.mono B.size)
  replace N := N.below hb
  replace V0 := V0.below hb
  replace ZS := ZS.below hb
  replace G0 := own_belK' G0 hb
  replace ZG := ZG.below hb
  clear hb
  obtain ⟨z0, z1, z2, z3, z4, z5, z6⟩ := id ZG
  go_wp2_with fail
  refine (markPlan_own XS XG _ _ _ _ _ _ hn0 G0).mono ?_
  rintro e v13 ⟨rfl, HM0, hb⟩
  clear z0 z1 z2 z3 z4 z5 z6
  replace B := B.trans (grown_bel hb B.size (fun b h e => by have := RG.out _ e.symm; omega))
  replace N := N.kept hb (fun e => by have := RG.out _ e.symm; omega)
  replace V0 := V0.kept hb (fun b h e => by have := RG.out _ e.symm; omega)
  replace ZS := ZS.kept hb (fun e => by have := RG.out _ e.symm; omega)
  replace ZG := ZG.kept hb (fun e => by have := RG.out _ e.symm; omega)
  have HK : Hid (SrcC v13 ga (XN * 2) (mkSlot 1)) := HM0
  clear hb HM0 G0
  obtain ⟨z0, z1, z2, z3, z4, z5, z6⟩ := id ZG
  go_wp2_with fail
  refine (heldPlan_any XS XG _ _ _ _ hn0 HK.out).mono ?_
  rintro e v14 ⟨rfl, hb⟩
  clear z0 z1 z2 z3 z4 z5 z6
  replace B := B.trans (hb.mono B.size)
  replace N := N.below hb
  replace V0 := V0.below hb
  replace ZS := ZS.below hb
  replace ZG := ZG.below hb
  replace HK : Hid (SrcC _ ga (XN * 2) (mkSlot 1)) := HK.out.below hb
  clear hb
  have hk2 : ¬ (1 + (XN : Int) * 2 < 0) := by omega
  obtain ⟨n0, n1, n2, n3, n4, n5, n6⟩ := id N
  go_wp2_with fail
  refine (toPlan_any s g a n c M _ hn (HA.out.below B)).mono ?_
  rintro e v15 ⟨rfl, R15, hb⟩
  clear n0 n1 n2 n3 n4 n5 n6
  replace B := B.trans (hb.mono B.size)
  replace N := N.below hb
  replace V0 := V0.below hb
  replace ZS := ZS.below hb
  replace ZG := ZG.below hb
  replace HK : Hid (SrcC _ ga (XN * 2) (mkSlot 1)) := HK.out.below hb
  clear hb
  go_wp2_with fail
  refine (CI _ _ _ (.inr ⟨_, _, rfl, R15.cs (Nat.le_refl _)⟩)).mono ?_
  rintro e v16 ⟨ha, hc, rfl, H0, hb⟩
  replace B := B.trans (hb.mono B.size)
  replace N := N.below hb
  replace V0 := V0.below hb
  replace ZS := ZS.below hb
  replace ZG := ZG.below hb
  replace HK : Hid (SrcC _ ga (XN * 2) (mkSlot 1)) := HK.out.below hb
  clear hb
  clear R15 CI
  have UK := SrcK.of (ownS H0)
  clear H0
  have NL := Below.nw v16 (.cells #[.int .i64 XS, .int .i64 XG, .slice ha XN hc] 29)
  have ZH := Tx3.new v16 (.int .i64 XS) (.int .i64 XG) (.slice ha XN hc) 29
  go_upto_region 25 with fail
  replace B := B.trans (NL.mono B.size)
  replace N := N.below NL
  replace V0 := V0.below NL
  replace ZS := ZS.below NL
  replace ZG := ZG.below NL
  replace HK : Hid (SrcC _ ga (XN * 2) (mkSlot 1)) := HK.out.below NL
  replace UK := UK.below NL
  clear NL
  generalize v16.alloc (.cells #[.int .i64 XS, .int .i64 XG, .slice ha XN hc] 29) = v16b at *
  generalize v16.heap.size = kh at *
  obtain ⟨y0, y1, y2, y3, y4, y5, y6⟩ := id ZS
  obtain ⟨z0, z1, z2, z3, z4, z5, z6⟩ := id ZH
  go_wp2_with fail
  refine (eqPlan_same XS XG _ _ XN _ _ M _ hm0 UK.src V0.src).mono ?_
  rintro e v18 ⟨rfl, hb⟩
  clear y0 y1 y2 y3 y4 y5 y6 z0 z1 z2 z3 z4 z5 z6
  replace B := B.trans (hb.mono B.size)
  replace N := N.below hb
  replace V0 := V0.below hb
  replace ZS := ZS.below hb
  replace ZG := ZG.below hb
  replace HK : Hid (SrcC _ ga (XN * 2) (mkSlot 1)) := HK.out.below hb
  replace UK := UK.below hb
  replace ZH := ZH.below hb
  clear hb
  obtain ⟨z0, z1, z2, z3, z4, z5, z6⟩ := id ZG
  go_wp2_with fail
  refine (heldPlan_any XS XG _ _ _ _ hn0 HK.out).mono ?_
  rintro e v19 ⟨rfl, hb⟩
  clear z0 z1 z2 z3 z4 z5 z6
  replace B := B.trans (hb.mono B.size)
  replace N := N.below hb
  replace V0 := V0.below hb
  replace ZS := ZS.below hb
  replace ZG := ZG.below hb
  replace HK : Hid (SrcC _ ga (XN * 2) (mkSlot 1)) := HK.out.below hb
  replace UK := UK.below hb
  replace ZH := ZH.below hb
  clear hb
  go_wp2_with fail
  go_ret
  exact ⟨rfl, B⟩
end Go.Proofs.Ytkdbgchmknanlaa
