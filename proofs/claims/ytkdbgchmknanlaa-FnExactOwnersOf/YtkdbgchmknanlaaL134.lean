/- The walk of the exact law of OwnersOf. -/
import Derived.Test.YtkdbgchmknanlaaB132
import Derived.Test.YtkdbgchmknanlaaB150
import Derived.Test.YtkdbgchmknanlaaB138
import Derived.Deep.RegionHeld3
import Derived.WalkKit
import Derived.WalkSpells
import Derived.WalkLawsBesides
import Derived.Deep.RegionHeld
namespace Go.Proofs.Ytkdbgchmknanlaa
open Go.RowKit
set_option linter.unusedVariables false
set_option maxRecDepth 100000 in
set_option maxHeartbeats 16000000 in
theorem lawOwnersOf (s g : Int) (a : Option Addr) (n c : Nat) (M : Nat → SlT) (w : World) (hm : n ≤ maxLen) (hsrc : SrcC w a (n * 2) (MFSlot M)) (hw : ∀ i, i < n → (Lit.int .i64 (M i).1).wf = true) :
    Calls Try.prog 10 #[.agg #[.int .i64 s, .int .i64 g, .slice a n c]] w fun e w' => e = .returned (.bool true) ∧ Below w.heap.size w w' := by
  have HA : Hid (SrcC w a (n * 2) (MFSlot M)) := hsrc
  have CS := fun (w' : World) (a' : Option Addr) (c' : Nat) (hh : SrcC w' a' (n * 2) (MFSlot M)) => specOwnersOf_any s g a' n c' M  w' hm hh
  have CI := fun (w' : World) (a' : Option Addr) (c' : Nat) (hh : SrcC w' a' (n * 2) (MFSlot M)) => implOwnersOf_any s g a' n c' M  w' hm hh
  clear hw hsrc
  have hL0 := owA_len s g M n
  generalize owA s g M n = Ls at *
  have hm0 : Ls.length ≤ maxLen := by unfold maxLen; omega
  have hn0 : Ls.length ≤ 1048576 := by omega
  have B := Below.nw w (.cells #[.int .i64 s, .int .i64 g, .slice a n c] 24)
  have N := Tx3.new w (.int .i64 s) (.int .i64 g) (.slice a n c) 24
  go_enter Try.func10, Try.ntmps10
  go_upto_region 1 with fail
  generalize w.alloc (.cells #[.int .i64 s, .int .i64 g, .slice a n c] 24) = v at *
  obtain ⟨n0, n1, n2, n3, n4, n5, n6⟩ := id N
  go_wp2_with fail
  refine (szPlan_any s g a n c _ hm).mono ?_
  rintro e v1 ⟨Lf, rfl, hLf, hb⟩
  clear n0 n1 n2 n3 n4 n5 n6
  replace B := B.trans (hb.mono B.size)
  replace N := N.below hb
  clear hb
  by_cases hneg : Lf < 0
  · go_wp2_with fail
    go_ret
    exact ⟨rfl, B⟩
  have hn : n ≤ 1048576 := hLf (by omega)
  obtain ⟨n0, n1, n2, n3, n4, n5, n6⟩ := id N
  go_wp2_with fail
  refine (toPlan_any s g a n c M _ hn (HA.out.below B)).mono ?_
  rintro e v2 ⟨rfl, R2, hb⟩
  clear n0 n1 n2 n3 n4 n5 n6
  replace B := B.trans (hb.mono B.size)
  replace N := N.below hb
  clear hb
  go_wp2_with fail
  refine (CS _ _ _ (.inr ⟨_, _, rfl, R2.cs (Nat.le_refl _)⟩)).mono ?_
  rintro e v3 ⟨vs, rfl, S0, hb⟩
  replace B := B.trans (hb.mono B.size)
  replace N := N.below hb
  clear hb
  clear R2 CS
  obtain ⟨sa, sc, rfl, _, _, Q0⟩ := ownF_src S0
  have V0 := SrcK.of Q0
  clear S0 Q0
  have hN3 : w.heap.size < v3.heap.size := N.1
  obtain ⟨n0, n1, n2, n3, n4, n5, n6⟩ := id N
  go_wp2_with fail
  refine (toPlan_any s g a n c M _ hn (HA.out.below B)).mono ?_
  rintro e v4 ⟨rfl, RX, hb⟩
  clear n0 n1 n2 n3 n4 n5 n6
  replace B := B.trans (hb.mono B.size)
  replace N := N.below hb
  replace V0 := V0.below hb
  clear hb
  have hx4 : v3.heap.size + 3 < v4.heap.size := RX.lt
  have hV3 : v3.heap.size ≤ v3.heap.size + 3 := by omega
  generalize hjx : v3.heap.size + 3 = jx at *
  have NL := Below.nw v4 (.cells #[.int .i64 s, .int .i64 g, .slice (some ⟨jx, 0, none⟩) n n] 29)
  have X := Tx3.new v4 (.int .i64 s) (.int .i64 g) (.slice (some ⟨jx, 0, none⟩) n n) 29
  go_upto_region 7 with fail
  replace B := B.trans (NL.mono B.size)
  replace N := N.below NL
  replace V0 := V0.below NL
  replace RX := RowF.below' NL RX
  clear NL
  generalize v4.alloc (.cells #[.int .i64 s, .int .i64 g, .slice (some ⟨jx, 0, none⟩) n n] 29) = v5 at *
  generalize v4.heap.size = kx at *
  have hkx : kx < v5.heap.size := X.1
  obtain ⟨x0, x1, x2, x3, x4, x5, x6⟩ := id X
  go_wp2_with fail
  refine (CI _ _ _ (.inr ⟨_, _, rfl, RX.cs (Nat.le_refl _)⟩)).mono ?_
  rintro e v6 ⟨vg, rfl, G0, hb⟩
  clear x0 x1 x2 x3 x4 x5 x6
  replace B := B.trans (hb.mono B.size)
  replace N := N.below hb
  replace V0 := V0.below hb
  replace RX := RowF.below' hb RX
  replace X := X.below hb
  have h56 := hb.size
  clear hb
  obtain ⟨ga, gc, rfl, _, _, _⟩ := ownF_src G0
  have RG : Hid (∀ b, (Value.slice ga Ls.length gc).ownBlock = some b → v5.heap.size ≤ b ∧ b < v6.heap.size) := fun b hb => World.ownsRow.lt G0 b hb
  generalize hj5 : v5.heap.size = j5 at *
  clear hj5
  go_wp2_with fail
  refine (eqIntS_src _ _ _ _ _ (gI Ls) _ hm0 (ownS G0) V0.src).mono ?_
  rintro e v7 ⟨rfl, hb⟩
  replace B := B.trans (hb.mono B.size)
  replace N := N.below hb
  replace V0 := V0.below hb
  replace RX := RowF.below' hb RX
  replace X := X.below hb
  replace G0 := own_belK' G0 hb
  clear hb
  have SK : Hid (∀ w', Below v7.heap.size v7 w' → ((fun w' => w'.cell? ⟨w.heap.size, 0, none⟩ = some (.int .i64 s) ∧ w'.cell? ⟨w.heap.size, 1, none⟩ = some (.int .i64 g) ∧ w'.cell? ⟨w.heap.size, 2, none⟩ = some (.slice a n c) ∧ w'.cell? ⟨kx, 0, none⟩ = some (.int .i64 s) ∧ w'.cell? ⟨kx, 1, none⟩ = some (.int .i64 g) ∧ w'.cell? ⟨kx, 2, none⟩ = some (.slice (some ⟨jx, 0, none⟩) n n))) w') := fun w' hw => ⟨(N.below hw).2.1, (N.below hw).2.2.1, (N.below hw).2.2.2.1, (X.below hw).2.1, (X.below hw).2.2.1, (X.below hw).2.2.2.1⟩
  obtain ⟨n0, n1, n2, n3, n4, n5, n6⟩ := id N
  obtain ⟨x0, x1, x2, x3, x4, x5, x6⟩ := id X
  go_upto_region 10 with fail
  refine wp_region_held_drew (S := (fun w' => w'.cell? ⟨w.heap.size, 0, none⟩ = some (.int .i64 s) ∧ w'.cell? ⟨w.heap.size, 1, none⟩ = some (.int .i64 g) ∧ w'.cell? ⟨w.heap.size, 2, none⟩ = some (.slice a n c) ∧ w'.cell? ⟨kx, 0, none⟩ = some (.int .i64 s) ∧ w'.cell? ⟨kx, 1, none⟩ = some (.int .i64 g) ∧ w'.cell? ⟨kx, 2, none⟩ = some (.slice (some ⟨jx, 0, none⟩) n n))) (by kernel_rfl) ?_ (fun hHeld => ?_)
  · first | exact SK.out _ XB | exact SK.out _ (Below.drew (Below.refl _ _))
  have XB : Below v7.heap.size v7 v7.drew := Below.drew (Below.refl _ _)
  generalize v7.drew = vx at *
  refine wpAnyH_take (i := 0) (v := ?_) (by rw [List.getElem?_toArray]; rfl) (by kernel_rfl) (by kernel_rfl) (by kernel_rfl) (by intro _ _ _ h; exact h) (Or.inl ⟨by rfl, ?_⟩) (by assumption) ?_
  rotate_left
  · (intro w hSw; (try dsimp only at hSw); go_simp; all_goals with_reducible rfl)
  (try simp only [Act.put, List.setIfInBounds_toArray, List.set_cons_zero, List.set_cons_succ])
  refine wpAnyH_take (i := 1) (v := ?_) (by rw [List.getElem?_toArray]; rfl) (by kernel_rfl) (by kernel_rfl) (by kernel_rfl) (by intro _ _ _ h; exact h) (Or.inl ⟨by rfl, ?_⟩) (by assumption) ?_
  rotate_left
  · (intro w hSw; (try dsimp only at hSw); go_simp; all_goals with_reducible rfl)
  (try simp only [Act.put, List.setIfInBounds_toArray, List.set_cons_zero, List.set_cons_succ])
  refine wpAnyH_ready (rs := [2]) (by kernel_rfl) (by simp) ?_
  refine AllReadyH.cons (by rw [List.getElem?_toArray]; rfl) (fun K hK => ?_) AllReadyH.nil
  go_simp
  refine (toPlan_any s g a n c M vx hn (HA.out.below (B.trans (XB.mono B.size)))).mono ?_; rintro ee vx2 ⟨rfl, RY, hbl⟩; (replace XB := XB.trans (hbl.mono XB.size)); (clear hbl); (generalize vx.heap.size + 3 = jy at *); (generalize hvv : vx2 = vx at *); (clear hvv)
  (try go_wp2_with fail)
  refine hK.out _ _ ?_ (fun hHeld => ?_)
  · first | exact SK.out _ XB | exact SK.out _ (Below.drew (Below.refl _ _))
  clear hK K
  (try simp only [Act.put, List.setIfInBounds_toArray, List.set_cons_zero, List.set_cons_succ])
  refine wpAnyH_ready (rs := [3]) (by kernel_rfl) (by simp) ?_
  refine AllReadyH.cons (by rw [List.getElem?_toArray]; rfl) (fun K hK => ?_) AllReadyH.nil
  go_simp
  refine (eqPlan_same s g (some ⟨jx, 0, none⟩) (some ⟨jy, 0, none⟩) n n n M vx hm (.inr ⟨_, _, rfl, (RowF.below' XB RX).cs (Nat.le_refl _)⟩) (.inr ⟨_, _, rfl, RY.cs (Nat.le_refl _)⟩)).mono ?_; rintro ee vx3 ⟨rfl, hbl⟩; (replace XB := XB.trans (hbl.mono XB.size)); (clear hbl RY)
  (try go_wp2_with fail)
  refine hK.out _ _ ?_ (fun hHeld => ?_)
  · first | exact SK.out _ XB | exact SK.out _ (Below.drew (Below.refl _ _))
  clear hK K
  (try simp only [Act.put, List.setIfInBounds_toArray, List.set_cons_zero, List.set_cons_succ])
  refine wpAnyH_take (i := 4) (v := ?_) (by rw [List.getElem?_toArray]; rfl) (by kernel_rfl) (by kernel_rfl) (by kernel_rfl) (by intro _ _ _ h; exact h) (Or.inl ⟨by rfl, ?_⟩) (by assumption) ?_
  rotate_left
  · (intro w hSw; (try dsimp only at hSw); go_simp; all_goals with_reducible rfl)
  (try simp only [Act.put, List.setIfInBounds_toArray, List.set_cons_zero, List.set_cons_succ])
  refine wpAnyH_done (by kernel_rfl) ?_ _
  clear n0 n1 n2 n3 n4 n5 n6
  clear x0 x1 x2 x3 x4 x5 x6
  replace B := B.trans (XB.mono B.size)
  replace N := N.below XB
  replace V0 := V0.below XB
  replace RX := RowF.below' XB RX
  replace X := X.below XB
  replace G0 := own_belK' G0 XB
  clear XB SK
  generalize vx3 = v9 at *
  obtain ⟨x0, x1, x2, x3, x4, x5, x6⟩ := id X
  go_wp2_with fail
  refine (markPlan_row s g jx (n * 2) n n _ hn (Nat.le_refl _) (RX.zero _)).mono ?_
  rintro e v11 ⟨rfl, _, hb⟩
  clear x0 x1 x2 x3 x4 x5 x6
  replace B := B.trans (hb.below (B := w.heap.size) (by omega) B.size)
  replace N := N.but hb (by omega)
  replace V0 := V0.kept hb.grK (fun b h e => by (have e' := Option.some.inj e); omega)
  replace X := X.but hb (by omega)
  replace G0 := own_butK G0 hb (by omega)
  have hk1 : ¬ (1 + (n : Int) * 2 < 0) := by omega
  clear hb RX X
  go_wp2_with fail
  refine (eqIntS_src _ _ _ _ _ (gI Ls) _ hm0 (ownS G0) V0.src).mono ?_
  rintro e v12 ⟨rfl, hb⟩
  replace B := B.trans (hb.mono B.size)
  replace N := N.below hb
  replace V0 := V0.below hb
  replace G0 := own_belK' G0 hb
  clear hb
  go_wp2_with fail
  refine (markIntS_own _ _ _ _ _ _ _ hn0 (by omega) (by omega) G0).mono ?_
  rintro e v13 ⟨rfl, HM0, hb⟩
  replace B := B.trans (grown_bel hb B.size (fun b h e => by have := RG.out _ e.symm; omega))
  replace N := N.kept hb (fun e => by have := RG.out _ e.symm; omega)
  replace V0 := V0.kept hb (fun b h e => by have := RG.out _ e.symm; omega)
  have HK : Hid (SrcC v13 ga (Ls.length * 1) (mkInt 1)) := HM0
  clear hb HM0 G0
  go_wp2_with fail
  refine (heldIntS_any _ _ _ _ _ hn0 (by omega) (by omega) HK.out).mono ?_
  rintro e w' ⟨rfl, rfl⟩
  have hk2 : ¬ (1 + (Ls.length : Int) * 1 < 0) := by omega
  obtain ⟨n0, n1, n2, n3, n4, n5, n6⟩ := id N
  go_wp2_with fail
  refine (toPlan_any s g a n c M _ hn (HA.out.below B)).mono ?_
  rintro e v15 ⟨rfl, R15, hb⟩
  clear n0 n1 n2 n3 n4 n5 n6
  replace B := B.trans (hb.mono B.size)
  replace N := N.below hb
  replace V0 := V0.below hb
  replace HK : Hid (SrcC _ ga (Ls.length * 1) (mkInt 1)) := HK.out.below hb
  clear hb
  go_wp2_with fail
  refine (CI _ _ _ (.inr ⟨_, _, rfl, R15.cs (Nat.le_refl _)⟩)).mono ?_
  rintro e v16 ⟨vh, rfl, H0, hb⟩
  replace B := B.trans (hb.mono B.size)
  replace N := N.below hb
  replace V0 := V0.below hb
  replace HK : Hid (SrcC _ ga (Ls.length * 1) (mkInt 1)) := HK.out.below hb
  clear hb
  clear R15 CI
  obtain ⟨ha, hc, rfl, _, _, U0⟩ := ownF_src H0
  have UK := SrcK.of U0
  clear H0 U0
  go_wp2_with fail
  refine (eqIntS_src _ _ _ _ _ (gI Ls) _ hm0 UK.src V0.src).mono ?_
  rintro e v18 ⟨rfl, hb⟩
  replace B := B.trans (hb.mono B.size)
  replace N := N.below hb
  replace V0 := V0.below hb
  replace HK : Hid (SrcC _ ga (Ls.length * 1) (mkInt 1)) := HK.out.below hb
  replace UK := UK.below hb
  clear hb
  go_wp2_with fail
  refine (heldIntS_any _ _ _ _ _ hn0 (by omega) (by omega) HK.out).mono ?_
  rintro e w' ⟨rfl, rfl⟩
  go_wp2_with fail
  go_ret
  exact ⟨rfl, B⟩
end Go.Proofs.Ytkdbgchmknanlaa
