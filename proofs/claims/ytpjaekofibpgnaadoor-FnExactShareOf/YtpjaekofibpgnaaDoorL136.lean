/- The walk of the exact law of ShareOf. -/
import Derived.Test.YtpjaekofibpgnaaDoorB132
import Derived.Test.YtpjaekofibpgnaaDoorB140
import Derived.Test.YtpjaekofibpgnaaDoorB151
import Derived.Test.YtpjaekofibpgnaaDoorL110
import Derived.Deep.RegionHeld3
import Derived.WalkKit
import Derived.WalkSpells
import Derived.WalkLawsBesides
import Derived.Deep.RegionHeld
namespace Go.Proofs.YtpjaekofibpgnaaDoor
open Go.RowKit
set_option linter.unusedVariables false
set_option maxRecDepth 100000 in
set_option maxHeartbeats 16000000 in
theorem lawShareOf (s g : Int) (a : Option Addr) (n c : Nat) (M : Nat → SlT) (o : Int) (u : Addr) (w : World) (E : Er w 0 u) (hm : n ≤ maxLen) (hsrc : SrcC w a (n * 2) (MFSlot M)) (hw : ∀ i, i < n → (Lit.int .i64 (M i).1).wf = true) (w_o : (Lit.int .i64 o).wf = true) :
    Calls Tryd.prog 3 #[.agg #[.int .i64 s, .int .i64 g, .slice a n c], .int .i64 o] w fun e w' => e = .returned (.bool true) ∧ Below w.heap.size w w' := by
  have HA : Hid (SrcC w a (n * 2) (MFSlot M)) := hsrc
  have CS := fun (w' : World) (a' : Option Addr) (c' : Nat) (hh : SrcC w' a' (n * 2) (MFSlot M)) => specShareOf_any s g a' n c' M o w' hm hh
  have CI := fun (w' : World) (a' : Option Addr) (c' : Nat) (E' : Er w' 0 u) (hh : SrcC w' a' (n * 2) (MFSlot M)) => implShareOf_any s g a' n c' M o u w' E' hm hh
  clear hw hsrc w_o
  generalize shX s g M n o = X0 at *
  generalize shY s g M n o = Y0 at *
  generalize shB s g M n o = X1 at *
  have hq1 : (X1 != X1) = false := by simp
  have B := Below.nw w (.cells #[.int .i64 s, .int .i64 g, .slice a n c] 24)
  have N := Tx3.new w (.int .i64 s) (.int .i64 g) (.slice a n c) 24
  go_enter Tryd.func3, Tryd.ntmps3
  go_upto_region 1 with fail
  generalize w.alloc (.cells #[.int .i64 s, .int .i64 g, .slice a n c] 24) = v at *
  obtain ⟨n0, n1, n2, n3, n4, n5, n6⟩ := id N
  go_wp2_with fail
  refine (szPlan_any s g a n c _ hm).mono ?_
  rintro e v1 ⟨Lf, rfl, hLf, hb⟩
  clear n0 n1 n2 n3 n4 n5 n6
  replace B := B.trans (hb.mono B.size)
  replace N := N.below hb
  clear hb
  by_cases hneg : Lf < 0
  · go_wp2_with fail
    go_ret
    exact ⟨rfl, B⟩
  have hn : n ≤ 1048576 := hLf (by omega)
  obtain ⟨n0, n1, n2, n3, n4, n5, n6⟩ := id N
  go_wp2_with fail
  refine (toPlan_any s g a n c M _ hn (HA.out.below B)).mono ?_
  rintro e v2 ⟨rfl, R2, hb⟩
  clear n0 n1 n2 n3 n4 n5 n6
  replace B := B.trans (hb.mono B.size)
  replace N := N.below hb
  clear hb
  go_wp2_with fail
  refine (CS _ _ _ (.inr ⟨_, _, rfl, R2.cs (Nat.le_refl _)⟩)).mono ?_
  rintro e v3 ⟨rfl, hb⟩
  replace B := B.trans (hb.mono B.size)
  replace N := N.below hb
  replace R2 := RowF.below' hb R2
  clear hb
  clear R2 CS
  have NL := Below.nw v3 (.cells #[.int .i64 X0, .int .i64 Y0] 27)
  have Z1 := Bx2.new v3 (.int .i64 X0) (.int .i64 Y0) 27
  go_upto_region 6 with fail
  replace B := B.trans (NL.mono B.size)
  replace N := N.below NL
  clear NL
  generalize v3.alloc (.cells #[.int .i64 X0, .int .i64 Y0] 27) = v3b at *
  generalize v3.heap.size = k1 at *
  obtain ⟨n0, n1, n2, n3, n4, n5, n6⟩ := id N
  go_wp2_with fail
  refine (toPlan_any s g a n c M _ hn (HA.out.below B)).mono ?_
  rintro e v4 ⟨rfl, RX, hb⟩
  clear n0 n1 n2 n3 n4 n5 n6
  replace B := B.trans (hb.mono B.size)
  replace N := N.below hb
  replace Z1 := Z1.below hb
  clear hb
  generalize hjx : v3b.heap.size + 3 = jx at *
  clear hjx
  have NL := Below.nw v4 (.cells #[.int .i64 s, .int .i64 g, .slice (some ⟨jx, 0, none⟩) n n] 32)
  have X := Tx3.new v4 (.int .i64 s) (.int .i64 g) (.slice (some ⟨jx, 0, none⟩) n n) 32
  go_upto_region 7 with fail
  replace B := B.trans (NL.mono B.size)
  replace N := N.below NL
  replace Z1 := Z1.below NL
  replace RX := RowF.below' NL RX
  clear NL
  generalize v4.alloc (.cells #[.int .i64 s, .int .i64 g, .slice (some ⟨jx, 0, none⟩) n n] 32) = v5 at *
  generalize v4.heap.size = kx at *
  obtain ⟨x0, x1, x2, x3, x4, x5, x6⟩ := id X
  go_wp2_with fail
  refine (CI _ _ _ (E.below B) (.inr ⟨_, _, rfl, RX.cs (Nat.le_refl _)⟩)).mono ?_
  rintro e v6 ⟨rfl, hb⟩
  clear x0 x1 x2 x3 x4 x5 x6
  replace B := B.trans (hb.mono B.size)
  replace N := N.below hb
  replace Z1 := Z1.below hb
  replace X := X.below hb
  replace RX := RowF.below' hb RX
  clear hb
  clear CI
  have NL := Below.nw v6 (.cells #[.int .i64 X0, .int .i64 Y0] 27)
  have Z2 := Bx2.new v6 (.int .i64 X0) (.int .i64 Y0) 27
  go_upto_region 8 with fail
  replace B := B.trans (NL.mono B.size)
  replace N := N.below NL
  replace Z1 := Z1.below NL
  replace X := X.below NL
  replace RX := RowF.below' NL RX
  clear NL
  generalize v6.alloc (.cells #[.int .i64 X0, .int .i64 Y0] 27) = v6b at *
  generalize v6.heap.size = k2 at *
  obtain ⟨y0, y1, y2, y3, y4⟩ := id Z1
  obtain ⟨z0, z1, z2, z3, z4⟩ := id Z2
  go_wp2_with fail
  refine (eqFrac_same X0 Y0 _).mono ?_
  rintro e v7 ⟨rfl, hb⟩
  clear y0 y1 y2 y3 y4 z0 z1 z2 z3 z4
  replace B := B.trans (hb.mono B.size)
  replace N := N.below hb
  replace Z1 := Z1.below hb
  replace X := X.below hb
  replace Z2 := Z2.below hb
  replace RX := RowF.below' hb RX
  clear hb
  have SK : Hid (∀ w', Below v7.heap.size v7 w' → ((fun w' => w'.cell? ⟨w.heap.size, 0, none⟩ = some (.int .i64 s) ∧ w'.cell? ⟨w.heap.size, 1, none⟩ = some (.int .i64 g) ∧ w'.cell? ⟨w.heap.size, 2, none⟩ = some (.slice a n c) ∧ w'.cell? ⟨kx, 0, none⟩ = some (.int .i64 s) ∧ w'.cell? ⟨kx, 1, none⟩ = some (.int .i64 g) ∧ w'.cell? ⟨kx, 2, none⟩ = some (.slice (some ⟨jx, 0, none⟩) n n))) w') := fun w' hw => ⟨(N.below hw).2.1, (N.below hw).2.2.1, (N.below hw).2.2.2.1, (X.below hw).2.1, (X.below hw).2.2.1, (X.below hw).2.2.2.1⟩
  obtain ⟨n0, n1, n2, n3, n4, n5, n6⟩ := id N
  obtain ⟨x0, x1, x2, x3, x4, x5, x6⟩ := id X
  go_upto_region 10 with fail
  refine wp_region_held_drew (S := (fun w' => w'.cell? ⟨w.heap.size, 0, none⟩ = some (.int .i64 s) ∧ w'.cell? ⟨w.heap.size, 1, none⟩ = some (.int .i64 g) ∧ w'.cell? ⟨w.heap.size, 2, none⟩ = some (.slice a n c) ∧ w'.cell? ⟨kx, 0, none⟩ = some (.int .i64 s) ∧ w'.cell? ⟨kx, 1, none⟩ = some (.int .i64 g) ∧ w'.cell? ⟨kx, 2, none⟩ = some (.slice (some ⟨jx, 0, none⟩) n n))) (by kernel_rfl) ?_ (fun hHeld => ?_)
  · first | exact SK.out _ XB | exact SK.out _ (Below.drew (Below.refl _ _))
  have XB : Below v7.heap.size v7 v7.drew := Below.drew (Below.refl _ _)
  generalize v7.drew = vx at *
  refine wpAnyH_take (i := 0) (v := ?_) (by rw [List.getElem?_toArray]; rfl) (by kernel_rfl) (by kernel_rfl) (by kernel_rfl) (by intro _ _ _ h; exact h) (Or.inl ⟨by rfl, ?_⟩) (by assumption) ?_
  rotate_left
  · (intro w hSw; (try dsimp only at hSw); go_simp; all_goals with_reducible rfl)
  (try simp only [Act.put, List.setIfInBounds_toArray, List.set_cons_zero, List.set_cons_succ])
  refine wpAnyH_take (i := 1) (v := ?_) (by rw [List.getElem?_toArray]; rfl) (by kernel_rfl) (by kernel_rfl) (by kernel_rfl) (by intro _ _ _ h; exact h) (Or.inl ⟨by rfl, ?_⟩) (by assumption) ?_
  rotate_left
  · (intro w hSw; (try dsimp only at hSw); go_simp; all_goals with_reducible rfl)
  (try simp only [Act.put, List.setIfInBounds_toArray, List.set_cons_zero, List.set_cons_succ])
  refine wpAnyH_ready (rs := [2]) (by kernel_rfl) (by simp) ?_
  refine AllReadyH.cons (by rw [List.getElem?_toArray]; rfl) (fun K hK => ?_) AllReadyH.nil
  go_simp
  refine (toPlan_any s g a n c M vx hn (HA.out.below (B.trans (XB.mono B.size)))).mono ?_; rintro ee vx2 ⟨rfl, RY, hbl⟩; (replace XB := XB.trans (hbl.mono XB.size)); (clear hbl); (generalize vx.heap.size + 3 = jy at *); (generalize hvv : vx2 = vx at *); (clear hvv)
  (try go_wp2_with fail)
  refine hK.out _ _ ?_ (fun hHeld => ?_)
  · first | exact SK.out _ XB | exact SK.out _ (Below.drew (Below.refl _ _))
  clear hK K
  (try simp only [Act.put, List.setIfInBounds_toArray, List.set_cons_zero, List.set_cons_succ])
  refine wpAnyH_ready (rs := [3]) (by kernel_rfl) (by simp) ?_
  refine AllReadyH.cons (by rw [List.getElem?_toArray]; rfl) (fun K hK => ?_) AllReadyH.nil
  go_simp
  refine (eqPlan_same s g (some ⟨jx, 0, none⟩) (some ⟨jy, 0, none⟩) n n n M vx hm (.inr ⟨_, _, rfl, (RowF.below' XB RX).cs (Nat.le_refl _)⟩) (.inr ⟨_, _, rfl, RY.cs (Nat.le_refl _)⟩)).mono ?_; rintro ee vx3 ⟨rfl, hbl⟩; (replace XB := XB.trans (hbl.mono XB.size)); (clear hbl)
  (try go_wp2_with fail)
  refine hK.out _ _ ?_ (fun hHeld => ?_)
  · first | exact SK.out _ XB | exact SK.out _ (Below.drew (Below.refl _ _))
  clear hK K
  (try simp only [Act.put, List.setIfInBounds_toArray, List.set_cons_zero, List.set_cons_succ])
  refine wpAnyH_take (i := 4) (v := ?_) (by rw [List.getElem?_toArray]; rfl) (by kernel_rfl) (by kernel_rfl) (by kernel_rfl) (by intro _ _ _ h; exact h) (Or.inl ⟨by rfl, ?_⟩) (by assumption) ?_
  rotate_left
  · (intro w hSw; (try dsimp only at hSw); go_simp; all_goals with_reducible rfl)
  (try simp only [Act.put, List.setIfInBounds_toArray, List.set_cons_zero, List.set_cons_succ])
  refine wpAnyH_done (by kernel_rfl) ?_ _
  go_wp2_with fail
  go_ret
  exact ⟨rfl, B.trans (XB.mono B.size)⟩
end Go.Proofs.YtpjaekofibpgnaaDoor
