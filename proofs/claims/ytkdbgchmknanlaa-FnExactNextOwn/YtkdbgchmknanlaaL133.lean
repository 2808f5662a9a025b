/- The walks of the exact laws of SlotAt, InSlot, NextOwn. -/
import Derived.Test.YtkdbgchmknanlaaB132
import Derived.Test.YtkdbgchmknanlaaB150
import Derived.Deep.RegionHeld3
import Derived.WalkKit
import Derived.WalkSpells
import Derived.WalkLawsBesides
import Derived.Deep.RegionHeld
namespace Go.Proofs.Ytkdbgchmknanlaa
open Go.RowKit
set_option linter.unusedVariables false
set_option maxRecDepth 100000 in
set_option maxHeartbeats 16000000 in
theorem lawSlotAt (s g : Int) (a : Option Addr) (n c : Nat) (M : Nat → SlT) (t : Int) (w : World) (hm : n ≤ maxLen) (hsrc : SrcC w a (n * 2) (MFSlot M)) (hw : ∀ i, i < n → (Lit.int .i64 (M i).1).wf = true) (w_t : (Lit.int .i64 t).wf = true) :
    Calls Try.prog 7 #[.agg #[.int .i64 s, .int .i64 g, .slice a n c], .int .i64 t] w fun e w' => e = .returned (.bool true) ∧ Below w.heap.size w w' := by
  have HA : Hid (SrcC w a (n * 2) (MFSlot M)) := hsrc
  have CS := fun (w' : World) (a' : Option Addr) (c' : Nat) (hh : SrcC w' a' (n * 2) (MFSlot M)) => specSlotAt_any s g a' n c' M t w' hm hh
  have CI := fun (w' : World) (a' : Option Addr) (c' : Nat) (hh : SrcC w' a' (n * 2) (MFSlot M)) => implSlotAt_any s g a' n c' M t w' hm hh
  clear hw hsrc w_t
  generalize saI s g M n t = X0 at *
  generalize saK s g M n t = X1 at *
  generalize saB s g M n t = X2 at *
  have hq2 : (X2 != X2) = false := by simp
  have B := Below.nw w (.cells #[.int .i64 s, .int .i64 g, .slice a n c] 24)
  have N := Tx3.new w (.int .i64 s) (.int .i64 g) (.slice a n c) 24
  go_enter Try.func7, Try.ntmps7
  go_upto_region 1 with fail
  generalize w.alloc (.cells #[.int .i64 s, .int .i64 g, .slice a n c] 24) = v at *
  obtain ⟨n0, n1, n2, n3, n4, n5, n6⟩ := id N
  go_wp2_with fail
  refine (szPlan_any s g a n c _ hm).mono ?_
  rintro e v1 ⟨Lf, rfl, hLf, hb⟩
  clear n0 n1 n2 n3 n4 n5 n6
  replace B := B.trans (hb.mono B.size)
  replace N := N.below hb
  clear hb
  by_cases hneg : Lf < 0
  · go_wp2_with fail
    go_ret
    exact ⟨rfl, B⟩
  have hn : n ≤ 1048576 := hLf (by omega)
  obtain ⟨n0, n1, n2, n3, n4, n5, n6⟩ := id N
  go_wp2_with fail
  refine (toPlan_any s g a n c M _ hn (HA.out.below B)).mono ?_
  rintro e v2 ⟨rfl, R2, hb⟩
  clear n0 n1 n2 n3 n4 n5 n6
  replace B := B.trans (hb.mono B.size)
  replace N := N.below hb
  clear hb
  go_wp2_with fail
  refine (CS _ _ _ (.inr ⟨_, _, rfl, R2.cs (Nat.le_refl _)⟩)).mono ?_
  rintro e v3 ⟨rfl, hb⟩
  replace B := B.trans (hb.mono B.size)
  replace N := N.below hb
  replace R2 := RowF.below' hb R2
  clear hb
  clear R2 CS
  obtain ⟨n0, n1, n2, n3, n4, n5, n6⟩ := id N
  go_wp2_with fail
  refine (toPlan_any s g a n c M _ hn (HA.out.below B)).mono ?_
  rintro e v4 ⟨rfl, RX, hb⟩
  clear n0 n1 n2 n3 n4 n5 n6
  replace B := B.trans (hb.mono B.size)
  replace N := N.below hb
  clear hb
  generalize hjx : v3.heap.size + 3 = jx at *
  clear hjx
  have NL := Below.nw v4 (.cells #[.int .i64 s, .int .i64 g, .slice (some ⟨jx, 0, none⟩) n n] 29)
  have X := Tx3.new v4 (.int .i64 s) (.int .i64 g) (.slice (some ⟨jx, 0, none⟩) n n) 29
  go_upto_region 7 with fail
  replace B := B.trans (NL.mono B.size)
  replace N := N.below NL
  replace RX := RowF.below' NL RX
  clear NL
  generalize v4.alloc (.cells #[.int .i64 s, .int .i64 g, .slice (some ⟨jx, 0, none⟩) n n] 29) = v5 at *
  generalize v4.heap.size = kx at *
  obtain ⟨x0, x1, x2, x3, x4, x5, x6⟩ := id X
  go_wp2_with fail
  refine (CI _ _ _ (.inr ⟨_, _, rfl, RX.cs (Nat.le_refl _)⟩)).mono ?_
  rintro e v6 ⟨rfl, hb⟩
  clear x0 x1 x2 x3 x4 x5 x6
  replace B := B.trans (hb.mono B.size)
  replace N := N.below hb
  replace X := X.below hb
  replace RX := RowF.below' hb RX
  clear hb
  clear CI
  have SK : Hid (∀ w', Below v6.heap.size v6 w' → ((fun w' => w'.cell? ⟨w.heap.size, 0, none⟩ = some (.int .i64 s) ∧ w'.cell? ⟨w.heap.size, 1, none⟩ = some (.int .i64 g) ∧ w'.cell? ⟨w.heap.size, 2, none⟩ = some (.slice a n c) ∧ w'.cell? ⟨kx, 0, none⟩ = some (.int .i64 s) ∧ w'.cell? ⟨kx, 1, none⟩ = some (.int .i64 g) ∧ w'.cell? ⟨kx, 2, none⟩ = some (.slice (some ⟨jx, 0, none⟩) n n))) w') := fun w' hw => ⟨(N.below hw).2.1, (N.below hw).2.2.1, (N.below hw).2.2.2.1, (X.below hw).2.1, (X.below hw).2.2.1, (X.below hw).2.2.2.1⟩
  obtain ⟨n0, n1, n2, n3, n4, n5, n6⟩ := id N
  obtain ⟨x0, x1, x2, x3, x4, x5, x6⟩ := id X
  go_upto_region 10 with fail
  refine wp_region_held_drew (S := (fun w' => w'.cell? ⟨w.heap.size, 0, none⟩ = some (.int .i64 s) ∧ w'.cell? ⟨w.heap.size, 1, none⟩ = some (.int .i64 g) ∧ w'.cell? ⟨w.heap.size, 2, none⟩ = some (.slice a n c) ∧ w'.cell? ⟨kx, 0, none⟩ = some (.int .i64 s) ∧ w'.cell? ⟨kx, 1, none⟩ = some (.int .i64 g) ∧ w'.cell? ⟨kx, 2, none⟩ = some (.slice (some ⟨jx, 0, none⟩) n n))) (by kernel_rfl) ?_ (fun hHeld => ?_)
  · first | exact SK.out _ XB | exact SK.out _ (Below.drew (Below.refl _ _))
  have XB : Below v6.heap.size v6 v6.drew := Below.drew (Below.refl _ _)
  generalize v6.drew = vx at *
  refine wpAnyH_take (i := 0) (v := ?_) (by rw [List.getElem?_toArray]; rfl) (by kernel_rfl) (by kernel_rfl) (by kernel_rfl) (by intro _ _ _ h; exact h) (Or.inl ⟨by rfl, ?_⟩) (by assumption) ?_
  rotate_left
  · (intro w hSw; (try dsimp only at hSw); go_simp; all_goals with_reducible rfl)
  (try simp only [Act.put, List.setIfInBounds_toArray, List.set_cons_zero, List.set_cons_succ])
  refine wpAnyH_take (i := 1) (v := ?_) (by rw [List.getElem?_toArray]; rfl) (by kernel_rfl) (by kernel_rfl) (by kernel_rfl) (by intro _ _ _ h; exact h) (Or.inl ⟨by rfl, ?_⟩) (by assumption) ?_
  rotate_left
  · (intro w hSw; (try dsimp only at hSw); go_simp; all_goals with_reducible rfl)
  (try simp only [Act.put, List.setIfInBounds_toArray, List.set_cons_zero, List.set_cons_succ])
  refine wpAnyH_ready (rs := [2]) (by kernel_rfl) (by simp) ?_
  refine AllReadyH.cons (by rw [List.getElem?_toArray]; rfl) (fun K hK => ?_) AllReadyH.nil
  go_simp
  refine (toPlan_any s g a n c M vx hn (HA.out.below (B.trans (XB.mono B.size)))).mono ?_; rintro ee vx2 ⟨rfl, RY, hbl⟩; (replace XB := XB.trans (hbl.mono XB.size)); (clear hbl); (generalize vx.heap.size + 3 = jy at *); (generalize hvv : vx2 = vx at *); (clear hvv)
  (try go_wp2_with fail)
  refine hK.out _ _ ?_ (fun hHeld => ?_)
  · first | exact SK.out _ XB | exact SK.out _ (Below.drew (Below.refl _ _))
  clear hK K
  (try simp only [Act.put, List.setIfInBounds_toArray, List.set_cons_zero, List.set_cons_succ])
  refine wpAnyH_ready (rs := [3]) (by kernel_rfl) (by simp) ?_
  refine AllReadyH.cons (by rw [List.getElem?_toArray]; rfl) (fun K hK => ?_) AllReadyH.nil
  go_simp
  refine (eqPlan_same s g (some ⟨jx, 0, none⟩) (some ⟨jy, 0, none⟩) n n n M vx hm (.inr ⟨_, _, rfl, (RowF.below' XB RX).cs (Nat.le_refl _)⟩) (.inr ⟨_, _, rfl, RY.cs (Nat.le_refl _)⟩)).mono ?_; rintro ee vx3 ⟨rfl, hbl⟩; (replace XB := XB.trans (hbl.mono XB.size)); (clear hbl)
  (try go_wp2_with fail)
  refine hK.out _ _ ?_ (fun hHeld => ?_)
  · first | exact SK.out _ XB | exact SK.out _ (Below.drew (Below.refl _ _))
  clear hK K
  (try simp only [Act.put, List.setIfInBounds_toArray, List.set_cons_zero, List.set_cons_succ])
  refine wpAnyH_take (i := 4) (v := ?_) (by rw [List.getElem?_toArray]; rfl) (by kernel_rfl) (by kernel_rfl) (by kernel_rfl) (by intro _ _ _ h; exact h) (Or.inl ⟨by rfl, ?_⟩) (by assumption) ?_
  rotate_left
  · (intro w hSw; (try dsimp only at hSw); go_simp; all_goals with_reducible rfl)
  (try simp only [Act.put, List.setIfInBounds_toArray, List.set_cons_zero, List.set_cons_succ])
  refine wpAnyH_done (by kernel_rfl) ?_ _
  go_wp2_with fail
  go_ret
  exact ⟨rfl, B.trans (XB.mono B.size)⟩
set_option maxRecDepth 100000 in
set_option maxHeartbeats 16000000 in
theorem lawInSlot (s g : Int) (a : Option Addr) (n c : Nat) (M : Nat → SlT) (o : Int) (f : Int) (t : Int) (w : World) (hm : n ≤ maxLen) (hsrc : SrcC w a (n * 2) (MFSlot M)) (hw : ∀ i, i < n → (Lit.int .i64 (M i).1).wf = true) (w_o : (Lit.int .i64 o).wf = true) (w_f : (Lit.int .i64 f).wf = true) (w_t : (Lit.int .i64 t).wf = true) :
    Calls Try.prog 8 #[.agg #[.int .i64 s, .int .i64 g, .slice a n c], .int .i64 o, .int .i64 f, .int .i64 t] w fun e w' => e = .returned (.bool true) ∧ Below w.heap.size w w' := by
  have HA : Hid (SrcC w a (n * 2) (MFSlot M)) := hsrc
  have CS := fun (w' : World) (a' : Option Addr) (c' : Nat) (hh : SrcC w' a' (n * 2) (MFSlot M)) => specInSlot_any s g a' n c' M o f t w' hm hh
  have CI := fun (w' : World) (a' : Option Addr) (c' : Nat) (hh : SrcC w' a' (n * 2) (MFSlot M)) => implInSlot_any s g a' n c' M o f t w' hm hh
  clear hw hsrc w_o w_f w_t
  generalize isI s g M n o f t = X0 at *
  generalize isK s g M n o f t = X1 at *
  generalize isB s g M n o f t = X2 at *
  have hq2 : (X2 != X2) = false := by simp
  have B := Below.nw w (.cells #[.int .i64 s, .int .i64 g, .slice a n c] 24)
  have N := Tx3.new w (.int .i64 s) (.int .i64 g) (.slice a n c) 24
  go_enter Try.func8, Try.ntmps8
  go_upto_region 1 with fail
  generalize w.alloc (.cells #[.int .i64 s, .int .i64 g, .slice a n c] 24) = v at *
  obtain ⟨n0, n1, n2, n3, n4, n5, n6⟩ := id N
  go_wp2_with fail
  refine (szPlan_any s g a n c _ hm).mono ?_
  rintro e v1 ⟨Lf, rfl, hLf, hb⟩
  clear n0 n1 n2 n3 n4 n5 n6
  replace B := B.trans (hb.mono B.size)
  replace N := N.below hb
  clear hb
  by_cases hneg : Lf < 0
  · go_wp2_with fail
    go_ret
    exact ⟨rfl, B⟩
  have hn : n ≤ 1048576 := hLf (by omega)
  obtain ⟨n0, n1, n2, n3, n4, n5, n6⟩ := id N
  go_wp2_with fail
  refine (toPlan_any s g a n c M _ hn (HA.out.below B)).mono ?_
  rintro e v2 ⟨rfl, R2, hb⟩
  clear n0 n1 n2 n3 n4 n5 n6
  replace B := B.trans (hb.mono B.size)
  replace N := N.below hb
  clear hb
  go_wp2_with fail
  refine (CS _ _ _ (.inr ⟨_, _, rfl, R2.cs (Nat.le_refl _)⟩)).mono ?_
  rintro e v3 ⟨rfl, hb⟩
  replace B := B.trans (hb.mono B.size)
  replace N := N.below hb
  replace R2 := RowF.below' hb R2
  clear hb
  clear R2 CS
  obtain ⟨n0, n1, n2, n3, n4, n5, n6⟩ := id N
  go_wp2_with fail
  refine (toPlan_any s g a n c M _ hn (HA.out.below B)).mono ?_
  rintro e v4 ⟨rfl, RX, hb⟩
  clear n0 n1 n2 n3 n4 n5 n6
  replace B := B.trans (hb.mono B.size)
  replace N := N.below hb
  clear hb
  generalize hjx : v3.heap.size + 3 = jx at *
  clear hjx
  have NL := Below.nw v4 (.cells #[.int .i64 s, .int .i64 g, .slice (some ⟨jx, 0, none⟩) n n] 29)
  have X := Tx3.new v4 (.int .i64 s) (.int .i64 g) (.slice (some ⟨jx, 0, none⟩) n n) 29
  go_upto_region 7 with fail
  replace B := B.trans (NL.mono B.size)
  replace N := N.below NL
  replace RX := RowF.below' NL RX
  clear NL
  generalize v4.alloc (.cells #[.int .i64 s, .int .i64 g, .slice (some ⟨jx, 0, none⟩) n n] 29) = v5 at *
  generalize v4.heap.size = kx at *
  obtain ⟨x0, x1, x2, x3, x4, x5, x6⟩ := id X
  go_wp2_with fail
  refine (CI _ _ _ (.inr ⟨_, _, rfl, RX.cs (Nat.le_refl _)⟩)).mono ?_
  rintro e v6 ⟨rfl, hb⟩
  clear x0 x1 x2 x3 x4 x5 x6
  replace B := B.trans (hb.mono B.size)
  replace N := N.below hb
  replace X := X.below hb
  replace RX := RowF.below' hb RX
  clear hb
  clear CI
  have SK : Hid (∀ w', Below v6.heap.size v6 w' → ((fun w' => w'.cell? ⟨w.heap.size, 0, none⟩ = some (.int .i64 s) ∧ w'.cell? ⟨w.heap.size, 1, none⟩ = some (.int .i64 g) ∧ w'.cell? ⟨w.heap.size, 2, none⟩ = some (.slice a n c) ∧ w'.cell? ⟨kx, 0, none⟩ = some (.int .i64 s) ∧ w'.cell? ⟨kx, 1, none⟩ = some (.int .i64 g) ∧ w'.cell? ⟨kx, 2, none⟩ = some (.slice (some ⟨jx, 0, none⟩) n n))) w') := fun w' hw => ⟨(N.below hw).2.1, (N.below hw).2.2.1, (N.below hw).2.2.2.1, (X.below hw).2.1, (X.below hw).2.2.1, (X.below hw).2.2.2.1⟩
  obtain ⟨n0, n1, n2, n3, n4, n5, n6⟩ := id N
  obtain ⟨x0, x1, x2, x3, x4, x5, x6⟩ := id X
  go_upto_region 10 with fail
  refine wp_region_held_drew (S := (fun w' => w'.cell? ⟨w.heap.size, 0, none⟩ = some (.int .i64 s) ∧ w'.cell? ⟨w.heap.size, 1, none⟩ = some (.int .i64 g) ∧ w'.cell? ⟨w.heap.size, 2, none⟩ = some (.slice a n c) ∧ w'.cell? ⟨kx, 0, none⟩ = some (.int .i64 s) ∧ w'.cell? ⟨kx, 1, none⟩ = some (.int .i64 g) ∧ w'.cell? ⟨kx, 2, none⟩ = some (.slice (some ⟨jx, 0, none⟩) n n))) (by kernel_rfl) ?_ (fun hHeld => ?_)
  · first | exact SK.out _ XB | exact SK.out _ (Below.drew (Below.refl _ _))
  have XB : Below v6.heap.size v6 v6.drew := Below.drew (Below.refl _ _)
  generalize v6.drew = vx at *
  refine wpAnyH_take (i := 0) (v := ?_) (by rw [List.getElem?_toArray]; rfl) (by kernel_rfl) (by kernel_rfl) (by kernel_rfl) (by intro _ _ _ h; exact h) (Or.inl ⟨by rfl, ?_⟩) (by assumption) ?_
  rotate_left
  · (intro w hSw; (try dsimp only at hSw); go_simp; all_goals with_reducible rfl)
  (try simp only [Act.put, List.setIfInBounds_toArray, List.set_cons_zero, List.set_cons_succ])
  refine wpAnyH_take (i := 1) (v := ?_) (by rw [List.getElem?_toArray]; rfl) (by kernel_rfl) (by kernel_rfl) (by kernel_rfl) (by intro _ _ _ h; exact h) (Or.inl ⟨by rfl, ?_⟩) (by assumption) ?_
  rotate_left
  · (intro w hSw; (try dsimp only at hSw); go_simp; all_goals with_reducible rfl)
  (try simp only [Act.put, List.setIfInBounds_toArray, List.set_cons_zero, List.set_cons_succ])
  refine wpAnyH_ready (rs := [2]) (by kernel_rfl) (by simp) ?_
  refine AllReadyH.cons (by rw [List.getElem?_toArray]; rfl) (fun K hK => ?_) AllReadyH.nil
  go_simp
  refine (toPlan_any s g a n c M vx hn (HA.out.below (B.trans (XB.mono B.size)))).mono ?_; rintro ee vx2 ⟨rfl, RY, hbl⟩; (replace XB := XB.trans (hbl.mono XB.size)); (clear hbl); (generalize vx.heap.size + 3 = jy at *); (generalize hvv : vx2 = vx at *); (clear hvv)
  (try go_wp2_with fail)
  refine hK.out _ _ ?_ (fun hHeld => ?_)
  · first | exact SK.out _ XB | exact SK.out _ (Below.drew (Below.refl _ _))
  clear hK K
  (try simp only [Act.put, List.setIfInBounds_toArray, List.set_cons_zero, List.set_cons_succ])
  refine wpAnyH_ready (rs := [3]) (by kernel_rfl) (by simp) ?_
  refine AllReadyH.cons (by rw [List.getElem?_toArray]; rfl) (fun K hK => ?_) AllReadyH.nil
  go_simp
  refine (eqPlan_same s g (some ⟨jx, 0, none⟩) (some ⟨jy, 0, none⟩) n n n M vx hm (.inr ⟨_, _, rfl, (RowF.below' XB RX).cs (Nat.le_refl _)⟩) (.inr ⟨_, _, rfl, RY.cs (Nat.le_refl _)⟩)).mono ?_; rintro ee vx3 ⟨rfl, hbl⟩; (replace XB := XB.trans (hbl.mono XB.size)); (clear hbl)
  (try go_wp2_with fail)
  refine hK.out _ _ ?_ (fun hHeld => ?_)
  · first | exact SK.out _ XB | exact SK.out _ (Below.drew (Below.refl _ _))
  clear hK K
  (try simp only [Act.put, List.setIfInBounds_toArray, List.set_cons_zero, List.set_cons_succ])
  refine wpAnyH_take (i := 4) (v := ?_) (by rw [List.getElem?_toArray]; rfl) (by kernel_rfl) (by kernel_rfl) (by kernel_rfl) (by intro _ _ _ h; exact h) (Or.inl ⟨by rfl, ?_⟩) (by assumption) ?_
  rotate_left
  · (intro w hSw; (try dsimp only at hSw); go_simp; all_goals with_reducible rfl)
  (try simp only [Act.put, List.setIfInBounds_toArray, List.set_cons_zero, List.set_cons_succ])
  refine wpAnyH_done (by kernel_rfl) ?_ _
  go_wp2_with fail
  go_ret
  exact ⟨rfl, B.trans (XB.mono B.size)⟩
set_option maxRecDepth 100000 in
set_option maxHeartbeats 16000000 in
theorem lawNextOwn (s g : Int) (a : Option Addr) (n c : Nat) (M : Nat → SlT) (o : Int) (t : Int) (w : World) (hm : n ≤ maxLen) (hsrc : SrcC w a (n * 2) (MFSlot M)) (hw : ∀ i, i < n → (Lit.int .i64 (M i).1).wf = true) (w_o : (Lit.int .i64 o).wf = true) (w_t : (Lit.int .i64 t).wf = true) :
    Calls Try.prog 9 #[.agg #[.int .i64 s, .int .i64 g, .slice a n c], .int .i64 o, .int .i64 t] w fun e w' => e = .returned (.bool true) ∧ Below w.heap.size w w' := by
  have HA : Hid (SrcC w a (n * 2) (MFSlot M)) := hsrc
  have CS := fun (w' : World) (a' : Option Addr) (c' : Nat) (hh : SrcC w' a' (n * 2) (MFSlot M)) => specNextOwn_any s g a' n c' M o t w' hm hh
  have CI := fun (w' : World) (a' : Option Addr) (c' : Nat) (hh : SrcC w' a' (n * 2) (MFSlot M)) => implNextOwn_any s g a' n c' M o t w' hm hh
  clear hw hsrc w_o w_t
  generalize noI s g M n o t = X0 at *
  generalize noT s g M n o t = X1 at *
  generalize noB s g M n o t = X2 at *
  have hq2 : (X2 != X2) = false := by simp
  have B := Below.nw w (.cells #[.int .i64 s, .int .i64 g, .slice a n c] 24)
  have N := Tx3.new w (.int .i64 s) (.int .i64 g) (.slice a n c) 24
  go_enter Try.func9, Try.ntmps9
  go_upto_region 1 with fail
  generalize w.alloc (.cells #[.int .i64 s, .int .i64 g, .slice a n c] 24) = v at *
  obtain ⟨n0, n1, n2, n3, n4, n5, n6⟩ := id N
  go_wp2_with fail
  refine (szPlan_any s g a n c _ hm).mono ?_
  rintro e v1 ⟨Lf, rfl, hLf, hb⟩
  clear n0 n1 n2 n3 n4 n5 n6
  replace B := B.trans (hb.mono B.size)
  replace N := N.below hb
  clear hb
  by_cases hneg : Lf < 0
  · go_wp2_with fail
    go_ret
    exact ⟨rfl, B⟩
  have hn : n ≤ 1048576 := hLf (by omega)
  obtain ⟨n0, n1, n2, n3, n4, n5, n6⟩ := id N
  go_wp2_with fail
  refine (toPlan_any s g a n c M _ hn (HA.out.below B)).mono ?_
  rintro e v2 ⟨rfl, R2, hb⟩
  clear n0 n1 n2 n3 n4 n5 n6
  replace B := B.trans (hb.mono B.size)
  replace N := N.below hb
  clear hb
  go_wp2_with fail
  refine (CS _ _ _ (.inr ⟨_, _, rfl, R2.cs (Nat.le_refl _)⟩)).mono ?_
  rintro e v3 ⟨rfl, hb⟩
  replace B := B.trans (hb.mono B.size)
  replace N := N.below hb
  replace R2 := RowF.below' hb R2
  clear hb
  clear R2 CS
  obtain ⟨n0, n1, n2, n3, n4, n5, n6⟩ := id N
  go_wp2_with fail
  refine (toPlan_any s g a n c M _ hn (HA.out.below B)).mono ?_
  rintro e v4 ⟨rfl, RX, hb⟩
  clear n0 n1 n2 n3 n4 n5 n6
  replace B := B.trans (hb.mono B.size)
  replace N := N.below hb
  clear hb
  generalize hjx : v3.heap.size + 3 = jx at *
  clear hjx
  have NL := Below.nw v4 (.cells #[.int .i64 s, .int .i64 g, .slice (some ⟨jx, 0, none⟩) n n] 29)
  have X := Tx3.new v4 (.int .i64 s) (.int .i64 g) (.slice (some ⟨jx, 0, none⟩) n n) 29
  go_upto_region 7 with fail
  replace B := B.trans (NL.mono B.size)
  replace N := N.below NL
  replace RX := RowF.below' NL RX
  clear NL
  generalize v4.alloc (.cells #[.int .i64 s, .int .i64 g, .slice (some ⟨jx, 0, none⟩) n n] 29) = v5 at *
  generalize v4.heap.size = kx at *
  obtain ⟨x0, x1, x2, x3, x4, x5, x6⟩ := id X
  go_wp2_with fail
  refine (CI _ _ _ (.inr ⟨_, _, rfl, RX.cs (Nat.le_refl _)⟩)).mono ?_
  rintro e v6 ⟨rfl, hb⟩
  clear x0 x1 x2 x3 x4 x5 x6
  replace B := B.trans (hb.mono B.size)
  replace N := N.below hb
  replace X := X.below hb
  replace RX := RowF.below' hb RX
  clear hb
  clear CI
  have SK : Hid (∀ w', Below v6.heap.size v6 w' → ((fun w' => w'.cell? ⟨w.heap.size, 0, none⟩ = some (.int .i64 s) ∧ w'.cell? ⟨w.heap.size, 1, none⟩ = some (.int .i64 g) ∧ w'.cell? ⟨w.heap.size, 2, none⟩ = some (.slice a n c) ∧ w'.cell? ⟨kx, 0, none⟩ = some (.int .i64 s) ∧ w'.cell? ⟨kx, 1, none⟩ = some (.int .i64 g) ∧ w'.cell? ⟨kx, 2, none⟩ = some (.slice (some ⟨jx, 0, none⟩) n n))) w') := fun w' hw => ⟨(N.below hw).2.1, (N.below hw).2.2.1, (N.below hw).2.2.2.1, (X.below hw).2.1, (X.below hw).2.2.1, (X.below hw).2.2.2.1⟩
  obtain ⟨n0, n1, n2, n3, n4, n5, n6⟩ := id N
  obtain ⟨x0, x1, x2, x3, x4, x5, x6⟩ := id X
  go_upto_region 10 with fail
  refine wp_region_held_drew (S := (fun w' => w'.cell? ⟨w.heap.size, 0, none⟩ = some (.int .i64 s) ∧ w'.cell? ⟨w.heap.size, 1, none⟩ = some (.int .i64 g) ∧ w'.cell? ⟨w.heap.size, 2, none⟩ = some (.slice a n c) ∧ w'.cell? ⟨kx, 0, none⟩ = some (.int .i64 s) ∧ w'.cell? ⟨kx, 1, none⟩ = some (.int .i64 g) ∧ w'.cell? ⟨kx, 2, none⟩ = some (.slice (some ⟨jx, 0, none⟩) n n))) (by kernel_rfl) ?_ (fun hHeld => ?_)
  · first | exact SK.out _ XB | exact SK.out _ (Below.drew (Below.refl _ _))
  have XB : Below v6.heap.size v6 v6.drew := Below.drew (Below.refl _ _)
  generalize v6.drew = vx at *
  refine wpAnyH_take (i := 0) (v := ?_) (by rw [List.getElem?_toArray]; rfl) (by kernel_rfl) (by kernel_rfl) (by kernel_rfl) (by intro _ _ _ h; exact h) (Or.inl ⟨by rfl, ?_⟩) (by assumption) ?_
  rotate_left
  · (intro w hSw; (try dsimp only at hSw); go_simp; all_goals with_reducible rfl)
  (try simp only [Act.put, List.setIfInBounds_toArray, List.set_cons_zero, List.set_cons_succ])
  refine wpAnyH_take (i := 1) (v := ?_) (by rw [List.getElem?_toArray]; rfl) (by kernel_rfl) (by kernel_rfl) (by kernel_rfl) (by intro _ _ _ h; exact h) (Or.inl ⟨by rfl, ?_⟩) (by assumption) ?_
  rotate_left
  · (intro w hSw; (try dsimp only at hSw); go_simp; all_goals with_reducible rfl)
  (try simp only [Act.put, List.setIfInBounds_toArray, List.set_cons_zero, List.set_cons_succ])
  refine wpAnyH_ready (rs := [2]) (by kernel_rfl) (by simp) ?_
  refine AllReadyH.cons (by rw [List.getElem?_toArray]; rfl) (fun K hK => ?_) AllReadyH.nil
  go_simp
  refine (toPlan_any s g a n c M vx hn (HA.out.below (B.trans (XB.mono B.size)))).mono ?_; rintro ee vx2 ⟨rfl, RY, hbl⟩; (replace XB := XB.trans (hbl.mono XB.size)); (clear hbl); (generalize vx.heap.size + 3 = jy at *); (generalize hvv : vx2 = vx at *); (clear hvv)
  (try go_wp2_with fail)
  refine hK.out _ _ ?_ (fun hHeld => ?_)
  · first | exact SK.out _ XB | exact SK.out _ (Below.drew (Below.refl _ _))
  clear hK K
  (try simp only [Act.put, List.setIfInBounds_toArray, List.set_cons_zero, List.set_cons_succ])
  refine wpAnyH_ready (rs := [3]) (by kernel_rfl) (by simp) ?_
  refine AllReadyH.cons (by rw [List.getElem?_toArray]; rfl) (fun K hK => ?_) AllReadyH.nil
  go_simp
  refine (eqPlan_same s g (some ⟨jx, 0, none⟩) (some ⟨jy, 0, none⟩) n n n M vx hm (.inr ⟨_, _, rfl, (RowF.below' XB RX).cs (Nat.le_refl _)⟩) (.inr ⟨_, _, rfl, RY.cs (Nat.le_refl _)⟩)).mono ?_; rintro ee vx3 ⟨rfl, hbl⟩; (replace XB := XB.trans (hbl.mono XB.size)); (clear hbl)
  (try go_wp2_with fail)
  refine hK.out _ _ ?_ (fun hHeld => ?_)
  · first | exact SK.out _ XB | exact SK.out _ (Below.drew (Below.refl _ _))
  clear hK K
  (try simp only [Act.put, List.setIfInBounds_toArray, List.set_cons_zero, List.set_cons_succ])
  refine wpAnyH_take (i := 4) (v := ?_) (by rw [List.getElem?_toArray]; rfl) (by kernel_rfl) (by kernel_rfl) (by kernel_rfl) (by intro _ _ _ h; exact h) (Or.inl ⟨by rfl, ?_⟩) (by assumption) ?_
  rotate_left
  · (intro w hSw; (try dsimp only at hSw); go_simp; all_goals with_reducible rfl)
  (try simp only [Act.put, List.setIfInBounds_toArray, List.set_cons_zero, List.set_cons_succ])
  refine wpAnyH_done (by kernel_rfl) ?_ _
  go_wp2_with fail
  go_ret
  exact ⟨rfl, B.trans (XB.mono B.size)⟩
end Go.Proofs.Ytkdbgchmknanlaa
