/- The walk of the exact law of OpLine. -/
import Derived.Test.YtddjiamollfplaaDoorX227
import Derived.Test.YtddjiamollfplaaDoorX219
import Derived.Test.YtddjiamollfplaaDoorO192
import Derived.Deep.RegionHeld3
import Derived.Deep.DeepCutAuto
import Derived.WalkKit
import Derived.WalkSpells
import Derived.WalkLawsBesides
import Derived.Deep.RegionHeld
namespace Go.Proofs.YtddjiamollfplaaDoor
open Go.RowKit
set_option linter.unusedVariables false
set_option maxRecDepth 100000 in
set_option maxHeartbeats 16000000 in
theorem lawOpLine (k nd tt a b : Int) (tx : ByteArray) (p : Option Addr) (n c : Nat) (f : Nat → Int) (w : World) (E : T10 w ∧ OpW w) (hx : tx.size ≤ maxLen) (hm : n ≤ maxLen) (hsrc : SrcC w p n (itG f)) :
    Calls Tryd.prog 6 #[.agg #[.int .i64 k, .int .i64 nd, .int .i64 tt, .int .i64 a, .int .i64 b, .string tx, .slice p n c]] w fun e w' => e = .returned (.bool true) ∧ Below w.heap.size w w' := by
  have HA : Hid (SrcC w p n (itG f)) := hsrc
  have HE : Hid (T10 w ∧ OpW w) := E
  clear E
  have CS := fun (w' : World) (p' : Option Addr) (c' : Nat) (hh : LsO w' p' n c' f) => specOpLine_any k nd tt a b tx p' n c' f w' hx hm hh
  have CI := fun (w' : World) (hv : Below w.heap.size w w') (p' : Option Addr) (c' : Nat) (hh : LsO w' p' n c' f) => implOpLine_any k nd tt a b tx p' n c' f w' (HE.out.1.below hv) (HE.out.2.below hv) hx hm hh
  clear hsrc
  generalize olO k nd tt a b tx n f = Y0 at *
  generalize opB k nd tt a b tx n f = X0 at *
  have hq0 : (X0 != X0) = false := by simp
  have B := Below.nw w (.cells #[.int .i64 k, .int .i64 nd, .int .i64 tt, .int .i64 a, .int .i64 b, .string tx, .slice p n c] 36)
  have N := Bo.new w #[.int .i64 k, .int .i64 nd, .int .i64 tt, .int .i64 a, .int .i64 b, .string tx, .slice p n c] 36
  go_enter Tryd.func6, Tryd.ntmps6
  go_upto_region 1 with fail
  generalize w.alloc (.cells #[.int .i64 k, .int .i64 nd, .int .i64 tt, .int .i64 a, .int .i64 b, .string tx, .slice p n c] 36) = v at *
  have n0 := N.cell (i := 0) rfl; have n1 := N.cell (i := 1) rfl; have n2 := N.cell (i := 2) rfl; have n3 := N.cell (i := 3) rfl; have n4 := N.cell (i := 4) rfl; have n5 := N.cell (i := 5) rfl; have n6 := N.cell (i := 6) rfl
  go_wp2_with fail
  refine (szOp_any k nd tt a b tx p n c _ hx hm).mono ?_
  rintro e v1 ⟨Lf, rfl, hLf, hb⟩
  clear n0 n1 n2 n3 n4 n5 n6
  replace B := B.trans (hb.mono B.size)
  replace N := N.below hb
  clear hb
  by_cases hneg : Lf < 0
  · go_wp2_with fail
    go_ret
    exact ⟨rfl, B⟩
  have hn : n ≤ 1048576 := (hLf (by omega)).2
  clear hLf
  have n0 := N.cell (i := 0) rfl; have n1 := N.cell (i := 1) rfl; have n2 := N.cell (i := 2) rfl; have n3 := N.cell (i := 3) rfl; have n4 := N.cell (i := 4) rfl; have n5 := N.cell (i := 5) rfl; have n6 := N.cell (i := 6) rfl
  go_wp2_with fail
  refine (toOp_any k nd tt a b tx p n c f _ hn (HA.out.below B)).mono ?_
  rintro e v2 ⟨j2, rfl, _, R2, hb⟩
  clear n0 n1 n2 n3 n4 n5 n6
  replace B := B.trans (hb.mono B.size)
  replace N := N.below hb
  clear hb
  go_wp2_with fail
  refine (CS _ _ _ (.inr ⟨_, _, rfl, .inr (R2.cs (Nat.le_refl _))⟩)).mono ?_
  rintro e v3 ⟨rfl, hb⟩
  replace B := B.trans (hb.mono B.size)
  replace N := N.below hb
  clear hb R2 CS
  have n0 := N.cell (i := 0) rfl; have n1 := N.cell (i := 1) rfl; have n2 := N.cell (i := 2) rfl; have n3 := N.cell (i := 3) rfl; have n4 := N.cell (i := 4) rfl; have n5 := N.cell (i := 5) rfl; have n6 := N.cell (i := 6) rfl
  go_wp2_with fail
  refine (toOp_any k nd tt a b tx p n c f _ hn (HA.out.below B)).mono ?_
  rintro e v4 ⟨jx, rfl, _, RX, hb⟩
  clear n0 n1 n2 n3 n4 n5 n6
  replace B := B.trans (hb.mono B.size)
  replace N := N.below hb
  clear hb
  have NL := Below.nw v4 (.cells #[.int .i64 k, .int .i64 nd, .int .i64 tt, .int .i64 a, .int .i64 b, .string tx, .slice (some ⟨jx, 0, none⟩) n n] 39)
  have X := Bo.new v4 #[.int .i64 k, .int .i64 nd, .int .i64 tt, .int .i64 a, .int .i64 b, .string tx, .slice (some ⟨jx, 0, none⟩) n n] 39
  go_upto_region 7 with fail
  replace B := B.trans (NL.mono B.size)
  replace N := N.below NL
  replace RX := RowF.below' NL RX
  clear NL
  generalize v4.alloc (.cells #[.int .i64 k, .int .i64 nd, .int .i64 tt, .int .i64 a, .int .i64 b, .string tx, .slice (some ⟨jx, 0, none⟩) n n] 39) = v5 at *
  generalize v4.heap.size = kx at *
  have x0 := X.cell (i := 0) rfl; have x1 := X.cell (i := 1) rfl; have x2 := X.cell (i := 2) rfl; have x3 := X.cell (i := 3) rfl; have x4 := X.cell (i := 4) rfl; have x5 := X.cell (i := 5) rfl; have x6 := X.cell (i := 6) rfl
  go_wp2_with fail
  refine (CI _ B _ _ (.inr ⟨_, _, rfl, .inr (RX.cs (Nat.le_refl _))⟩)).mono ?_
  rintro e v6 ⟨rfl, hb⟩
  clear x0 x1 x2 x3 x4 x5 x6
  replace B := B.trans (hb.mono B.size)
  replace N := N.below hb
  replace X := X.below hb
  replace RX := RowF.below' hb RX
  clear hb CI
  have SK : Hid (∀ w', Below v6.heap.size v6 w' → ((fun w' => w'.cell? ⟨w.heap.size, 0, none⟩ = some (.int .i64 k) ∧ w'.cell? ⟨w.heap.size, 1, none⟩ = some (.int .i64 nd) ∧ w'.cell? ⟨w.heap.size, 2, none⟩ = some (.int .i64 tt) ∧ w'.cell? ⟨w.heap.size, 3, none⟩ = some (.int .i64 a) ∧ w'.cell? ⟨w.heap.size, 4, none⟩ = some (.int .i64 b) ∧ w'.cell? ⟨w.heap.size, 5, none⟩ = some (.string tx) ∧ w'.cell? ⟨w.heap.size, 6, none⟩ = some (.slice p n c) ∧ w'.cell? ⟨kx, 0, none⟩ = some (.int .i64 k) ∧ w'.cell? ⟨kx, 1, none⟩ = some (.int .i64 nd) ∧ w'.cell? ⟨kx, 2, none⟩ = some (.int .i64 tt) ∧ w'.cell? ⟨kx, 3, none⟩ = some (.int .i64 a) ∧ w'.cell? ⟨kx, 4, none⟩ = some (.int .i64 b) ∧ w'.cell? ⟨kx, 5, none⟩ = some (.string tx) ∧ w'.cell? ⟨kx, 6, none⟩ = some (.slice (some ⟨jx, 0, none⟩) n n))) w') := fun w' hw => ⟨(N.below hw).cell (i := 0) rfl, (N.below hw).cell (i := 1) rfl, (N.below hw).cell (i := 2) rfl, (N.below hw).cell (i := 3) rfl, (N.below hw).cell (i := 4) rfl, (N.below hw).cell (i := 5) rfl, (N.below hw).cell (i := 6) rfl, (X.below hw).cell (i := 0) rfl, (X.below hw).cell (i := 1) rfl, (X.below hw).cell (i := 2) rfl, (X.below hw).cell (i := 3) rfl, (X.below hw).cell (i := 4) rfl, (X.below hw).cell (i := 5) rfl, (X.below hw).cell (i := 6) rfl⟩
  have n0 := N.cell (i := 0) rfl; have n1 := N.cell (i := 1) rfl; have n2 := N.cell (i := 2) rfl; have n3 := N.cell (i := 3) rfl; have n4 := N.cell (i := 4) rfl; have n5 := N.cell (i := 5) rfl; have n6 := N.cell (i := 6) rfl
  have x0 := X.cell (i := 0) rfl; have x1 := X.cell (i := 1) rfl; have x2 := X.cell (i := 2) rfl; have x3 := X.cell (i := 3) rfl; have x4 := X.cell (i := 4) rfl; have x5 := X.cell (i := 5) rfl; have x6 := X.cell (i := 6) rfl
  go_upto_region 10 with fail
  refine wp_region_held_drew (S := (fun w' => w'.cell? ⟨w.heap.size, 0, none⟩ = some (.int .i64 k) ∧ w'.cell? ⟨w.heap.size, 1, none⟩ = some (.int .i64 nd) ∧ w'.cell? ⟨w.heap.size, 2, none⟩ = some (.int .i64 tt) ∧ w'.cell? ⟨w.heap.size, 3, none⟩ = some (.int .i64 a) ∧ w'.cell? ⟨w.heap.size, 4, none⟩ = some (.int .i64 b) ∧ w'.cell? ⟨w.heap.size, 5, none⟩ = some (.string tx) ∧ w'.cell? ⟨w.heap.size, 6, none⟩ = some (.slice p n c) ∧ w'.cell? ⟨kx, 0, none⟩ = some (.int .i64 k) ∧ w'.cell? ⟨kx, 1, none⟩ = some (.int .i64 nd) ∧ w'.cell? ⟨kx, 2, none⟩ = some (.int .i64 tt) ∧ w'.cell? ⟨kx, 3, none⟩ = some (.int .i64 a) ∧ w'.cell? ⟨kx, 4, none⟩ = some (.int .i64 b) ∧ w'.cell? ⟨kx, 5, none⟩ = some (.string tx) ∧ w'.cell? ⟨kx, 6, none⟩ = some (.slice (some ⟨jx, 0, none⟩) n n))) (by kernel_rfl) ?_ (fun hHeld => ?_)
  · first | exact SK.out _ XB | exact SK.out _ (Below.drew (Below.refl _ _))
  have XB : Below v6.heap.size v6 v6.drew := Below.drew (Below.refl _ _)
  generalize v6.drew = vx at *
  refine wpAnyH_take (i := 0) (v := ?_) (by rw [List.getElem?_toArray]; rfl) (by kernel_rfl) (by kernel_rfl) (by kernel_rfl) (by intro _ _ _ h; exact h) (Or.inl ⟨by rfl, ?_⟩) (by assumption) ?_
  rotate_left
  · (intro w hSw; (try dsimp only at hSw); go_simp; all_goals with_reducible rfl)
  (try simp only [Act.put, List.setIfInBounds_toArray, List.set_cons_zero, List.set_cons_succ])
  refine wpAnyH_take (i := 1) (v := ?_) (by rw [List.getElem?_toArray]; rfl) (by kernel_rfl) (by kernel_rfl) (by kernel_rfl) (by intro _ _ _ h; exact h) (Or.inl ⟨by rfl, ?_⟩) (by assumption) ?_
  rotate_left
  · (intro w hSw; (try dsimp only at hSw); go_simp; all_goals with_reducible rfl)
  (try simp only [Act.put, List.setIfInBounds_toArray, List.set_cons_zero, List.set_cons_succ])
  refine wpAnyH_ready (rs := [2]) (by kernel_rfl) (by simp) ?_
  refine AllReadyH.cons (by rw [List.getElem?_toArray]; rfl) (fun K hK => ?_) AllReadyH.nil
  go_simp
  refine (toOp_any k nd tt a b tx p n c f vx hn (HA.out.below (B.trans (XB.mono B.size)))).mono ?_; rintro ee vx2 ⟨jy, rfl, _, RY, hbl⟩; (replace XB := XB.trans (hbl.mono XB.size)); (clear hbl); (generalize hvv : vx2 = vx at *); (clear hvv)
  (try go_wp2_with fail)
  refine hK.out _ _ ?_ (fun hHeld => ?_)
  · first | exact SK.out _ XB | exact SK.out _ (Below.drew (Below.refl _ _))
  clear hK K
  (try simp only [Act.put, List.setIfInBounds_toArray, List.set_cons_zero, List.set_cons_succ])
  refine wpAnyH_ready (rs := [3]) (by kernel_rfl) (by simp) ?_
  refine AllReadyH.cons (by rw [List.getElem?_toArray]; rfl) (fun K hK => ?_) AllReadyH.nil
  go_simp
  refine (eqOp_same k nd tt a b tx (some ⟨jx, 0, none⟩) (some ⟨jy, 0, none⟩) n n n f vx hm (.inr ⟨_, _, rfl, (RowF.below' XB RX).cs (Nat.le_refl _)⟩) (.inr ⟨_, _, rfl, RY.cs (Nat.le_refl _)⟩)).mono ?_; rintro ee vx3 ⟨rfl, hbl⟩; (replace XB := XB.trans (hbl.mono XB.size)); (clear hbl)
  (try go_wp2_with fail)
  refine hK.out _ _ ?_ (fun hHeld => ?_)
  · first | exact SK.out _ XB | exact SK.out _ (Below.drew (Below.refl _ _))
  clear hK K
  (try simp only [Act.put, List.setIfInBounds_toArray, List.set_cons_zero, List.set_cons_succ])
  refine wpAnyH_take (i := 4) (v := ?_) (by rw [List.getElem?_toArray]; rfl) (by kernel_rfl) (by kernel_rfl) (by kernel_rfl) (by intro _ _ _ h; exact h) (Or.inl ⟨by rfl, ?_⟩) (by assumption) ?_
  rotate_left
  · (intro w hSw; (try dsimp only at hSw); go_simp; all_goals with_reducible rfl)
  (try simp only [Act.put, List.setIfInBounds_toArray, List.set_cons_zero, List.set_cons_succ])
  refine wpAnyH_done (by kernel_rfl) ?_ _
  go_wp2_with fail
  go_ret
  exact ⟨rfl, B.trans (XB.mono B.size)⟩
end Go.Proofs.YtddjiamollfplaaDoor
