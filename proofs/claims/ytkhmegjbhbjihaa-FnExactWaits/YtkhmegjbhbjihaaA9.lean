/- The walk of the exact law of Waits. -/
import Derived.Test.YtkhmegjbhbjihaaA8
import Derived.WalkKit
import Derived.WalkSpells
import Derived.WalkLawsBesides
import Derived.Deep.RegionHeld
namespace Go.Proofs.Ytkhmegjbhbjihaa
open Go.RowKit
set_option linter.unusedVariables false
set_option maxHeartbeats 8000000 in
theorem lawWaits (ep us : Int) (a : Option Addr) (n c : Nat) (M : Nat → KT) (x : Int) (w : World) (hm : n ≤ maxLen) (hsrc : SrcC w a (n * 4) (MFAsk M)) (hw : ∀ i, i < n → (Lit.int .i64 (M i).1).wf = true) (hx : (Lit.int .i64 x).wf = true) :
    Calls Try.prog 11 #[.agg #[.int .i64 ep, .int .i64 us, .slice a n c], .int .i64 x] w fun e w' => e = .returned (.bool true) ∧ Below w.heap.size w w' := by
  have HA : Hid (SrcC w a (n * 4) (MFAsk M)) := hsrc
  have N := IB3.new w ep us a n c 30
  have B := Below.nw w (.cells #[.int .i64 ep, .int .i64 us, .slice a n c] 30)
  clear hsrc
  go_enter Try.func11, Try.ntmps11
  go_wp2_with fail
  refine (szTable_any ep us a n c _ hm).mono ?_
  rintro e w1 ⟨L, rfl, hL, hb⟩
  replace N := N.below hb
  replace B := B.trans (hb.mono B.size)
  clear hb
  by_cases hneg : L < 0
  · clear hL
    go_wp2_with fail
    go_ret
    exact ⟨rfl, B⟩
  have hn := hL (by omega)
  clear hL
  have CS := fun (w' : World) (a' : Option Addr) (h : SrcC w' a' (n * 4) (MFAsk M)) => specWaits_any ep us a' n n M x w' hm h
  have CI := fun (w' : World) (a' : Option Addr) (h : SrcC w' a' (n * 4) (MFAsk M)) => implWaits_any ep us a' n n M x w' hm h hw
  generalize wtI ep us M n x = jb at *
  clear hw
  obtain ⟨n0, n1, n2, n3⟩ := id N
  go_wp2_with fail
  refine (toTable_any ep us a n c M _ hn (HA.out.below B)).mono ?_
  rintro e w2 ⟨rfl, R2, hb⟩
  replace N := N.below hb
  replace B := B.trans (hb.mono B.size)
  clear hb n0 n1 n2 n3
  go_wp2_with fail
  refine (CS _ _ (.inr ⟨_, _, rfl, R2.cs (Nat.le_refl _)⟩)).mono ?_
  rintro e w3 ⟨rfl, hb⟩
  replace N := N.below hb
  replace B := B.trans (hb.mono B.size)
  clear hb CS R2
  obtain ⟨n0, n1, n2, n3⟩ := id N
  go_wp2_with fail
  refine (toTable_any ep us a n c M _ hn (HA.out.below B)).mono ?_
  rintro e w4 ⟨rfl, RX, hb⟩
  replace N := N.below hb
  replace B := B.trans (hb.mono B.size)
  clear hb n0 n1 n2 n3
  generalize w3.heap.size + 3 = b2 at *
  have A4 := Below.nw w4 (.cells #[.int .i64 ep, .int .i64 us, .slice (some ⟨b2, 0, none⟩) n n] 35)
  have X := IB3.new w4 ep us (some ⟨b2, 0, none⟩) n n 35
  replace N := N.below A4
  replace B := B.trans (A4.mono B.size)
  replace RX := RowF.below' A4 RX
  clear A4
  go_upto_region 7 with fail
  generalize w4.alloc (.cells #[.int .i64 ep, .int .i64 us, .slice (some ⟨b2, 0, none⟩) n n] 35) = w5 at *
  generalize w4.heap.size = bx at *
  obtain ⟨n0, n1, n2, n3⟩ := id N; obtain ⟨m0, m1, m2, m3⟩ := id X
  go_wp2_with fail
  refine (CI _ _ (.inr ⟨_, _, rfl, RX.cs (Nat.le_refl _)⟩)).mono ?_
  rintro e w6 ⟨rfl, hb⟩
  clear n0 n1 n2 n3 m0 m1 m2 m3
  replace N := N.below hb
  replace X := X.below hb
  replace B := B.trans (hb.mono B.size)
  replace RX := RowF.below' hb RX
  clear hb CI
  obtain ⟨n0, n1, n2, n3⟩ := id N; obtain ⟨m0, m1, m2, m3⟩ := id X
  go_wp2_with fail
  refine wp_region_held_drew (S := (fun w' => w'.cell? ⟨w.heap.size, 0, none⟩ = some (.int .i64 ep) ∧ w'.cell? ⟨w.heap.size, 1, none⟩ = some (.int .i64 us) ∧ w'.cell? ⟨w.heap.size, 2, none⟩ = some (.slice a n c) ∧ w'.cell? ⟨bx, 0, none⟩ = some (.int .i64 ep) ∧ w'.cell? ⟨bx, 1, none⟩ = some (.int .i64 us) ∧ w'.cell? ⟨bx, 2, none⟩ = some (.slice (some ⟨b2, 0, none⟩) n n))) (by kernel_rfl) ?_ (fun hHeld => ?_)
  · first | exact ⟨n1, n2, n3, m1, m2, m3⟩ | (simp (maxDischargeDepth := 6) [go_sem, *]; done)
  refine wpAnyH_take (i := 0) (v := ?_) (by rw [List.getElem?_toArray]; rfl) (by kernel_rfl) (by kernel_rfl) (by kernel_rfl) (by intro _ _ _ h; exact h) (Or.inl ⟨by rfl, ?_⟩) (by assumption) ?_
  rotate_left
  · (intro w hSw; (try dsimp only at hSw); go_simp; all_goals with_reducible rfl)
  (try simp only [Act.put, List.setIfInBounds_toArray, List.set_cons_zero, List.set_cons_succ])
  refine wpAnyH_take (i := 1) (v := ?_) (by rw [List.getElem?_toArray]; rfl) (by kernel_rfl) (by kernel_rfl) (by kernel_rfl) (by intro _ _ _ h; exact h) (Or.inl ⟨by rfl, ?_⟩) (by assumption) ?_
  rotate_left
  · (intro w hSw; (try dsimp only at hSw); go_simp; all_goals with_reducible rfl)
  (try simp only [Act.put, List.setIfInBounds_toArray, List.set_cons_zero, List.set_cons_succ])
  refine wpAnyH_ready (rs := [2]) (by kernel_rfl) (by simp) ?_
  refine AllReadyH.cons (by rw [List.getElem?_toArray]; rfl) (fun K hK => ?_) AllReadyH.nil
  go_simp
  refine (toTable_any ep us a n c M _ hn (HA.out.below (Below.drew B))).mono ?_; rintro e w9 ⟨rfl, R9, hb⟩; clear n0 n1 n2 n3 m0 m1 m2 m3; (replace N := N.drew.below hb); (replace X := X.drew.below hb); (replace RX := RowF.below' hb (show RowF _ b2 44 (n * 4) (n * 4) (MFAsk M) from RX)); (replace B := (Below.drew B).trans (hb.mono (Below.drew B).size)); clear hb; obtain ⟨n0, n1, n2, n3⟩ := id N; obtain ⟨m0, m1, m2, m3⟩ := id X
  (try go_wp2_with fail)
  refine hK.out _ _ ?_ (fun hHeld => ?_)
  · first | exact ⟨n1, n2, n3, m1, m2, m3⟩ | (simp (maxDischargeDepth := 6) [go_sem, *]; done)
  clear hK K
  (try simp only [Act.put, List.setIfInBounds_toArray, List.set_cons_zero, List.set_cons_succ])
  refine wpAnyH_ready (rs := [3]) (by kernel_rfl) (by simp) ?_
  refine AllReadyH.cons (by rw [List.getElem?_toArray]; rfl) (fun K hK => ?_) AllReadyH.nil
  go_simp
  refine (eqTable_same ep us _ _ n n n M _ hm (.inr ⟨_, _, rfl, RX.cs (Nat.le_refl _)⟩) (.inr ⟨_, _, rfl, R9.cs (Nat.le_refl _)⟩)).mono ?_; rintro e w10 ⟨rfl, hb⟩; clear n0 n1 n2 n3 m0 m1 m2 m3; (replace N := N.below hb); (replace X := X.below hb); (replace B := B.trans (hb.mono B.size)); clear hb; obtain ⟨n0, n1, n2, n3⟩ := id N; obtain ⟨m0, m1, m2, m3⟩ := id X
  (try go_wp2_with fail)
  refine hK.out _ _ ?_ (fun hHeld => ?_)
  · first | exact ⟨n1, n2, n3, m1, m2, m3⟩ | (simp (maxDischargeDepth := 6) [go_sem, *]; done)
  clear hK K
  (try simp only [Act.put, List.setIfInBounds_toArray, List.set_cons_zero, List.set_cons_succ])
  refine wpAnyH_take (i := 4) (v := ?_) (by rw [List.getElem?_toArray]; rfl) (by kernel_rfl) (by kernel_rfl) (by kernel_rfl) (by intro _ _ _ h; exact h) (Or.inl ⟨by rfl, ?_⟩) (by assumption) ?_
  rotate_left
  · (intro w hSw; (try dsimp only at hSw); go_simp; all_goals with_reducible rfl)
  (try simp only [Act.put, List.setIfInBounds_toArray, List.set_cons_zero, List.set_cons_succ])
  refine wpAnyH_done (by kernel_rfl) ?_ _
  go_wp2_with fail
  go_ret
  exact ⟨rfl, B⟩
end Go.Proofs.Ytkhmegjbhbjihaa
