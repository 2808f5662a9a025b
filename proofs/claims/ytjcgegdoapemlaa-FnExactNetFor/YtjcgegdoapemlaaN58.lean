/- The contract of impl.NetOk, and the walk of the exact law of NetOk. -/
import Derived.Test.YtjcgegdoapemlaaN57
import Derived.Deep.RegionHeld3
import Derived.Deep.DeepCutAuto
import Derived.WalkKit
import Derived.WalkSpells
import Derived.WalkLawsBesides
import Derived.Deep.RegionHeld
namespace Go.Proofs.Ytjcgegdoapemlaa
open Go.RowKit
set_option linter.unusedVariables false
set_option maxHeartbeats 2000000 in
theorem implNetOk_any (nx : Int) (a : Option Addr) (n c : Nat) (M : Nat → FT) (w : World) (hm : n ≤ maxLen) (hf : SrcC w a (n * 5) (MFFlight M)) (hs : ∀ i, i < n → ((M i).2.2.2.1).size ≤ maxLen) (hw : ∀ i, i < n → (Lit.int .i64 (M i).1).wf = true) :
    Calls Try.prog 15 #[.agg #[.int .i64 nx, .slice a n c]] w fun e w' => e = .returned (.bool (netB nx M n)) ∧ Below w.heap.size w w' := by
  have A0 := Below.nw w (.cells #[.int .i64 nx, .slice a n c] 29)
  have C := mailOf_any nx a n c M _ hm (hf.below A0) hs hw
  clear hf hs hw
  go_enter Try.func15, Try.ntmps15
  go_wp2_with fail
  refine C.mono ?_
  rintro e w1 ⟨V, rfl, h0, h1, hb⟩
  have B := A0.trans (hb.mono A0.size)
  clear C hb A0
  cases hB : netB nx M n
  · have hV := h0 hB
    subst hV
    clear h0 h1
    unfold zml
    go_wp2_with fail
    go_ret
    exact ⟨ret_bool hB.symm, B.alloc B.size _⟩
  · obtain ⟨bm, br, rfl, -⟩ := h1 hB
    clear h0 h1
    go_wp2_with fail
    go_ret
    exact ⟨ret_bool hB.symm, B.alloc B.size _⟩
set_option maxHeartbeats 8000000 in
theorem lawNetOk (nx : Int) (a : Option Addr) (n c : Nat) (M : Nat → FT) (w : World) (hm : n ≤ maxLen) (hsrc : SrcC w a (n * 5) (MFFlight M)) (hs : ∀ i, i < n → ((M i).2.2.2.1).size ≤ maxLen) (hw : ∀ i, i < n → (Lit.int .i64 (M i).1).wf = true) :
    Calls Try.prog 3 #[.agg #[.int .i64 nx, .slice a n c]] w fun e w' => e = .returned (.bool true) ∧ Below w.heap.size w w' := by
  have HA : Hid (SrcC w a (n * 5) (MFFlight M)) := hsrc
  have N := NB.new w nx a n c 24
  have B := Below.nw w (.cells #[.int .i64 nx, .slice a n c] 24)
  have C := szNet_any nx a n c M _ hm (hsrc.below B) hs
  clear hsrc
  go_enter Try.func3, Try.ntmps3
  go_wp2_with fail
  refine C.mono ?_
  rintro e w1 ⟨L, rfl, hL, hb⟩
  replace N := N.below hb
  replace B := B.trans (hb.mono B.size)
  clear hb C
  by_cases hneg : L < 0
  · clear hL
    go_wp2_with fail
    go_ret
    exact ⟨rfl, B⟩
  obtain ⟨hn, -⟩ := hL (by omega)
  clear hL
  have CS := fun (w' : World) (a' : Option Addr) (h : SrcC w' a' (n * 5) (MFFlight M)) => specNetOk_any nx a' n n M w' hm h hs
  have CI := fun (w' : World) (a' : Option Addr) (h : SrcC w' a' (n * 5) (MFFlight M)) => implNetOk_any nx a' n n M w' hm h hs hw
  generalize netB nx M n = jb at *
  clear hs hw
  obtain ⟨n0, n1, n2⟩ := id N
  go_wp2_with fail
  refine (toNet_any nx a n c M _ hn (HA.out.below B)).mono ?_
  rintro e w2 ⟨rfl, R2, hb⟩
  replace N := N.below hb
  replace B := B.trans (hb.mono B.size)
  clear hb n0 n1 n2
  go_wp2_with fail
  refine (CS _ _ (.inr ⟨_, _, rfl, R2.cs (Nat.le_refl _)⟩)).mono ?_
  rintro e w3 ⟨rfl, hb⟩
  replace N := N.below hb
  replace B := B.trans (hb.mono B.size)
  clear hb CS R2
  obtain ⟨n0, n1, n2⟩ := id N
  go_wp2_with fail
  refine (toNet_any nx a n c M _ hn (HA.out.below B)).mono ?_
  rintro e w4 ⟨rfl, RX, hb⟩
  replace N := N.below hb
  replace B := B.trans (hb.mono B.size)
  clear hb n0 n1 n2
  generalize w3.heap.size + 3 = b2 at *
  have A4 := Below.nw w4 (.cells #[.int .i64 nx, .slice (some ⟨b2, 0, none⟩) n n] 29)
  have X := NB.new w4 nx (some ⟨b2, 0, none⟩) n n 29
  replace N := N.below A4
  replace B := B.trans (A4.mono B.size)
  replace RX := RowF.below' A4 RX
  clear A4
  go_upto_region 7 with fail
  generalize w4.alloc (.cells #[.int .i64 nx, .slice (some ⟨b2, 0, none⟩) n n] 29) = w5 at *
  generalize w4.heap.size = bx at *
  obtain ⟨n0, n1, n2⟩ := id N; obtain ⟨m0, m1, m2⟩ := id X
  go_wp2_with fail
  refine (CI _ _ (.inr ⟨_, _, rfl, RX.cs (Nat.le_refl _)⟩)).mono ?_
  rintro e w6 ⟨rfl, hb⟩
  clear n0 n1 n2 m0 m1 m2
  replace N := N.below hb
  replace X := X.below hb
  replace B := B.trans (hb.mono B.size)
  replace RX := RowF.below' hb RX
  clear hb CI
  obtain ⟨n0, n1, n2⟩ := id N; obtain ⟨m0, m1, m2⟩ := id X
  go_wp2_with fail
  refine wp_region_held_drew (S := (fun w' => w'.cell? ⟨w.heap.size, 0, none⟩ = some (.int .i64 nx) ∧ w'.cell? ⟨w.heap.size, 1, none⟩ = some (.slice a n c) ∧ w'.cell? ⟨bx, 0, none⟩ = some (.int .i64 nx) ∧ w'.cell? ⟨bx, 1, none⟩ = some (.slice (some ⟨b2, 0, none⟩) n n))) (by kernel_rfl) ?_ (fun hHeld => ?_)
  · first | exact ⟨n1, n2, m1, m2⟩ | (simp (maxDischargeDepth := 6) [go_sem, *]; done)
  refine wpAnyH_take (i := 0) (v := ?_) (by rw [List.getElem?_toArray]; rfl) (by kernel_rfl) (by kernel_rfl) (by kernel_rfl) (by intro _ _ _ h; exact h) (Or.inl ⟨by rfl, ?_⟩) (by assumption) ?_
  rotate_left
  · (intro w hSw; (try dsimp only at hSw); go_simp; all_goals with_reducible rfl)
  (try simp only [Act.put, List.setIfInBounds_toArray, List.set_cons_zero, List.set_cons_succ])
  refine wpAnyH_take (i := 1) (v := ?_) (by rw [List.getElem?_toArray]; rfl) (by kernel_rfl) (by kernel_rfl) (by kernel_rfl) (by intro _ _ _ h; exact h) (Or.inl ⟨by rfl, ?_⟩) (by assumption) ?_
  rotate_left
  · (intro w hSw; (try dsimp only at hSw); go_simp; all_goals with_reducible rfl)
  (try simp only [Act.put, List.setIfInBounds_toArray, List.set_cons_zero, List.set_cons_succ])
  refine wpAnyH_ready (rs := [2]) (by kernel_rfl) (by simp) ?_
  refine AllReadyH.cons (by rw [List.getElem?_toArray]; rfl) (fun K hK => ?_) AllReadyH.nil
  go_simp
  refine (toNet_any nx a n c M _ hn (HA.out.below (Below.drew B))).mono ?_; rintro e w9 ⟨rfl, R9, hb⟩; clear n0 n1 n2 m0 m1 m2; (replace N := N.drew.below hb); (replace X := X.drew.below hb); (replace RX := RowF.below' hb (show RowF _ b2 38 (n * 5) (n * 5) (MFFlight M) from RX)); (replace B := (Below.drew B).trans (hb.mono (Below.drew B).size)); clear hb; obtain ⟨n0, n1, n2⟩ := id N; obtain ⟨m0, m1, m2⟩ := id X
  (try go_wp2_with fail)
  refine hK.out _ _ ?_ (fun hHeld => ?_)
  · first | exact ⟨n1, n2, m1, m2⟩ | (simp (maxDischargeDepth := 6) [go_sem, *]; done)
  clear hK K
  (try simp only [Act.put, List.setIfInBounds_toArray, List.set_cons_zero, List.set_cons_succ])
  refine wpAnyH_ready (rs := [3]) (by kernel_rfl) (by simp) ?_
  refine AllReadyH.cons (by rw [List.getElem?_toArray]; rfl) (fun K hK => ?_) AllReadyH.nil
  go_simp
  refine (eqNet_same nx _ _ n n n M _ hm (.inr ⟨_, _, rfl, RX.cs (Nat.le_refl _)⟩) (.inr ⟨_, _, rfl, R9.cs (Nat.le_refl _)⟩)).mono ?_; rintro e w10 ⟨rfl, hb⟩; clear n0 n1 n2 m0 m1 m2; (replace N := N.below hb); (replace X := X.below hb); (replace B := B.trans (hb.mono B.size)); clear hb; obtain ⟨n0, n1, n2⟩ := id N; obtain ⟨m0, m1, m2⟩ := id X
  (try go_wp2_with fail)
  refine hK.out _ _ ?_ (fun hHeld => ?_)
  · first | exact ⟨n1, n2, m1, m2⟩ | (simp (maxDischargeDepth := 6) [go_sem, *]; done)
  clear hK K
  (try simp only [Act.put, List.setIfInBounds_toArray, List.set_cons_zero, List.set_cons_succ])
  refine wpAnyH_take (i := 4) (v := ?_) (by rw [List.getElem?_toArray]; rfl) (by kernel_rfl) (by kernel_rfl) (by kernel_rfl) (by intro _ _ _ h; exact h) (Or.inl ⟨by rfl, ?_⟩) (by assumption) ?_
  rotate_left
  · (intro w hSw; (try dsimp only at hSw); go_simp; all_goals with_reducible rfl)
  (try simp only [Act.put, List.setIfInBounds_toArray, List.set_cons_zero, List.set_cons_succ])
  refine wpAnyH_done (by kernel_rfl) ?_ _
  go_wp2_with fail
  go_ret
  exact ⟨rfl, B⟩
end Go.Proofs.Ytjcgegdoapemlaa
