/- The walks of the exact laws of BusyStill, GateSpan. -/
import Derived.Test.YtcakhfobkbgfoaaDoorC146
import Derived.Test.YtcakhfobkbgfoaaDoorC141
import Derived.Test.YtcakhfobkbgfoaaDoorW5
import Derived.Deep.RegionHeld3
import Derived.Deep.DeepCutAuto
import Derived.WalkKit
import Derived.WalkSpells
import Derived.WalkLawsBesides
import Derived.Deep.RegionHeld
namespace Go.Proofs.YtcakhfobkbgfoaaDoor
open Go.RowKit
set_option linter.unusedVariables false
set_option maxRecDepth 100000 in
set_option maxHeartbeats 8000000 in
theorem lawBusyStill (n d f x c : Int) (w : World) (E : EM w) (g0' : (Lit.int .i64 n).wf = true) (g1' : (Lit.int .i64 d).wf = true) (g2' : (Lit.int .i64 f).wf = true) (g3' : (Lit.int .i64 x).wf = true) (g4' : (Lit.int .i64 c).wf = true) :
    Calls Tryd.prog 7 #[.agg #[.int .i64 n, .int .i64 d], .int .i64 f, .int .i64 x, .int .i64 c] w fun e w' => e = .returned (.bool true) ∧ Below w.heap.size w w' := by
  clear g0' g1' g2' g3' g4'
  have B := Below.nw w (.cells #[.int .i64 n, .int .i64 d] 46)
  have D := Bx2.new w (.int .i64 n) (.int .i64 d) 46
  have CS := fun w' => specBusyStill_any n d f x c w'
  have CI := fun w' (E : EM w') => implBusyStill_any n d f x c w' E
  generalize bsB n d f x c = Z at *
  have hz : (Z != Z) = false := by simp
  go_enter Tryd.func7, Tryd.ntmps7
  go_upto_region 1 with fail
  generalize w.alloc (.cells #[.int .i64 n, .int .i64 d] 46) = v at *
  obtain ⟨d0, d1, d2, d3, d4⟩ := id D
  go_wp2_with fail
  refine (toDrift_any n d _).mono ?_
  rintro e v1 ⟨rfl, hb⟩
  clear d0 d1 d2 d3 d4
  replace D := D.below hb
  replace B := B.trans (hb.mono B.size)
  clear hb
  go_wp2_with fail
  refine (CS _).mono ?_
  rintro e v2 ⟨rfl, hb⟩
  replace D := D.below hb
  replace B := B.trans (hb.mono B.size)
  clear hb
  obtain ⟨d0, d1, d2, d3, d4⟩ := id D
  go_wp2_with fail
  refine (toDrift_any n d _).mono ?_
  rintro e v3 ⟨rfl, hb⟩
  clear d0 d1 d2 d3 d4
  replace D := D.below hb
  replace B := B.trans (hb.mono B.size)
  clear hb
  go_wp2_with fail
  refine (CI _ (E.below B)).mono ?_
  rintro e v4 ⟨rfl, hb⟩
  replace D := D.below hb
  replace B := B.trans (hb.mono B.size)
  clear hb
  go_wp2_with fail
  go_ret
  exact ⟨rfl, B⟩
theorem tail0 {G F : World → Prop} {R : Prop} (h1 : (∀ vx, F vx → G vx) → R) (h2 : ∀ vx, F vx → G vx) : R := h1 h2
theorem tail1 {G F : Nat → World → Prop} {R : Prop} (h1 : (∀ k vx, F k vx → G k vx) → R) (h2 : ∀ k vx, F k vx → G k vx) : R := h1 h2
set_option maxRecDepth 100000 in
set_option maxHeartbeats 16000000 in
theorem lawGateSpan (lo hi n d x : Int) (w : World) (E : ES w) (g0' : (Lit.int .i64 lo).wf = true) (g1' : (Lit.int .i64 hi).wf = true) (g2' : (Lit.int .i64 n).wf = true) (g3' : (Lit.int .i64 d).wf = true) (g4' : (Lit.int .i64 x).wf = true) :
    Calls Tryd.prog 5 #[.agg #[.int .i64 lo, .int .i64 hi], .agg #[.int .i64 n, .int .i64 d], .int .i64 x] w fun e w' => e = .returned (.bool true) ∧ Below w.heap.size w w' := by
  clear g0' g1' g2' g3' g4'
  have A0 := Below.nw w (.cells #[.int .i64 lo, .int .i64 hi] 45)
  have A1 := Below.nw (w.alloc (.cells #[.int .i64 lo, .int .i64 hi] 45)) (.cells #[.int .i64 n, .int .i64 d] 46)
  have P := (Bx2.new w (.int .i64 lo) (.int .i64 hi) 45).below A1
  have D := Bx2.new (w.alloc (.cells #[.int .i64 lo, .int .i64 hi] 45)) (.int .i64 n) (.int .i64 d) 46
  have B := A0.trans (A1.mono A0.size)
  simp only [World.size_alloc] at D
  clear A0 A1
  have CS := fun w' => specGateSpan_any lo hi n d x w'
  have CI := fun w' (E : ES w') => implGateSpan_any lo hi n d x w' E
  have TI := fun w' => toIval_any lo hi w'
  have TD := fun w' => toDrift_any n d w'
  generalize gsL lo hi n d x = X at *
  generalize gsH lo hi n d x = Y at *
  generalize gsB lo hi n d x = Z at *
  have hz : (Z != Z) = false := by simp
  go_enter Tryd.func5, Tryd.ntmps5
  go_upto_region 1 with fail
  generalize (w.alloc (.cells #[.int .i64 lo, .int .i64 hi] 45)).alloc (.cells #[.int .i64 n, .int .i64 d] 46) = v at *
  generalize w.heap.size + 1 = jd at *
  have SK : Hid (∀ w', Below v.heap.size v w' → ((fun w' => w'.cell? ⟨w.heap.size, 0, none⟩ = some (.int .i64 lo) ∧ w'.cell? ⟨w.heap.size, 1, none⟩ = some (.int .i64 hi) ∧ w'.cell? ⟨jd, 0, none⟩ = some (.int .i64 n) ∧ w'.cell? ⟨jd, 1, none⟩ = some (.int .i64 d))) w') := fun w' hw => ⟨(P.below hw).2.1, (P.below hw).2.2.1, (D.below hw).2.1, (D.below hw).2.2.1⟩
  go_cut [7, 8] (fun s7 s8 wx => ∃ k0 : Nat, s7 = .pointer (some ⟨k0, 0, none⟩) ∧ s8 = .bool Z ∧ Bx2 wx k0 (.int .i64 X) (.int .i64 Y) ∧ Below v.heap.size v wx)
  case first => as_aux_lemma =>
    refine wp_region_held_drew (S := (fun w' => w'.cell? ⟨w.heap.size, 0, none⟩ = some (.int .i64 lo) ∧ w'.cell? ⟨w.heap.size, 1, none⟩ = some (.int .i64 hi) ∧ w'.cell? ⟨jd, 0, none⟩ = some (.int .i64 n) ∧ w'.cell? ⟨jd, 1, none⟩ = some (.int .i64 d))) (by kernel_rfl) ?_ (fun hHeld => ?_)
    · first | exact SK.out _ XB | exact SK.out _ (Below.drew (Below.refl _ _))
    have XB : Below v.heap.size v v.drew := Below.drew (Below.refl _ _)
    generalize v.drew = vx at *
    refine wpAnyH_take (i := 0) (v := ?_) (by rw [List.getElem?_toArray]; rfl) (by kernel_rfl) (by kernel_rfl) (by kernel_rfl) (by intro _ _ _ h; exact h) (Or.inl ⟨by rfl, ?_⟩) (by assumption) ?_
    rotate_left
    · (intro w hSw; (try dsimp only at hSw); go_simp; all_goals with_reducible rfl)
    (try simp only [Act.put, List.setIfInBounds_toArray, List.set_cons_zero, List.set_cons_succ])
    refine wpAnyH_take (i := 2) (v := ?_) (by rw [List.getElem?_toArray]; rfl) (by kernel_rfl) (by kernel_rfl) (by kernel_rfl) (by intro _ _ _ h; exact h) (Or.inl ⟨by rfl, ?_⟩) (by assumption) ?_
    rotate_left
    · (intro w hSw; (try dsimp only at hSw); go_simp; all_goals with_reducible rfl)
    (try simp only [Act.put, List.setIfInBounds_toArray, List.set_cons_zero, List.set_cons_succ])
    refine wpAnyH_take (i := 4) (v := ?_) (by rw [List.getElem?_toArray]; rfl) (by kernel_rfl) (by kernel_rfl) (by kernel_rfl) (by intro _ _ _ h; exact h) (Or.inl ⟨by rfl, ?_⟩) (by assumption) ?_
    rotate_left
    · (intro w hSw; (try dsimp only at hSw); go_simp; all_goals with_reducible rfl)
    (try simp only [Act.put, List.setIfInBounds_toArray, List.set_cons_zero, List.set_cons_succ])
    apply tail1 (F := (fun k0 vx => v.heap.size ≤ k0 ∧ Bx2 vx k0 (.int .i64 0) (.int .i64 0) ∧ Below v.heap.size v vx))
    intro T1_3_5_9
    apply tail1 (F := (fun k0 vx => v.heap.size ≤ k0 ∧ Bx2 vx k0 (.int .i64 0) (.int .i64 0) ∧ Below v.heap.size v vx))
    intro T1_3_9
    apply tail0 (F := (fun vx => Below v.heap.size v vx))
    intro T1_3_5
    apply tail1 (F := (fun k0 vx => v.heap.size ≤ k0 ∧ Bx2 vx k0 (.int .i64 0) (.int .i64 0) ∧ Below v.heap.size v vx))
    intro T1_9
    apply tail0 (F := (fun vx => Below v.heap.size v vx))
    intro T1_3
    apply tail1 (F := (fun k0 vx => v.heap.size ≤ k0 ∧ Bx2 vx k0 (.int .i64 0) (.int .i64 0) ∧ Below v.heap.size v vx))
    intro T9
    apply tail0 (F := (fun vx => Below v.heap.size v vx))
    intro T1
    refine wpAnyH_ready (rs := [1, 9]) (by kernel_rfl) (by simp) ?_
    refine (AllReadyH.cons (by rw [List.getElem?_toArray]; rfl) (fun K hK => ?_) (AllReadyH.cons (by rw [List.getElem?_toArray]; rfl) (fun K hK => ?_) AllReadyH.nil))
    · go_simp
      refine (TI vx).mono ?_; rintro ee vx ⟨rfl, hbl⟩; (replace XB := XB.trans (hbl.mono XB.size)); (clear hbl)
      (try go_wp2_with fail)
      refine hK.out _ _ ?_ (fun hHeld => ?_)
      · first | exact SK.out _ XB | exact SK.out _ (Below.drew (Below.refl _ _))
      clear hK K
      (try simp only [Act.put, List.setIfInBounds_toArray, List.set_cons_zero, List.set_cons_succ])
      exact T1 _ XB
    · go_simp
      (have K0 := Bx2.new vx (.int .i64 0) (.int .i64 0) 25); (have hk0 := XB.size); (have hbl := Below.nw vx (.cells #[.int .i64 0, .int .i64 0] 25)); (replace XB := XB.trans (hbl.mono XB.size)); (clear hbl); (generalize vx.heap.size = k0 at *); (generalize vx.alloc (.cells #[.int .i64 0, .int .i64 0] 25) = vx at *)
      refine hK.out _ _ ?_ (fun hHeld => ?_)
      · first | exact SK.out _ XB | exact SK.out _ (Below.drew (Below.refl _ _))
      clear hK K
      (try simp only [Act.put, List.setIfInBounds_toArray, List.set_cons_zero, List.set_cons_succ])
      exact T9 _ _ ⟨hk0, K0, XB⟩
    intro vx hF
    have XB : Below v.heap.size v vx := hF
    have hHeld : ((fun w' => w'.cell? ⟨w.heap.size, 0, none⟩ = some (.int .i64 lo) ∧ w'.cell? ⟨w.heap.size, 1, none⟩ = some (.int .i64 hi) ∧ w'.cell? ⟨jd, 0, none⟩ = some (.int .i64 n) ∧ w'.cell? ⟨jd, 1, none⟩ = some (.int .i64 d))) vx := SK.out _ XB 
    refine wpAnyH_ready (rs := [3, 9]) (by kernel_rfl) (by simp) ?_
    refine (AllReadyH.cons (by rw [List.getElem?_toArray]; rfl) (fun K hK => ?_) (AllReadyH.cons (by rw [List.getElem?_toArray]; rfl) (fun K hK => ?_) AllReadyH.nil))
    · go_simp
      refine (TD vx).mono ?_; rintro ee vx ⟨rfl, hbl⟩; (replace XB := XB.trans (hbl.mono XB.size)); (clear hbl)
      (try go_wp2_with fail)
      refine hK.out _ _ ?_ (fun hHeld => ?_)
      · first | exact SK.out _ XB | exact SK.out _ (Below.drew (Below.refl _ _))
      clear hK K
      (try simp only [Act.put, List.setIfInBounds_toArray, List.set_cons_zero, List.set_cons_succ])
      exact T1_3 _ XB
    · go_simp
      (have K0 := Bx2.new vx (.int .i64 0) (.int .i64 0) 25); (have hk0 := XB.size); (have hbl := Below.nw vx (.cells #[.int .i64 0, .int .i64 0] 25)); (replace XB := XB.trans (hbl.mono XB.size)); (clear hbl); (generalize vx.heap.size = k0 at *); (generalize vx.alloc (.cells #[.int .i64 0, .int .i64 0] 25) = vx at *)
      refine hK.out _ _ ?_ (fun hHeld => ?_)
      · first | exact SK.out _ XB | exact SK.out _ (Below.drew (Below.refl _ _))
      clear hK K
      (try simp only [Act.put, List.setIfInBounds_toArray, List.set_cons_zero, List.set_cons_succ])
      exact T1_9 _ _ ⟨hk0, K0, XB⟩
    intro k0 vx hF
    obtain ⟨hk0, K0, XB⟩ := hF
    have hHeld : ((fun w' => w'.cell? ⟨w.heap.size, 0, none⟩ = some (.int .i64 lo) ∧ w'.cell? ⟨w.heap.size, 1, none⟩ = some (.int .i64 hi) ∧ w'.cell? ⟨jd, 0, none⟩ = some (.int .i64 n) ∧ w'.cell? ⟨jd, 1, none⟩ = some (.int .i64 d))) vx := SK.out _ XB 
    refine wpAnyH_ready (rs := [1]) (by kernel_rfl) (by simp) ?_
    refine (AllReadyH.cons (by rw [List.getElem?_toArray]; rfl) (fun K hK => ?_) AllReadyH.nil)
    · go_simp
      refine (TI vx).mono ?_; rintro ee vx ⟨rfl, hbl⟩; (replace XB := XB.trans (hbl.mono XB.size)); (replace K0 := K0.below hbl); (clear hbl)
      (try go_wp2_with fail)
      refine hK.out _ _ ?_ (fun hHeld => ?_)
      · first | exact SK.out _ XB | exact SK.out _ (Below.drew (Below.refl _ _))
      clear hK K
      (try simp only [Act.put, List.setIfInBounds_toArray, List.set_cons_zero, List.set_cons_succ])
      exact T1_9 _ _ ⟨hk0, K0, XB⟩
    intro vx hF
    have XB : Below v.heap.size v vx := hF
    have hHeld : ((fun w' => w'.cell? ⟨w.heap.size, 0, none⟩ = some (.int .i64 lo) ∧ w'.cell? ⟨w.heap.size, 1, none⟩ = some (.int .i64 hi) ∧ w'.cell? ⟨jd, 0, none⟩ = some (.int .i64 n) ∧ w'.cell? ⟨jd, 1, none⟩ = some (.int .i64 d))) vx := SK.out _ XB 
    refine wpAnyH_ready (rs := [5, 9]) (by kernel_rfl) (by simp) ?_
    refine (AllReadyH.cons (by rw [List.getElem?_toArray]; rfl) (fun K hK => ?_) (AllReadyH.cons (by rw [List.getElem?_toArray]; rfl) (fun K hK => ?_) AllReadyH.nil))
    · go_simp
      refine (CS vx).mono ?_; rintro ee vx ⟨rfl, hbl⟩; (replace XB := XB.trans (hbl.mono XB.size)); (clear hbl)
      (try go_wp2_with fail)
      refine hK.out _ _ ?_ (fun hHeld => ?_)
      · first | exact SK.out _ XB | exact SK.out _ (Below.drew (Below.refl _ _))
      clear hK K
      (try simp only [Act.put, List.setIfInBounds_toArray, List.set_cons_zero, List.set_cons_succ])
      refine wpAnyH_take (i := 6) (v := ?_) (by rw [List.getElem?_toArray]; rfl) (by kernel_rfl) (by kernel_rfl) (by kernel_rfl) (by intro _ _ _ h; exact h) (Or.inl ⟨by rfl, ?_⟩) (by assumption) ?_
      rotate_left
      · (intro w hSw; (try dsimp only at hSw); go_simp; all_goals with_reducible rfl)
      (try simp only [Act.put, List.setIfInBounds_toArray, List.set_cons_zero, List.set_cons_succ])
      refine wpAnyH_take (i := 7) (v := ?_) (by rw [List.getElem?_toArray]; rfl) (by kernel_rfl) (by kernel_rfl) (by kernel_rfl) (by intro _ _ _ h; exact h) (Or.inl ⟨by rfl, ?_⟩) (by assumption) ?_
      rotate_left
      · (intro w hSw; (try dsimp only at hSw); go_simp; all_goals with_reducible rfl)
      (try simp only [Act.put, List.setIfInBounds_toArray, List.set_cons_zero, List.set_cons_succ])
      refine wpAnyH_take (i := 8) (v := ?_) (by rw [List.getElem?_toArray]; rfl) (by kernel_rfl) (by kernel_rfl) (by kernel_rfl) (by intro _ _ _ h; exact h) (Or.inl ⟨by rfl, ?_⟩) (by assumption) ?_
      rotate_left
      · (intro w hSw; (try dsimp only at hSw); go_simp; all_goals with_reducible rfl)
      (try simp only [Act.put, List.setIfInBounds_toArray, List.set_cons_zero, List.set_cons_succ])
      exact T1_3_5 _ XB
    · go_simp
      (have K0 := Bx2.new vx (.int .i64 0) (.int .i64 0) 25); (have hk0 := XB.size); (have hbl := Below.nw vx (.cells #[.int .i64 0, .int .i64 0] 25)); (replace XB := XB.trans (hbl.mono XB.size)); (clear hbl); (generalize vx.heap.size = k0 at *); (generalize vx.alloc (.cells #[.int .i64 0, .int .i64 0] 25) = vx at *)
      refine hK.out _ _ ?_ (fun hHeld => ?_)
      · first | exact SK.out _ XB | exact SK.out _ (Below.drew (Below.refl _ _))
      clear hK K
      (try simp only [Act.put, List.setIfInBounds_toArray, List.set_cons_zero, List.set_cons_succ])
      exact T1_3_9 _ _ ⟨hk0, K0, XB⟩
    intro k0 vx hF
    obtain ⟨hk0, K0, XB⟩ := hF
    have hHeld : ((fun w' => w'.cell? ⟨w.heap.size, 0, none⟩ = some (.int .i64 lo) ∧ w'.cell? ⟨w.heap.size, 1, none⟩ = some (.int .i64 hi) ∧ w'.cell? ⟨jd, 0, none⟩ = some (.int .i64 n) ∧ w'.cell? ⟨jd, 1, none⟩ = some (.int .i64 d))) vx := SK.out _ XB 
    refine wpAnyH_ready (rs := [3]) (by kernel_rfl) (by simp) ?_
    refine (AllReadyH.cons (by rw [List.getElem?_toArray]; rfl) (fun K hK => ?_) AllReadyH.nil)
    · go_simp
      refine (TD vx).mono ?_; rintro ee vx ⟨rfl, hbl⟩; (replace XB := XB.trans (hbl.mono XB.size)); (replace K0 := K0.below hbl); (clear hbl)
      (try go_wp2_with fail)
      refine hK.out _ _ ?_ (fun hHeld => ?_)
      · first | exact SK.out _ XB | exact SK.out _ (Below.drew (Below.refl _ _))
      clear hK K
      (try simp only [Act.put, List.setIfInBounds_toArray, List.set_cons_zero, List.set_cons_succ])
      exact T1_3_9 _ _ ⟨hk0, K0, XB⟩
    intro vx hF
    have XB : Below v.heap.size v vx := hF
    have hHeld : ((fun w' => w'.cell? ⟨w.heap.size, 0, none⟩ = some (.int .i64 lo) ∧ w'.cell? ⟨w.heap.size, 1, none⟩ = some (.int .i64 hi) ∧ w'.cell? ⟨jd, 0, none⟩ = some (.int .i64 n) ∧ w'.cell? ⟨jd, 1, none⟩ = some (.int .i64 d))) vx := SK.out _ XB 
    refine wpAnyH_ready (rs := [9]) (by kernel_rfl) (by simp) ?_
    refine (AllReadyH.cons (by rw [List.getElem?_toArray]; rfl) (fun K hK => ?_) AllReadyH.nil)
    · go_simp
      (have K0 := Bx2.new vx (.int .i64 0) (.int .i64 0) 25); (have hk0 := XB.size); (have hbl := Below.nw vx (.cells #[.int .i64 0, .int .i64 0] 25)); (replace XB := XB.trans (hbl.mono XB.size)); (clear hbl); (generalize vx.heap.size = k0 at *); (generalize vx.alloc (.cells #[.int .i64 0, .int .i64 0] 25) = vx at *)
      refine hK.out _ _ ?_ (fun hHeld => ?_)
      · first | exact SK.out _ XB | exact SK.out _ (Below.drew (Below.refl _ _))
      clear hK K
      (try simp only [Act.put, List.setIfInBounds_toArray, List.set_cons_zero, List.set_cons_succ])
      exact T1_3_5_9 _ _ ⟨hk0, K0, XB⟩
    intro k0 vx hF
    obtain ⟨hk0, K0, XB⟩ := hF
    have hHeld : ((fun w' => w'.cell? ⟨w.heap.size, 0, none⟩ = some (.int .i64 lo) ∧ w'.cell? ⟨w.heap.size, 1, none⟩ = some (.int .i64 hi) ∧ w'.cell? ⟨jd, 0, none⟩ = some (.int .i64 n) ∧ w'.cell? ⟨jd, 1, none⟩ = some (.int .i64 d))) vx := SK.out _ XB 
    refine wpAnyH_ready (rs := [5]) (by kernel_rfl) (by simp) ?_
    refine (AllReadyH.cons (by rw [List.getElem?_toArray]; rfl) (fun K hK => ?_) AllReadyH.nil)
    · go_simp
      refine (CS vx).mono ?_; rintro ee vx ⟨rfl, hbl⟩; (replace XB := XB.trans (hbl.mono XB.size)); (replace K0 := K0.below hbl); (clear hbl)
      (try go_wp2_with fail)
      refine hK.out _ _ ?_ (fun hHeld => ?_)
      · first | exact SK.out _ XB | exact SK.out _ (Below.drew (Below.refl _ _))
      clear hK K
      (try simp only [Act.put, List.setIfInBounds_toArray, List.set_cons_zero, List.set_cons_succ])
      refine wpAnyH_take (i := 6) (v := ?_) (by rw [List.getElem?_toArray]; rfl) (by kernel_rfl) (by kernel_rfl) (by kernel_rfl) (by intro _ _ _ h; exact h) (Or.inl ⟨by rfl, ?_⟩) (by assumption) ?_
      rotate_left
      · (intro w hSw; (try dsimp only at hSw); go_simp; all_goals with_reducible rfl)
      (try simp only [Act.put, List.setIfInBounds_toArray, List.set_cons_zero, List.set_cons_succ])
      refine wpAnyH_take (i := 7) (v := ?_) (by rw [List.getElem?_toArray]; rfl) (by kernel_rfl) (by kernel_rfl) (by kernel_rfl) (by intro _ _ _ h; exact h) (Or.inl ⟨by rfl, ?_⟩) (by assumption) ?_
      rotate_left
      · (intro w hSw; (try dsimp only at hSw); go_simp; all_goals with_reducible rfl)
      (try simp only [Act.put, List.setIfInBounds_toArray, List.set_cons_zero, List.set_cons_succ])
      refine wpAnyH_take (i := 8) (v := ?_) (by rw [List.getElem?_toArray]; rfl) (by kernel_rfl) (by kernel_rfl) (by kernel_rfl) (by intro _ _ _ h; exact h) (Or.inl ⟨by rfl, ?_⟩) (by assumption) ?_
      rotate_left
      · (intro w hSw; (try dsimp only at hSw); go_simp; all_goals with_reducible rfl)
      (try simp only [Act.put, List.setIfInBounds_toArray, List.set_cons_zero, List.set_cons_succ])
      exact T1_3_5_9 _ _ ⟨hk0, K0, XB⟩
    intro k0 vx hF
    obtain ⟨hk0, K0, XB⟩ := hF
    have hHeld : ((fun w' => w'.cell? ⟨w.heap.size, 0, none⟩ = some (.int .i64 lo) ∧ w'.cell? ⟨w.heap.size, 1, none⟩ = some (.int .i64 hi) ∧ w'.cell? ⟨jd, 0, none⟩ = some (.int .i64 n) ∧ w'.cell? ⟨jd, 1, none⟩ = some (.int .i64 d))) vx := SK.out _ XB 
    (obtain ⟨za0, zb0, zc0, zd0, ze0⟩ := id K0)
    refine wpAnyH_ready (rs := [10]) (by kernel_rfl) (by simp) ?_
    refine (AllReadyH.cons (by rw [List.getElem?_toArray]; rfl) (fun K hK => ?_) AllReadyH.nil)
    go_simp
    (clear za0 zb0 zc0 zd0 ze0); (replace XB := (XB.setCell (p := ⟨k0, 0, none⟩) hk0 (.int .i64 X)).setCell (p := ⟨k0, 1, none⟩) hk0 (.int .i64 Y)); (replace K0 := (K0.set0 (.int .i64 X)).set1 (.int .i64 Y)); (generalize (vx.setCell ⟨k0, 0, none⟩ (.int .i64 X)).setCell ⟨k0, 1, none⟩ (.int .i64 Y) = vx at *); (obtain ⟨za0, zb0, zc0, zd0, ze0⟩ := id K0)
    refine hK.out _ _ ?_ (fun hHeld => ?_)
    · first | exact SK.out _ XB | exact SK.out _ (Below.drew (Below.refl _ _))
    clear hK K
    (try simp only [Act.put, List.setIfInBounds_toArray, List.set_cons_zero, List.set_cons_succ])
    refine wpAnyH_take (i := 11) (v := ?_) (by rw [List.getElem?_toArray]; rfl) (by kernel_rfl) (by kernel_rfl) (by kernel_rfl) (by intro _ _ _ h; exact h) (Or.inl ⟨by rfl, ?_⟩) (by assumption) ?_
    rotate_left
    · (intro w hSw; (try dsimp only at hSw); go_simp; all_goals with_reducible rfl)
    (try simp only [Act.put, List.setIfInBounds_toArray, List.set_cons_zero, List.set_cons_succ])
    refine wpAnyH_done (by kernel_rfl) ?_ _
    go_wp2_with fail
    go_meet
    case rel => exact ⟨_, rfl, rfl, K0, XB⟩
  case rest =>
    obtain ⟨k1, rfl, rfl, Z1, XB⟩ := hcut
    replace P := P.below XB
    replace D := D.below XB
    replace B := B.trans (XB.mono B.size)
    clear SK XB CS
    generalize wc = v2 at *
    have SK : Hid (∀ w', Below v2.heap.size v2 w' → ((fun w' => w'.cell? ⟨w.heap.size, 0, none⟩ = some (.int .i64 lo) ∧ w'.cell? ⟨w.heap.size, 1, none⟩ = some (.int .i64 hi) ∧ w'.cell? ⟨jd, 0, none⟩ = some (.int .i64 n) ∧ w'.cell? ⟨jd, 1, none⟩ = some (.int .i64 d))) w') := fun w' hw => ⟨(P.below hw).2.1, (P.below hw).2.2.1, (D.below hw).2.1, (D.below hw).2.2.1⟩
    go_upto_region 2 with fail
    go_cut [9, 10] (fun s9 s10 wx => ∃ k0 : Nat, s9 = .pointer (some ⟨k0, 0, none⟩) ∧ s10 = .bool Z ∧ Bx2 wx k0 (.int .i64 X) (.int .i64 Y) ∧ Below v2.heap.size v2 wx)
    case first => as_aux_lemma =>
      refine wp_region_held_drew (S := (fun w' => w'.cell? ⟨w.heap.size, 0, none⟩ = some (.int .i64 lo) ∧ w'.cell? ⟨w.heap.size, 1, none⟩ = some (.int .i64 hi) ∧ w'.cell? ⟨jd, 0, none⟩ = some (.int .i64 n) ∧ w'.cell? ⟨jd, 1, none⟩ = some (.int .i64 d))) (by kernel_rfl) ?_ (fun hHeld => ?_)
      · first | exact SK.out _ XB | exact SK.out _ (Below.drew (Below.refl _ _))
      have XB : Below v2.heap.size v2 v2.drew := Below.drew (Below.refl _ _)
      generalize v2.drew = vx at *
      refine wpAnyH_take (i := 0) (v := ?_) (by rw [List.getElem?_toArray]; rfl) (by kernel_rfl) (by kernel_rfl) (by kernel_rfl) (by intro _ _ _ h; exact h) (Or.inl ⟨by rfl, ?_⟩) (by assumption) ?_
      rotate_left
      · (intro w hSw; (try dsimp only at hSw); go_simp; all_goals with_reducible rfl)
      (try simp only [Act.put, List.setIfInBounds_toArray, List.set_cons_zero, List.set_cons_succ])
      refine wpAnyH_take (i := 2) (v := ?_) (by rw [List.getElem?_toArray]; rfl) (by kernel_rfl) (by kernel_rfl) (by kernel_rfl) (by intro _ _ _ h; exact h) (Or.inl ⟨by rfl, ?_⟩) (by assumption) ?_
      rotate_left
      · (intro w hSw; (try dsimp only at hSw); go_simp; all_goals with_reducible rfl)
      (try simp only [Act.put, List.setIfInBounds_toArray, List.set_cons_zero, List.set_cons_succ])
      refine wpAnyH_take (i := 4) (v := ?_) (by rw [List.getElem?_toArray]; rfl) (by kernel_rfl) (by kernel_rfl) (by kernel_rfl) (by intro _ _ _ h; exact h) (Or.inl ⟨by rfl, ?_⟩) (by assumption) ?_
      rotate_left
      · (intro w hSw; (try dsimp only at hSw); go_simp; all_goals with_reducible rfl)
      (try simp only [Act.put, List.setIfInBounds_toArray, List.set_cons_zero, List.set_cons_succ])
      apply tail1 (F := (fun k0 vx => v2.heap.size ≤ k0 ∧ Bx2 vx k0 (.int .i64 0) (.int .i64 0) ∧ Below v2.heap.size v2 vx))
      intro T1_3_5_9
      apply tail1 (F := (fun k0 vx => v2.heap.size ≤ k0 ∧ Bx2 vx k0 (.int .i64 0) (.int .i64 0) ∧ Below v2.heap.size v2 vx))
      intro T1_3_9
      apply tail0 (F := (fun vx => Below v2.heap.size v2 vx))
      intro T1_3_5
      apply tail1 (F := (fun k0 vx => v2.heap.size ≤ k0 ∧ Bx2 vx k0 (.int .i64 0) (.int .i64 0) ∧ Below v2.heap.size v2 vx))
      intro T1_9
      apply tail0 (F := (fun vx => Below v2.heap.size v2 vx))
      intro T1_3
      apply tail1 (F := (fun k0 vx => v2.heap.size ≤ k0 ∧ Bx2 vx k0 (.int .i64 0) (.int .i64 0) ∧ Below v2.heap.size v2 vx))
      intro T9
      apply tail0 (F := (fun vx => Below v2.heap.size v2 vx))
      intro T1
      refine wpAnyH_ready (rs := [1, 9]) (by kernel_rfl) (by simp) ?_
      refine (AllReadyH.cons (by rw [List.getElem?_toArray]; rfl) (fun K hK => ?_) (AllReadyH.cons (by rw [List.getElem?_toArray]; rfl) (fun K hK => ?_) AllReadyH.nil))
      · go_simp
        refine (TI vx).mono ?_; rintro ee vx ⟨rfl, hbl⟩; (replace XB := XB.trans (hbl.mono XB.size)); (clear hbl)
        (try go_wp2_with fail)
        refine hK.out _ _ ?_ (fun hHeld => ?_)
        · first | exact SK.out _ XB | exact SK.out _ (Below.drew (Below.refl _ _))
        clear hK K
        (try simp only [Act.put, List.setIfInBounds_toArray, List.set_cons_zero, List.set_cons_succ])
        exact T1 _ XB
      · go_simp
        (have K0 := Bx2.new vx (.int .i64 0) (.int .i64 0) 25); (have hk0 := XB.size); (have hbl := Below.nw vx (.cells #[.int .i64 0, .int .i64 0] 25)); (replace XB := XB.trans (hbl.mono XB.size)); (clear hbl); (generalize vx.heap.size = k0 at *); (generalize vx.alloc (.cells #[.int .i64 0, .int .i64 0] 25) = vx at *)
        refine hK.out _ _ ?_ (fun hHeld => ?_)
        · first | exact SK.out _ XB | exact SK.out _ (Below.drew (Below.refl _ _))
        clear hK K
        (try simp only [Act.put, List.setIfInBounds_toArray, List.set_cons_zero, List.set_cons_succ])
        exact T9 _ _ ⟨hk0, K0, XB⟩
      intro vx hF
      have XB : Below v2.heap.size v2 vx := hF
      have hHeld : ((fun w' => w'.cell? ⟨w.heap.size, 0, none⟩ = some (.int .i64 lo) ∧ w'.cell? ⟨w.heap.size, 1, none⟩ = some (.int .i64 hi) ∧ w'.cell? ⟨jd, 0, none⟩ = some (.int .i64 n) ∧ w'.cell? ⟨jd, 1, none⟩ = some (.int .i64 d))) vx := SK.out _ XB 
      refine wpAnyH_ready (rs := [3, 9]) (by kernel_rfl) (by simp) ?_
      refine (AllReadyH.cons (by rw [List.getElem?_toArray]; rfl) (fun K hK => ?_) (AllReadyH.cons (by rw [List.getElem?_toArray]; rfl) (fun K hK => ?_) AllReadyH.nil))
      · go_simp
        refine (TD vx).mono ?_; rintro ee vx ⟨rfl, hbl⟩; (replace XB := XB.trans (hbl.mono XB.size)); (clear hbl)
        (try go_wp2_with fail)
        refine hK.out _ _ ?_ (fun hHeld => ?_)
        · first | exact SK.out _ XB | exact SK.out _ (Below.drew (Below.refl _ _))
        clear hK K
        (try simp only [Act.put, List.setIfInBounds_toArray, List.set_cons_zero, List.set_cons_succ])
        exact T1_3 _ XB
      · go_simp
        (have K0 := Bx2.new vx (.int .i64 0) (.int .i64 0) 25); (have hk0 := XB.size); (have hbl := Below.nw vx (.cells #[.int .i64 0, .int .i64 0] 25)); (replace XB := XB.trans (hbl.mono XB.size)); (clear hbl); (generalize vx.heap.size = k0 at *); (generalize vx.alloc (.cells #[.int .i64 0, .int .i64 0] 25) = vx at *)
        refine hK.out _ _ ?_ (fun hHeld => ?_)
        · first | exact SK.out _ XB | exact SK.out _ (Below.drew (Below.refl _ _))
        clear hK K
        (try simp only [Act.put, List.setIfInBounds_toArray, List.set_cons_zero, List.set_cons_succ])
        exact T1_9 _ _ ⟨hk0, K0, XB⟩
      intro k0 vx hF
      obtain ⟨hk0, K0, XB⟩ := hF
      have hHeld : ((fun w' => w'.cell? ⟨w.heap.size, 0, none⟩ = some (.int .i64 lo) ∧ w'.cell? ⟨w.heap.size, 1, none⟩ = some (.int .i64 hi) ∧ w'.cell? ⟨jd, 0, none⟩ = some (.int .i64 n) ∧ w'.cell? ⟨jd, 1, none⟩ = some (.int .i64 d))) vx := SK.out _ XB 
      refine wpAnyH_ready (rs := [1]) (by kernel_rfl) (by simp) ?_
      refine (AllReadyH.cons (by rw [List.getElem?_toArray]; rfl) (fun K hK => ?_) AllReadyH.nil)
      · go_simp
        refine (TI vx).mono ?_; rintro ee vx ⟨rfl, hbl⟩; (replace XB := XB.trans (hbl.mono XB.size)); (replace K0 := K0.below hbl); (clear hbl)
        (try go_wp2_with fail)
        refine hK.out _ _ ?_ (fun hHeld => ?_)
        · first | exact SK.out _ XB | exact SK.out _ (Below.drew (Below.refl _ _))
        clear hK K
        (try simp only [Act.put, List.setIfInBounds_toArray, List.set_cons_zero, List.set_cons_succ])
        exact T1_9 _ _ ⟨hk0, K0, XB⟩
      intro vx hF
      have XB : Below v2.heap.size v2 vx := hF
      have hHeld : ((fun w' => w'.cell? ⟨w.heap.size, 0, none⟩ = some (.int .i64 lo) ∧ w'.cell? ⟨w.heap.size, 1, none⟩ = some (.int .i64 hi) ∧ w'.cell? ⟨jd, 0, none⟩ = some (.int .i64 n) ∧ w'.cell? ⟨jd, 1, none⟩ = some (.int .i64 d))) vx := SK.out _ XB 
      refine wpAnyH_ready (rs := [5, 9]) (by kernel_rfl) (by simp) ?_
      refine (AllReadyH.cons (by rw [List.getElem?_toArray]; rfl) (fun K hK => ?_) (AllReadyH.cons (by rw [List.getElem?_toArray]; rfl) (fun K hK => ?_) AllReadyH.nil))
      · go_simp
        refine (CI vx (E.below (B.trans (XB.mono B.size)))).mono ?_; rintro ee vx ⟨rfl, hbl⟩; (replace XB := XB.trans (hbl.mono XB.size)); (clear hbl)
        (try go_wp2_with fail)
        refine hK.out _ _ ?_ (fun hHeld => ?_)
        · first | exact SK.out _ XB | exact SK.out _ (Below.drew (Below.refl _ _))
        clear hK K
        (try simp only [Act.put, List.setIfInBounds_toArray, List.set_cons_zero, List.set_cons_succ])
        refine wpAnyH_take (i := 6) (v := ?_) (by rw [List.getElem?_toArray]; rfl) (by kernel_rfl) (by kernel_rfl) (by kernel_rfl) (by intro _ _ _ h; exact h) (Or.inl ⟨by rfl, ?_⟩) (by assumption) ?_
        rotate_left
        · (intro w hSw; (try dsimp only at hSw); go_simp; all_goals with_reducible rfl)
        (try simp only [Act.put, List.setIfInBounds_toArray, List.set_cons_zero, List.set_cons_succ])
        refine wpAnyH_take (i := 7) (v := ?_) (by rw [List.getElem?_toArray]; rfl) (by kernel_rfl) (by kernel_rfl) (by kernel_rfl) (by intro _ _ _ h; exact h) (Or.inl ⟨by rfl, ?_⟩) (by assumption) ?_
        rotate_left
        · (intro w hSw; (try dsimp only at hSw); go_simp; all_goals with_reducible rfl)
        (try simp only [Act.put, List.setIfInBounds_toArray, List.set_cons_zero, List.set_cons_succ])
        refine wpAnyH_take (i := 8) (v := ?_) (by rw [List.getElem?_toArray]; rfl) (by kernel_rfl) (by kernel_rfl) (by kernel_rfl) (by intro _ _ _ h; exact h) (Or.inl ⟨by rfl, ?_⟩) (by assumption) ?_
        rotate_left
        · (intro w hSw; (try dsimp only at hSw); go_simp; all_goals with_reducible rfl)
        (try simp only [Act.put, List.setIfInBounds_toArray, List.set_cons_zero, List.set_cons_succ])
        exact T1_3_5 _ XB
      · go_simp
        (have K0 := Bx2.new vx (.int .i64 0) (.int .i64 0) 25); (have hk0 := XB.size); (have hbl := Below.nw vx (.cells #[.int .i64 0, .int .i64 0] 25)); (replace XB := XB.trans (hbl.mono XB.size)); (clear hbl); (generalize vx.heap.size = k0 at *); (generalize vx.alloc (.cells #[.int .i64 0, .int .i64 0] 25) = vx at *)
        refine hK.out _ _ ?_ (fun hHeld => ?_)
        · first | exact SK.out _ XB | exact SK.out _ (Below.drew (Below.refl _ _))
        clear hK K
        (try simp only [Act.put, List.setIfInBounds_toArray, List.set_cons_zero, List.set_cons_succ])
        exact T1_3_9 _ _ ⟨hk0, K0, XB⟩
      intro k0 vx hF
      obtain ⟨hk0, K0, XB⟩ := hF
      have hHeld : ((fun w' => w'.cell? ⟨w.heap.size, 0, none⟩ = some (.int .i64 lo) ∧ w'.cell? ⟨w.heap.size, 1, none⟩ = some (.int .i64 hi) ∧ w'.cell? ⟨jd, 0, none⟩ = some (.int .i64 n) ∧ w'.cell? ⟨jd, 1, none⟩ = some (.int .i64 d))) vx := SK.out _ XB 
      refine wpAnyH_ready (rs := [3]) (by kernel_rfl) (by simp) ?_
      refine (AllReadyH.cons (by rw [List.getElem?_toArray]; rfl) (fun K hK => ?_) AllReadyH.nil)
      · go_simp
        refine (TD vx).mono ?_; rintro ee vx ⟨rfl, hbl⟩; (replace XB := XB.trans (hbl.mono XB.size)); (replace K0 := K0.below hbl); (clear hbl)
        (try go_wp2_with fail)
        refine hK.out _ _ ?_ (fun hHeld => ?_)
        · first | exact SK.out _ XB | exact SK.out _ (Below.drew (Below.refl _ _))
        clear hK K
        (try simp only [Act.put, List.setIfInBounds_toArray, List.set_cons_zero, List.set_cons_succ])
        exact T1_3_9 _ _ ⟨hk0, K0, XB⟩
      intro vx hF
      have XB : Below v2.heap.size v2 vx := hF
      have hHeld : ((fun w' => w'.cell? ⟨w.heap.size, 0, none⟩ = some (.int .i64 lo) ∧ w'.cell? ⟨w.heap.size, 1, none⟩ = some (.int .i64 hi) ∧ w'.cell? ⟨jd, 0, none⟩ = some (.int .i64 n) ∧ w'.cell? ⟨jd, 1, none⟩ = some (.int .i64 d))) vx := SK.out _ XB 
      refine wpAnyH_ready (rs := [9]) (by kernel_rfl) (by simp) ?_
      refine (AllReadyH.cons (by rw [List.getElem?_toArray]; rfl) (fun K hK => ?_) AllReadyH.nil)
      · go_simp
        (have K0 := Bx2.new vx (.int .i64 0) (.int .i64 0) 25); (have hk0 := XB.size); (have hbl := Below.nw vx (.cells #[.int .i64 0, .int .i64 0] 25)); (replace XB := XB.trans (hbl.mono XB.size)); (clear hbl); (generalize vx.heap.size = k0 at *); (generalize vx.alloc (.cells #[.int .i64 0, .int .i64 0] 25) = vx at *)
        refine hK.out _ _ ?_ (fun hHeld => ?_)
        · first | exact SK.out _ XB | exact SK.out _ (Below.drew (Below.refl _ _))
        clear hK K
        (try simp only [Act.put, List.setIfInBounds_toArray, List.set_cons_zero, List.set_cons_succ])
        exact T1_3_5_9 _ _ ⟨hk0, K0, XB⟩
      intro k0 vx hF
      obtain ⟨hk0, K0, XB⟩ := hF
      have hHeld : ((fun w' => w'.cell? ⟨w.heap.size, 0, none⟩ = some (.int .i64 lo) ∧ w'.cell? ⟨w.heap.size, 1, none⟩ = some (.int .i64 hi) ∧ w'.cell? ⟨jd, 0, none⟩ = some (.int .i64 n) ∧ w'.cell? ⟨jd, 1, none⟩ = some (.int .i64 d))) vx := SK.out _ XB 
      refine wpAnyH_ready (rs := [5]) (by kernel_rfl) (by simp) ?_
      refine (AllReadyH.cons (by rw [List.getElem?_toArray]; rfl) (fun K hK => ?_) AllReadyH.nil)
      · go_simp
        refine (CI vx (E.below (B.trans (XB.mono B.size)))).mono ?_; rintro ee vx ⟨rfl, hbl⟩; (replace XB := XB.trans (hbl.mono XB.size)); (replace K0 := K0.below hbl); (clear hbl)
        (try go_wp2_with fail)
        refine hK.out _ _ ?_ (fun hHeld => ?_)
        · first | exact SK.out _ XB | exact SK.out _ (Below.drew (Below.refl _ _))
        clear hK K
        (try simp only [Act.put, List.setIfInBounds_toArray, List.set_cons_zero, List.set_cons_succ])
        refine wpAnyH_take (i := 6) (v := ?_) (by rw [List.getElem?_toArray]; rfl) (by kernel_rfl) (by kernel_rfl) (by kernel_rfl) (by intro _ _ _ h; exact h) (Or.inl ⟨by rfl, ?_⟩) (by assumption) ?_
        rotate_left
        · (intro w hSw; (try dsimp only at hSw); go_simp; all_goals with_reducible rfl)
        (try simp only [Act.put, List.setIfInBounds_toArray, List.set_cons_zero, List.set_cons_succ])
        refine wpAnyH_take (i := 7) (v := ?_) (by rw [List.getElem?_toArray]; rfl) (by kernel_rfl) (by kernel_rfl) (by kernel_rfl) (by intro _ _ _ h; exact h) (Or.inl ⟨by rfl, ?_⟩) (by assumption) ?_
        rotate_left
        · (intro w hSw; (try dsimp only at hSw); go_simp; all_goals with_reducible rfl)
        (try simp only [Act.put, List.setIfInBounds_toArray, List.set_cons_zero, List.set_cons_succ])
        refine wpAnyH_take (i := 8) (v := ?_) (by rw [List.getElem?_toArray]; rfl) (by kernel_rfl) (by kernel_rfl) (by kernel_rfl) (by intro _ _ _ h; exact h) (Or.inl ⟨by rfl, ?_⟩) (by assumption) ?_
        rotate_left
        · (intro w hSw; (try dsimp only at hSw); go_simp; all_goals with_reducible rfl)
        (try simp only [Act.put, List.setIfInBounds_toArray, List.set_cons_zero, List.set_cons_succ])
        exact T1_3_5_9 _ _ ⟨hk0, K0, XB⟩
      intro k0 vx hF
      obtain ⟨hk0, K0, XB⟩ := hF
      have hHeld : ((fun w' => w'.cell? ⟨w.heap.size, 0, none⟩ = some (.int .i64 lo) ∧ w'.cell? ⟨w.heap.size, 1, none⟩ = some (.int .i64 hi) ∧ w'.cell? ⟨jd, 0, none⟩ = some (.int .i64 n) ∧ w'.cell? ⟨jd, 1, none⟩ = some (.int .i64 d))) vx := SK.out _ XB 
      (obtain ⟨za0, zb0, zc0, zd0, ze0⟩ := id K0)
      refine wpAnyH_ready (rs := [10]) (by kernel_rfl) (by simp) ?_
      refine (AllReadyH.cons (by rw [List.getElem?_toArray]; rfl) (fun K hK => ?_) AllReadyH.nil)
      go_simp
      (clear za0 zb0 zc0 zd0 ze0); (replace XB := (XB.setCell (p := ⟨k0, 0, none⟩) hk0 (.int .i64 X)).setCell (p := ⟨k0, 1, none⟩) hk0 (.int .i64 Y)); (replace K0 := (K0.set0 (.int .i64 X)).set1 (.int .i64 Y)); (generalize (vx.setCell ⟨k0, 0, none⟩ (.int .i64 X)).setCell ⟨k0, 1, none⟩ (.int .i64 Y) = vx at *); (obtain ⟨za0, zb0, zc0, zd0, ze0⟩ := id K0)
      refine hK.out _ _ ?_ (fun hHeld => ?_)
      · first | exact SK.out _ XB | exact SK.out _ (Below.drew (Below.refl _ _))
      clear hK K
      (try simp only [Act.put, List.setIfInBounds_toArray, List.set_cons_zero, List.set_cons_succ])
      refine wpAnyH_take (i := 11) (v := ?_) (by rw [List.getElem?_toArray]; rfl) (by kernel_rfl) (by kernel_rfl) (by kernel_rfl) (by intro _ _ _ h; exact h) (Or.inl ⟨by rfl, ?_⟩) (by assumption) ?_
      rotate_left
      · (intro w hSw; (try dsimp only at hSw); go_simp; all_goals with_reducible rfl)
      (try simp only [Act.put, List.setIfInBounds_toArray, List.set_cons_zero, List.set_cons_succ])
      refine wpAnyH_done (by kernel_rfl) ?_ _
      go_wp2_with fail
      go_meet
      case rel => exact ⟨_, rfl, rfl, K0, XB⟩
    case rest =>
      obtain ⟨k2, rfl, rfl, Z2, XB⟩ := hcut
      replace Z1 := Z1.below XB
      replace B := B.trans (XB.mono B.size)
      clear SK XB CI TI TD P D
      generalize wc = v3 at *
      obtain ⟨a0, a1, a2, a3, a4⟩ := id Z1
      obtain ⟨b0, b1, b2, b3, b4⟩ := id Z2
      go_wp2_with fail
      refine (eqIval_same X Y _).mono ?_
      rintro e v4 ⟨rfl, hb⟩
      replace B := B.trans (hb.mono B.size)
      clear a0 a1 a2 a3 a4 b0 b1 b2 b3 b4 hb
      go_wp2_with fail
      go_ret
      exact ⟨rfl, B⟩
end Go.Proofs.YtcakhfobkbgfoaaDoor
