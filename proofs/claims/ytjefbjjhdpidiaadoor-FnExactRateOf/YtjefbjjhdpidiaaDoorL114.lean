/- The walk of the exact law of RateOf. -/
import Derived.Test.YtjefbjjhdpidiaaDoorF131
import Derived.Test.YtjefbjjhdpidiaaDoorF116
import Derived.Test.YtjefbjjhdpidiaaDoorL110
import Derived.Deep.RegionHeld3
import Derived.Deep.DeepCutAuto
import Derived.WalkKit
import Derived.WalkSpells
import Derived.WalkLawsBesides
import Derived.Deep.RegionHeld
namespace Go.Proofs.YtjefbjjhdpidiaaDoor
open Go.RowKit
set_option linter.unusedVariables false
set_option maxRecDepth 100000 in
set_option maxHeartbeats 16000000 in
theorem lawRateOf (al ah ca bl bh cb : Int) (s : Addr) (w : World) (E : Er w 0 s) (g0' : (Lit.int .i64 al).wf = true) (g1' : (Lit.int .i64 ah).wf = true) (g2' : (Lit.int .i64 ca).wf = true) (g3' : (Lit.int .i64 bl).wf = true) (g4' : (Lit.int .i64 bh).wf = true) (g5' : (Lit.int .i64 cb).wf = true) :
    Calls Tryd.prog 6 #[.agg #[.int .i64 al, .int .i64 ah], .int .i64 ca, .agg #[.int .i64 bl, .int .i64 bh], .int .i64 cb] w fun e w' => e = .returned (.bool true) ∧ Below w.heap.size w w' := by
  clear g0' g1' g2' g3' g4' g5'
  have A0 := Below.nw w (.cells #[.int .i64 al, .int .i64 ah] 35)
  have A1 := Below.nw (w.alloc (.cells #[.int .i64 al, .int .i64 ah] 35)) (.cells #[.int .i64 bl, .int .i64 bh] 35)
  have P0 := ((Bx2.new w (.int .i64 al) (.int .i64 ah) 35).below A1)
  have P1 := (Bx2.new (w.alloc (.cells #[.int .i64 al, .int .i64 ah] 35)) (.int .i64 bl) (.int .i64 bh) 35)
  have B := (A0.trans (A1.mono (A0).size))
  simp only [World.size_alloc] at P1
  clear A0 A1
  replace E := E.below B
  have CS := fun w' => specRateOf_any al ah ca bl bh cb w'
  have CI := fun w' E' => implRateOf_any al ah ca bl bh cb s w' E'
  generalize roX al ah ca bl bh cb = x1 at *
  generalize roY al ah ca bl bh cb = y1 at *
  generalize roZ al ah ca bl bh cb = x2 at *
  generalize roU al ah ca bl bh cb = y2 at *
  generalize roB al ah ca bl bh cb = ok at *
  go_enter Tryd.func6, Tryd.ntmps6
  go_upto_region 1 with fail
  generalize ((w.alloc (.cells #[.int .i64 al, .int .i64 ah] 35)).alloc (.cells #[.int .i64 bl, .int .i64 bh] 35)) = v at *
  generalize w.heap.size + 1 = j1 at *
  have SK : Hid (∀ w', Below v.heap.size v w' → (w'.cell? ⟨w.heap.size, 0, none⟩ = some (.int .i64 al) ∧ w'.cell? ⟨w.heap.size, 1, none⟩ = some (.int .i64 ah) ∧ w'.cell? ⟨j1, 0, none⟩ = some (.int .i64 bl) ∧ w'.cell? ⟨j1, 1, none⟩ = some (.int .i64 bh))) := fun w' hw => ⟨(P0.below hw).2.1, (P0.below hw).2.2.1, (P1.below hw).2.1, (P1.below hw).2.2.1⟩
  go_upto_region 1 with fail
  go_cut [9, 10, 11] (fun s9 s10 s11 wx => ∃ ak0 ak1 : Nat, s9 = .pointer (some ⟨ak0, 0, none⟩) ∧ s10 = .pointer (some ⟨ak1, 0, none⟩) ∧ s11 = (.bool ok) ∧ Bx2 wx ak0 (.int .i64 x1) (.int .i64 y1) ∧ Bx2 wx ak1 (.int .i64 x2) (.int .i64 y2) ∧ Below v.heap.size v wx)
  case first => as_aux_lemma =>
    refine wp_region_held_drew (S := (fun w' => w'.cell? ⟨w.heap.size, 0, none⟩ = some (.int .i64 al) ∧ w'.cell? ⟨w.heap.size, 1, none⟩ = some (.int .i64 ah) ∧ w'.cell? ⟨j1, 0, none⟩ = some (.int .i64 bl) ∧ w'.cell? ⟨j1, 1, none⟩ = some (.int .i64 bh))) (by kernel_rfl) ?_ (fun hHeld => ?_)
    · first | exact SK.out _ XB | exact SK.out _ (Below.drew (Below.refl _ _))
    have XB : Below v.heap.size v v.drew := Below.drew (Below.refl _ _)
    generalize v.drew = vx at *
    refine wpAnyH_take (i := 0) (v := ?_) (by rw [List.getElem?_toArray]; rfl) (by kernel_rfl) (by kernel_rfl) (by kernel_rfl) (by intro _ _ _ h; exact h) (Or.inl ⟨by rfl, ?_⟩) (by assumption) ?_
    rotate_left
    · (intro w hSw; (try dsimp only at hSw); go_simp; all_goals with_reducible rfl)
    (try simp only [Act.put, List.setIfInBounds_toArray, List.set_cons_zero, List.set_cons_succ])
    refine wpAnyH_take (i := 2) (v := ?_) (by rw [List.getElem?_toArray]; rfl) (by kernel_rfl) (by kernel_rfl) (by kernel_rfl) (by intro _ _ _ h; exact h) (Or.inl ⟨by rfl, ?_⟩) (by assumption) ?_
    rotate_left
    · (intro w hSw; (try dsimp only at hSw); go_simp; all_goals with_reducible rfl)
    (try simp only [Act.put, List.setIfInBounds_toArray, List.set_cons_zero, List.set_cons_succ])
    refine wpAnyH_take (i := 3) (v := ?_) (by rw [List.getElem?_toArray]; rfl) (by kernel_rfl) (by kernel_rfl) (by kernel_rfl) (by intro _ _ _ h; exact h) (Or.inl ⟨by rfl, ?_⟩) (by assumption) ?_
    rotate_left
    · (intro w hSw; (try dsimp only at hSw); go_simp; all_goals with_reducible rfl)
    (try simp only [Act.put, List.setIfInBounds_toArray, List.set_cons_zero, List.set_cons_succ])
    refine wpAnyH_take (i := 5) (v := ?_) (by rw [List.getElem?_toArray]; rfl) (by kernel_rfl) (by kernel_rfl) (by kernel_rfl) (by intro _ _ _ h; exact h) (Or.inl ⟨by rfl, ?_⟩) (by assumption) ?_
    rotate_left
    · (intro w hSw; (try dsimp only at hSw); go_simp; all_goals with_reducible rfl)
    (try simp only [Act.put, List.setIfInBounds_toArray, List.set_cons_zero, List.set_cons_succ])
    apply tail2 (F := (fun k0 k1 vx => v.heap.size ≤ k0 ∧ v.heap.size ≤ k1 ∧ k0 ≠ k1 ∧ Bx2 vx k0 (.int .i64 0) (.int .i64 0) ∧ Bx2 vx k1 (.int .i64 0) (.int .i64 0) ∧ Below v.heap.size v vx))
    intro T1_4_6_11_12
    apply tail2 (F := (fun k0 k1 vx => v.heap.size ≤ k0 ∧ v.heap.size ≤ k1 ∧ k0 ≠ k1 ∧ Bx2 vx k0 (.int .i64 0) (.int .i64 0) ∧ Bx2 vx k1 (.int .i64 0) (.int .i64 0) ∧ Below v.heap.size v vx))
    intro T1_4_11_12
    apply tail1 (F := (fun k1 vx => v.heap.size ≤ k1 ∧ Bx2 vx k1 (.int .i64 0) (.int .i64 0) ∧ Below v.heap.size v vx))
    intro T1_4_6_12
    apply tail1 (F := (fun k0 vx => v.heap.size ≤ k0 ∧ Bx2 vx k0 (.int .i64 0) (.int .i64 0) ∧ Below v.heap.size v vx))
    intro T1_4_6_11
    apply tail2 (F := (fun k0 k1 vx => v.heap.size ≤ k0 ∧ v.heap.size ≤ k1 ∧ k0 ≠ k1 ∧ Bx2 vx k0 (.int .i64 0) (.int .i64 0) ∧ Bx2 vx k1 (.int .i64 0) (.int .i64 0) ∧ Below v.heap.size v vx))
    intro T1_11_12
    apply tail1 (F := (fun k1 vx => v.heap.size ≤ k1 ∧ Bx2 vx k1 (.int .i64 0) (.int .i64 0) ∧ Below v.heap.size v vx))
    intro T1_4_12
    apply tail1 (F := (fun k0 vx => v.heap.size ≤ k0 ∧ Bx2 vx k0 (.int .i64 0) (.int .i64 0) ∧ Below v.heap.size v vx))
    intro T1_4_11
    apply tail0 (F := (fun vx => Below v.heap.size v vx))
    intro T1_4_6
    apply tail2 (F := (fun k0 k1 vx => v.heap.size ≤ k0 ∧ v.heap.size ≤ k1 ∧ k0 ≠ k1 ∧ Bx2 vx k0 (.int .i64 0) (.int .i64 0) ∧ Bx2 vx k1 (.int .i64 0) (.int .i64 0) ∧ Below v.heap.size v vx))
    intro T11_12
    apply tail1 (F := (fun k1 vx => v.heap.size ≤ k1 ∧ Bx2 vx k1 (.int .i64 0) (.int .i64 0) ∧ Below v.heap.size v vx))
    intro T1_12
    apply tail1 (F := (fun k0 vx => v.heap.size ≤ k0 ∧ Bx2 vx k0 (.int .i64 0) (.int .i64 0) ∧ Below v.heap.size v vx))
    intro T1_11
    apply tail0 (F := (fun vx => Below v.heap.size v vx))
    intro T1_4
    apply tail1 (F := (fun k1 vx => v.heap.size ≤ k1 ∧ Bx2 vx k1 (.int .i64 0) (.int .i64 0) ∧ Below v.heap.size v vx))
    intro T12
    apply tail1 (F := (fun k0 vx => v.heap.size ≤ k0 ∧ Bx2 vx k0 (.int .i64 0) (.int .i64 0) ∧ Below v.heap.size v vx))
    intro T11
    apply tail0 (F := (fun vx => Below v.heap.size v vx))
    intro T1
    refine wpAnyH_ready (rs := [1, 11, 12]) (by kernel_rfl) (by simp) ?_
    refine (AllReadyH.cons (by rw [List.getElem?_toArray]; rfl) (fun K hK => ?_) (AllReadyH.cons (by rw [List.getElem?_toArray]; rfl) (fun K hK => ?_) (AllReadyH.cons (by rw [List.getElem?_toArray]; rfl) (fun K hK => ?_) AllReadyH.nil)))
    · go_simp
      refine (toIval_any al ah _).mono ?_; rintro ee vx ⟨rfl, hbl⟩; (replace XB := XB.trans (hbl.mono XB.size)); (clear hbl)
      (try go_wp2_with fail)
      refine hK.out _ _ ?_ (fun hHeld => ?_)
      · first | exact SK.out _ XB | exact SK.out _ (Below.drew (Below.refl _ _))
      clear hK K
      (try simp only [Act.put, List.setIfInBounds_toArray, List.set_cons_zero, List.set_cons_succ])
      exact T1 _ XB
    · go_simp
      (have K0 := Bx2.new vx (.int .i64 0) (.int .i64 0) 25); (have hk0 := XB.size); (have hbl := Below.nw vx (.cells #[.int .i64 0, .int .i64 0] 25)); (replace XB := XB.trans (hbl.mono XB.size)); (clear hbl); (generalize vx.heap.size = k0 at *); (generalize vx.alloc (.cells #[.int .i64 0, .int .i64 0] 25) = vx at *)
      refine hK.out _ _ ?_ (fun hHeld => ?_)
      · first | exact SK.out _ XB | exact SK.out _ (Below.drew (Below.refl _ _))
      clear hK K
      (try simp only [Act.put, List.setIfInBounds_toArray, List.set_cons_zero, List.set_cons_succ])
      exact T11 _ _ ⟨hk0, K0, XB⟩
    · go_simp
      (have K1 := Bx2.new vx (.int .i64 0) (.int .i64 0) 25); (have hk1 := XB.size); (have hbl := Below.nw vx (.cells #[.int .i64 0, .int .i64 0] 25)); (replace XB := XB.trans (hbl.mono XB.size)); (clear hbl); (generalize vx.heap.size = k1 at *); (generalize vx.alloc (.cells #[.int .i64 0, .int .i64 0] 25) = vx at *)
      refine hK.out _ _ ?_ (fun hHeld => ?_)
      · first | exact SK.out _ XB | exact SK.out _ (Below.drew (Below.refl _ _))
      clear hK K
      (try simp only [Act.put, List.setIfInBounds_toArray, List.set_cons_zero, List.set_cons_succ])
      exact T12 _ _ ⟨hk1, K1, XB⟩
    intro vx hF
    have XB : Below v.heap.size v vx := hF
    have hHeld : ((fun w' => w'.cell? ⟨w.heap.size, 0, none⟩ = some (.int .i64 al) ∧ w'.cell? ⟨w.heap.size, 1, none⟩ = some (.int .i64 ah) ∧ w'.cell? ⟨j1, 0, none⟩ = some (.int .i64 bl) ∧ w'.cell? ⟨j1, 1, none⟩ = some (.int .i64 bh))) vx := SK.out _ XB 
    refine wpAnyH_ready (rs := [4, 11, 12]) (by kernel_rfl) (by simp) ?_
    refine (AllReadyH.cons (by rw [List.getElem?_toArray]; rfl) (fun K hK => ?_) (AllReadyH.cons (by rw [List.getElem?_toArray]; rfl) (fun K hK => ?_) (AllReadyH.cons (by rw [List.getElem?_toArray]; rfl) (fun K hK => ?_) AllReadyH.nil)))
    · go_simp
      refine (toIval_any bl bh _).mono ?_; rintro ee vx ⟨rfl, hbl⟩; (replace XB := XB.trans (hbl.mono XB.size)); (clear hbl)
      (try go_wp2_with fail)
      refine hK.out _ _ ?_ (fun hHeld => ?_)
      · first | exact SK.out _ XB | exact SK.out _ (Below.drew (Below.refl _ _))
      clear hK K
      (try simp only [Act.put, List.setIfInBounds_toArray, List.set_cons_zero, List.set_cons_succ])
      exact T1_4 _ XB
    · go_simp
      (have K0 := Bx2.new vx (.int .i64 0) (.int .i64 0) 25); (have hk0 := XB.size); (have hbl := Below.nw vx (.cells #[.int .i64 0, .int .i64 0] 25)); (replace XB := XB.trans (hbl.mono XB.size)); (clear hbl); (generalize vx.heap.size = k0 at *); (generalize vx.alloc (.cells #[.int .i64 0, .int .i64 0] 25) = vx at *)
      refine hK.out _ _ ?_ (fun hHeld => ?_)
      · first | exact SK.out _ XB | exact SK.out _ (Below.drew (Below.refl _ _))
      clear hK K
      (try simp only [Act.put, List.setIfInBounds_toArray, List.set_cons_zero, List.set_cons_succ])
      exact T1_11 _ _ ⟨hk0, K0, XB⟩
    · go_simp
      (have K1 := Bx2.new vx (.int .i64 0) (.int .i64 0) 25); (have hk1 := XB.size); (have hbl := Below.nw vx (.cells #[.int .i64 0, .int .i64 0] 25)); (replace XB := XB.trans (hbl.mono XB.size)); (clear hbl); (generalize vx.heap.size = k1 at *); (generalize vx.alloc (.cells #[.int .i64 0, .int .i64 0] 25) = vx at *)
      refine hK.out _ _ ?_ (fun hHeld => ?_)
      · first | exact SK.out _ XB | exact SK.out _ (Below.drew (Below.refl _ _))
      clear hK K
      (try simp only [Act.put, List.setIfInBounds_toArray, List.set_cons_zero, List.set_cons_succ])
      exact T1_12 _ _ ⟨hk1, K1, XB⟩
    intro k0 vx hF
    obtain ⟨hk0, K0, XB⟩ := hF
    have hHeld : ((fun w' => w'.cell? ⟨w.heap.size, 0, none⟩ = some (.int .i64 al) ∧ w'.cell? ⟨w.heap.size, 1, none⟩ = some (.int .i64 ah) ∧ w'.cell? ⟨j1, 0, none⟩ = some (.int .i64 bl) ∧ w'.cell? ⟨j1, 1, none⟩ = some (.int .i64 bh))) vx := SK.out _ XB 
    refine wpAnyH_ready (rs := [1, 12]) (by kernel_rfl) (by simp) ?_
    refine (AllReadyH.cons (by rw [List.getElem?_toArray]; rfl) (fun K hK => ?_) (AllReadyH.cons (by rw [List.getElem?_toArray]; rfl) (fun K hK => ?_) AllReadyH.nil))
    · go_simp
      refine (toIval_any al ah _).mono ?_; rintro ee vx ⟨rfl, hbl⟩; (replace XB := XB.trans (hbl.mono XB.size)); (replace K0 := K0.below hbl); (clear hbl)
      (try go_wp2_with fail)
      refine hK.out _ _ ?_ (fun hHeld => ?_)
      · first | exact SK.out _ XB | exact SK.out _ (Below.drew (Below.refl _ _))
      clear hK K
      (try simp only [Act.put, List.setIfInBounds_toArray, List.set_cons_zero, List.set_cons_succ])
      exact T1_11 _ _ ⟨hk0, K0, XB⟩
    · go_simp
      (have K1 := Bx2.new vx (.int .i64 0) (.int .i64 0) 25); (have hk1 := XB.size); (have hbl := Below.nw vx (.cells #[.int .i64 0, .int .i64 0] 25)); (have d0 : k0 ≠ vx.heap.size := Nat.ne_of_lt K0.1); (replace K0 := K0.below hbl); (replace XB := XB.trans (hbl.mono XB.size)); (clear hbl); (generalize vx.heap.size = k1 at *); (generalize vx.alloc (.cells #[.int .i64 0, .int .i64 0] 25) = vx at *)
      refine hK.out _ _ ?_ (fun hHeld => ?_)
      · first | exact SK.out _ XB | exact SK.out _ (Below.drew (Below.refl _ _))
      clear hK K
      (try simp only [Act.put, List.setIfInBounds_toArray, List.set_cons_zero, List.set_cons_succ])
      exact T11_12 _ _ _ ⟨hk0, hk1, d0, K0, K1, XB⟩
    intro k1 vx hF
    obtain ⟨hk1, K1, XB⟩ := hF
    have hHeld : ((fun w' => w'.cell? ⟨w.heap.size, 0, none⟩ = some (.int .i64 al) ∧ w'.cell? ⟨w.heap.size, 1, none⟩ = some (.int .i64 ah) ∧ w'.cell? ⟨j1, 0, none⟩ = some (.int .i64 bl) ∧ w'.cell? ⟨j1, 1, none⟩ = some (.int .i64 bh))) vx := SK.out _ XB 
    refine wpAnyH_ready (rs := [1, 11]) (by kernel_rfl) (by simp) ?_
    refine (AllReadyH.cons (by rw [List.getElem?_toArray]; rfl) (fun K hK => ?_) (AllReadyH.cons (by rw [List.getElem?_toArray]; rfl) (fun K hK => ?_) AllReadyH.nil))
    · go_simp
      refine (toIval_any al ah _).mono ?_; rintro ee vx ⟨rfl, hbl⟩; (replace XB := XB.trans (hbl.mono XB.size)); (replace K1 := K1.below hbl); (clear hbl)
      (try go_wp2_with fail)
      refine hK.out _ _ ?_ (fun hHeld => ?_)
      · first | exact SK.out _ XB | exact SK.out _ (Below.drew (Below.refl _ _))
      clear hK K
      (try simp only [Act.put, List.setIfInBounds_toArray, List.set_cons_zero, List.set_cons_succ])
      exact T1_12 _ _ ⟨hk1, K1, XB⟩
    · go_simp
      (have K0 := Bx2.new vx (.int .i64 0) (.int .i64 0) 25); (have hk0 := XB.size); (have hbl := Below.nw vx (.cells #[.int .i64 0, .int .i64 0] 25)); (have d0 : vx.heap.size ≠ k1 := Nat.ne_of_gt K1.1); (replace K1 := K1.below hbl); (replace XB := XB.trans (hbl.mono XB.size)); (clear hbl); (generalize vx.heap.size = k0 at *); (generalize vx.alloc (.cells #[.int .i64 0, .int .i64 0] 25) = vx at *)
      refine hK.out _ _ ?_ (fun hHeld => ?_)
      · first | exact SK.out _ XB | exact SK.out _ (Below.drew (Below.refl _ _))
      clear hK K
      (try simp only [Act.put, List.setIfInBounds_toArray, List.set_cons_zero, List.set_cons_succ])
      exact T11_12 _ _ _ ⟨hk0, hk1, d0, K0, K1, XB⟩
    intro vx hF
    have XB : Below v.heap.size v vx := hF
    have hHeld : ((fun w' => w'.cell? ⟨w.heap.size, 0, none⟩ = some (.int .i64 al) ∧ w'.cell? ⟨w.heap.size, 1, none⟩ = some (.int .i64 ah) ∧ w'.cell? ⟨j1, 0, none⟩ = some (.int .i64 bl) ∧ w'.cell? ⟨j1, 1, none⟩ = some (.int .i64 bh))) vx := SK.out _ XB 
    refine wpAnyH_ready (rs := [6, 11, 12]) (by kernel_rfl) (by simp) ?_
    refine (AllReadyH.cons (by rw [List.getElem?_toArray]; rfl) (fun K hK => ?_) (AllReadyH.cons (by rw [List.getElem?_toArray]; rfl) (fun K hK => ?_) (AllReadyH.cons (by rw [List.getElem?_toArray]; rfl) (fun K hK => ?_) AllReadyH.nil)))
    · go_simp
      refine (CS _).mono ?_; rintro ee vx ⟨rfl, hbl⟩; (replace XB := XB.trans (hbl.mono XB.size)); (clear hbl)
      (try go_wp2_with fail)
      refine hK.out _ _ ?_ (fun hHeld => ?_)
      · first | exact SK.out _ XB | exact SK.out _ (Below.drew (Below.refl _ _))
      clear hK K
      (try simp only [Act.put, List.setIfInBounds_toArray, List.set_cons_zero, List.set_cons_succ])
      refine wpAnyH_take (i := 7) (v := ?_) (by rw [List.getElem?_toArray]; rfl) (by kernel_rfl) (by kernel_rfl) (by kernel_rfl) (by intro _ _ _ h; exact h) (Or.inl ⟨by rfl, ?_⟩) (by assumption) ?_
      rotate_left
      · (intro w hSw; (try dsimp only at hSw); go_simp; all_goals with_reducible rfl)
      (try simp only [Act.put, List.setIfInBounds_toArray, List.set_cons_zero, List.set_cons_succ])
      refine wpAnyH_take (i := 8) (v := ?_) (by rw [List.getElem?_toArray]; rfl) (by kernel_rfl) (by kernel_rfl) (by kernel_rfl) (by intro _ _ _ h; exact h) (Or.inl ⟨by rfl, ?_⟩) (by assumption) ?_
      rotate_left
      · (intro w hSw; (try dsimp only at hSw); go_simp; all_goals with_reducible rfl)
      (try simp only [Act.put, List.setIfInBounds_toArray, List.set_cons_zero, List.set_cons_succ])
      refine wpAnyH_take (i := 9) (v := ?_) (by rw [List.getElem?_toArray]; rfl) (by kernel_rfl) (by kernel_rfl) (by kernel_rfl) (by intro _ _ _ h; exact h) (Or.inl ⟨by rfl, ?_⟩) (by assumption) ?_
      rotate_left
      · (intro w hSw; (try dsimp only at hSw); go_simp; all_goals with_reducible rfl)
      (try simp only [Act.put, List.setIfInBounds_toArray, List.set_cons_zero, List.set_cons_succ])
      refine wpAnyH_take (i := 10) (v := ?_) (by rw [List.getElem?_toArray]; rfl) (by kernel_rfl) (by kernel_rfl) (by kernel_rfl) (by intro _ _ _ h; exact h) (Or.inl ⟨by rfl, ?_⟩) (by assumption) ?_
      rotate_left
      · (intro w hSw; (try dsimp only at hSw); go_simp; all_goals with_reducible rfl)
      (try simp only [Act.put, List.setIfInBounds_toArray, List.set_cons_zero, List.set_cons_succ])
      exact T1_4_6 _ XB
    · go_simp
      (have K0 := Bx2.new vx (.int .i64 0) (.int .i64 0) 25); (have hk0 := XB.size); (have hbl := Below.nw vx (.cells #[.int .i64 0, .int .i64 0] 25)); (replace XB := XB.trans (hbl.mono XB.size)); (clear hbl); (generalize vx.heap.size = k0 at *); (generalize vx.alloc (.cells #[.int .i64 0, .int .i64 0] 25) = vx at *)
      refine hK.out _ _ ?_ (fun hHeld => ?_)
      · first | exact SK.out _ XB | exact SK.out _ (Below.drew (Below.refl _ _))
      clear hK K
      (try simp only [Act.put, List.setIfInBounds_toArray, List.set_cons_zero, List.set_cons_succ])
      exact T1_4_11 _ _ ⟨hk0, K0, XB⟩
    · go_simp
      (have K1 := Bx2.new vx (.int .i64 0) (.int .i64 0) 25); (have hk1 := XB.size); (have hbl := Below.nw vx (.cells #[.int .i64 0, .int .i64 0] 25)); (replace XB := XB.trans (hbl.mono XB.size)); (clear hbl); (generalize vx.heap.size = k1 at *); (generalize vx.alloc (.cells #[.int .i64 0, .int .i64 0] 25) = vx at *)
      refine hK.out _ _ ?_ (fun hHeld => ?_)
      · first | exact SK.out _ XB | exact SK.out _ (Below.drew (Below.refl _ _))
      clear hK K
      (try simp only [Act.put, List.setIfInBounds_toArray, List.set_cons_zero, List.set_cons_succ])
      exact T1_4_12 _ _ ⟨hk1, K1, XB⟩
    intro k0 vx hF
    obtain ⟨hk0, K0, XB⟩ := hF
    have hHeld : ((fun w' => w'.cell? ⟨w.heap.size, 0, none⟩ = some (.int .i64 al) ∧ w'.cell? ⟨w.heap.size, 1, none⟩ = some (.int .i64 ah) ∧ w'.cell? ⟨j1, 0, none⟩ = some (.int .i64 bl) ∧ w'.cell? ⟨j1, 1, none⟩ = some (.int .i64 bh))) vx := SK.out _ XB 
    refine wpAnyH_ready (rs := [4, 12]) (by kernel_rfl) (by simp) ?_
    refine (AllReadyH.cons (by rw [List.getElem?_toArray]; rfl) (fun K hK => ?_) (AllReadyH.cons (by rw [List.getElem?_toArray]; rfl) (fun K hK => ?_) AllReadyH.nil))
    · go_simp
      refine (toIval_any bl bh _).mono ?_; rintro ee vx ⟨rfl, hbl⟩; (replace XB := XB.trans (hbl.mono XB.size)); (replace K0 := K0.below hbl); (clear hbl)
      (try go_wp2_with fail)
      refine hK.out _ _ ?_ (fun hHeld => ?_)
      · first | exact SK.out _ XB | exact SK.out _ (Below.drew (Below.refl _ _))
      clear hK K
      (try simp only [Act.put, List.setIfInBounds_toArray, List.set_cons_zero, List.set_cons_succ])
      exact T1_4_11 _ _ ⟨hk0, K0, XB⟩
    · go_simp
      (have K1 := Bx2.new vx (.int .i64 0) (.int .i64 0) 25); (have hk1 := XB.size); (have hbl := Below.nw vx (.cells #[.int .i64 0, .int .i64 0] 25)); (have d0 : k0 ≠ vx.heap.size := Nat.ne_of_lt K0.1); (replace K0 := K0.below hbl); (replace XB := XB.trans (hbl.mono XB.size)); (clear hbl); (generalize vx.heap.size = k1 at *); (generalize vx.alloc (.cells #[.int .i64 0, .int .i64 0] 25) = vx at *)
      refine hK.out _ _ ?_ (fun hHeld => ?_)
      · first | exact SK.out _ XB | exact SK.out _ (Below.drew (Below.refl _ _))
      clear hK K
      (try simp only [Act.put, List.setIfInBounds_toArray, List.set_cons_zero, List.set_cons_succ])
      exact T1_11_12 _ _ _ ⟨hk0, hk1, d0, K0, K1, XB⟩
    intro k1 vx hF
    obtain ⟨hk1, K1, XB⟩ := hF
    have hHeld : ((fun w' => w'.cell? ⟨w.heap.size, 0, none⟩ = some (.int .i64 al) ∧ w'.cell? ⟨w.heap.size, 1, none⟩ = some (.int .i64 ah) ∧ w'.cell? ⟨j1, 0, none⟩ = some (.int .i64 bl) ∧ w'.cell? ⟨j1, 1, none⟩ = some (.int .i64 bh))) vx := SK.out _ XB 
    refine wpAnyH_ready (rs := [4, 11]) (by kernel_rfl) (by simp) ?_
    refine (AllReadyH.cons (by rw [List.getElem?_toArray]; rfl) (fun K hK => ?_) (AllReadyH.cons (by rw [List.getElem?_toArray]; rfl) (fun K hK => ?_) AllReadyH.nil))
    · go_simp
      refine (toIval_any bl bh _).mono ?_; rintro ee vx ⟨rfl, hbl⟩; (replace XB := XB.trans (hbl.mono XB.size)); (replace K1 := K1.below hbl); (clear hbl)
      (try go_wp2_with fail)
      refine hK.out _ _ ?_ (fun hHeld => ?_)
      · first | exact SK.out _ XB | exact SK.out _ (Below.drew (Below.refl _ _))
      clear hK K
      (try simp only [Act.put, List.setIfInBounds_toArray, List.set_cons_zero, List.set_cons_succ])
      exact T1_4_12 _ _ ⟨hk1, K1, XB⟩
    · go_simp
      (have K0 := Bx2.new vx (.int .i64 0) (.int .i64 0) 25); (have hk0 := XB.size); (have hbl := Below.nw vx (.cells #[.int .i64 0, .int .i64 0] 25)); (have d0 : vx.heap.size ≠ k1 := Nat.ne_of_gt K1.1); (replace K1 := K1.below hbl); (replace XB := XB.trans (hbl.mono XB.size)); (clear hbl); (generalize vx.heap.size = k0 at *); (generalize vx.alloc (.cells #[.int .i64 0, .int .i64 0] 25) = vx at *)
      refine hK.out _ _ ?_ (fun hHeld => ?_)
      · first | exact SK.out _ XB | exact SK.out _ (Below.drew (Below.refl _ _))
      clear hK K
      (try simp only [Act.put, List.setIfInBounds_toArray, List.set_cons_zero, List.set_cons_succ])
      exact T1_11_12 _ _ _ ⟨hk0, hk1, d0, K0, K1, XB⟩
    intro k0 k1 vx hF
    obtain ⟨hk0, hk1, d0, K0, K1, XB⟩ := hF
    have hHeld : ((fun w' => w'.cell? ⟨w.heap.size, 0, none⟩ = some (.int .i64 al) ∧ w'.cell? ⟨w.heap.size, 1, none⟩ = some (.int .i64 ah) ∧ w'.cell? ⟨j1, 0, none⟩ = some (.int .i64 bl) ∧ w'.cell? ⟨j1, 1, none⟩ = some (.int .i64 bh))) vx := SK.out _ XB 
    refine wpAnyH_ready (rs := [1]) (by kernel_rfl) (by simp) ?_
    refine (AllReadyH.cons (by rw [List.getElem?_toArray]; rfl) (fun K hK => ?_) AllReadyH.nil)
    · go_simp
      refine (toIval_any al ah _).mono ?_; rintro ee vx ⟨rfl, hbl⟩; (replace XB := XB.trans (hbl.mono XB.size)); (replace K0 := K0.below hbl); (replace K1 := K1.below hbl); (clear hbl)
      (try go_wp2_with fail)
      refine hK.out _ _ ?_ (fun hHeld => ?_)
      · first | exact SK.out _ XB | exact SK.out _ (Below.drew (Below.refl _ _))
      clear hK K
      (try simp only [Act.put, List.setIfInBounds_toArray, List.set_cons_zero, List.set_cons_succ])
      exact T1_11_12 _ _ _ ⟨hk0, hk1, d0, K0, K1, XB⟩
    intro vx hF
    have XB : Below v.heap.size v vx := hF
    have hHeld : ((fun w' => w'.cell? ⟨w.heap.size, 0, none⟩ = some (.int .i64 al) ∧ w'.cell? ⟨w.heap.size, 1, none⟩ = some (.int .i64 ah) ∧ w'.cell? ⟨j1, 0, none⟩ = some (.int .i64 bl) ∧ w'.cell? ⟨j1, 1, none⟩ = some (.int .i64 bh))) vx := SK.out _ XB 
    refine wpAnyH_ready (rs := [11, 12]) (by kernel_rfl) (by simp) ?_
    refine (AllReadyH.cons (by rw [List.getElem?_toArray]; rfl) (fun K hK => ?_) (AllReadyH.cons (by rw [List.getElem?_toArray]; rfl) (fun K hK => ?_) AllReadyH.nil))
    · go_simp
      (have K0 := Bx2.new vx (.int .i64 0) (.int .i64 0) 25); (have hk0 := XB.size); (have hbl := Below.nw vx (.cells #[.int .i64 0, .int .i64 0] 25)); (replace XB := XB.trans (hbl.mono XB.size)); (clear hbl); (generalize vx.heap.size = k0 at *); (generalize vx.alloc (.cells #[.int .i64 0, .int .i64 0] 25) = vx at *)
      refine hK.out _ _ ?_ (fun hHeld => ?_)
      · first | exact SK.out _ XB | exact SK.out _ (Below.drew (Below.refl _ _))
      clear hK K
      (try simp only [Act.put, List.setIfInBounds_toArray, List.set_cons_zero, List.set_cons_succ])
      exact T1_4_6_11 _ _ ⟨hk0, K0, XB⟩
    · go_simp
      (have K1 := Bx2.new vx (.int .i64 0) (.int .i64 0) 25); (have hk1 := XB.size); (have hbl := Below.nw vx (.cells #[.int .i64 0, .int .i64 0] 25)); (replace XB := XB.trans (hbl.mono XB.size)); (clear hbl); (generalize vx.heap.size = k1 at *); (generalize vx.alloc (.cells #[.int .i64 0, .int .i64 0] 25) = vx at *)
      refine hK.out _ _ ?_ (fun hHeld => ?_)
      · first | exact SK.out _ XB | exact SK.out _ (Below.drew (Below.refl _ _))
      clear hK K
      (try simp only [Act.put, List.setIfInBounds_toArray, List.set_cons_zero, List.set_cons_succ])
      exact T1_4_6_12 _ _ ⟨hk1, K1, XB⟩
    intro k0 vx hF
    obtain ⟨hk0, K0, XB⟩ := hF
    have hHeld : ((fun w' => w'.cell? ⟨w.heap.size, 0, none⟩ = some (.int .i64 al) ∧ w'.cell? ⟨w.heap.size, 1, none⟩ = some (.int .i64 ah) ∧ w'.cell? ⟨j1, 0, none⟩ = some (.int .i64 bl) ∧ w'.cell? ⟨j1, 1, none⟩ = some (.int .i64 bh))) vx := SK.out _ XB 
    refine wpAnyH_ready (rs := [6, 12]) (by kernel_rfl) (by simp) ?_
    refine (AllReadyH.cons (by rw [List.getElem?_toArray]; rfl) (fun K hK => ?_) (AllReadyH.cons (by rw [List.getElem?_toArray]; rfl) (fun K hK => ?_) AllReadyH.nil))
    · go_simp
      refine (CS _).mono ?_; rintro ee vx ⟨rfl, hbl⟩; (replace XB := XB.trans (hbl.mono XB.size)); (replace K0 := K0.below hbl); (clear hbl)
      (try go_wp2_with fail)
      refine hK.out _ _ ?_ (fun hHeld => ?_)
      · first | exact SK.out _ XB | exact SK.out _ (Below.drew (Below.refl _ _))
      clear hK K
      (try simp only [Act.put, List.setIfInBounds_toArray, List.set_cons_zero, List.set_cons_succ])
      refine wpAnyH_take (i := 7) (v := ?_) (by rw [List.getElem?_toArray]; rfl) (by kernel_rfl) (by kernel_rfl) (by kernel_rfl) (by intro _ _ _ h; exact h) (Or.inl ⟨by rfl, ?_⟩) (by assumption) ?_
      rotate_left
      · (intro w hSw; (try dsimp only at hSw); go_simp; all_goals with_reducible rfl)
      (try simp only [Act.put, List.setIfInBounds_toArray, List.set_cons_zero, List.set_cons_succ])
      refine wpAnyH_take (i := 8) (v := ?_) (by rw [List.getElem?_toArray]; rfl) (by kernel_rfl) (by kernel_rfl) (by kernel_rfl) (by intro _ _ _ h; exact h) (Or.inl ⟨by rfl, ?_⟩) (by assumption) ?_
      rotate_left
      · (intro w hSw; (try dsimp only at hSw); go_simp; all_goals with_reducible rfl)
      (try simp only [Act.put, List.setIfInBounds_toArray, List.set_cons_zero, List.set_cons_succ])
      refine wpAnyH_take (i := 9) (v := ?_) (by rw [List.getElem?_toArray]; rfl) (by kernel_rfl) (by kernel_rfl) (by kernel_rfl) (by intro _ _ _ h; exact h) (Or.inl ⟨by rfl, ?_⟩) (by assumption) ?_
      rotate_left
      · (intro w hSw; (try dsimp only at hSw); go_simp; all_goals with_reducible rfl)
      (try simp only [Act.put, List.setIfInBounds_toArray, List.set_cons_zero, List.set_cons_succ])
      refine wpAnyH_take (i := 10) (v := ?_) (by rw [List.getElem?_toArray]; rfl) (by kernel_rfl) (by kernel_rfl) (by kernel_rfl) (by intro _ _ _ h; exact h) (Or.inl ⟨by rfl, ?_⟩) (by assumption) ?_
      rotate_left
      · (intro w hSw; (try dsimp only at hSw); go_simp; all_goals with_reducible rfl)
      (try simp only [Act.put, List.setIfInBounds_toArray, List.set_cons_zero, List.set_cons_succ])
      exact T1_4_6_11 _ _ ⟨hk0, K0, XB⟩
    · go_simp
      (have K1 := Bx2.new vx (.int .i64 0) (.int .i64 0) 25); (have hk1 := XB.size); (have hbl := Below.nw vx (.cells #[.int .i64 0, .int .i64 0] 25)); (have d0 : k0 ≠ vx.heap.size := Nat.ne_of_lt K0.1); (replace K0 := K0.below hbl); (replace XB := XB.trans (hbl.mono XB.size)); (clear hbl); (generalize vx.heap.size = k1 at *); (generalize vx.alloc (.cells #[.int .i64 0, .int .i64 0] 25) = vx at *)
      refine hK.out _ _ ?_ (fun hHeld => ?_)
      · first | exact SK.out _ XB | exact SK.out _ (Below.drew (Below.refl _ _))
      clear hK K
      (try simp only [Act.put, List.setIfInBounds_toArray, List.set_cons_zero, List.set_cons_succ])
      exact T1_4_11_12 _ _ _ ⟨hk0, hk1, d0, K0, K1, XB⟩
    intro k1 vx hF
    obtain ⟨hk1, K1, XB⟩ := hF
    have hHeld : ((fun w' => w'.cell? ⟨w.heap.size, 0, none⟩ = some (.int .i64 al) ∧ w'.cell? ⟨w.heap.size, 1, none⟩ = some (.int .i64 ah) ∧ w'.cell? ⟨j1, 0, none⟩ = some (.int .i64 bl) ∧ w'.cell? ⟨j1, 1, none⟩ = some (.int .i64 bh))) vx := SK.out _ XB 
    refine wpAnyH_ready (rs := [6, 11]) (by kernel_rfl) (by simp) ?_
    refine (AllReadyH.cons (by rw [List.getElem?_toArray]; rfl) (fun K hK => ?_) (AllReadyH.cons (by rw [List.getElem?_toArray]; rfl) (fun K hK => ?_) AllReadyH.nil))
    · go_simp
      refine (CS _).mono ?_; rintro ee vx ⟨rfl, hbl⟩; (replace XB := XB.trans (hbl.mono XB.size)); (replace K1 := K1.below hbl); (clear hbl)
      (try go_wp2_with fail)
      refine hK.out _ _ ?_ (fun hHeld => ?_)
      · first | exact SK.out _ XB | exact SK.out _ (Below.drew (Below.refl _ _))
      clear hK K
      (try simp only [Act.put, List.setIfInBounds_toArray, List.set_cons_zero, List.set_cons_succ])
      refine wpAnyH_take (i := 7) (v := ?_) (by rw [List.getElem?_toArray]; rfl) (by kernel_rfl) (by kernel_rfl) (by kernel_rfl) (by intro _ _ _ h; exact h) (Or.inl ⟨by rfl, ?_⟩) (by assumption) ?_
      rotate_left
      · (intro w hSw; (try dsimp only at hSw); go_simp; all_goals with_reducible rfl)
      (try simp only [Act.put, List.setIfInBounds_toArray, List.set_cons_zero, List.set_cons_succ])
      refine wpAnyH_take (i := 8) (v := ?_) (by rw [List.getElem?_toArray]; rfl) (by kernel_rfl) (by kernel_rfl) (by kernel_rfl) (by intro _ _ _ h; exact h) (Or.inl ⟨by rfl, ?_⟩) (by assumption) ?_
      rotate_left
      · (intro w hSw; (try dsimp only at hSw); go_simp; all_goals with_reducible rfl)
      (try simp only [Act.put, List.setIfInBounds_toArray, List.set_cons_zero, List.set_cons_succ])
      refine wpAnyH_take (i := 9) (v := ?_) (by rw [List.getElem?_toArray]; rfl) (by kernel_rfl) (by kernel_rfl) (by kernel_rfl) (by intro _ _ _ h; exact h) (Or.inl ⟨by rfl, ?_⟩) (by assumption) ?_
      rotate_left
      · (intro w hSw; (try dsimp only at hSw); go_simp; all_goals with_reducible rfl)
      (try simp only [Act.put, List.setIfInBounds_toArray, List.set_cons_zero, List.set_cons_succ])
      refine wpAnyH_take (i := 10) (v := ?_) (by rw [List.getElem?_toArray]; rfl) (by kernel_rfl) (by kernel_rfl) (by kernel_rfl) (by intro _ _ _ h; exact h) (Or.inl ⟨by rfl, ?_⟩) (by assumption) ?_
      rotate_left
      · (intro w hSw; (try dsimp only at hSw); go_simp; all_goals with_reducible rfl)
      (try simp only [Act.put, List.setIfInBounds_toArray, List.set_cons_zero, List.set_cons_succ])
      exact T1_4_6_12 _ _ ⟨hk1, K1, XB⟩
    · go_simp
      (have K0 := Bx2.new vx (.int .i64 0) (.int .i64 0) 25); (have hk0 := XB.size); (have hbl := Below.nw vx (.cells #[.int .i64 0, .int .i64 0] 25)); (have d0 : vx.heap.size ≠ k1 := Nat.ne_of_gt K1.1); (replace K1 := K1.below hbl); (replace XB := XB.trans (hbl.mono XB.size)); (clear hbl); (generalize vx.heap.size = k0 at *); (generalize vx.alloc (.cells #[.int .i64 0, .int .i64 0] 25) = vx at *)
      refine hK.out _ _ ?_ (fun hHeld => ?_)
      · first | exact SK.out _ XB | exact SK.out _ (Below.drew (Below.refl _ _))
      clear hK K
      (try simp only [Act.put, List.setIfInBounds_toArray, List.set_cons_zero, List.set_cons_succ])
      exact T1_4_11_12 _ _ _ ⟨hk0, hk1, d0, K0, K1, XB⟩
    intro k0 k1 vx hF
    obtain ⟨hk0, hk1, d0, K0, K1, XB⟩ := hF
    have hHeld : ((fun w' => w'.cell? ⟨w.heap.size, 0, none⟩ = some (.int .i64 al) ∧ w'.cell? ⟨w.heap.size, 1, none⟩ = some (.int .i64 ah) ∧ w'.cell? ⟨j1, 0, none⟩ = some (.int .i64 bl) ∧ w'.cell? ⟨j1, 1, none⟩ = some (.int .i64 bh))) vx := SK.out _ XB 
    refine wpAnyH_ready (rs := [4]) (by kernel_rfl) (by simp) ?_
    refine (AllReadyH.cons (by rw [List.getElem?_toArray]; rfl) (fun K hK => ?_) AllReadyH.nil)
    · go_simp
      refine (toIval_any bl bh _).mono ?_; rintro ee vx ⟨rfl, hbl⟩; (replace XB := XB.trans (hbl.mono XB.size)); (replace K0 := K0.below hbl); (replace K1 := K1.below hbl); (clear hbl)
      (try go_wp2_with fail)
      refine hK.out _ _ ?_ (fun hHeld => ?_)
      · first | exact SK.out _ XB | exact SK.out _ (Below.drew (Below.refl _ _))
      clear hK K
      (try simp only [Act.put, List.setIfInBounds_toArray, List.set_cons_zero, List.set_cons_succ])
      exact T1_4_11_12 _ _ _ ⟨hk0, hk1, d0, K0, K1, XB⟩
    intro k0 vx hF
    obtain ⟨hk0, K0, XB⟩ := hF
    have hHeld : ((fun w' => w'.cell? ⟨w.heap.size, 0, none⟩ = some (.int .i64 al) ∧ w'.cell? ⟨w.heap.size, 1, none⟩ = some (.int .i64 ah) ∧ w'.cell? ⟨j1, 0, none⟩ = some (.int .i64 bl) ∧ w'.cell? ⟨j1, 1, none⟩ = some (.int .i64 bh))) vx := SK.out _ XB 
    refine wpAnyH_ready (rs := [12]) (by kernel_rfl) (by simp) ?_
    refine (AllReadyH.cons (by rw [List.getElem?_toArray]; rfl) (fun K hK => ?_) AllReadyH.nil)
    · go_simp
      (have K1 := Bx2.new vx (.int .i64 0) (.int .i64 0) 25); (have hk1 := XB.size); (have hbl := Below.nw vx (.cells #[.int .i64 0, .int .i64 0] 25)); (have d0 : k0 ≠ vx.heap.size := Nat.ne_of_lt K0.1); (replace K0 := K0.below hbl); (replace XB := XB.trans (hbl.mono XB.size)); (clear hbl); (generalize vx.heap.size = k1 at *); (generalize vx.alloc (.cells #[.int .i64 0, .int .i64 0] 25) = vx at *)
      refine hK.out _ _ ?_ (fun hHeld => ?_)
      · first | exact SK.out _ XB | exact SK.out _ (Below.drew (Below.refl _ _))
      clear hK K
      (try simp only [Act.put, List.setIfInBounds_toArray, List.set_cons_zero, List.set_cons_succ])
      exact T1_4_6_11_12 _ _ _ ⟨hk0, hk1, d0, K0, K1, XB⟩
    intro k1 vx hF
    obtain ⟨hk1, K1, XB⟩ := hF
    have hHeld : ((fun w' => w'.cell? ⟨w.heap.size, 0, none⟩ = some (.int .i64 al) ∧ w'.cell? ⟨w.heap.size, 1, none⟩ = some (.int .i64 ah) ∧ w'.cell? ⟨j1, 0, none⟩ = some (.int .i64 bl) ∧ w'.cell? ⟨j1, 1, none⟩ = some (.int .i64 bh))) vx := SK.out _ XB 
    refine wpAnyH_ready (rs := [11]) (by kernel_rfl) (by simp) ?_
    refine (AllReadyH.cons (by rw [List.getElem?_toArray]; rfl) (fun K hK => ?_) AllReadyH.nil)
    · go_simp
      (have K0 := Bx2.new vx (.int .i64 0) (.int .i64 0) 25); (have hk0 := XB.size); (have hbl := Below.nw vx (.cells #[.int .i64 0, .int .i64 0] 25)); (have d0 : vx.heap.size ≠ k1 := Nat.ne_of_gt K1.1); (replace K1 := K1.below hbl); (replace XB := XB.trans (hbl.mono XB.size)); (clear hbl); (generalize vx.heap.size = k0 at *); (generalize vx.alloc (.cells #[.int .i64 0, .int .i64 0] 25) = vx at *)
      refine hK.out _ _ ?_ (fun hHeld => ?_)
      · first | exact SK.out _ XB | exact SK.out _ (Below.drew (Below.refl _ _))
      clear hK K
      (try simp only [Act.put, List.setIfInBounds_toArray, List.set_cons_zero, List.set_cons_succ])
      exact T1_4_6_11_12 _ _ _ ⟨hk0, hk1, d0, K0, K1, XB⟩
    intro k0 k1 vx hF
    obtain ⟨hk0, hk1, d0, K0, K1, XB⟩ := hF
    have hHeld : ((fun w' => w'.cell? ⟨w.heap.size, 0, none⟩ = some (.int .i64 al) ∧ w'.cell? ⟨w.heap.size, 1, none⟩ = some (.int .i64 ah) ∧ w'.cell? ⟨j1, 0, none⟩ = some (.int .i64 bl) ∧ w'.cell? ⟨j1, 1, none⟩ = some (.int .i64 bh))) vx := SK.out _ XB 
    refine wpAnyH_ready (rs := [6]) (by kernel_rfl) (by simp) ?_
    refine (AllReadyH.cons (by rw [List.getElem?_toArray]; rfl) (fun K hK => ?_) AllReadyH.nil)
    · go_simp
      refine (CS _).mono ?_; rintro ee vx ⟨rfl, hbl⟩; (replace XB := XB.trans (hbl.mono XB.size)); (replace K0 := K0.below hbl); (replace K1 := K1.below hbl); (clear hbl)
      (try go_wp2_with fail)
      refine hK.out _ _ ?_ (fun hHeld => ?_)
      · first | exact SK.out _ XB | exact SK.out _ (Below.drew (Below.refl _ _))
      clear hK K
      (try simp only [Act.put, List.setIfInBounds_toArray, List.set_cons_zero, List.set_cons_succ])
      refine wpAnyH_take (i := 7) (v := ?_) (by rw [List.getElem?_toArray]; rfl) (by kernel_rfl) (by kernel_rfl) (by kernel_rfl) (by intro _ _ _ h; exact h) (Or.inl ⟨by rfl, ?_⟩) (by assumption) ?_
      rotate_left
      · (intro w hSw; (try dsimp only at hSw); go_simp; all_goals with_reducible rfl)
      (try simp only [Act.put, List.setIfInBounds_toArray, List.set_cons_zero, List.set_cons_succ])
      refine wpAnyH_take (i := 8) (v := ?_) (by rw [List.getElem?_toArray]; rfl) (by kernel_rfl) (by kernel_rfl) (by kernel_rfl) (by intro _ _ _ h; exact h) (Or.inl ⟨by rfl, ?_⟩) (by assumption) ?_
      rotate_left
      · (intro w hSw; (try dsimp only at hSw); go_simp; all_goals with_reducible rfl)
      (try simp only [Act.put, List.setIfInBounds_toArray, List.set_cons_zero, List.set_cons_succ])
      refine wpAnyH_take (i := 9) (v := ?_) (by rw [List.getElem?_toArray]; rfl) (by kernel_rfl) (by kernel_rfl) (by kernel_rfl) (by intro _ _ _ h; exact h) (Or.inl ⟨by rfl, ?_⟩) (by assumption) ?_
      rotate_left
      · (intro w hSw; (try dsimp only at hSw); go_simp; all_goals with_reducible rfl)
      (try simp only [Act.put, List.setIfInBounds_toArray, List.set_cons_zero, List.set_cons_succ])
      refine wpAnyH_take (i := 10) (v := ?_) (by rw [List.getElem?_toArray]; rfl) (by kernel_rfl) (by kernel_rfl) (by kernel_rfl) (by intro _ _ _ h; exact h) (Or.inl ⟨by rfl, ?_⟩) (by assumption) ?_
      rotate_left
      · (intro w hSw; (try dsimp only at hSw); go_simp; all_goals with_reducible rfl)
      (try simp only [Act.put, List.setIfInBounds_toArray, List.set_cons_zero, List.set_cons_succ])
      exact T1_4_6_11_12 _ _ _ ⟨hk0, hk1, d0, K0, K1, XB⟩
    intro k0 k1 vx hF
    obtain ⟨hk0, hk1, d0, K0, K1, XB⟩ := hF
    have hHeld : ((fun w' => w'.cell? ⟨w.heap.size, 0, none⟩ = some (.int .i64 al) ∧ w'.cell? ⟨w.heap.size, 1, none⟩ = some (.int .i64 ah) ∧ w'.cell? ⟨j1, 0, none⟩ = some (.int .i64 bl) ∧ w'.cell? ⟨j1, 1, none⟩ = some (.int .i64 bh))) vx := SK.out _ XB 
    (obtain ⟨za0, zb0, zc0, zd0, ze0⟩ := id K0)
    (obtain ⟨za1, zb1, zc1, zd1, ze1⟩ := id K1)
    refine wpAnyH_ready (rs := [13]) (by kernel_rfl) (by simp) ?_
    refine (AllReadyH.cons (by rw [List.getElem?_toArray]; rfl) (fun K hK => ?_) AllReadyH.nil)
    go_simp
    (clear za0 zb0 zc0 zd0 ze0); (clear za1 zb1 zc1 zd1 ze1); (replace XB := (XB.setCell (p := ⟨k0, 0, none⟩) hk0 (.int .i64 x1)).setCell (p := ⟨k0, 1, none⟩) hk0 (.int .i64 y1)); (replace K0 := (K0.set0 (.int .i64 x1)).set1 (.int .i64 y1)); (replace K1 := (K1.setO d0 0 (.int .i64 x1)).setO d0 1 (.int .i64 y1)); (generalize (vx.setCell ⟨k0, 0, none⟩ (.int .i64 x1)).setCell ⟨k0, 1, none⟩ (.int .i64 y1) = vx at *); (obtain ⟨za0, zb0, zc0, zd0, ze0⟩ := id K0); (obtain ⟨za1, zb1, zc1, zd1, ze1⟩ := id K1)
    refine hK.out _ _ ?_ (fun hHeld => ?_)
    · first | exact SK.out _ XB | exact SK.out _ (Below.drew (Below.refl _ _))
    clear hK K
    (try simp only [Act.put, List.setIfInBounds_toArray, List.set_cons_zero, List.set_cons_succ])
    refine wpAnyH_ready (rs := [14]) (by kernel_rfl) (by simp) ?_
    refine (AllReadyH.cons (by rw [List.getElem?_toArray]; rfl) (fun K hK => ?_) AllReadyH.nil)
    go_simp
    (clear za0 zb0 zc0 zd0 ze0); (clear za1 zb1 zc1 zd1 ze1); (replace XB := (XB.setCell (p := ⟨k1, 0, none⟩) hk1 (.int .i64 x2)).setCell (p := ⟨k1, 1, none⟩) hk1 (.int .i64 y2)); (replace K1 := (K1.set0 (.int .i64 x2)).set1 (.int .i64 y2)); (replace K0 := (K0.setO (Ne.symm d0) 0 (.int .i64 x2)).setO (Ne.symm d0) 1 (.int .i64 y2)); (generalize (vx.setCell ⟨k1, 0, none⟩ (.int .i64 x2)).setCell ⟨k1, 1, none⟩ (.int .i64 y2) = vx at *); (obtain ⟨za0, zb0, zc0, zd0, ze0⟩ := id K0); (obtain ⟨za1, zb1, zc1, zd1, ze1⟩ := id K1)
    refine hK.out _ _ ?_ (fun hHeld => ?_)
    · first | exact SK.out _ XB | exact SK.out _ (Below.drew (Below.refl _ _))
    clear hK K
    (try simp only [Act.put, List.setIfInBounds_toArray, List.set_cons_zero, List.set_cons_succ])
    refine wpAnyH_take (i := 15) (v := ?_) (by rw [List.getElem?_toArray]; rfl) (by kernel_rfl) (by kernel_rfl) (by kernel_rfl) (by intro _ _ _ h; exact h) (Or.inl ⟨by rfl, ?_⟩) (by assumption) ?_
    rotate_left
    · (intro w hSw; (try dsimp only at hSw); go_simp; all_goals with_reducible rfl)
    (try simp only [Act.put, List.setIfInBounds_toArray, List.set_cons_zero, List.set_cons_succ])
    refine wpAnyH_done (by kernel_rfl) ?_ _
    go_wp2_with fail
    go_meet
    case rel => exact ⟨_, _, rfl, rfl, rfl, K0, K1, XB⟩
  case rest =>
    obtain ⟨ak0, ak1, rfl, rfl, rfl, K0, K1, XB⟩ := hcut
    replace P0 := P0.below XB
    replace P1 := P1.below XB
    replace E := E.below XB
    replace B := B.trans (XB.mono B.size)
    clear XB SK CS
    generalize wc = v4 at *
    have M0 := K0
    clear K0
    have M1 := K1
    clear K1
    have SK : Hid (∀ w', Below v4.heap.size v4 w' → (w'.cell? ⟨w.heap.size, 0, none⟩ = some (.int .i64 al) ∧ w'.cell? ⟨w.heap.size, 1, none⟩ = some (.int .i64 ah) ∧ w'.cell? ⟨j1, 0, none⟩ = some (.int .i64 bl) ∧ w'.cell? ⟨j1, 1, none⟩ = some (.int .i64 bh))) := fun w' hw => ⟨(P0.below hw).2.1, (P0.below hw).2.2.1, (P1.below hw).2.1, (P1.below hw).2.2.1⟩
    go_upto_region 2 with fail
    go_cut [12, 13, 14] (fun s12 s13 s14 wx => ∃ bk0 bk1 : Nat, s12 = .pointer (some ⟨bk0, 0, none⟩) ∧ s13 = .pointer (some ⟨bk1, 0, none⟩) ∧ s14 = (.bool ok) ∧ Bx2 wx bk0 (.int .i64 x1) (.int .i64 y1) ∧ Bx2 wx bk1 (.int .i64 x2) (.int .i64 y2) ∧ Below v4.heap.size v4 wx)
    case first => as_aux_lemma =>
      refine wp_region_held_drew (S := (fun w' => w'.cell? ⟨w.heap.size, 0, none⟩ = some (.int .i64 al) ∧ w'.cell? ⟨w.heap.size, 1, none⟩ = some (.int .i64 ah) ∧ w'.cell? ⟨j1, 0, none⟩ = some (.int .i64 bl) ∧ w'.cell? ⟨j1, 1, none⟩ = some (.int .i64 bh))) (by kernel_rfl) ?_ (fun hHeld => ?_)
      · first | exact SK.out _ XB | exact SK.out _ (Below.drew (Below.refl _ _))
      have XB : Below v4.heap.size v4 v4.drew := Below.drew (Below.refl _ _)
      generalize v4.drew = vx at *
      refine wpAnyH_take (i := 0) (v := ?_) (by rw [List.getElem?_toArray]; rfl) (by kernel_rfl) (by kernel_rfl) (by kernel_rfl) (by intro _ _ _ h; exact h) (Or.inl ⟨by rfl, ?_⟩) (by assumption) ?_
      rotate_left
      · (intro w hSw; (try dsimp only at hSw); go_simp; all_goals with_reducible rfl)
      (try simp only [Act.put, List.setIfInBounds_toArray, List.set_cons_zero, List.set_cons_succ])
      refine wpAnyH_take (i := 2) (v := ?_) (by rw [List.getElem?_toArray]; rfl) (by kernel_rfl) (by kernel_rfl) (by kernel_rfl) (by intro _ _ _ h; exact h) (Or.inl ⟨by rfl, ?_⟩) (by assumption) ?_
      rotate_left
      · (intro w hSw; (try dsimp only at hSw); go_simp; all_goals with_reducible rfl)
      (try simp only [Act.put, List.setIfInBounds_toArray, List.set_cons_zero, List.set_cons_succ])
      refine wpAnyH_take (i := 3) (v := ?_) (by rw [List.getElem?_toArray]; rfl) (by kernel_rfl) (by kernel_rfl) (by kernel_rfl) (by intro _ _ _ h; exact h) (Or.inl ⟨by rfl, ?_⟩) (by assumption) ?_
      rotate_left
      · (intro w hSw; (try dsimp only at hSw); go_simp; all_goals with_reducible rfl)
      (try simp only [Act.put, List.setIfInBounds_toArray, List.set_cons_zero, List.set_cons_succ])
      refine wpAnyH_take (i := 5) (v := ?_) (by rw [List.getElem?_toArray]; rfl) (by kernel_rfl) (by kernel_rfl) (by kernel_rfl) (by intro _ _ _ h; exact h) (Or.inl ⟨by rfl, ?_⟩) (by assumption) ?_
      rotate_left
      · (intro w hSw; (try dsimp only at hSw); go_simp; all_goals with_reducible rfl)
      (try simp only [Act.put, List.setIfInBounds_toArray, List.set_cons_zero, List.set_cons_succ])
      apply tail2 (F := (fun k0 k1 vx => v4.heap.size ≤ k0 ∧ v4.heap.size ≤ k1 ∧ k0 ≠ k1 ∧ Bx2 vx k0 (.int .i64 0) (.int .i64 0) ∧ Bx2 vx k1 (.int .i64 0) (.int .i64 0) ∧ Below v4.heap.size v4 vx))
      intro T1_4_6_11_12
      apply tail2 (F := (fun k0 k1 vx => v4.heap.size ≤ k0 ∧ v4.heap.size ≤ k1 ∧ k0 ≠ k1 ∧ Bx2 vx k0 (.int .i64 0) (.int .i64 0) ∧ Bx2 vx k1 (.int .i64 0) (.int .i64 0) ∧ Below v4.heap.size v4 vx))
      intro T1_4_11_12
      apply tail1 (F := (fun k1 vx => v4.heap.size ≤ k1 ∧ Bx2 vx k1 (.int .i64 0) (.int .i64 0) ∧ Below v4.heap.size v4 vx))
      intro T1_4_6_12
      apply tail1 (F := (fun k0 vx => v4.heap.size ≤ k0 ∧ Bx2 vx k0 (.int .i64 0) (.int .i64 0) ∧ Below v4.heap.size v4 vx))
      intro T1_4_6_11
      apply tail2 (F := (fun k0 k1 vx => v4.heap.size ≤ k0 ∧ v4.heap.size ≤ k1 ∧ k0 ≠ k1 ∧ Bx2 vx k0 (.int .i64 0) (.int .i64 0) ∧ Bx2 vx k1 (.int .i64 0) (.int .i64 0) ∧ Below v4.heap.size v4 vx))
      intro T1_11_12
      apply tail1 (F := (fun k1 vx => v4.heap.size ≤ k1 ∧ Bx2 vx k1 (.int .i64 0) (.int .i64 0) ∧ Below v4.heap.size v4 vx))
      intro T1_4_12
      apply tail1 (F := (fun k0 vx => v4.heap.size ≤ k0 ∧ Bx2 vx k0 (.int .i64 0) (.int .i64 0) ∧ Below v4.heap.size v4 vx))
      intro T1_4_11
      apply tail0 (F := (fun vx => Below v4.heap.size v4 vx))
      intro T1_4_6
      apply tail2 (F := (fun k0 k1 vx => v4.heap.size ≤ k0 ∧ v4.heap.size ≤ k1 ∧ k0 ≠ k1 ∧ Bx2 vx k0 (.int .i64 0) (.int .i64 0) ∧ Bx2 vx k1 (.int .i64 0) (.int .i64 0) ∧ Below v4.heap.size v4 vx))
      intro T11_12
      apply tail1 (F := (fun k1 vx => v4.heap.size ≤ k1 ∧ Bx2 vx k1 (.int .i64 0) (.int .i64 0) ∧ Below v4.heap.size v4 vx))
      intro T1_12
      apply tail1 (F := (fun k0 vx => v4.heap.size ≤ k0 ∧ Bx2 vx k0 (.int .i64 0) (.int .i64 0) ∧ Below v4.heap.size v4 vx))
      intro T1_11
      apply tail0 (F := (fun vx => Below v4.heap.size v4 vx))
      intro T1_4
      apply tail1 (F := (fun k1 vx => v4.heap.size ≤ k1 ∧ Bx2 vx k1 (.int .i64 0) (.int .i64 0) ∧ Below v4.heap.size v4 vx))
      intro T12
      apply tail1 (F := (fun k0 vx => v4.heap.size ≤ k0 ∧ Bx2 vx k0 (.int .i64 0) (.int .i64 0) ∧ Below v4.heap.size v4 vx))
      intro T11
      apply tail0 (F := (fun vx => Below v4.heap.size v4 vx))
      intro T1
      refine wpAnyH_ready (rs := [1, 11, 12]) (by kernel_rfl) (by simp) ?_
      refine (AllReadyH.cons (by rw [List.getElem?_toArray]; rfl) (fun K hK => ?_) (AllReadyH.cons (by rw [List.getElem?_toArray]; rfl) (fun K hK => ?_) (AllReadyH.cons (by rw [List.getElem?_toArray]; rfl) (fun K hK => ?_) AllReadyH.nil)))
      · go_simp
        refine (toIval_any al ah _).mono ?_; rintro ee vx ⟨rfl, hbl⟩; (replace XB := XB.trans (hbl.mono XB.size)); (clear hbl)
        (try go_wp2_with fail)
        refine hK.out _ _ ?_ (fun hHeld => ?_)
        · first | exact SK.out _ XB | exact SK.out _ (Below.drew (Below.refl _ _))
        clear hK K
        (try simp only [Act.put, List.setIfInBounds_toArray, List.set_cons_zero, List.set_cons_succ])
        exact T1 _ XB
      · go_simp
        (have K0 := Bx2.new vx (.int .i64 0) (.int .i64 0) 25); (have hk0 := XB.size); (have hbl := Below.nw vx (.cells #[.int .i64 0, .int .i64 0] 25)); (replace XB := XB.trans (hbl.mono XB.size)); (clear hbl); (generalize vx.heap.size = k0 at *); (generalize vx.alloc (.cells #[.int .i64 0, .int .i64 0] 25) = vx at *)
        refine hK.out _ _ ?_ (fun hHeld => ?_)
        · first | exact SK.out _ XB | exact SK.out _ (Below.drew (Below.refl _ _))
        clear hK K
        (try simp only [Act.put, List.setIfInBounds_toArray, List.set_cons_zero, List.set_cons_succ])
        exact T11 _ _ ⟨hk0, K0, XB⟩
      · go_simp
        (have K1 := Bx2.new vx (.int .i64 0) (.int .i64 0) 25); (have hk1 := XB.size); (have hbl := Below.nw vx (.cells #[.int .i64 0, .int .i64 0] 25)); (replace XB := XB.trans (hbl.mono XB.size)); (clear hbl); (generalize vx.heap.size = k1 at *); (generalize vx.alloc (.cells #[.int .i64 0, .int .i64 0] 25) = vx at *)
        refine hK.out _ _ ?_ (fun hHeld => ?_)
        · first | exact SK.out _ XB | exact SK.out _ (Below.drew (Below.refl _ _))
        clear hK K
        (try simp only [Act.put, List.setIfInBounds_toArray, List.set_cons_zero, List.set_cons_succ])
        exact T12 _ _ ⟨hk1, K1, XB⟩
      intro vx hF
      have XB : Below v4.heap.size v4 vx := hF
      have hHeld : ((fun w' => w'.cell? ⟨w.heap.size, 0, none⟩ = some (.int .i64 al) ∧ w'.cell? ⟨w.heap.size, 1, none⟩ = some (.int .i64 ah) ∧ w'.cell? ⟨j1, 0, none⟩ = some (.int .i64 bl) ∧ w'.cell? ⟨j1, 1, none⟩ = some (.int .i64 bh))) vx := SK.out _ XB 
      refine wpAnyH_ready (rs := [4, 11, 12]) (by kernel_rfl) (by simp) ?_
      refine (AllReadyH.cons (by rw [List.getElem?_toArray]; rfl) (fun K hK => ?_) (AllReadyH.cons (by rw [List.getElem?_toArray]; rfl) (fun K hK => ?_) (AllReadyH.cons (by rw [List.getElem?_toArray]; rfl) (fun K hK => ?_) AllReadyH.nil)))
      · go_simp
        refine (toIval_any bl bh _).mono ?_; rintro ee vx ⟨rfl, hbl⟩; (replace XB := XB.trans (hbl.mono XB.size)); (clear hbl)
        (try go_wp2_with fail)
        refine hK.out _ _ ?_ (fun hHeld => ?_)
        · first | exact SK.out _ XB | exact SK.out _ (Below.drew (Below.refl _ _))
        clear hK K
        (try simp only [Act.put, List.setIfInBounds_toArray, List.set_cons_zero, List.set_cons_succ])
        exact T1_4 _ XB
      · go_simp
        (have K0 := Bx2.new vx (.int .i64 0) (.int .i64 0) 25); (have hk0 := XB.size); (have hbl := Below.nw vx (.cells #[.int .i64 0, .int .i64 0] 25)); (replace XB := XB.trans (hbl.mono XB.size)); (clear hbl); (generalize vx.heap.size = k0 at *); (generalize vx.alloc (.cells #[.int .i64 0, .int .i64 0] 25) = vx at *)
        refine hK.out _ _ ?_ (fun hHeld => ?_)
        · first | exact SK.out _ XB | exact SK.out _ (Below.drew (Below.refl _ _))
        clear hK K
        (try simp only [Act.put, List.setIfInBounds_toArray, List.set_cons_zero, List.set_cons_succ])
        exact T1_11 _ _ ⟨hk0, K0, XB⟩
      · go_simp
        (have K1 := Bx2.new vx (.int .i64 0) (.int .i64 0) 25); (have hk1 := XB.size); (have hbl := Below.nw vx (.cells #[.int .i64 0, .int .i64 0] 25)); (replace XB := XB.trans (hbl.mono XB.size)); (clear hbl); (generalize vx.heap.size = k1 at *); (generalize vx.alloc (.cells #[.int .i64 0, .int .i64 0] 25) = vx at *)
        refine hK.out _ _ ?_ (fun hHeld => ?_)
        · first | exact SK.out _ XB | exact SK.out _ (Below.drew (Below.refl _ _))
        clear hK K
        (try simp only [Act.put, List.setIfInBounds_toArray, List.set_cons_zero, List.set_cons_succ])
        exact T1_12 _ _ ⟨hk1, K1, XB⟩
      intro k0 vx hF
      obtain ⟨hk0, K0, XB⟩ := hF
      have hHeld : ((fun w' => w'.cell? ⟨w.heap.size, 0, none⟩ = some (.int .i64 al) ∧ w'.cell? ⟨w.heap.size, 1, none⟩ = some (.int .i64 ah) ∧ w'.cell? ⟨j1, 0, none⟩ = some (.int .i64 bl) ∧ w'.cell? ⟨j1, 1, none⟩ = some (.int .i64 bh))) vx := SK.out _ XB 
      refine wpAnyH_ready (rs := [1, 12]) (by kernel_rfl) (by simp) ?_
      refine (AllReadyH.cons (by rw [List.getElem?_toArray]; rfl) (fun K hK => ?_) (AllReadyH.cons (by rw [List.getElem?_toArray]; rfl) (fun K hK => ?_) AllReadyH.nil))
      · go_simp
        refine (toIval_any al ah _).mono ?_; rintro ee vx ⟨rfl, hbl⟩; (replace XB := XB.trans (hbl.mono XB.size)); (replace K0 := K0.below hbl); (clear hbl)
        (try go_wp2_with fail)
        refine hK.out _ _ ?_ (fun hHeld => ?_)
        · first | exact SK.out _ XB | exact SK.out _ (Below.drew (Below.refl _ _))
        clear hK K
        (try simp only [Act.put, List.setIfInBounds_toArray, List.set_cons_zero, List.set_cons_succ])
        exact T1_11 _ _ ⟨hk0, K0, XB⟩
      · go_simp
        (have K1 := Bx2.new vx (.int .i64 0) (.int .i64 0) 25); (have hk1 := XB.size); (have hbl := Below.nw vx (.cells #[.int .i64 0, .int .i64 0] 25)); (have d0 : k0 ≠ vx.heap.size := Nat.ne_of_lt K0.1); (replace K0 := K0.below hbl); (replace XB := XB.trans (hbl.mono XB.size)); (clear hbl); (generalize vx.heap.size = k1 at *); (generalize vx.alloc (.cells #[.int .i64 0, .int .i64 0] 25) = vx at *)
        refine hK.out _ _ ?_ (fun hHeld => ?_)
        · first | exact SK.out _ XB | exact SK.out _ (Below.drew (Below.refl _ _))
        clear hK K
        (try simp only [Act.put, List.setIfInBounds_toArray, List.set_cons_zero, List.set_cons_succ])
        exact T11_12 _ _ _ ⟨hk0, hk1, d0, K0, K1, XB⟩
      intro k1 vx hF
      obtain ⟨hk1, K1, XB⟩ := hF
      have hHeld : ((fun w' => w'.cell? ⟨w.heap.size, 0, none⟩ = some (.int .i64 al) ∧ w'.cell? ⟨w.heap.size, 1, none⟩ = some (.int .i64 ah) ∧ w'.cell? ⟨j1, 0, none⟩ = some (.int .i64 bl) ∧ w'.cell? ⟨j1, 1, none⟩ = some (.int .i64 bh))) vx := SK.out _ XB 
      refine wpAnyH_ready (rs := [1, 11]) (by kernel_rfl) (by simp) ?_
      refine (AllReadyH.cons (by rw [List.getElem?_toArray]; rfl) (fun K hK => ?_) (AllReadyH.cons (by rw [List.getElem?_toArray]; rfl) (fun K hK => ?_) AllReadyH.nil))
      · go_simp
        refine (toIval_any al ah _).mono ?_; rintro ee vx ⟨rfl, hbl⟩; (replace XB := XB.trans (hbl.mono XB.size)); (replace K1 := K1.below hbl); (clear hbl)
        (try go_wp2_with fail)
        refine hK.out _ _ ?_ (fun hHeld => ?_)
        · first | exact SK.out _ XB | exact SK.out _ (Below.drew (Below.refl _ _))
        clear hK K
        (try simp only [Act.put, List.setIfInBounds_toArray, List.set_cons_zero, List.set_cons_succ])
        exact T1_12 _ _ ⟨hk1, K1, XB⟩
      · go_simp
        (have K0 := Bx2.new vx (.int .i64 0) (.int .i64 0) 25); (have hk0 := XB.size); (have hbl := Below.nw vx (.cells #[.int .i64 0, .int .i64 0] 25)); (have d0 : vx.heap.size ≠ k1 := Nat.ne_of_gt K1.1); (replace K1 := K1.below hbl); (replace XB := XB.trans (hbl.mono XB.size)); (clear hbl); (generalize vx.heap.size = k0 at *); (generalize vx.alloc (.cells #[.int .i64 0, .int .i64 0] 25) = vx at *)
        refine hK.out _ _ ?_ (fun hHeld => ?_)
        · first | exact SK.out _ XB | exact SK.out _ (Below.drew (Below.refl _ _))
        clear hK K
        (try simp only [Act.put, List.setIfInBounds_toArray, List.set_cons_zero, List.set_cons_succ])
        exact T11_12 _ _ _ ⟨hk0, hk1, d0, K0, K1, XB⟩
      intro vx hF
      have XB : Below v4.heap.size v4 vx := hF
      have hHeld : ((fun w' => w'.cell? ⟨w.heap.size, 0, none⟩ = some (.int .i64 al) ∧ w'.cell? ⟨w.heap.size, 1, none⟩ = some (.int .i64 ah) ∧ w'.cell? ⟨j1, 0, none⟩ = some (.int .i64 bl) ∧ w'.cell? ⟨j1, 1, none⟩ = some (.int .i64 bh))) vx := SK.out _ XB 
      refine wpAnyH_ready (rs := [6, 11, 12]) (by kernel_rfl) (by simp) ?_
      refine (AllReadyH.cons (by rw [List.getElem?_toArray]; rfl) (fun K hK => ?_) (AllReadyH.cons (by rw [List.getElem?_toArray]; rfl) (fun K hK => ?_) (AllReadyH.cons (by rw [List.getElem?_toArray]; rfl) (fun K hK => ?_) AllReadyH.nil)))
      · go_simp
        refine (CI _ (E.below XB)).mono ?_; rintro ee vx ⟨rfl, hbl⟩; (replace XB := XB.trans (hbl.mono XB.size)); (clear hbl)
        (try go_wp2_with fail)
        refine hK.out _ _ ?_ (fun hHeld => ?_)
        · first | exact SK.out _ XB | exact SK.out _ (Below.drew (Below.refl _ _))
        clear hK K
        (try simp only [Act.put, List.setIfInBounds_toArray, List.set_cons_zero, List.set_cons_succ])
        refine wpAnyH_take (i := 7) (v := ?_) (by rw [List.getElem?_toArray]; rfl) (by kernel_rfl) (by kernel_rfl) (by kernel_rfl) (by intro _ _ _ h; exact h) (Or.inl ⟨by rfl, ?_⟩) (by assumption) ?_
        rotate_left
        · (intro w hSw; (try dsimp only at hSw); go_simp; all_goals with_reducible rfl)
        (try simp only [Act.put, List.setIfInBounds_toArray, List.set_cons_zero, List.set_cons_succ])
        refine wpAnyH_take (i := 8) (v := ?_) (by rw [List.getElem?_toArray]; rfl) (by kernel_rfl) (by kernel_rfl) (by kernel_rfl) (by intro _ _ _ h; exact h) (Or.inl ⟨by rfl, ?_⟩) (by assumption) ?_
        rotate_left
        · (intro w hSw; (try dsimp only at hSw); go_simp; all_goals with_reducible rfl)
        (try simp only [Act.put, List.setIfInBounds_toArray, List.set_cons_zero, List.set_cons_succ])
        refine wpAnyH_take (i := 9) (v := ?_) (by rw [List.getElem?_toArray]; rfl) (by kernel_rfl) (by kernel_rfl) (by kernel_rfl) (by intro _ _ _ h; exact h) (Or.inl ⟨by rfl, ?_⟩) (by assumption) ?_
        rotate_left
        · (intro w hSw; (try dsimp only at hSw); go_simp; all_goals with_reducible rfl)
        (try simp only [Act.put, List.setIfInBounds_toArray, List.set_cons_zero, List.set_cons_succ])
        refine wpAnyH_take (i := 10) (v := ?_) (by rw [List.getElem?_toArray]; rfl) (by kernel_rfl) (by kernel_rfl) (by kernel_rfl) (by intro _ _ _ h; exact h) (Or.inl ⟨by rfl, ?_⟩) (by assumption) ?_
        rotate_left
        · (intro w hSw; (try dsimp only at hSw); go_simp; all_goals with_reducible rfl)
        (try simp only [Act.put, List.setIfInBounds_toArray, List.set_cons_zero, List.set_cons_succ])
        exact T1_4_6 _ XB
      · go_simp
        (have K0 := Bx2.new vx (.int .i64 0) (.int .i64 0) 25); (have hk0 := XB.size); (have hbl := Below.nw vx (.cells #[.int .i64 0, .int .i64 0] 25)); (replace XB := XB.trans (hbl.mono XB.size)); (clear hbl); (generalize vx.heap.size = k0 at *); (generalize vx.alloc (.cells #[.int .i64 0, .int .i64 0] 25) = vx at *)
        refine hK.out _ _ ?_ (fun hHeld => ?_)
        · first | exact SK.out _ XB | exact SK.out _ (Below.drew (Below.refl _ _))
        clear hK K
        (try simp only [Act.put, List.setIfInBounds_toArray, List.set_cons_zero, List.set_cons_succ])
        exact T1_4_11 _ _ ⟨hk0, K0, XB⟩
      · go_simp
        (have K1 := Bx2.new vx (.int .i64 0) (.int .i64 0) 25); (have hk1 := XB.size); (have hbl := Below.nw vx (.cells #[.int .i64 0, .int .i64 0] 25)); (replace XB := XB.trans (hbl.mono XB.size)); (clear hbl); (generalize vx.heap.size = k1 at *); (generalize vx.alloc (.cells #[.int .i64 0, .int .i64 0] 25) = vx at *)
        refine hK.out _ _ ?_ (fun hHeld => ?_)
        · first | exact SK.out _ XB | exact SK.out _ (Below.drew (Below.refl _ _))
        clear hK K
        (try simp only [Act.put, List.setIfInBounds_toArray, List.set_cons_zero, List.set_cons_succ])
        exact T1_4_12 _ _ ⟨hk1, K1, XB⟩
      intro k0 vx hF
      obtain ⟨hk0, K0, XB⟩ := hF
      have hHeld : ((fun w' => w'.cell? ⟨w.heap.size, 0, none⟩ = some (.int .i64 al) ∧ w'.cell? ⟨w.heap.size, 1, none⟩ = some (.int .i64 ah) ∧ w'.cell? ⟨j1, 0, none⟩ = some (.int .i64 bl) ∧ w'.cell? ⟨j1, 1, none⟩ = some (.int .i64 bh))) vx := SK.out _ XB 
      refine wpAnyH_ready (rs := [4, 12]) (by kernel_rfl) (by simp) ?_
      refine (AllReadyH.cons (by rw [List.getElem?_toArray]; rfl) (fun K hK => ?_) (AllReadyH.cons (by rw [List.getElem?_toArray]; rfl) (fun K hK => ?_) AllReadyH.nil))
      · go_simp
        refine (toIval_any bl bh _).mono ?_; rintro ee vx ⟨rfl, hbl⟩; (replace XB := XB.trans (hbl.mono XB.size)); (replace K0 := K0.below hbl); (clear hbl)
        (try go_wp2_with fail)
        refine hK.out _ _ ?_ (fun hHeld => ?_)
        · first | exact SK.out _ XB | exact SK.out _ (Below.drew (Below.refl _ _))
        clear hK K
        (try simp only [Act.put, List.setIfInBounds_toArray, List.set_cons_zero, List.set_cons_succ])
        exact T1_4_11 _ _ ⟨hk0, K0, XB⟩
      · go_simp
        (have K1 := Bx2.new vx (.int .i64 0) (.int .i64 0) 25); (have hk1 := XB.size); (have hbl := Below.nw vx (.cells #[.int .i64 0, .int .i64 0] 25)); (have d0 : k0 ≠ vx.heap.size := Nat.ne_of_lt K0.1); (replace K0 := K0.below hbl); (replace XB := XB.trans (hbl.mono XB.size)); (clear hbl); (generalize vx.heap.size = k1 at *); (generalize vx.alloc (.cells #[.int .i64 0, .int .i64 0] 25) = vx at *)
        refine hK.out _ _ ?_ (fun hHeld => ?_)
        · first | exact SK.out _ XB | exact SK.out _ (Below.drew (Below.refl _ _))
        clear hK K
        (try simp only [Act.put, List.setIfInBounds_toArray, List.set_cons_zero, List.set_cons_succ])
        exact T1_11_12 _ _ _ ⟨hk0, hk1, d0, K0, K1, XB⟩
      intro k1 vx hF
      obtain ⟨hk1, K1, XB⟩ := hF
      have hHeld : ((fun w' => w'.cell? ⟨w.heap.size, 0, none⟩ = some (.int .i64 al) ∧ w'.cell? ⟨w.heap.size, 1, none⟩ = some (.int .i64 ah) ∧ w'.cell? ⟨j1, 0, none⟩ = some (.int .i64 bl) ∧ w'.cell? ⟨j1, 1, none⟩ = some (.int .i64 bh))) vx := SK.out _ XB 
      refine wpAnyH_ready (rs := [4, 11]) (by kernel_rfl) (by simp) ?_
      refine (AllReadyH.cons (by rw [List.getElem?_toArray]; rfl) (fun K hK => ?_) (AllReadyH.cons (by rw [List.getElem?_toArray]; rfl) (fun K hK => ?_) AllReadyH.nil))
      · go_simp
        refine (toIval_any bl bh _).mono ?_; rintro ee vx ⟨rfl, hbl⟩; (replace XB := XB.trans (hbl.mono XB.size)); (replace K1 := K1.below hbl); (clear hbl)
        (try go_wp2_with fail)
        refine hK.out _ _ ?_ (fun hHeld => ?_)
        · first | exact SK.out _ XB | exact SK.out _ (Below.drew (Below.refl _ _))
        clear hK K
        (try simp only [Act.put, List.setIfInBounds_toArray, List.set_cons_zero, List.set_cons_succ])
        exact T1_4_12 _ _ ⟨hk1, K1, XB⟩
      · go_simp
        (have K0 := Bx2.new vx (.int .i64 0) (.int .i64 0) 25); (have hk0 := XB.size); (have hbl := Below.nw vx (.cells #[.int .i64 0, .int .i64 0] 25)); (have d0 : vx.heap.size ≠ k1 := Nat.ne_of_gt K1.1); (replace K1 := K1.below hbl); (replace XB := XB.trans (hbl.mono XB.size)); (clear hbl); (generalize vx.heap.size = k0 at *); (generalize vx.alloc (.cells #[.int .i64 0, .int .i64 0] 25) = vx at *)
        refine hK.out _ _ ?_ (fun hHeld => ?_)
        · first | exact SK.out _ XB | exact SK.out _ (Below.drew (Below.refl _ _))
        clear hK K
        (try simp only [Act.put, List.setIfInBounds_toArray, List.set_cons_zero, List.set_cons_succ])
        exact T1_11_12 _ _ _ ⟨hk0, hk1, d0, K0, K1, XB⟩
      intro k0 k1 vx hF
      obtain ⟨hk0, hk1, d0, K0, K1, XB⟩ := hF
      have hHeld : ((fun w' => w'.cell? ⟨w.heap.size, 0, none⟩ = some (.int .i64 al) ∧ w'.cell? ⟨w.heap.size, 1, none⟩ = some (.int .i64 ah) ∧ w'.cell? ⟨j1, 0, none⟩ = some (.int .i64 bl) ∧ w'.cell? ⟨j1, 1, none⟩ = some (.int .i64 bh))) vx := SK.out _ XB 
      refine wpAnyH_ready (rs := [1]) (by kernel_rfl) (by simp) ?_
      refine (AllReadyH.cons (by rw [List.getElem?_toArray]; rfl) (fun K hK => ?_) AllReadyH.nil)
      · go_simp
        refine (toIval_any al ah _).mono ?_; rintro ee vx ⟨rfl, hbl⟩; (replace XB := XB.trans (hbl.mono XB.size)); (replace K0 := K0.below hbl); (replace K1 := K1.below hbl); (clear hbl)
        (try go_wp2_with fail)
        refine hK.out _ _ ?_ (fun hHeld => ?_)
        · first | exact SK.out _ XB | exact SK.out _ (Below.drew (Below.refl _ _))
        clear hK K
        (try simp only [Act.put, List.setIfInBounds_toArray, List.set_cons_zero, List.set_cons_succ])
        exact T1_11_12 _ _ _ ⟨hk0, hk1, d0, K0, K1, XB⟩
      intro vx hF
      have XB : Below v4.heap.size v4 vx := hF
      have hHeld : ((fun w' => w'.cell? ⟨w.heap.size, 0, none⟩ = some (.int .i64 al) ∧ w'.cell? ⟨w.heap.size, 1, none⟩ = some (.int .i64 ah) ∧ w'.cell? ⟨j1, 0, none⟩ = some (.int .i64 bl) ∧ w'.cell? ⟨j1, 1, none⟩ = some (.int .i64 bh))) vx := SK.out _ XB 
      refine wpAnyH_ready (rs := [11, 12]) (by kernel_rfl) (by simp) ?_
      refine (AllReadyH.cons (by rw [List.getElem?_toArray]; rfl) (fun K hK => ?_) (AllReadyH.cons (by rw [List.getElem?_toArray]; rfl) (fun K hK => ?_) AllReadyH.nil))
      · go_simp
        (have K0 := Bx2.new vx (.int .i64 0) (.int .i64 0) 25); (have hk0 := XB.size); (have hbl := Below.nw vx (.cells #[.int .i64 0, .int .i64 0] 25)); (replace XB := XB.trans (hbl.mono XB.size)); (clear hbl); (generalize vx.heap.size = k0 at *); (generalize vx.alloc (.cells #[.int .i64 0, .int .i64 0] 25) = vx at *)
        refine hK.out _ _ ?_ (fun hHeld => ?_)
        · first | exact SK.out _ XB | exact SK.out _ (Below.drew (Below.refl _ _))
        clear hK K
        (try simp only [Act.put, List.setIfInBounds_toArray, List.set_cons_zero, List.set_cons_succ])
        exact T1_4_6_11 _ _ ⟨hk0, K0, XB⟩
      · go_simp
        (have K1 := Bx2.new vx (.int .i64 0) (.int .i64 0) 25); (have hk1 := XB.size); (have hbl := Below.nw vx (.cells #[.int .i64 0, .int .i64 0] 25)); (replace XB := XB.trans (hbl.mono XB.size)); (clear hbl); (generalize vx.heap.size = k1 at *); (generalize vx.alloc (.cells #[.int .i64 0, .int .i64 0] 25) = vx at *)
        refine hK.out _ _ ?_ (fun hHeld => ?_)
        · first | exact SK.out _ XB | exact SK.out _ (Below.drew (Below.refl _ _))
        clear hK K
        (try simp only [Act.put, List.setIfInBounds_toArray, List.set_cons_zero, List.set_cons_succ])
        exact T1_4_6_12 _ _ ⟨hk1, K1, XB⟩
      intro k0 vx hF
      obtain ⟨hk0, K0, XB⟩ := hF
      have hHeld : ((fun w' => w'.cell? ⟨w.heap.size, 0, none⟩ = some (.int .i64 al) ∧ w'.cell? ⟨w.heap.size, 1, none⟩ = some (.int .i64 ah) ∧ w'.cell? ⟨j1, 0, none⟩ = some (.int .i64 bl) ∧ w'.cell? ⟨j1, 1, none⟩ = some (.int .i64 bh))) vx := SK.out _ XB 
      refine wpAnyH_ready (rs := [6, 12]) (by kernel_rfl) (by simp) ?_
      refine (AllReadyH.cons (by rw [List.getElem?_toArray]; rfl) (fun K hK => ?_) (AllReadyH.cons (by rw [List.getElem?_toArray]; rfl) (fun K hK => ?_) AllReadyH.nil))
      · go_simp
        refine (CI _ (E.below XB)).mono ?_; rintro ee vx ⟨rfl, hbl⟩; (replace XB := XB.trans (hbl.mono XB.size)); (replace K0 := K0.below hbl); (clear hbl)
        (try go_wp2_with fail)
        refine hK.out _ _ ?_ (fun hHeld => ?_)
        · first | exact SK.out _ XB | exact SK.out _ (Below.drew (Below.refl _ _))
        clear hK K
        (try simp only [Act.put, List.setIfInBounds_toArray, List.set_cons_zero, List.set_cons_succ])
        refine wpAnyH_take (i := 7) (v := ?_) (by rw [List.getElem?_toArray]; rfl) (by kernel_rfl) (by kernel_rfl) (by kernel_rfl) (by intro _ _ _ h; exact h) (Or.inl ⟨by rfl, ?_⟩) (by assumption) ?_
        rotate_left
        · (intro w hSw; (try dsimp only at hSw); go_simp; all_goals with_reducible rfl)
        (try simp only [Act.put, List.setIfInBounds_toArray, List.set_cons_zero, List.set_cons_succ])
        refine wpAnyH_take (i := 8) (v := ?_) (by rw [List.getElem?_toArray]; rfl) (by kernel_rfl) (by kernel_rfl) (by kernel_rfl) (by intro _ _ _ h; exact h) (Or.inl ⟨by rfl, ?_⟩) (by assumption) ?_
        rotate_left
        · (intro w hSw; (try dsimp only at hSw); go_simp; all_goals with_reducible rfl)
        (try simp only [Act.put, List.setIfInBounds_toArray, List.set_cons_zero, List.set_cons_succ])
        refine wpAnyH_take (i := 9) (v := ?_) (by rw [List.getElem?_toArray]; rfl) (by kernel_rfl) (by kernel_rfl) (by kernel_rfl) (by intro _ _ _ h; exact h) (Or.inl ⟨by rfl, ?_⟩) (by assumption) ?_
        rotate_left
        · (intro w hSw; (try dsimp only at hSw); go_simp; all_goals with_reducible rfl)
        (try simp only [Act.put, List.setIfInBounds_toArray, List.set_cons_zero, List.set_cons_succ])
        refine wpAnyH_take (i := 10) (v := ?_) (by rw [List.getElem?_toArray]; rfl) (by kernel_rfl) (by kernel_rfl) (by kernel_rfl) (by intro _ _ _ h; exact h) (Or.inl ⟨by rfl, ?_⟩) (by assumption) ?_
        rotate_left
        · (intro w hSw; (try dsimp only at hSw); go_simp; all_goals with_reducible rfl)
        (try simp only [Act.put, List.setIfInBounds_toArray, List.set_cons_zero, List.set_cons_succ])
        exact T1_4_6_11 _ _ ⟨hk0, K0, XB⟩
      · go_simp
        (have K1 := Bx2.new vx (.int .i64 0) (.int .i64 0) 25); (have hk1 := XB.size); (have hbl := Below.nw vx (.cells #[.int .i64 0, .int .i64 0] 25)); (have d0 : k0 ≠ vx.heap.size := Nat.ne_of_lt K0.1); (replace K0 := K0.below hbl); (replace XB := XB.trans (hbl.mono XB.size)); (clear hbl); (generalize vx.heap.size = k1 at *); (generalize vx.alloc (.cells #[.int .i64 0, .int .i64 0] 25) = vx at *)
        refine hK.out _ _ ?_ (fun hHeld => ?_)
        · first | exact SK.out _ XB | exact SK.out _ (Below.drew (Below.refl _ _))
        clear hK K
        (try simp only [Act.put, List.setIfInBounds_toArray, List.set_cons_zero, List.set_cons_succ])
        exact T1_4_11_12 _ _ _ ⟨hk0, hk1, d0, K0, K1, XB⟩
      intro k1 vx hF
      obtain ⟨hk1, K1, XB⟩ := hF
      have hHeld : ((fun w' => w'.cell? ⟨w.heap.size, 0, none⟩ = some (.int .i64 al) ∧ w'.cell? ⟨w.heap.size, 1, none⟩ = some (.int .i64 ah) ∧ w'.cell? ⟨j1, 0, none⟩ = some (.int .i64 bl) ∧ w'.cell? ⟨j1, 1, none⟩ = some (.int .i64 bh))) vx := SK.out _ XB 
      refine wpAnyH_ready (rs := [6, 11]) (by kernel_rfl) (by simp) ?_
      refine (AllReadyH.cons (by rw [List.getElem?_toArray]; rfl) (fun K hK => ?_) (AllReadyH.cons (by rw [List.getElem?_toArray]; rfl) (fun K hK => ?_) AllReadyH.nil))
      · go_simp
        refine (CI _ (E.below XB)).mono ?_; rintro ee vx ⟨rfl, hbl⟩; (replace XB := XB.trans (hbl.mono XB.size)); (replace K1 := K1.below hbl); (clear hbl)
        (try go_wp2_with fail)
        refine hK.out _ _ ?_ (fun hHeld => ?_)
        · first | exact SK.out _ XB | exact SK.out _ (Below.drew (Below.refl _ _))
        clear hK K
        (try simp only [Act.put, List.setIfInBounds_toArray, List.set_cons_zero, List.set_cons_succ])
        refine wpAnyH_take (i := 7) (v := ?_) (by rw [List.getElem?_toArray]; rfl) (by kernel_rfl) (by kernel_rfl) (by kernel_rfl) (by intro _ _ _ h; exact h) (Or.inl ⟨by rfl, ?_⟩) (by assumption) ?_
        rotate_left
        · (intro w hSw; (try dsimp only at hSw); go_simp; all_goals with_reducible rfl)
        (try simp only [Act.put, List.setIfInBounds_toArray, List.set_cons_zero, List.set_cons_succ])
        refine wpAnyH_take (i := 8) (v := ?_) (by rw [List.getElem?_toArray]; rfl) (by kernel_rfl) (by kernel_rfl) (by kernel_rfl) (by intro _ _ _ h; exact h) (Or.inl ⟨by rfl, ?_⟩) (by assumption) ?_
        rotate_left
        · (intro w hSw; (try dsimp only at hSw); go_simp; all_goals with_reducible rfl)
        (try simp only [Act.put, List.setIfInBounds_toArray, List.set_cons_zero, List.set_cons_succ])
        refine wpAnyH_take (i := 9) (v := ?_) (by rw [List.getElem?_toArray]; rfl) (by kernel_rfl) (by kernel_rfl) (by kernel_rfl) (by intro _ _ _ h; exact h) (Or.inl ⟨by rfl, ?_⟩) (by assumption) ?_
        rotate_left
        · (intro w hSw; (try dsimp only at hSw); go_simp; all_goals with_reducible rfl)
        (try simp only [Act.put, List.setIfInBounds_toArray, List.set_cons_zero, List.set_cons_succ])
        refine wpAnyH_take (i := 10) (v := ?_) (by rw [List.getElem?_toArray]; rfl) (by kernel_rfl) (by kernel_rfl) (by kernel_rfl) (by intro _ _ _ h; exact h) (Or.inl ⟨by rfl, ?_⟩) (by assumption) ?_
        rotate_left
        · (intro w hSw; (try dsimp only at hSw); go_simp; all_goals with_reducible rfl)
        (try simp only [Act.put, List.setIfInBounds_toArray, List.set_cons_zero, List.set_cons_succ])
        exact T1_4_6_12 _ _ ⟨hk1, K1, XB⟩
      · go_simp
        (have K0 := Bx2.new vx (.int .i64 0) (.int .i64 0) 25); (have hk0 := XB.size); (have hbl := Below.nw vx (.cells #[.int .i64 0, .int .i64 0] 25)); (have d0 : vx.heap.size ≠ k1 := Nat.ne_of_gt K1.1); (replace K1 := K1.below hbl); (replace XB := XB.trans (hbl.mono XB.size)); (clear hbl); (generalize vx.heap.size = k0 at *); (generalize vx.alloc (.cells #[.int .i64 0, .int .i64 0] 25) = vx at *)
        refine hK.out _ _ ?_ (fun hHeld => ?_)
        · first | exact SK.out _ XB | exact SK.out _ (Below.drew (Below.refl _ _))
        clear hK K
        (try simp only [Act.put, List.setIfInBounds_toArray, List.set_cons_zero, List.set_cons_succ])
        exact T1_4_11_12 _ _ _ ⟨hk0, hk1, d0, K0, K1, XB⟩
      intro k0 k1 vx hF
      obtain ⟨hk0, hk1, d0, K0, K1, XB⟩ := hF
      have hHeld : ((fun w' => w'.cell? ⟨w.heap.size, 0, none⟩ = some (.int .i64 al) ∧ w'.cell? ⟨w.heap.size, 1, none⟩ = some (.int .i64 ah) ∧ w'.cell? ⟨j1, 0, none⟩ = some (.int .i64 bl) ∧ w'.cell? ⟨j1, 1, none⟩ = some (.int .i64 bh))) vx := SK.out _ XB 
      refine wpAnyH_ready (rs := [4]) (by kernel_rfl) (by simp) ?_
      refine (AllReadyH.cons (by rw [List.getElem?_toArray]; rfl) (fun K hK => ?_) AllReadyH.nil)
      · go_simp
        refine (toIval_any bl bh _).mono ?_; rintro ee vx ⟨rfl, hbl⟩; (replace XB := XB.trans (hbl.mono XB.size)); (replace K0 := K0.below hbl); (replace K1 := K1.below hbl); (clear hbl)
        (try go_wp2_with fail)
        refine hK.out _ _ ?_ (fun hHeld => ?_)
        · first | exact SK.out _ XB | exact SK.out _ (Below.drew (Below.refl _ _))
        clear hK K
        (try simp only [Act.put, List.setIfInBounds_toArray, List.set_cons_zero, List.set_cons_succ])
        exact T1_4_11_12 _ _ _ ⟨hk0, hk1, d0, K0, K1, XB⟩
      intro k0 vx hF
      obtain ⟨hk0, K0, XB⟩ := hF
      have hHeld : ((fun w' => w'.cell? ⟨w.heap.size, 0, none⟩ = some (.int .i64 al) ∧ w'.cell? ⟨w.heap.size, 1, none⟩ = some (.int .i64 ah) ∧ w'.cell? ⟨j1, 0, none⟩ = some (.int .i64 bl) ∧ w'.cell? ⟨j1, 1, none⟩ = some (.int .i64 bh))) vx := SK.out _ XB 
      refine wpAnyH_ready (rs := [12]) (by kernel_rfl) (by simp) ?_
      refine (AllReadyH.cons (by rw [List.getElem?_toArray]; rfl) (fun K hK => ?_) AllReadyH.nil)
      · go_simp
        (have K1 := Bx2.new vx (.int .i64 0) (.int .i64 0) 25); (have hk1 := XB.size); (have hbl := Below.nw vx (.cells #[.int .i64 0, .int .i64 0] 25)); (have d0 : k0 ≠ vx.heap.size := Nat.ne_of_lt K0.1); (replace K0 := K0.below hbl); (replace XB := XB.trans (hbl.mono XB.size)); (clear hbl); (generalize vx.heap.size = k1 at *); (generalize vx.alloc (.cells #[.int .i64 0, .int .i64 0] 25) = vx at *)
        refine hK.out _ _ ?_ (fun hHeld => ?_)
        · first | exact SK.out _ XB | exact SK.out _ (Below.drew (Below.refl _ _))
        clear hK K
        (try simp only [Act.put, List.setIfInBounds_toArray, List.set_cons_zero, List.set_cons_succ])
        exact T1_4_6_11_12 _ _ _ ⟨hk0, hk1, d0, K0, K1, XB⟩
      intro k1 vx hF
      obtain ⟨hk1, K1, XB⟩ := hF
      have hHeld : ((fun w' => w'.cell? ⟨w.heap.size, 0, none⟩ = some (.int .i64 al) ∧ w'.cell? ⟨w.heap.size, 1, none⟩ = some (.int .i64 ah) ∧ w'.cell? ⟨j1, 0, none⟩ = some (.int .i64 bl) ∧ w'.cell? ⟨j1, 1, none⟩ = some (.int .i64 bh))) vx := SK.out _ XB 
      refine wpAnyH_ready (rs := [11]) (by kernel_rfl) (by simp) ?_
      refine (AllReadyH.cons (by rw [List.getElem?_toArray]; rfl) (fun K hK => ?_) AllReadyH.nil)
      · go_simp
        (have K0 := Bx2.new vx (.int .i64 0) (.int .i64 0) 25); (have hk0 := XB.size); (have hbl := Below.nw vx (.cells #[.int .i64 0, .int .i64 0] 25)); (have d0 : vx.heap.size ≠ k1 := Nat.ne_of_gt K1.1); (replace K1 := K1.below hbl); (replace XB := XB.trans (hbl.mono XB.size)); (clear hbl); (generalize vx.heap.size = k0 at *); (generalize vx.alloc (.cells #[.int .i64 0, .int .i64 0] 25) = vx at *)
        refine hK.out _ _ ?_ (fun hHeld => ?_)
        · first | exact SK.out _ XB | exact SK.out _ (Below.drew (Below.refl _ _))
        clear hK K
        (try simp only [Act.put, List.setIfInBounds_toArray, List.set_cons_zero, List.set_cons_succ])
        exact T1_4_6_11_12 _ _ _ ⟨hk0, hk1, d0, K0, K1, XB⟩
      intro k0 k1 vx hF
      obtain ⟨hk0, hk1, d0, K0, K1, XB⟩ := hF
      have hHeld : ((fun w' => w'.cell? ⟨w.heap.size, 0, none⟩ = some (.int .i64 al) ∧ w'.cell? ⟨w.heap.size, 1, none⟩ = some (.int .i64 ah) ∧ w'.cell? ⟨j1, 0, none⟩ = some (.int .i64 bl) ∧ w'.cell? ⟨j1, 1, none⟩ = some (.int .i64 bh))) vx := SK.out _ XB 
      refine wpAnyH_ready (rs := [6]) (by kernel_rfl) (by simp) ?_
      refine (AllReadyH.cons (by rw [List.getElem?_toArray]; rfl) (fun K hK => ?_) AllReadyH.nil)
      · go_simp
        refine (CI _ (E.below XB)).mono ?_; rintro ee vx ⟨rfl, hbl⟩; (replace XB := XB.trans (hbl.mono XB.size)); (replace K0 := K0.below hbl); (replace K1 := K1.below hbl); (clear hbl)
        (try go_wp2_with fail)
        refine hK.out _ _ ?_ (fun hHeld => ?_)
        · first | exact SK.out _ XB | exact SK.out _ (Below.drew (Below.refl _ _))
        clear hK K
        (try simp only [Act.put, List.setIfInBounds_toArray, List.set_cons_zero, List.set_cons_succ])
        refine wpAnyH_take (i := 7) (v := ?_) (by rw [List.getElem?_toArray]; rfl) (by kernel_rfl) (by kernel_rfl) (by kernel_rfl) (by intro _ _ _ h; exact h) (Or.inl ⟨by rfl, ?_⟩) (by assumption) ?_
        rotate_left
        · (intro w hSw; (try dsimp only at hSw); go_simp; all_goals with_reducible rfl)
        (try simp only [Act.put, List.setIfInBounds_toArray, List.set_cons_zero, List.set_cons_succ])
        refine wpAnyH_take (i := 8) (v := ?_) (by rw [List.getElem?_toArray]; rfl) (by kernel_rfl) (by kernel_rfl) (by kernel_rfl) (by intro _ _ _ h; exact h) (Or.inl ⟨by rfl, ?_⟩) (by assumption) ?_
        rotate_left
        · (intro w hSw; (try dsimp only at hSw); go_simp; all_goals with_reducible rfl)
        (try simp only [Act.put, List.setIfInBounds_toArray, List.set_cons_zero, List.set_cons_succ])
        refine wpAnyH_take (i := 9) (v := ?_) (by rw [List.getElem?_toArray]; rfl) (by kernel_rfl) (by kernel_rfl) (by kernel_rfl) (by intro _ _ _ h; exact h) (Or.inl ⟨by rfl, ?_⟩) (by assumption) ?_
        rotate_left
        · (intro w hSw; (try dsimp only at hSw); go_simp; all_goals with_reducible rfl)
        (try simp only [Act.put, List.setIfInBounds_toArray, List.set_cons_zero, List.set_cons_succ])
        refine wpAnyH_take (i := 10) (v := ?_) (by rw [List.getElem?_toArray]; rfl) (by kernel_rfl) (by kernel_rfl) (by kernel_rfl) (by intro _ _ _ h; exact h) (Or.inl ⟨by rfl, ?_⟩) (by assumption) ?_
        rotate_left
        · (intro w hSw; (try dsimp only at hSw); go_simp; all_goals with_reducible rfl)
        (try simp only [Act.put, List.setIfInBounds_toArray, List.set_cons_zero, List.set_cons_succ])
        exact T1_4_6_11_12 _ _ _ ⟨hk0, hk1, d0, K0, K1, XB⟩
      intro k0 k1 vx hF
      obtain ⟨hk0, hk1, d0, K0, K1, XB⟩ := hF
      have hHeld : ((fun w' => w'.cell? ⟨w.heap.size, 0, none⟩ = some (.int .i64 al) ∧ w'.cell? ⟨w.heap.size, 1, none⟩ = some (.int .i64 ah) ∧ w'.cell? ⟨j1, 0, none⟩ = some (.int .i64 bl) ∧ w'.cell? ⟨j1, 1, none⟩ = some (.int .i64 bh))) vx := SK.out _ XB 
      (obtain ⟨za0, zb0, zc0, zd0, ze0⟩ := id K0)
      (obtain ⟨za1, zb1, zc1, zd1, ze1⟩ := id K1)
      refine wpAnyH_ready (rs := [13]) (by kernel_rfl) (by simp) ?_
      refine (AllReadyH.cons (by rw [List.getElem?_toArray]; rfl) (fun K hK => ?_) AllReadyH.nil)
      go_simp
      (clear za0 zb0 zc0 zd0 ze0); (clear za1 zb1 zc1 zd1 ze1); (replace XB := (XB.setCell (p := ⟨k0, 0, none⟩) hk0 (.int .i64 x1)).setCell (p := ⟨k0, 1, none⟩) hk0 (.int .i64 y1)); (replace K0 := (K0.set0 (.int .i64 x1)).set1 (.int .i64 y1)); (replace K1 := (K1.setO d0 0 (.int .i64 x1)).setO d0 1 (.int .i64 y1)); (generalize (vx.setCell ⟨k0, 0, none⟩ (.int .i64 x1)).setCell ⟨k0, 1, none⟩ (.int .i64 y1) = vx at *); (obtain ⟨za0, zb0, zc0, zd0, ze0⟩ := id K0); (obtain ⟨za1, zb1, zc1, zd1, ze1⟩ := id K1)
      refine hK.out _ _ ?_ (fun hHeld => ?_)
      · first | exact SK.out _ XB | exact SK.out _ (Below.drew (Below.refl _ _))
      clear hK K
      (try simp only [Act.put, List.setIfInBounds_toArray, List.set_cons_zero, List.set_cons_succ])
      refine wpAnyH_ready (rs := [14]) (by kernel_rfl) (by simp) ?_
      refine (AllReadyH.cons (by rw [List.getElem?_toArray]; rfl) (fun K hK => ?_) AllReadyH.nil)
      go_simp
      (clear za0 zb0 zc0 zd0 ze0); (clear za1 zb1 zc1 zd1 ze1); (replace XB := (XB.setCell (p := ⟨k1, 0, none⟩) hk1 (.int .i64 x2)).setCell (p := ⟨k1, 1, none⟩) hk1 (.int .i64 y2)); (replace K1 := (K1.set0 (.int .i64 x2)).set1 (.int .i64 y2)); (replace K0 := (K0.setO (Ne.symm d0) 0 (.int .i64 x2)).setO (Ne.symm d0) 1 (.int .i64 y2)); (generalize (vx.setCell ⟨k1, 0, none⟩ (.int .i64 x2)).setCell ⟨k1, 1, none⟩ (.int .i64 y2) = vx at *); (obtain ⟨za0, zb0, zc0, zd0, ze0⟩ := id K0); (obtain ⟨za1, zb1, zc1, zd1, ze1⟩ := id K1)
      refine hK.out _ _ ?_ (fun hHeld => ?_)
      · first | exact SK.out _ XB | exact SK.out _ (Below.drew (Below.refl _ _))
      clear hK K
      (try simp only [Act.put, List.setIfInBounds_toArray, List.set_cons_zero, List.set_cons_succ])
      refine wpAnyH_take (i := 15) (v := ?_) (by rw [List.getElem?_toArray]; rfl) (by kernel_rfl) (by kernel_rfl) (by kernel_rfl) (by intro _ _ _ h; exact h) (Or.inl ⟨by rfl, ?_⟩) (by assumption) ?_
      rotate_left
      · (intro w hSw; (try dsimp only at hSw); go_simp; all_goals with_reducible rfl)
      (try simp only [Act.put, List.setIfInBounds_toArray, List.set_cons_zero, List.set_cons_succ])
      refine wpAnyH_done (by kernel_rfl) ?_ _
      go_wp2_with fail
      go_meet
      case rel => exact ⟨_, _, rfl, rfl, rfl, K0, K1, XB⟩
    case rest =>
      obtain ⟨bk0, bk1, rfl, rfl, rfl, K0, K1, XB⟩ := hcut
      replace M0 := M0.below XB
      replace M1 := M1.below XB
      replace B := B.trans (XB.mono B.size)
      clear XB SK CI E
      generalize wc = v5 at *
      obtain ⟨a0, a1, a2, a3, a4⟩ := id K0
      obtain ⟨b0, b1, b2, b3, b4⟩ := id M0
      go_wp2_with fail
      refine (eqFrac_same _ _ _).mono ?_
      rintro ee vy ⟨rfl, hbl⟩
      clear a0 a1 a2 a3 a4 b0 b1 b2 b3 b4
      replace K1 := K1.below hbl
      replace M1 := M1.below hbl
      replace B := B.trans (hbl.mono B.size)
      clear hbl
      obtain ⟨a0, a1, a2, a3, a4⟩ := id K1
      obtain ⟨b0, b1, b2, b3, b4⟩ := id M1
      go_wp2_with fail
      refine (eqFrac_same _ _ _).mono ?_
      rintro ee vy ⟨rfl, hbl⟩
      clear a0 a1 a2 a3 a4 b0 b1 b2 b3 b4
      replace B := B.trans (hbl.mono B.size)
      clear hbl
      go_wp2_with fail
      go_ret
      exact ⟨rfl, B⟩
end Go.Proofs.YtjefbjjhdpidiaaDoor
