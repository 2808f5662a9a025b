/- The walk of the exact law of RateBroken. -/
import Derived.Test.YtjefbjjhdpidiaaDoorF133
import Derived.Test.YtjefbjjhdpidiaaDoorF119
import Derived.Test.YtjefbjjhdpidiaaDoorL110
import Derived.Deep.RegionHeld3
import Derived.Deep.DeepCutAuto
import Derived.WalkKit
import Derived.WalkSpells
import Derived.WalkLawsBesides
import Derived.Deep.RegionHeld
namespace Go.Proofs.YtjefbjjhdpidiaaDoor
open Go.RowKit
set_option linter.unusedVariables false
set_option maxRecDepth 100000 in
set_option maxHeartbeats 16000000 in
theorem lawRateBroken (n d al ah ca bl bh cb : Int) (s t : Addr) (w : World) (hst : s ≠ t) (E : Er w 0 s) (E1 : Er w 1 t) (g0' : (Lit.int .i64 n).wf = true) (g1' : (Lit.int .i64 d).wf = true) (g2' : (Lit.int .i64 al).wf = true) (g3' : (Lit.int .i64 ah).wf = true) (g4' : (Lit.int .i64 ca).wf = true) (g5' : (Lit.int .i64 bl).wf = true) (g6' : (Lit.int .i64 bh).wf = true) (g7' : (Lit.int .i64 cb).wf = true) :
    Calls Tryd.prog 10 #[.agg #[.int .i64 n, .int .i64 d], .agg #[.int .i64 al, .int .i64 ah], .int .i64 ca, .agg #[.int .i64 bl, .int .i64 bh], .int .i64 cb] w fun e w' => e = .returned (.bool true) ∧ Below w.heap.size w w' := by
  clear g0' g1' g2' g3' g4' g5' g6' g7'
  have A0 := Below.nw w (.cells #[.int .i64 n, .int .i64 d] 41)
  have A1 := Below.nw (w.alloc (.cells #[.int .i64 n, .int .i64 d] 41)) (.cells #[.int .i64 al, .int .i64 ah] 35)
  have A2 := Below.nw ((w.alloc (.cells #[.int .i64 n, .int .i64 d] 41)).alloc (.cells #[.int .i64 al, .int .i64 ah] 35)) (.cells #[.int .i64 bl, .int .i64 bh] 35)
  have P0 := (((Bx2.new w (.int .i64 n) (.int .i64 d) 41).below A1).below A2)
  have P1 := ((Bx2.new (w.alloc (.cells #[.int .i64 n, .int .i64 d] 41)) (.int .i64 al) (.int .i64 ah) 35).below A2)
  have P2 := (Bx2.new ((w.alloc (.cells #[.int .i64 n, .int .i64 d] 41)).alloc (.cells #[.int .i64 al, .int .i64 ah] 35)) (.int .i64 bl) (.int .i64 bh) 35)
  have B := ((A0.trans (A1.mono (A0).size)).trans (A2.mono ((A0.trans (A1.mono (A0).size))).size))
  simp only [World.size_alloc] at P1 P2
  clear A0 A1 A2
  replace E := E.below B
  replace E1 := E1.below B
  have CS := fun w' => specRateBroken_any n d al ah ca bl bh cb w'
  have CI := fun w' E' E1' => implRateBroken_any n d al ah ca bl bh cb s t w' hst E' E1'
  generalize brB n d al ah ca bl bh cb = ok at *
  go_enter Tryd.func10, Tryd.ntmps10
  go_upto_region 1 with fail
  generalize (((w.alloc (.cells #[.int .i64 n, .int .i64 d] 41)).alloc (.cells #[.int .i64 al, .int .i64 ah] 35)).alloc (.cells #[.int .i64 bl, .int .i64 bh] 35)) = v at *
  generalize w.heap.size + 1 + 1 = j2 at *
  generalize w.heap.size + 1 = j1 at *
  have SK : Hid (∀ w', Below v.heap.size v w' → (w'.cell? ⟨w.heap.size, 0, none⟩ = some (.int .i64 n) ∧ w'.cell? ⟨w.heap.size, 1, none⟩ = some (.int .i64 d) ∧ w'.cell? ⟨j1, 0, none⟩ = some (.int .i64 al) ∧ w'.cell? ⟨j1, 1, none⟩ = some (.int .i64 ah) ∧ w'.cell? ⟨j2, 0, none⟩ = some (.int .i64 bl) ∧ w'.cell? ⟨j2, 1, none⟩ = some (.int .i64 bh))) := fun w' hw => ⟨(P0.below hw).2.1, (P0.below hw).2.2.1, (P1.below hw).2.1, (P1.below hw).2.2.1, (P2.below hw).2.1, (P2.below hw).2.2.1⟩
  go_upto_region 1 with fail
  go_cut [11] (fun s11 wx => s11 = (.bool ok) ∧ Below v.heap.size v wx)
  case first => as_aux_lemma =>
    refine wp_region_held_drew (S := (fun w' => w'.cell? ⟨w.heap.size, 0, none⟩ = some (.int .i64 n) ∧ w'.cell? ⟨w.heap.size, 1, none⟩ = some (.int .i64 d) ∧ w'.cell? ⟨j1, 0, none⟩ = some (.int .i64 al) ∧ w'.cell? ⟨j1, 1, none⟩ = some (.int .i64 ah) ∧ w'.cell? ⟨j2, 0, none⟩ = some (.int .i64 bl) ∧ w'.cell? ⟨j2, 1, none⟩ = some (.int .i64 bh))) (by kernel_rfl) ?_ (fun hHeld => ?_)
    · first | exact SK.out _ XB | exact SK.out _ (Below.drew (Below.refl _ _))
    have XB : Below v.heap.size v v.drew := Below.drew (Below.refl _ _)
    generalize v.drew = vx at *
    refine wpAnyH_take (i := 0) (v := ?_) (by rw [List.getElem?_toArray]; rfl) (by kernel_rfl) (by kernel_rfl) (by kernel_rfl) (by intro _ _ _ h; exact h) (Or.inl ⟨by rfl, ?_⟩) (by assumption) ?_
    rotate_left
    · (intro w hSw; (try dsimp only at hSw); go_simp; all_goals with_reducible rfl)
    (try simp only [Act.put, List.setIfInBounds_toArray, List.set_cons_zero, List.set_cons_succ])
    refine wpAnyH_take (i := 2) (v := ?_) (by rw [List.getElem?_toArray]; rfl) (by kernel_rfl) (by kernel_rfl) (by kernel_rfl) (by intro _ _ _ h; exact h) (Or.inl ⟨by rfl, ?_⟩) (by assumption) ?_
    rotate_left
    · (intro w hSw; (try dsimp only at hSw); go_simp; all_goals with_reducible rfl)
    (try simp only [Act.put, List.setIfInBounds_toArray, List.set_cons_zero, List.set_cons_succ])
    refine wpAnyH_take (i := 4) (v := ?_) (by rw [List.getElem?_toArray]; rfl) (by kernel_rfl) (by kernel_rfl) (by kernel_rfl) (by intro _ _ _ h; exact h) (Or.inl ⟨by rfl, ?_⟩) (by assumption) ?_
    rotate_left
    · (intro w hSw; (try dsimp only at hSw); go_simp; all_goals with_reducible rfl)
    (try simp only [Act.put, List.setIfInBounds_toArray, List.set_cons_zero, List.set_cons_succ])
    refine wpAnyH_take (i := 5) (v := ?_) (by rw [List.getElem?_toArray]; rfl) (by kernel_rfl) (by kernel_rfl) (by kernel_rfl) (by intro _ _ _ h; exact h) (Or.inl ⟨by rfl, ?_⟩) (by assumption) ?_
    rotate_left
    · (intro w hSw; (try dsimp only at hSw); go_simp; all_goals with_reducible rfl)
    (try simp only [Act.put, List.setIfInBounds_toArray, List.set_cons_zero, List.set_cons_succ])
    refine wpAnyH_take (i := 7) (v := ?_) (by rw [List.getElem?_toArray]; rfl) (by kernel_rfl) (by kernel_rfl) (by kernel_rfl) (by intro _ _ _ h; exact h) (Or.inl ⟨by rfl, ?_⟩) (by assumption) ?_
    rotate_left
    · (intro w hSw; (try dsimp only at hSw); go_simp; all_goals with_reducible rfl)
    (try simp only [Act.put, List.setIfInBounds_toArray, List.set_cons_zero, List.set_cons_succ])
    refine wpAnyH_ready (rs := [1]) (by kernel_rfl) (by simp) ?_
    refine (AllReadyH.cons (by rw [List.getElem?_toArray]; rfl) (fun K hK => ?_) AllReadyH.nil)
    go_simp
    refine (toDrift_any n d _).mono ?_; rintro ee vx ⟨rfl, hbl⟩; skip; (replace XB := XB.trans (hbl.mono XB.size)); (clear hbl); skip
    (try go_wp2_with fail)
    refine hK.out _ _ ?_ (fun hHeld => ?_)
    · first | exact SK.out _ XB | exact SK.out _ (Below.drew (Below.refl _ _))
    clear hK K
    (try simp only [Act.put, List.setIfInBounds_toArray, List.set_cons_zero, List.set_cons_succ])
    refine wpAnyH_ready (rs := [3]) (by kernel_rfl) (by simp) ?_
    refine (AllReadyH.cons (by rw [List.getElem?_toArray]; rfl) (fun K hK => ?_) AllReadyH.nil)
    go_simp
    refine (toIval_any al ah _).mono ?_; rintro ee vx ⟨rfl, hbl⟩; skip; (replace XB := XB.trans (hbl.mono XB.size)); (clear hbl); skip
    (try go_wp2_with fail)
    refine hK.out _ _ ?_ (fun hHeld => ?_)
    · first | exact SK.out _ XB | exact SK.out _ (Below.drew (Below.refl _ _))
    clear hK K
    (try simp only [Act.put, List.setIfInBounds_toArray, List.set_cons_zero, List.set_cons_succ])
    refine wpAnyH_ready (rs := [6]) (by kernel_rfl) (by simp) ?_
    refine (AllReadyH.cons (by rw [List.getElem?_toArray]; rfl) (fun K hK => ?_) AllReadyH.nil)
    go_simp
    refine (toIval_any bl bh _).mono ?_; rintro ee vx ⟨rfl, hbl⟩; skip; (replace XB := XB.trans (hbl.mono XB.size)); (clear hbl); skip
    (try go_wp2_with fail)
    refine hK.out _ _ ?_ (fun hHeld => ?_)
    · first | exact SK.out _ XB | exact SK.out _ (Below.drew (Below.refl _ _))
    clear hK K
    (try simp only [Act.put, List.setIfInBounds_toArray, List.set_cons_zero, List.set_cons_succ])
    refine wpAnyH_ready (rs := [8]) (by kernel_rfl) (by simp) ?_
    refine (AllReadyH.cons (by rw [List.getElem?_toArray]; rfl) (fun K hK => ?_) AllReadyH.nil)
    go_simp
    refine (CS _).mono ?_; rintro ee vx ⟨rfl, hbl⟩; skip; (replace XB := XB.trans (hbl.mono XB.size)); (clear hbl); skip
    (try go_wp2_with fail)
    refine hK.out _ _ ?_ (fun hHeld => ?_)
    · first | exact SK.out _ XB | exact SK.out _ (Below.drew (Below.refl _ _))
    clear hK K
    (try simp only [Act.put, List.setIfInBounds_toArray, List.set_cons_zero, List.set_cons_succ])
    refine wpAnyH_take (i := 9) (v := ?_) (by rw [List.getElem?_toArray]; rfl) (by kernel_rfl) (by kernel_rfl) (by kernel_rfl) (by intro _ _ _ h; exact h) (Or.inl ⟨by rfl, ?_⟩) (by assumption) ?_
    rotate_left
    · (intro w hSw; (try dsimp only at hSw); go_simp; all_goals with_reducible rfl)
    (try simp only [Act.put, List.setIfInBounds_toArray, List.set_cons_zero, List.set_cons_succ])
    refine wpAnyH_done (by kernel_rfl) ?_ _
    go_wp2_with fail
    go_meet
    case rel => exact ⟨rfl, XB⟩
  case rest =>
    obtain ⟨rfl, XB⟩ := hcut
    replace P0 := P0.below XB
    replace P1 := P1.below XB
    replace P2 := P2.below XB
    replace E := E.below XB
    replace E1 := E1.below XB
    replace B := B.trans (XB.mono B.size)
    clear XB SK CS
    generalize wc = v4 at *
    have SK : Hid (∀ w', Below v4.heap.size v4 w' → (w'.cell? ⟨w.heap.size, 0, none⟩ = some (.int .i64 n) ∧ w'.cell? ⟨w.heap.size, 1, none⟩ = some (.int .i64 d) ∧ w'.cell? ⟨j1, 0, none⟩ = some (.int .i64 al) ∧ w'.cell? ⟨j1, 1, none⟩ = some (.int .i64 ah) ∧ w'.cell? ⟨j2, 0, none⟩ = some (.int .i64 bl) ∧ w'.cell? ⟨j2, 1, none⟩ = some (.int .i64 bh))) := fun w' hw => ⟨(P0.below hw).2.1, (P0.below hw).2.2.1, (P1.below hw).2.1, (P1.below hw).2.2.1, (P2.below hw).2.1, (P2.below hw).2.2.1⟩
    go_upto_region 2 with fail
    go_cut [12] (fun s12 wx => s12 = (.bool ok) ∧ Below v4.heap.size v4 wx)
    case first => as_aux_lemma =>
      refine wp_region_held_drew (S := (fun w' => w'.cell? ⟨w.heap.size, 0, none⟩ = some (.int .i64 n) ∧ w'.cell? ⟨w.heap.size, 1, none⟩ = some (.int .i64 d) ∧ w'.cell? ⟨j1, 0, none⟩ = some (.int .i64 al) ∧ w'.cell? ⟨j1, 1, none⟩ = some (.int .i64 ah) ∧ w'.cell? ⟨j2, 0, none⟩ = some (.int .i64 bl) ∧ w'.cell? ⟨j2, 1, none⟩ = some (.int .i64 bh))) (by kernel_rfl) ?_ (fun hHeld => ?_)
      · first | exact SK.out _ XB | exact SK.out _ (Below.drew (Below.refl _ _))
      have XB : Below v4.heap.size v4 v4.drew := Below.drew (Below.refl _ _)
      generalize v4.drew = vx at *
      refine wpAnyH_take (i := 0) (v := ?_) (by rw [List.getElem?_toArray]; rfl) (by kernel_rfl) (by kernel_rfl) (by kernel_rfl) (by intro _ _ _ h; exact h) (Or.inl ⟨by rfl, ?_⟩) (by assumption) ?_
      rotate_left
      · (intro w hSw; (try dsimp only at hSw); go_simp; all_goals with_reducible rfl)
      (try simp only [Act.put, List.setIfInBounds_toArray, List.set_cons_zero, List.set_cons_succ])
      refine wpAnyH_take (i := 2) (v := ?_) (by rw [List.getElem?_toArray]; rfl) (by kernel_rfl) (by kernel_rfl) (by kernel_rfl) (by intro _ _ _ h; exact h) (Or.inl ⟨by rfl, ?_⟩) (by assumption) ?_
      rotate_left
      · (intro w hSw; (try dsimp only at hSw); go_simp; all_goals with_reducible rfl)
      (try simp only [Act.put, List.setIfInBounds_toArray, List.set_cons_zero, List.set_cons_succ])
      refine wpAnyH_take (i := 4) (v := ?_) (by rw [List.getElem?_toArray]; rfl) (by kernel_rfl) (by kernel_rfl) (by kernel_rfl) (by intro _ _ _ h; exact h) (Or.inl ⟨by rfl, ?_⟩) (by assumption) ?_
      rotate_left
      · (intro w hSw; (try dsimp only at hSw); go_simp; all_goals with_reducible rfl)
      (try simp only [Act.put, List.setIfInBounds_toArray, List.set_cons_zero, List.set_cons_succ])
      refine wpAnyH_take (i := 5) (v := ?_) (by rw [List.getElem?_toArray]; rfl) (by kernel_rfl) (by kernel_rfl) (by kernel_rfl) (by intro _ _ _ h; exact h) (Or.inl ⟨by rfl, ?_⟩) (by assumption) ?_
      rotate_left
      · (intro w hSw; (try dsimp only at hSw); go_simp; all_goals with_reducible rfl)
      (try simp only [Act.put, List.setIfInBounds_toArray, List.set_cons_zero, List.set_cons_succ])
      refine wpAnyH_take (i := 7) (v := ?_) (by rw [List.getElem?_toArray]; rfl) (by kernel_rfl) (by kernel_rfl) (by kernel_rfl) (by intro _ _ _ h; exact h) (Or.inl ⟨by rfl, ?_⟩) (by assumption) ?_
      rotate_left
      · (intro w hSw; (try dsimp only at hSw); go_simp; all_goals with_reducible rfl)
      (try simp only [Act.put, List.setIfInBounds_toArray, List.set_cons_zero, List.set_cons_succ])
      refine wpAnyH_ready (rs := [1]) (by kernel_rfl) (by simp) ?_
      refine (AllReadyH.cons (by rw [List.getElem?_toArray]; rfl) (fun K hK => ?_) AllReadyH.nil)
      go_simp
      refine (toDrift_any n d _).mono ?_; rintro ee vx ⟨rfl, hbl⟩; skip; (replace XB := XB.trans (hbl.mono XB.size)); (clear hbl); skip
      (try go_wp2_with fail)
      refine hK.out _ _ ?_ (fun hHeld => ?_)
      · first | exact SK.out _ XB | exact SK.out _ (Below.drew (Below.refl _ _))
      clear hK K
      (try simp only [Act.put, List.setIfInBounds_toArray, List.set_cons_zero, List.set_cons_succ])
      refine wpAnyH_ready (rs := [3]) (by kernel_rfl) (by simp) ?_
      refine (AllReadyH.cons (by rw [List.getElem?_toArray]; rfl) (fun K hK => ?_) AllReadyH.nil)
      go_simp
      refine (toIval_any al ah _).mono ?_; rintro ee vx ⟨rfl, hbl⟩; skip; (replace XB := XB.trans (hbl.mono XB.size)); (clear hbl); skip
      (try go_wp2_with fail)
      refine hK.out _ _ ?_ (fun hHeld => ?_)
      · first | exact SK.out _ XB | exact SK.out _ (Below.drew (Below.refl _ _))
      clear hK K
      (try simp only [Act.put, List.setIfInBounds_toArray, List.set_cons_zero, List.set_cons_succ])
      refine wpAnyH_ready (rs := [6]) (by kernel_rfl) (by simp) ?_
      refine (AllReadyH.cons (by rw [List.getElem?_toArray]; rfl) (fun K hK => ?_) AllReadyH.nil)
      go_simp
      refine (toIval_any bl bh _).mono ?_; rintro ee vx ⟨rfl, hbl⟩; skip; (replace XB := XB.trans (hbl.mono XB.size)); (clear hbl); skip
      (try go_wp2_with fail)
      refine hK.out _ _ ?_ (fun hHeld => ?_)
      · first | exact SK.out _ XB | exact SK.out _ (Below.drew (Below.refl _ _))
      clear hK K
      (try simp only [Act.put, List.setIfInBounds_toArray, List.set_cons_zero, List.set_cons_succ])
      refine wpAnyH_ready (rs := [8]) (by kernel_rfl) (by simp) ?_
      refine (AllReadyH.cons (by rw [List.getElem?_toArray]; rfl) (fun K hK => ?_) AllReadyH.nil)
      go_simp
      refine (CI _ (E.below XB) (E1.below XB)).mono ?_; rintro ee vx ⟨rfl, hbl⟩; skip; (replace XB := XB.trans (hbl.mono XB.size)); (clear hbl); skip
      (try go_wp2_with fail)
      refine hK.out _ _ ?_ (fun hHeld => ?_)
      · first | exact SK.out _ XB | exact SK.out _ (Below.drew (Below.refl _ _))
      clear hK K
      (try simp only [Act.put, List.setIfInBounds_toArray, List.set_cons_zero, List.set_cons_succ])
      refine wpAnyH_take (i := 9) (v := ?_) (by rw [List.getElem?_toArray]; rfl) (by kernel_rfl) (by kernel_rfl) (by kernel_rfl) (by intro _ _ _ h; exact h) (Or.inl ⟨by rfl, ?_⟩) (by assumption) ?_
      rotate_left
      · (intro w hSw; (try dsimp only at hSw); go_simp; all_goals with_reducible rfl)
      (try simp only [Act.put, List.setIfInBounds_toArray, List.set_cons_zero, List.set_cons_succ])
      refine wpAnyH_done (by kernel_rfl) ?_ _
      go_wp2_with fail
      go_meet
      case rel => exact ⟨rfl, XB⟩
    case rest =>
      obtain ⟨rfl, XB⟩ := hcut
      replace B := B.trans (XB.mono B.size)
      clear XB SK CI E E1
      generalize wc = v5 at *
      have zz : (ok != ok) = false := by simp
      go_wp2_with fail
      go_ret
      exact ⟨rfl, B⟩
end Go.Proofs.YtjefbjjhdpidiaaDoor
