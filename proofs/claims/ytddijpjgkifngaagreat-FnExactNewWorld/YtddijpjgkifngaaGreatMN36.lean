/- Whether a node is right (the program), over arrays of cells. -/
import Derived.Test.YtddijpjgkifngaaGreatMN0
import Derived.Test.YtddijpjgkifngaaGreatMN23
import Derived.Test.YtddijpjgkifngaaGreatMN35
namespace Go.Proofs.YtddijpjgkifngaaGreat
open Go.RowKit
set_option linter.unusedVariables false
set_option maxRecDepth 100000
set_option maxHeartbeats 16000000
attribute [-go_sem] loadCells storeCells in
theorem ik (AN : Array Value) (x : NdX) (w : World) (HN : NdW w AN x) (hwf : wfX x) :
 Calls Tryz.prog 148 #[.agg AN] w fun e w' => e = .returned (.bool (okX x)) ∧ Below w.heap.size w w' := by
 have hN := HN.size
 have C1 := fun v => au x.ni v
 have C2 := fun (v : World) (h : Below w.heap.size w v) => gq AN x v (HN.below h) hwf
 have C3 := fun v => cr x.mo x.ep x.si v
 have C4 := fun (v : World) (h : Below w.heap.size w v) => cV AN x v (HN.below h)
 have C5 := fun (v : World) (h : Below w.heap.size w v) => hI AN x v (HN.below h)
 have C6 := fun (v : World) (h : Below w.heap.size w v) => dv AN x v (HN.below h)
 obtain ⟨aa, ac, pa, pc, ha, hc, rfl, -, -, -, -⟩ := HN
 clear hwf
 have HR : Hid (okX x = (aO x.ni && (ptB x && (inI x.se (-1) 1000000000000 && ((x.kn == knB x.mo x.ep x.si) && ((x.te == x.ep) && (!(nmB x) && (!(x.mo == 0) || hnB x)))))))) := jM x
 generalize okX x = R at *
 have A0 := Below.nw w (.cells (ndV x aa ac pa pc ha hc) 98)
 have N := Bo.new w (ndV x aa ac pa pc ha hc) 98
 have B := A0
 clear A0
 go_enter Tryz.func148, Tryz.ntmps148
 go_upto_region 1 with fail
 generalize w.alloc (.cells (ndV x aa ac pa pc ha hc) 98) = v0 at *
 have c0 : v0.cell? ⟨w.heap.size, 0, none⟩ = some (.int .i64 x.ni) := N.cell rfl
 go_wp2_with fail
 refine (C1 _).mono ?_
 rintro e v1 ⟨rfl, rfl⟩
 clear c0
 cases h1 : aO x.ni
 ·replace HR : Hid (R = false) := by (show R = false; rw [HR.out, h1]; simp)
  clear C1 C2 C3 C4 C5 C6
  go_wp2_with fail
  go_ret
  exact ⟨ab HR.out.symm, B⟩
 have hL0 := N.load (P := Tryz.prog) hN
 go_wp2_with (rw [hL0])
 refine (C2 v0 B).mono ?_
 rintro e v2 ⟨rfl, hb⟩
 clear hL0
 replace B := B.trans (hb.mono B.size)
 replace N := N.below hb
 clear hb
 cases h2 : ptB x
 ·replace HR : Hid (R = false) := by (show R = false; rw [HR.out, h1, h2]; simp)
  clear C1 C2 C3 C4 C5 C6
  go_wp2_with fail
  go_ret
  exact ⟨ab HR.out.symm, B⟩
 have c15 : v2.cell? ⟨w.heap.size, 15, none⟩ = some (.int .i64 x.se) := N.cell rfl
 by_cases h3 : x.se < -1
 ·replace HR : Hid (R = false) := by (show R = false; rw [HR.out, h1, h2, show inI x.se (-1) 1000000000000 = false by unfold inI; exact decide_eq_false (by omega)]; simp)
  clear C1 C2 C3 C4 C5 C6
  go_wp2_with fail
  go_ret
  exact ⟨ab HR.out.symm, B⟩
 by_cases h4 : 1000000000000 < x.se
 ·replace HR : Hid (R = false) := by (show R = false; rw [HR.out, h1, h2, show inI x.se (-1) 1000000000000 = false by unfold inI; exact decide_eq_false (by omega)]; simp)
  clear C1 C2 C3 C4 C5 C6
  go_wp2_with fail
  go_ret
  exact ⟨ab HR.out.symm, B⟩
 replace HR : Hid (R = ((x.kn == knB x.mo x.ep x.si) && ((x.te == x.ep) && (!(nmB x) && (!(x.mo == 0) || hnB x))))) := by (show R = _; rw [HR.out, h1, h2, show inI x.se (-1) 1000000000000 = true by unfold inI; exact decide_eq_true (by omega)]; rfl)
 go_upto_region 3 with fail
 clear c15 C1 C2 h1 h2 h3 h4
 generalize knB x.mo x.ep x.si = K at *
 obtain ⟨G, hG⟩ : ∃ G, G = ((x.kn != K) || ((x.te != x.ep) || nmB x)) := ⟨_, rfl⟩
 have HG : Hid (G = ((x.kn != K) || ((x.te != x.ep) || nmB x))) := hG
 clear hG
 go_cut [41] (fun s1 wx => s1 = .bool G ∧ Below v2.heap.size v2 wx)
 case first => as_aux_lemma =>
  obtain ⟨kv, hkv⟩ : ∃ b, Hid (x.kn = b) := ⟨_, rfl⟩
  cases hne : (x.te != x.ep)
  ·cases kv <;> cases K
   ·have SK : Hid (∀ w', Below v2.heap.size v2 w' → (fun w' => w'.cell? ⟨w.heap.size, 4, none⟩ = some (.bool false) ∧ w'.cell? ⟨w.heap.size, 8, none⟩ = some (.int .i64 x.te) ∧ w'.cell? ⟨w.heap.size, 2, none⟩ = some (.int .i64 x.ep) ∧ (loadCells ⟨w.heap.size, 1, none⟩ 3).run Tryz.prog w' = .ok #[.int .i64 x.mo, .int .i64 x.ep, .int .i64 x.si] w' ∧ (loadCells ⟨w.heap.size, 0, none⟩ 16).run Tryz.prog w' = .ok (ndV x aa ac pa pc ha hc) w') w') := fun w' hw => ⟨(N.below hw).cell (by rw [← hkv.out]; rfl), (N.below hw).cell rfl, (N.below hw).cell rfl, (N.below hw).loadAt (P := Tryz.prog) 1 3 (show 1 + 3 ≤ 16 by decide), (N.below hw).load hN⟩
    refine wp_region_held_drew (S := (fun w' => w'.cell? ⟨w.heap.size, 4, none⟩ = some (.bool false) ∧ w'.cell? ⟨w.heap.size, 8, none⟩ = some (.int .i64 x.te) ∧ w'.cell? ⟨w.heap.size, 2, none⟩ = some (.int .i64 x.ep) ∧ (loadCells ⟨w.heap.size, 1, none⟩ 3).run Tryz.prog w' = .ok #[.int .i64 x.mo, .int .i64 x.ep, .int .i64 x.si] w' ∧ (loadCells ⟨w.heap.size, 0, none⟩ 16).run Tryz.prog w' = .ok (ndV x aa ac pa pc ha hc) w')) (by kernel_rfl) ?_ (fun hHeld => ?_)
    ·first | exact SK.out _ XB | exact SK.out _ zD
    have XB : Below v2.heap.size v2 v2.drew := Below.drew (Below.refl _ _)
    generalize v2.drew = vx at *
    refine zT4 0 ?_
    refine zTk 4 ?_
    refine zQ 5 fun K hK => ?_
    go_simp
    refine (C3 vx).mono ?_; rintro ee vx ⟨rfl, hbl⟩; (replace XB := XB.trans (hbl.mono XB.size)); (clear hbl)
    (try go_wp2_with fail)
    refine hK.out _ _ ?_ (fun hHeld => ?_)
    ·first | exact SK.out _ XB | exact SK.out _ zD
    clear hK K
    (try simp only [zA])
    refine zT8 6 ?_
    refine zTk 14 ?_
    (try simp only [hne])
    refine zT2 15 ?_
    refine zTk 17 ?_
    refine zQ 18 fun K hK => ?_
    go_simp
    refine (C4 vx (B.trans (XB.mono B.size))).mono ?_; rintro ee vx ⟨rfl, hbl⟩; (replace XB := XB.trans (hbl.mono XB.size)); (clear hbl)
    (try go_wp2_with fail)
    refine hK.out _ _ ?_ (fun hHeld => ?_)
    ·first | exact SK.out _ XB | exact SK.out _ zD
    clear hK K
    (try simp only [zA])
    refine zTk 19 ?_
    refine wpAnyH_done (by kernel_rfl) ?_ _
    go_wp2_with fail
    go_meet
    case rel => exact ⟨by rw [HG.out, hkv.out, hne]; rfl, XB⟩
   ·have SK : Hid (∀ w', Below v2.heap.size v2 w' → (fun w' => w'.cell? ⟨w.heap.size, 4, none⟩ = some (.bool false) ∧ w'.cell? ⟨w.heap.size, 8, none⟩ = some (.int .i64 x.te) ∧ w'.cell? ⟨w.heap.size, 2, none⟩ = some (.int .i64 x.ep) ∧ (loadCells ⟨w.heap.size, 1, none⟩ 3).run Tryz.prog w' = .ok #[.int .i64 x.mo, .int .i64 x.ep, .int .i64 x.si] w' ∧ (loadCells ⟨w.heap.size, 0, none⟩ 16).run Tryz.prog w' = .ok (ndV x aa ac pa pc ha hc) w') w') := fun w' hw => ⟨(N.below hw).cell (by rw [← hkv.out]; rfl), (N.below hw).cell rfl, (N.below hw).cell rfl, (N.below hw).loadAt (P := Tryz.prog) 1 3 (show 1 + 3 ≤ 16 by decide), (N.below hw).load hN⟩
    refine wp_region_held_drew (S := (fun w' => w'.cell? ⟨w.heap.size, 4, none⟩ = some (.bool false) ∧ w'.cell? ⟨w.heap.size, 8, none⟩ = some (.int .i64 x.te) ∧ w'.cell? ⟨w.heap.size, 2, none⟩ = some (.int .i64 x.ep) ∧ (loadCells ⟨w.heap.size, 1, none⟩ 3).run Tryz.prog w' = .ok #[.int .i64 x.mo, .int .i64 x.ep, .int .i64 x.si] w' ∧ (loadCells ⟨w.heap.size, 0, none⟩ 16).run Tryz.prog w' = .ok (ndV x aa ac pa pc ha hc) w')) (by kernel_rfl) ?_ (fun hHeld => ?_)
    ·first | exact SK.out _ XB | exact SK.out _ zD
    have XB : Below v2.heap.size v2 v2.drew := Below.drew (Below.refl _ _)
    generalize v2.drew = vx at *
    refine zT4 0 ?_
    refine zTk 4 ?_
    refine zQ 5 fun K hK => ?_
    go_simp
    refine (C3 vx).mono ?_; rintro ee vx ⟨rfl, hbl⟩; (replace XB := XB.trans (hbl.mono XB.size)); (clear hbl)
    (try go_wp2_with fail)
    refine hK.out _ _ ?_ (fun hHeld => ?_)
    ·first | exact SK.out _ XB | exact SK.out _ zD
    clear hK K
    (try simp only [zA])
    refine zT2 6 ?_
    refine zTn 8 ?_
    refine zTn 9 ?_
    refine zTn 10 ?_
    refine zTn 11 ?_
    refine zTn 12 ?_
    refine zTn 13 ?_
    refine zTn 14 ?_
    refine zT2 15 ?_
    refine zTn 17 ?_
    refine zTn 18 ?_
    refine zTk 19 ?_
    refine wpAnyH_done (by kernel_rfl) ?_ _
    go_wp2_with fail
    go_meet
    case rel => exact ⟨by rw [HG.out, hkv.out]; rfl, XB⟩
   ·have SK : Hid (∀ w', Below v2.heap.size v2 w' → (fun w' => w'.cell? ⟨w.heap.size, 4, none⟩ = some (.bool true) ∧ w'.cell? ⟨w.heap.size, 8, none⟩ = some (.int .i64 x.te) ∧ w'.cell? ⟨w.heap.size, 2, none⟩ = some (.int .i64 x.ep) ∧ (loadCells ⟨w.heap.size, 1, none⟩ 3).run Tryz.prog w' = .ok #[.int .i64 x.mo, .int .i64 x.ep, .int .i64 x.si] w' ∧ (loadCells ⟨w.heap.size, 0, none⟩ 16).run Tryz.prog w' = .ok (ndV x aa ac pa pc ha hc) w') w') := fun w' hw => ⟨(N.below hw).cell (by rw [← hkv.out]; rfl), (N.below hw).cell rfl, (N.below hw).cell rfl, (N.below hw).loadAt (P := Tryz.prog) 1 3 (show 1 + 3 ≤ 16 by decide), (N.below hw).load hN⟩
    refine wp_region_held_drew (S := (fun w' => w'.cell? ⟨w.heap.size, 4, none⟩ = some (.bool true) ∧ w'.cell? ⟨w.heap.size, 8, none⟩ = some (.int .i64 x.te) ∧ w'.cell? ⟨w.heap.size, 2, none⟩ = some (.int .i64 x.ep) ∧ (loadCells ⟨w.heap.size, 1, none⟩ 3).run Tryz.prog w' = .ok #[.int .i64 x.mo, .int .i64 x.ep, .int .i64 x.si] w' ∧ (loadCells ⟨w.heap.size, 0, none⟩ 16).run Tryz.prog w' = .ok (ndV x aa ac pa pc ha hc) w')) (by kernel_rfl) ?_ (fun hHeld => ?_)
    ·first | exact SK.out _ XB | exact SK.out _ zD
    have XB : Below v2.heap.size v2 v2.drew := Below.drew (Below.refl _ _)
    generalize v2.drew = vx at *
    refine zT4 0 ?_
    refine zTk 4 ?_
    refine zQ 5 fun K hK => ?_
    go_simp
    refine (C3 vx).mono ?_; rintro ee vx ⟨rfl, hbl⟩; (replace XB := XB.trans (hbl.mono XB.size)); (clear hbl)
    (try go_wp2_with fail)
    refine hK.out _ _ ?_ (fun hHeld => ?_)
    ·first | exact SK.out _ XB | exact SK.out _ zD
    clear hK K
    (try simp only [zA])
    refine zT2 6 ?_
    refine zTn 8 ?_
    refine zTn 9 ?_
    refine zTn 10 ?_
    refine zTn 11 ?_
    refine zTn 12 ?_
    refine zTn 13 ?_
    refine zTn 14 ?_
    refine zT2 15 ?_
    refine zTn 17 ?_
    refine zTn 18 ?_
    refine zTk 19 ?_
    refine wpAnyH_done (by kernel_rfl) ?_ _
    go_wp2_with fail
    go_meet
    case rel => exact ⟨by rw [HG.out, hkv.out]; rfl, XB⟩
   ·have SK : Hid (∀ w', Below v2.heap.size v2 w' → (fun w' => w'.cell? ⟨w.heap.size, 4, none⟩ = some (.bool true) ∧ w'.cell? ⟨w.heap.size, 8, none⟩ = some (.int .i64 x.te) ∧ w'.cell? ⟨w.heap.size, 2, none⟩ = some (.int .i64 x.ep) ∧ (loadCells ⟨w.heap.size, 1, none⟩ 3).run Tryz.prog w' = .ok #[.int .i64 x.mo, .int .i64 x.ep, .int .i64 x.si] w' ∧ (loadCells ⟨w.heap.size, 0, none⟩ 16).run Tryz.prog w' = .ok (ndV x aa ac pa pc ha hc) w') w') := fun w' hw => ⟨(N.below hw).cell (by rw [← hkv.out]; rfl), (N.below hw).cell rfl, (N.below hw).cell rfl, (N.below hw).loadAt (P := Tryz.prog) 1 3 (show 1 + 3 ≤ 16 by decide), (N.below hw).load hN⟩
    refine wp_region_held_drew (S := (fun w' => w'.cell? ⟨w.heap.size, 4, none⟩ = some (.bool true) ∧ w'.cell? ⟨w.heap.size, 8, none⟩ = some (.int .i64 x.te) ∧ w'.cell? ⟨w.heap.size, 2, none⟩ = some (.int .i64 x.ep) ∧ (loadCells ⟨w.heap.size, 1, none⟩ 3).run Tryz.prog w' = .ok #[.int .i64 x.mo, .int .i64 x.ep, .int .i64 x.si] w' ∧ (loadCells ⟨w.heap.size, 0, none⟩ 16).run Tryz.prog w' = .ok (ndV x aa ac pa pc ha hc) w')) (by kernel_rfl) ?_ (fun hHeld => ?_)
    ·first | exact SK.out _ XB | exact SK.out _ zD
    have XB : Below v2.heap.size v2 v2.drew := Below.drew (Below.refl _ _)
    generalize v2.drew = vx at *
    refine zT4 0 ?_
    refine zTk 4 ?_
    refine zQ 5 fun K hK => ?_
    go_simp
    refine (C3 vx).mono ?_; rintro ee vx ⟨rfl, hbl⟩; (replace XB := XB.trans (hbl.mono XB.size)); (clear hbl)
    (try go_wp2_with fail)
    refine hK.out _ _ ?_ (fun hHeld => ?_)
    ·first | exact SK.out _ XB | exact SK.out _ zD
    clear hK K
    (try simp only [zA])
    refine zT8 6 ?_
    refine zTk 14 ?_
    (try simp only [hne])
    refine zT2 15 ?_
    refine zTk 17 ?_
    refine zQ 18 fun K hK => ?_
    go_simp
    refine (C4 vx (B.trans (XB.mono B.size))).mono ?_; rintro ee vx ⟨rfl, hbl⟩; (replace XB := XB.trans (hbl.mono XB.size)); (clear hbl)
    (try go_wp2_with fail)
    refine hK.out _ _ ?_ (fun hHeld => ?_)
    ·first | exact SK.out _ XB | exact SK.out _ zD
    clear hK K
    (try simp only [zA])
    refine zTk 19 ?_
    refine wpAnyH_done (by kernel_rfl) ?_ _
    go_wp2_with fail
    go_meet
    case rel => exact ⟨by rw [HG.out, hkv.out, hne]; rfl, XB⟩
  ·cases kv <;> cases K
   ·have SK : Hid (∀ w', Below v2.heap.size v2 w' → (fun w' => w'.cell? ⟨w.heap.size, 4, none⟩ = some (.bool false) ∧ w'.cell? ⟨w.heap.size, 8, none⟩ = some (.int .i64 x.te) ∧ w'.cell? ⟨w.heap.size, 2, none⟩ = some (.int .i64 x.ep) ∧ (loadCells ⟨w.heap.size, 1, none⟩ 3).run Tryz.prog w' = .ok #[.int .i64 x.mo, .int .i64 x.ep, .int .i64 x.si] w' ∧ (loadCells ⟨w.heap.size, 0, none⟩ 16).run Tryz.prog w' = .ok (ndV x aa ac pa pc ha hc) w') w') := fun w' hw => ⟨(N.below hw).cell (by rw [← hkv.out]; rfl), (N.below hw).cell rfl, (N.below hw).cell rfl, (N.below hw).loadAt (P := Tryz.prog) 1 3 (show 1 + 3 ≤ 16 by decide), (N.below hw).load hN⟩
    refine wp_region_held_drew (S := (fun w' => w'.cell? ⟨w.heap.size, 4, none⟩ = some (.bool false) ∧ w'.cell? ⟨w.heap.size, 8, none⟩ = some (.int .i64 x.te) ∧ w'.cell? ⟨w.heap.size, 2, none⟩ = some (.int .i64 x.ep) ∧ (loadCells ⟨w.heap.size, 1, none⟩ 3).run Tryz.prog w' = .ok #[.int .i64 x.mo, .int .i64 x.ep, .int .i64 x.si] w' ∧ (loadCells ⟨w.heap.size, 0, none⟩ 16).run Tryz.prog w' = .ok (ndV x aa ac pa pc ha hc) w')) (by kernel_rfl) ?_ (fun hHeld => ?_)
    ·first | exact SK.out _ XB | exact SK.out _ zD
    have XB : Below v2.heap.size v2 v2.drew := Below.drew (Below.refl _ _)
    generalize v2.drew = vx at *
    refine zT4 0 ?_
    refine zTk 4 ?_
    refine zQ 5 fun K hK => ?_
    go_simp
    refine (C3 vx).mono ?_; rintro ee vx ⟨rfl, hbl⟩; (replace XB := XB.trans (hbl.mono XB.size)); (clear hbl)
    (try go_wp2_with fail)
    refine hK.out _ _ ?_ (fun hHeld => ?_)
    ·first | exact SK.out _ XB | exact SK.out _ zD
    clear hK K
    (try simp only [zA])
    refine zT8 6 ?_
    refine zTk 14 ?_
    (try simp only [hne])
    refine zT2 15 ?_
    refine zTn 17 ?_
    refine zTn 18 ?_
    refine zTk 19 ?_
    refine wpAnyH_done (by kernel_rfl) ?_ _
    go_wp2_with fail
    go_meet
    case rel => exact ⟨by rw [HG.out, hkv.out, hne]; rfl, XB⟩
   ·have SK : Hid (∀ w', Below v2.heap.size v2 w' → (fun w' => w'.cell? ⟨w.heap.size, 4, none⟩ = some (.bool false) ∧ w'.cell? ⟨w.heap.size, 8, none⟩ = some (.int .i64 x.te) ∧ w'.cell? ⟨w.heap.size, 2, none⟩ = some (.int .i64 x.ep) ∧ (loadCells ⟨w.heap.size, 1, none⟩ 3).run Tryz.prog w' = .ok #[.int .i64 x.mo, .int .i64 x.ep, .int .i64 x.si] w' ∧ (loadCells ⟨w.heap.size, 0, none⟩ 16).run Tryz.prog w' = .ok (ndV x aa ac pa pc ha hc) w') w') := fun w' hw => ⟨(N.below hw).cell (by rw [← hkv.out]; rfl), (N.below hw).cell rfl, (N.below hw).cell rfl, (N.below hw).loadAt (P := Tryz.prog) 1 3 (show 1 + 3 ≤ 16 by decide), (N.below hw).load hN⟩
    refine wp_region_held_drew (S := (fun w' => w'.cell? ⟨w.heap.size, 4, none⟩ = some (.bool false) ∧ w'.cell? ⟨w.heap.size, 8, none⟩ = some (.int .i64 x.te) ∧ w'.cell? ⟨w.heap.size, 2, none⟩ = some (.int .i64 x.ep) ∧ (loadCells ⟨w.heap.size, 1, none⟩ 3).run Tryz.prog w' = .ok #[.int .i64 x.mo, .int .i64 x.ep, .int .i64 x.si] w' ∧ (loadCells ⟨w.heap.size, 0, none⟩ 16).run Tryz.prog w' = .ok (ndV x aa ac pa pc ha hc) w')) (by kernel_rfl) ?_ (fun hHeld => ?_)
    ·first | exact SK.out _ XB | exact SK.out _ zD
    have XB : Below v2.heap.size v2 v2.drew := Below.drew (Below.refl _ _)
    generalize v2.drew = vx at *
    refine zT4 0 ?_
    refine zTk 4 ?_
    refine zQ 5 fun K hK => ?_
    go_simp
    refine (C3 vx).mono ?_; rintro ee vx ⟨rfl, hbl⟩; (replace XB := XB.trans (hbl.mono XB.size)); (clear hbl)
    (try go_wp2_with fail)
    refine hK.out _ _ ?_ (fun hHeld => ?_)
    ·first | exact SK.out _ XB | exact SK.out _ zD
    clear hK K
    (try simp only [zA])
    refine zT2 6 ?_
    refine zTn 8 ?_
    refine zTn 9 ?_
    refine zTn 10 ?_
    refine zTn 11 ?_
    refine zTn 12 ?_
    refine zTn 13 ?_
    refine zTn 14 ?_
    refine zT2 15 ?_
    refine zTn 17 ?_
    refine zTn 18 ?_
    refine zTk 19 ?_
    refine wpAnyH_done (by kernel_rfl) ?_ _
    go_wp2_with fail
    go_meet
    case rel => exact ⟨by rw [HG.out, hkv.out]; rfl, XB⟩
   ·have SK : Hid (∀ w', Below v2.heap.size v2 w' → (fun w' => w'.cell? ⟨w.heap.size, 4, none⟩ = some (.bool true) ∧ w'.cell? ⟨w.heap.size, 8, none⟩ = some (.int .i64 x.te) ∧ w'.cell? ⟨w.heap.size, 2, none⟩ = some (.int .i64 x.ep) ∧ (loadCells ⟨w.heap.size, 1, none⟩ 3).run Tryz.prog w' = .ok #[.int .i64 x.mo, .int .i64 x.ep, .int .i64 x.si] w' ∧ (loadCells ⟨w.heap.size, 0, none⟩ 16).run Tryz.prog w' = .ok (ndV x aa ac pa pc ha hc) w') w') := fun w' hw => ⟨(N.below hw).cell (by rw [← hkv.out]; rfl), (N.below hw).cell rfl, (N.below hw).cell rfl, (N.below hw).loadAt (P := Tryz.prog) 1 3 (show 1 + 3 ≤ 16 by decide), (N.below hw).load hN⟩
    refine wp_region_held_drew (S := (fun w' => w'.cell? ⟨w.heap.size, 4, none⟩ = some (.bool true) ∧ w'.cell? ⟨w.heap.size, 8, none⟩ = some (.int .i64 x.te) ∧ w'.cell? ⟨w.heap.size, 2, none⟩ = some (.int .i64 x.ep) ∧ (loadCells ⟨w.heap.size, 1, none⟩ 3).run Tryz.prog w' = .ok #[.int .i64 x.mo, .int .i64 x.ep, .int .i64 x.si] w' ∧ (loadCells ⟨w.heap.size, 0, none⟩ 16).run Tryz.prog w' = .ok (ndV x aa ac pa pc ha hc) w')) (by kernel_rfl) ?_ (fun hHeld => ?_)
    ·first | exact SK.out _ XB | exact SK.out _ zD
    have XB : Below v2.heap.size v2 v2.drew := Below.drew (Below.refl _ _)
    generalize v2.drew = vx at *
    refine zT4 0 ?_
    refine zTk 4 ?_
    refine zQ 5 fun K hK => ?_
    go_simp
    refine (C3 vx).mono ?_; rintro ee vx ⟨rfl, hbl⟩; (replace XB := XB.trans (hbl.mono XB.size)); (clear hbl)
    (try go_wp2_with fail)
    refine hK.out _ _ ?_ (fun hHeld => ?_)
    ·first | exact SK.out _ XB | exact SK.out _ zD
    clear hK K
    (try simp only [zA])
    refine zT2 6 ?_
    refine zTn 8 ?_
    refine zTn 9 ?_
    refine zTn 10 ?_
    refine zTn 11 ?_
    refine zTn 12 ?_
    refine zTn 13 ?_
    refine zTn 14 ?_
    refine zT2 15 ?_
    refine zTn 17 ?_
    refine zTn 18 ?_
    refine zTk 19 ?_
    refine wpAnyH_done (by kernel_rfl) ?_ _
    go_wp2_with fail
    go_meet
    case rel => exact ⟨by rw [HG.out, hkv.out]; rfl, XB⟩
   ·have SK : Hid (∀ w', Below v2.heap.size v2 w' → (fun w' => w'.cell? ⟨w.heap.size, 4, none⟩ = some (.bool true) ∧ w'.cell? ⟨w.heap.size, 8, none⟩ = some (.int .i64 x.te) ∧ w'.cell? ⟨w.heap.size, 2, none⟩ = some (.int .i64 x.ep) ∧ (loadCells ⟨w.heap.size, 1, none⟩ 3).run Tryz.prog w' = .ok #[.int .i64 x.mo, .int .i64 x.ep, .int .i64 x.si] w' ∧ (loadCells ⟨w.heap.size, 0, none⟩ 16).run Tryz.prog w' = .ok (ndV x aa ac pa pc ha hc) w') w') := fun w' hw => ⟨(N.below hw).cell (by rw [← hkv.out]; rfl), (N.below hw).cell rfl, (N.below hw).cell rfl, (N.below hw).loadAt (P := Tryz.prog) 1 3 (show 1 + 3 ≤ 16 by decide), (N.below hw).load hN⟩
    refine wp_region_held_drew (S := (fun w' => w'.cell? ⟨w.heap.size, 4, none⟩ = some (.bool true) ∧ w'.cell? ⟨w.heap.size, 8, none⟩ = some (.int .i64 x.te) ∧ w'.cell? ⟨w.heap.size, 2, none⟩ = some (.int .i64 x.ep) ∧ (loadCells ⟨w.heap.size, 1, none⟩ 3).run Tryz.prog w' = .ok #[.int .i64 x.mo, .int .i64 x.ep, .int .i64 x.si] w' ∧ (loadCells ⟨w.heap.size, 0, none⟩ 16).run Tryz.prog w' = .ok (ndV x aa ac pa pc ha hc) w')) (by kernel_rfl) ?_ (fun hHeld => ?_)
    ·first | exact SK.out _ XB | exact SK.out _ zD
    have XB : Below v2.heap.size v2 v2.drew := Below.drew (Below.refl _ _)
    generalize v2.drew = vx at *
    refine zT4 0 ?_
    refine zTk 4 ?_
    refine zQ 5 fun K hK => ?_
    go_simp
    refine (C3 vx).mono ?_; rintro ee vx ⟨rfl, hbl⟩; (replace XB := XB.trans (hbl.mono XB.size)); (clear hbl)
    (try go_wp2_with fail)
    refine hK.out _ _ ?_ (fun hHeld => ?_)
    ·first | exact SK.out _ XB | exact SK.out _ zD
    clear hK K
    (try simp only [zA])
    refine zT8 6 ?_
    refine zTk 14 ?_
    (try simp only [hne])
    refine zT2 15 ?_
    refine zTn 17 ?_
    refine zTn 18 ?_
    refine zTk 19 ?_
    refine wpAnyH_done (by kernel_rfl) ?_ _
    go_wp2_with fail
    go_meet
    case rel => exact ⟨by rw [HG.out, hkv.out, hne]; rfl, XB⟩
 case rest =>
 obtain ⟨rfl, hb⟩ := hcut
 replace B := B.trans (hb.mono B.size)
 replace N := N.below hb
 clear hb C3 C4
 generalize wc = v9 at *
 cases G
 rotate_left
 ·replace HR : Hid (R = false) := by
   (show R = false); rw [HR.out]; have hg := HG.out; revert hg; cases hkn : x.kn <;> cases K <;> cases h2 : (x.te == x.ep) <;> cases nmB x <;> simp [bne, h2]
  clear C5 C6 HG
  go_wp2_with fail
  go_ret
  exact ⟨ab HR.out.symm, B⟩
 replace HR : Hid (R = (!(x.mo == 0) || hnB x)) := by
  (show R = _); rw [HR.out]; have hg := HG.out; revert hg; cases hkn : x.kn <;> cases K <;> cases h2 : (x.te == x.ep) <;> cases nmB x <;> simp [bne, h2]
 clear HG
 have hL0 := N.load (P := Tryz.prog) hN
 go_wp2_with (rw [hL0])
 refine (C5 v9 B).mono ?_
 rintro e v10 ⟨rfl, hb⟩
 clear hL0
 replace B := B.trans (hb.mono B.size)
 replace N := N.below hb
 clear hb
 cases h1 : (x.mo == 0)
 ·replace HR : Hid (R = true) := by (show R = true; rw [HR.out, h1]; rfl)
  clear C6
  go_wp2_with fail
  go_ret
  exact ⟨ab HR.out.symm, B⟩
 replace HR : Hid (R = hnB x) := by (show R = hnB x; rw [HR.out, h1]; rfl)
 have hL0 := N.load (P := Tryz.prog) hN
 go_wp2_with (rw [hL0])
 refine (C6 v10 B).mono ?_
 rintro e v11 ⟨rfl, hb⟩
 clear hL0
 replace B := B.trans (hb.mono B.size)
 replace N := N.below hb
 clear hb
 go_wp2_with fail
 go_ret
 exact ⟨ab HR.out.symm, B⟩
end Go.Proofs.YtddijpjgkifngaaGreat
