/- NodeAsk (the program), over arrays of cells. -/
import Derived.Test.YtgempaoamamaeaaGreatM0
import Derived.Test.YtgempaoamamaeaaGreatM66
import Derived.Test.YtgempaoamamaeaaGreatM69
namespace Go.Proofs.YtgempaoamamaeaaGreat
open Go.RowKit
set_option linter.unusedVariables false
attribute [-go_sem] loadCells storeCells in
set_option maxRecDepth 100000 in
set_option maxHeartbeats 8000000 in
theorem implAskunfit1 (AC AN : Array Value) (y : CfX) (x : NdX) (ct xt : Int) (w : World) (HC : CfS w AC y) (HN : NdS w AN x) (hwf : wfX x) (hnd : nodB xt = false) :
    Calls Tryz.prog 11 #[.agg AC, .agg AN, .int .i64 ct, .int .i64 xt] w fun e w' => ∃ R, e = .returned (.tuple #[.agg R, .agg #[.int .i64 ((askX y x ct xt).2.1.1), .int .i64 ((askX y x ct xt).2.1.2.1), .int .i64 ((askX y x ct xt).2.1.2.2.1), .int .i64 ((askX y x ct xt).2.1.2.2.2.1), .int .i64 ((askX y x ct xt).2.1.2.2.2.2.1), .int .i64 ((askX y x ct xt).2.1.2.2.2.2.2.1), .int .i64 ((askX y x ct xt).2.1.2.2.2.2.2.2.1), .string ((askX y x ct xt).2.1.2.2.2.2.2.2.2)], .int .i64 (askX y x ct xt).2.2]) ∧ NdO w' w.heap.size w'.heap.size R (askX y x ct xt).1 ∧ Below w.heap.size w w' := by
  have hft : fitB x xt = false := by unfold fitB; rw [hnd]; rfl
  have hF : askX y x ct xt = (zX 0 0 0 0 0 0, zMs, 1) := by unfold askX; simp only [hft]
  rw [hF]
  clear hF
  clear hft
  have hne : true = true := rfl
  have hbad : staI y x ct = 1 ∨ false = false := .inr rfl
  have CIV := fun v => isNode_any xt v
  have hN0 : AN[0]? = some (.int .i64 x.ni) := by obtain ⟨_, _, _, _, _, _, e, _⟩ := id HN; rw [e]; rfl
  have hC := HC.size
  have hN := HN.size
  have CW := fun (v : World) (h : Below w.heap.size w v) => workOn_bad AC AN y x ct false v (HC.below h) (HN.below h) hwf (hbad)
  clear HC HN hwf
  have A0 := Below.nw w (.cells AC 67)
  have A1 := Below.nw (w.alloc (.cells AC 67)) (.cells AN 57)
  have A2 := Below.nw (((w.alloc (.cells AC 67))).alloc (.cells AN 57)) (.cells #[.int .i64 0, .int .i64 0, .int .i64 0, .int .i64 0, .bool false, .int .i64 0, .int .i64 0, .int .i64 0, .int .i64 0, .int .i64 0, .slice none 0 0, .slice none 0 0, .bool false, .int .i64 0, .slice none 0 0, .int .i64 0] 57)
  have A3 := Below.nw (((((w.alloc (.cells AC 67))).alloc (.cells AN 57))).alloc (.cells #[.int .i64 0, .int .i64 0, .int .i64 0, .int .i64 0, .bool false, .int .i64 0, .int .i64 0, .int .i64 0, .int .i64 0, .int .i64 0, .slice none 0 0, .slice none 0 0, .bool false, .int .i64 0, .slice none 0 0, .int .i64 0] 57)) (.cells #[.int .i64 0, .int .i64 0, .int .i64 0, .int .i64 0, .int .i64 0, .int .i64 0, .int .i64 0, .string ⟨#[]⟩] 59)
  have C := (((Bo.new w AC 67).below A1).below A2).below A3
  have N := ((Bo.new (w.alloc (.cells AC 67)) AN 57).below A2).below A3
  have R := (Bo.new (((w.alloc (.cells AC 67))).alloc (.cells AN 57)) #[.int .i64 0, .int .i64 0, .int .i64 0, .int .i64 0, .bool false, .int .i64 0, .int .i64 0, .int .i64 0, .int .i64 0, .int .i64 0, .slice none 0 0, .slice none 0 0, .bool false, .int .i64 0, .slice none 0 0, .int .i64 0] 57).below A3
  have M := Bo.new (((((w.alloc (.cells AC 67))).alloc (.cells AN 57))).alloc (.cells #[.int .i64 0, .int .i64 0, .int .i64 0, .int .i64 0, .bool false, .int .i64 0, .int .i64 0, .int .i64 0, .int .i64 0, .int .i64 0, .slice none 0 0, .slice none 0 0, .bool false, .int .i64 0, .slice none 0 0, .int .i64 0] 57)) #[.int .i64 0, .int .i64 0, .int .i64 0, .int .i64 0, .int .i64 0, .int .i64 0, .int .i64 0, .string ⟨#[]⟩] 59
  have B := A0
  replace B := B.trans (A1.mono B.size)
  replace B := B.trans (A2.mono B.size)
  replace B := B.trans (A3.mono B.size)
  simp only [World.size_alloc] at N R M
  clear A0 A1 A2 A3
  go_enter Tryz.func11, Tryz.ntmps11
  go_upto_region 1 with fail
  generalize ((((((w.alloc (.cells AC 67))).alloc (.cells AN 57))).alloc (.cells #[.int .i64 0, .int .i64 0, .int .i64 0, .int .i64 0, .bool false, .int .i64 0, .int .i64 0, .int .i64 0, .int .i64 0, .int .i64 0, .slice none 0 0, .slice none 0 0, .bool false, .int .i64 0, .slice none 0 0, .int .i64 0] 57))).alloc (.cells #[.int .i64 0, .int .i64 0, .int .i64 0, .int .i64 0, .int .i64 0, .int .i64 0, .int .i64 0, .string ⟨#[]⟩] 59) = v0 at *
  have SK : Hid (∀ w', Below v0.heap.size v0 w' → (fun w' => (loadCells ⟨w.heap.size, 0, none⟩ 11).run Tryz.prog w' = .ok AC w' ∧ (loadCells ⟨w.heap.size + 1, 0, none⟩ 16).run Tryz.prog w' = .ok AN w' ∧ w'.cell? ⟨w.heap.size + 1, 0, none⟩ = some (.int .i64 x.ni)) w') := fun w' hw => ⟨(C.below hw).load hC, (N.below hw).load hN, (N.below hw).cell hN0⟩
  go_cut [11, 12] (fun s11 s12 wx => ∃ (j : Nat), s11 = .pointer (some ⟨j, 0, none⟩) ∧ s12 = .int .i64 1 ∧ Bo wx j zWk ∧ v0.heap.size ≤ j ∧ Below v0.heap.size v0 wx)
  case first => as_aux_lemma =>
    refine wp_region_held_drew (S := (fun w' => (loadCells ⟨w.heap.size, 0, none⟩ 11).run Tryz.prog w' = .ok AC w' ∧ (loadCells ⟨w.heap.size + 1, 0, none⟩ 16).run Tryz.prog w' = .ok AN w' ∧ w'.cell? ⟨w.heap.size + 1, 0, none⟩ = some (.int .i64 x.ni))) (by kernel_rfl) ?_ (fun hHeld => ?_)
    · first | exact SK.out _ XB | exact SK.out _ (Below.drew (Below.refl _ _)) | exact SK.out _ XF
    have XB : Below v0.heap.size v0 v0.drew := Below.drew (Below.refl _ _)
    generalize v0.drew = vx at *
    refine zTk 0 ?_
    (try simp only [Act.put, zSb, zS0, zS1])
    refine zTk 1 ?_
    (try simp only [Act.put, zSb, zS0, zS1])
    refine zTk 2 ?_
    (try simp only [Act.put, zSb, zS0, zS1])
    refine zTk 3 ?_
    (try simp only [Act.put, zSb, zS0, zS1])
    refine wpAnyH_ready (rs := [4, 15]) (by kernel_rfl) (by simp) ?_
    refine (AllReadyH.cons (by rw [List.getElem?_toArray]; rfl) (fun K hK => ?_) (AllReadyH.cons (by rw [List.getElem?_toArray]; rfl) (fun K hK => ?_) AllReadyH.nil))
    · go_simp
      refine (CIV vx).mono ?_; rintro ee w9 ⟨rfl, rfl⟩; rw [hnd]
      (try go_wp2_with fail)
      refine hK.out _ _ ?_ (fun hHeld => ?_)
      · first | exact SK.out _ XB | exact SK.out _ (Below.drew (Below.refl _ _)) | exact SK.out _ XF
      clear hK K
      (try simp only [Act.put, zSb, zS0, zS1])
      refine zTk 5 ?_
      (try simp only [Act.put, zSb, zS0, zS1])
      refine zTn 6 ?_
      (try simp only [Act.put, zSb, zS0, zS1])
      refine zTn 7 ?_
      (try simp only [Act.put, zSb, zS0, zS1])
      refine zTn 8 ?_
      (try simp only [Act.put, zSb, zS0, zS1])
      refine zTn 9 ?_
      (try simp only [Act.put, zSb, zS0, zS1])
      refine zTk 10 ?_
      (try simp only [Act.put, zSb, zS0, zS1])
      refine wpAnyH_ready (rs := [11, 15]) (by kernel_rfl) (by simp) ?_
      refine (AllReadyH.cons (by rw [List.getElem?_toArray]; rfl) (fun K hK => ?_) (AllReadyH.cons (by rw [List.getElem?_toArray]; rfl) (fun K hK => ?_) AllReadyH.nil))
      · go_simp
        (try rw [hne]); refine (CW vx (B.trans (XB.mono B.size))).mono ?_; rintro ee vs ⟨rfl, hbl⟩; (have hl0 : v0.heap.size ≤ vx.heap.size := XB.size); (have hlu : vx.heap.size ≤ vs.heap.size := hbl.size); (replace XB := XB.trans (hbl.mono XB.size)); (clear hbl)
        (try go_wp2_with fail)
        refine hK.out _ _ ?_ (fun hHeld => ?_)
        · first | exact SK.out _ XB | exact SK.out _ (Below.drew (Below.refl _ _)) | exact SK.out _ XF
        clear hK K
        (try simp only [Act.put, zSb, zS0, zS1])
        refine zTk 12 ?_
        (try simp only [Act.put, zSb, zS0, zS1])
        refine zTk 13 ?_
        (try simp only [Act.put, zSb, zS0, zS1])
        refine zTk 14 ?_
        (try simp only [Act.put, zSb, zS0, zS1])
        refine wpAnyH_ready (rs := [15]) (by kernel_rfl) (by simp) ?_
        refine (AllReadyH.cons (by rw [List.getElem?_toArray]; rfl) (fun K hK => ?_) AllReadyH.nil)
        go_simp
        (have Z := Bo.new vs (#[.int .i64 0, .int .i64 0, .slice none 0 0, .bool false, .int .i64 0, .int .i64 0, .int .i64 0, .int .i64 0, .int .i64 0, .int .i64 0, .int .i64 0, .int .i64 0, .int .i64 0, .int .i64 0, .int .i64 0, .slice none 0 0, .int .i64 0, .int .i64 0, .int .i64 0, .int .i64 0, .int .i64 0, .bool false, .int .i64 0, .int .i64 0, .int .i64 0, .slice none 0 0, .slice none 0 0, .int .i64 0]) 103); (have NL := Below.nw vs (.cells (#[.int .i64 0, .int .i64 0, .slice none 0 0, .bool false, .int .i64 0, .int .i64 0, .int .i64 0, .int .i64 0, .int .i64 0, .int .i64 0, .int .i64 0, .int .i64 0, .int .i64 0, .int .i64 0, .int .i64 0, .slice none 0 0, .int .i64 0, .int .i64 0, .int .i64 0, .int .i64 0, .int .i64 0, .bool false, .int .i64 0, .int .i64 0, .int .i64 0, .slice none 0 0, .slice none 0 0, .int .i64 0]) 103)); (have hzv : v0.heap.size ≤ vs.heap.size := XB.size); (replace XB := XB.trans (NL.mono XB.size)); (clear NL); (generalize vs.alloc (.cells (#[.int .i64 0, .int .i64 0, .slice none 0 0, .bool false, .int .i64 0, .int .i64 0, .int .i64 0, .int .i64 0, .int .i64 0, .int .i64 0, .int .i64 0, .int .i64 0, .int .i64 0, .int .i64 0, .int .i64 0, .slice none 0 0, .int .i64 0, .int .i64 0, .int .i64 0, .int .i64 0, .int .i64 0, .bool false, .int .i64 0, .int .i64 0, .int .i64 0, .slice none 0 0, .slice none 0 0, .int .i64 0]) 103) = vy at *); (generalize vs.heap.size = jz at *); (have hRW := zWk_size); (have hst := Bo.store (P := Tryz.prog) (b := 0) zWk.toList 0 0 Z rfl (by simp [hRW]) zWk_one); (have XF := putA_below (k := jz) zWk.toList v0 vy 0 XB hzv); (have ZF := Z.putW (U := zWk) hRW); (have hsz := putA_size jz zWk.toList vy 0); (generalize putA vy jz 0 zWk.toList = vf at *)
        refine hK.out _ _ ?_ (fun hHeld => ?_)
        · first | exact SK.out _ XB | exact SK.out _ (Below.drew (Below.refl _ _)) | exact SK.out _ XF
        clear hK K
        (try simp only [Act.put, zSb, zS0, zS1])
        refine wpAnyH_ready (rs := [16]) (by kernel_rfl) (by simp) ?_
        refine (AllReadyH.cons (by rw [List.getElem?_toArray]; rfl) (fun K hK => ?_) AllReadyH.nil)
        go_simp
        refine hK.out _ _ ?_ (fun hHeld => ?_)
        · first | exact SK.out _ XB | exact SK.out _ (Below.drew (Below.refl _ _)) | exact SK.out _ XF
        clear hK K
        (try simp only [Act.put, zSb, zS0, zS1])
        refine zTk 17 ?_
        (try simp only [Act.put, zSb, zS0, zS1])
        refine wpAnyH_done (by kernel_rfl) ?_ _
        go_wp2_with (rw [hst])
        go_meet
        case rel => exact ⟨jz, rfl, rfl, ZF, hzv, XF⟩
      · go_simp
        (have Z := Bo.new vx (#[.int .i64 0, .int .i64 0, .slice none 0 0, .bool false, .int .i64 0, .int .i64 0, .int .i64 0, .int .i64 0, .int .i64 0, .int .i64 0, .int .i64 0, .int .i64 0, .int .i64 0, .int .i64 0, .int .i64 0, .slice none 0 0, .int .i64 0, .int .i64 0, .int .i64 0, .int .i64 0, .int .i64 0, .bool false, .int .i64 0, .int .i64 0, .int .i64 0, .slice none 0 0, .slice none 0 0, .int .i64 0]) 103); (have NL := Below.nw vx (.cells (#[.int .i64 0, .int .i64 0, .slice none 0 0, .bool false, .int .i64 0, .int .i64 0, .int .i64 0, .int .i64 0, .int .i64 0, .int .i64 0, .int .i64 0, .int .i64 0, .int .i64 0, .int .i64 0, .int .i64 0, .slice none 0 0, .int .i64 0, .int .i64 0, .int .i64 0, .int .i64 0, .int .i64 0, .bool false, .int .i64 0, .int .i64 0, .int .i64 0, .slice none 0 0, .slice none 0 0, .int .i64 0]) 103)); (have hzv : v0.heap.size ≤ vx.heap.size := XB.size); (replace XB := XB.trans (NL.mono XB.size)); (clear NL); (generalize vx.alloc (.cells (#[.int .i64 0, .int .i64 0, .slice none 0 0, .bool false, .int .i64 0, .int .i64 0, .int .i64 0, .int .i64 0, .int .i64 0, .int .i64 0, .int .i64 0, .int .i64 0, .int .i64 0, .int .i64 0, .int .i64 0, .slice none 0 0, .int .i64 0, .int .i64 0, .int .i64 0, .int .i64 0, .int .i64 0, .bool false, .int .i64 0, .int .i64 0, .int .i64 0, .slice none 0 0, .slice none 0 0, .int .i64 0]) 103) = vy at *); (generalize vx.heap.size = jz at *)
        refine hK.out _ _ ?_ (fun hHeld => ?_)
        · first | exact SK.out _ XB | exact SK.out _ (Below.drew (Below.refl _ _)) | exact SK.out _ XF
        clear hK K
        (try simp only [Act.put, zSb, zS0, zS1])
        refine wpAnyH_ready (rs := [11]) (by kernel_rfl) (by simp) ?_
        refine (AllReadyH.cons (by rw [List.getElem?_toArray]; rfl) (fun K hK => ?_) AllReadyH.nil)
        go_simp
        (try rw [hne]); refine (CW vy (B.trans (XB.mono B.size))).mono ?_; rintro ee vs ⟨rfl, hbl⟩; (have hl0 : v0.heap.size ≤ vy.heap.size := XB.size); (have hlu : vy.heap.size ≤ vs.heap.size := hbl.size); (replace XB := XB.trans (hbl.mono XB.size)); (have hjl : jz < vy.heap.size := Z.1); (replace Z := Z.below hbl); (clear hbl); (have hRW := zWk_size); (have hst := Bo.store (P := Tryz.prog) (b := 0) zWk.toList 0 0 Z rfl (by simp [hRW]) zWk_one); (have XF := putA_below (k := jz) zWk.toList v0 vs 0 XB hzv); (have ZF := Z.putW (U := zWk) hRW); (have hsz := putA_size jz zWk.toList vs 0); (generalize putA vs jz 0 zWk.toList = vf at *)
        (try go_wp2_with fail)
        refine hK.out _ _ ?_ (fun hHeld => ?_)
        · first | exact SK.out _ XB | exact SK.out _ (Below.drew (Below.refl _ _)) | exact SK.out _ XF
        clear hK K
        (try simp only [Act.put, zSb, zS0, zS1])
        refine zTk 12 ?_
        (try simp only [Act.put, zSb, zS0, zS1])
        refine zTk 13 ?_
        (try simp only [Act.put, zSb, zS0, zS1])
        refine zTk 14 ?_
        (try simp only [Act.put, zSb, zS0, zS1])
        refine wpAnyH_ready (rs := [16]) (by kernel_rfl) (by simp) ?_
        refine (AllReadyH.cons (by rw [List.getElem?_toArray]; rfl) (fun K hK => ?_) AllReadyH.nil)
        go_simp
        refine hK.out _ _ ?_ (fun hHeld => ?_)
        · first | exact SK.out _ XB | exact SK.out _ (Below.drew (Below.refl _ _)) | exact SK.out _ XF
        clear hK K
        (try simp only [Act.put, zSb, zS0, zS1])
        refine zTk 17 ?_
        (try simp only [Act.put, zSb, zS0, zS1])
        refine wpAnyH_done (by kernel_rfl) ?_ _
        go_wp2_with (rw [hst])
        go_meet
        case rel => exact ⟨jz, rfl, rfl, ZF, hzv, XF⟩
    · go_simp
      (have Z := Bo.new vx (#[.int .i64 0, .int .i64 0, .slice none 0 0, .bool false, .int .i64 0, .int .i64 0, .int .i64 0, .int .i64 0, .int .i64 0, .int .i64 0, .int .i64 0, .int .i64 0, .int .i64 0, .int .i64 0, .int .i64 0, .slice none 0 0, .int .i64 0, .int .i64 0, .int .i64 0, .int .i64 0, .int .i64 0, .bool false, .int .i64 0, .int .i64 0, .int .i64 0, .slice none 0 0, .slice none 0 0, .int .i64 0]) 103); (have NL := Below.nw vx (.cells (#[.int .i64 0, .int .i64 0, .slice none 0 0, .bool false, .int .i64 0, .int .i64 0, .int .i64 0, .int .i64 0, .int .i64 0, .int .i64 0, .int .i64 0, .int .i64 0, .int .i64 0, .int .i64 0, .int .i64 0, .slice none 0 0, .int .i64 0, .int .i64 0, .int .i64 0, .int .i64 0, .int .i64 0, .bool false, .int .i64 0, .int .i64 0, .int .i64 0, .slice none 0 0, .slice none 0 0, .int .i64 0]) 103)); (have hzv : v0.heap.size ≤ vx.heap.size := XB.size); (replace XB := XB.trans (NL.mono XB.size)); (clear NL); (generalize vx.alloc (.cells (#[.int .i64 0, .int .i64 0, .slice none 0 0, .bool false, .int .i64 0, .int .i64 0, .int .i64 0, .int .i64 0, .int .i64 0, .int .i64 0, .int .i64 0, .int .i64 0, .int .i64 0, .int .i64 0, .int .i64 0, .slice none 0 0, .int .i64 0, .int .i64 0, .int .i64 0, .int .i64 0, .int .i64 0, .bool false, .int .i64 0, .int .i64 0, .int .i64 0, .slice none 0 0, .slice none 0 0, .int .i64 0]) 103) = vy at *); (generalize vx.heap.size = jz at *)
      refine hK.out _ _ ?_ (fun hHeld => ?_)
      · first | exact SK.out _ XB | exact SK.out _ (Below.drew (Below.refl _ _)) | exact SK.out _ XF
      clear hK K
      (try simp only [Act.put, zSb, zS0, zS1])
      refine wpAnyH_ready (rs := [4]) (by kernel_rfl) (by simp) ?_
      refine (AllReadyH.cons (by rw [List.getElem?_toArray]; rfl) (fun K hK => ?_) AllReadyH.nil)
      go_simp
      refine (CIV vy).mono ?_; rintro ee w9 ⟨rfl, rfl⟩; rw [hnd]
      (try go_wp2_with fail)
      refine hK.out _ _ ?_ (fun hHeld => ?_)
      · first | exact SK.out _ XB | exact SK.out _ (Below.drew (Below.refl _ _)) | exact SK.out _ XF
      clear hK K
      (try simp only [Act.put, zSb, zS0, zS1])
      refine zTk 5 ?_
      (try simp only [Act.put, zSb, zS0, zS1])
      refine zTn 6 ?_
      (try simp only [Act.put, zSb, zS0, zS1])
      refine zTn 7 ?_
      (try simp only [Act.put, zSb, zS0, zS1])
      refine zTn 8 ?_
      (try simp only [Act.put, zSb, zS0, zS1])
      refine zTn 9 ?_
      (try simp only [Act.put, zSb, zS0, zS1])
      refine zTk 10 ?_
      (try simp only [Act.put, zSb, zS0, zS1])
      refine wpAnyH_ready (rs := [11]) (by kernel_rfl) (by simp) ?_
      refine (AllReadyH.cons (by rw [List.getElem?_toArray]; rfl) (fun K hK => ?_) AllReadyH.nil)
      go_simp
      (try rw [hne]); refine (CW vy (B.trans (XB.mono B.size))).mono ?_; rintro ee vs ⟨rfl, hbl⟩; (have hl0 : v0.heap.size ≤ vy.heap.size := XB.size); (have hlu : vy.heap.size ≤ vs.heap.size := hbl.size); (replace XB := XB.trans (hbl.mono XB.size)); (have hjl : jz < vy.heap.size := Z.1); (replace Z := Z.below hbl); (clear hbl); (have hRW := zWk_size); (have hst := Bo.store (P := Tryz.prog) (b := 0) zWk.toList 0 0 Z rfl (by simp [hRW]) zWk_one); (have XF := putA_below (k := jz) zWk.toList v0 vs 0 XB hzv); (have ZF := Z.putW (U := zWk) hRW); (have hsz := putA_size jz zWk.toList vs 0); (generalize putA vs jz 0 zWk.toList = vf at *)
      (try go_wp2_with fail)
      refine hK.out _ _ ?_ (fun hHeld => ?_)
      · first | exact SK.out _ XB | exact SK.out _ (Below.drew (Below.refl _ _)) | exact SK.out _ XF
      clear hK K
      (try simp only [Act.put, zSb, zS0, zS1])
      refine zTk 12 ?_
      (try simp only [Act.put, zSb, zS0, zS1])
      refine zTk 13 ?_
      (try simp only [Act.put, zSb, zS0, zS1])
      refine zTk 14 ?_
      (try simp only [Act.put, zSb, zS0, zS1])
      refine wpAnyH_ready (rs := [16]) (by kernel_rfl) (by simp) ?_
      refine (AllReadyH.cons (by rw [List.getElem?_toArray]; rfl) (fun K hK => ?_) AllReadyH.nil)
      go_simp
      refine hK.out _ _ ?_ (fun hHeld => ?_)
      · first | exact SK.out _ XB | exact SK.out _ (Below.drew (Below.refl _ _)) | exact SK.out _ XF
      clear hK K
      (try simp only [Act.put, zSb, zS0, zS1])
      refine zTk 17 ?_
      (try simp only [Act.put, zSb, zS0, zS1])
      refine wpAnyH_done (by kernel_rfl) ?_ _
      go_wp2_with (rw [hst])
      go_meet
      case rel => exact ⟨jz, rfl, rfl, ZF, hzv, XF⟩
  case rest =>
  have gKC : w.heap.size < v0.heap.size := C.1
  have gKN : w.heap.size + 1 < v0.heap.size := N.1
  have gKR : w.heap.size + 2 < v0.heap.size := R.1
  have gKM : w.heap.size + 3 < v0.heap.size := M.1
  obtain ⟨kKW, rfl, rfl, KW, hjK, hb⟩ := hcut
  clear SK CW CIV
  generalize wc = v1 at *
  have zz : v0.heap.size ≤ v1.heap.size := hb.size
  replace B := B.trans (hb.mono B.size)
  replace C := C.below hb
  replace N := N.below hb
  replace R := R.below hb
  replace M := M.below hb
  clear hb
  have gMbC : w.heap.size < v1.heap.size := C.1
  have gMbN : w.heap.size + 1 < v1.heap.size := N.1
  have gMbR : w.heap.size + 2 < v1.heap.size := R.1
  have gMbM : w.heap.size + 3 < v1.heap.size := M.1
  have gMbKW : kKW < v1.heap.size := KW.1
  have hb := Below.nw v1 (.cells #[.int .i64 0, .int .i64 0, .int .i64 0, .int .i64 0, .int .i64 0, .int .i64 0, .int .i64 0, .string ⟨#[]⟩] 59)
  have Mb := Bo.new v1 #[.int .i64 0, .int .i64 0, .int .i64 0, .int .i64 0, .int .i64 0, .int .i64 0, .int .i64 0, .string ⟨#[]⟩] 59
  go_upto_region 3 with fail
  replace B := B.trans (hb.mono B.size)
  replace C := C.below hb
  replace N := N.below hb
  replace R := R.below hb
  replace M := M.below hb
  replace KW := KW.below hb
  clear hb
  generalize v1.alloc (.cells #[.int .i64 0, .int .i64 0, .int .i64 0, .int .i64 0, .int .i64 0, .int .i64 0, .int .i64 0, .string ⟨#[]⟩] 59) = v2 at *
  generalize v1.heap.size = kMb at *
  go_upto_region 5 with fail
  refine wp_region_held_drew (S := (fun w' => (loadCells ⟨kMb, 0, none⟩ 8).run Tryz.prog w' = .ok #[.int .i64 0, .int .i64 0, .int .i64 0, .int .i64 0, .int .i64 0, .int .i64 0, .int .i64 0, .string ⟨#[]⟩] w')) (by kernel_rfl) ?_ (fun hHeld => ?_)
  · first | exact hS3 | exact hS2 | exact hS1 | exact hS0 | exact (Bo.drew Mb).load (P := Tryz.prog) (show (#[.int .i64 0, .int .i64 0, .int .i64 0, .int .i64 0, .int .i64 0, .int .i64 0, .int .i64 0, .string ⟨#[]⟩] : Array Value).size = 8 from rfl)
  have hb : Below v2.heap.size v2 v2.drew := Below.drew (Below.refl _ _)
  replace B := B.trans (hb.mono B.size)
  replace C := C.below hb
  replace N := N.below hb
  replace R := R.below hb
  replace M := M.below hb
  replace KW := KW.below hb
  replace Mb := Mb.below hb
  clear hb
  generalize v2.drew = vx at *
  have hS0 : (fun w' => (loadCells ⟨kMb, 0, none⟩ 8).run Tryz.prog w' = .ok #[.int .i64 0, .int .i64 0, .int .i64 0, .int .i64 0, .int .i64 0, .int .i64 0, .int .i64 0, .string ⟨#[]⟩] w') vx := Mb.load (P := Tryz.prog) (show (#[.int .i64 0, .int .i64 0, .int .i64 0, .int .i64 0, .int .i64 0, .int .i64 0, .int .i64 0, .string ⟨#[]⟩] : Array Value).size = 8 from rfl)
  have hU : (ndV (zX 0 0 0 0 0 0) none 0 none 0 none 0).size = 16 := rfl
  refine zTk 1 ?_
  (try simp only [Act.put, zSb, zS0, zS1])
  refine zTk 2 ?_
  (try simp only [Act.put, zSb, zS0, zS1])
  refine wpAnyH_ready (rs := [0]) (by kernel_rfl) (by simp) ?_
  refine (AllReadyH.cons (by rw [List.getElem?_toArray]; rfl) (fun K hK => ?_) AllReadyH.nil)
  go_simp
  refine (wkNode zY (zX 0 0 0 0 0 0) 0 none 0 none 0 none 0 none 0 kKW vx KW).mono ?_; rintro ee vs ⟨rfl, hb⟩; (replace B := B.trans (hb.mono B.size)); (replace C := C.below hb); (replace N := N.below hb); (replace R := R.below hb); (replace M := M.below hb); (replace KW := KW.below hb); (replace Mb := Mb.below hb); (have zz0 := hb.size); (clear hb); (have hS1 : (fun w' => (loadCells ⟨kMb, 0, none⟩ 8).run Tryz.prog w' = .ok #[.int .i64 0, .int .i64 0, .int .i64 0, .int .i64 0, .int .i64 0, .int .i64 0, .int .i64 0, .string ⟨#[]⟩] w') vs := Mb.load (P := Tryz.prog) (show (#[.int .i64 0, .int .i64 0, .int .i64 0, .int .i64 0, .int .i64 0, .int .i64 0, .int .i64 0, .string ⟨#[]⟩] : Array Value).size = 8 from rfl)); (have hst := Bo.store (P := Tryz.prog) (b := 0) (ndV (zX 0 0 0 0 0 0) none 0 none 0 none 0).toList 0 0 R rfl (by simp [hU]) (ndV_one _ _ _ _ _ _ _))
  (try go_wp2_with fail)
  refine hK.out _ _ ?_ (fun hHeld => ?_)
  · first | exact hS3 | exact hS2 | exact hS1 | exact hS0 | exact (Bo.drew Mb).load (P := Tryz.prog) (show (#[.int .i64 0, .int .i64 0, .int .i64 0, .int .i64 0, .int .i64 0, .int .i64 0, .int .i64 0, .string ⟨#[]⟩] : Array Value).size = 8 from rfl)
  clear hK K
  (try simp only [Act.put, zSb, zS0, zS1])
  refine wpAnyH_ready (rs := [3]) (by kernel_rfl) (by simp) ?_
  refine (AllReadyH.cons (by rw [List.getElem?_toArray]; rfl) (fun K hK => ?_) AllReadyH.nil)
  go_simp
  (have hbt := putA_btw (ndV (zX 0 0 0 0 0 0) none 0 none 0 none 0).toList vs 0 (w.heap.size + 2)); (replace B := putA_below (k := w.heap.size + 2) (ndV (zX 0 0 0 0 0 0) none 0 none 0 none 0).toList w vs 0 B (by omega)); (replace R := R.putW (U := (ndV (zX 0 0 0 0 0 0) none 0 none 0 none 0)) hU); (replace M := M.btw hbt (by omega)); (replace Mb := Mb.btw hbt (by omega)); (have zz1 := hbt.2.2.2.1); (clear hst hbt); (generalize putA vs (w.heap.size + 2) 0 (ndV (zX 0 0 0 0 0 0) none 0 none 0 none 0).toList = vy at *); (have hS2 : (fun w' => (loadCells ⟨kMb, 0, none⟩ 8).run Tryz.prog w' = .ok #[.int .i64 0, .int .i64 0, .int .i64 0, .int .i64 0, .int .i64 0, .int .i64 0, .int .i64 0, .string ⟨#[]⟩] w') vy := Mb.load (P := Tryz.prog) (show (#[.int .i64 0, .int .i64 0, .int .i64 0, .int .i64 0, .int .i64 0, .int .i64 0, .int .i64 0, .string ⟨#[]⟩] : Array Value).size = 8 from rfl)); (have hst := Bo.store (P := Tryz.prog) (b := 0) ([.int .i64 0, .int .i64 0, .int .i64 0, .int .i64 0, .int .i64 0, .int .i64 0, .int .i64 0, .string ⟨#[]⟩]) 0 0 M rfl (show 0 + 8 ≤ 8 by decide) (List.forall_mem_cons.2 ⟨rfl, (List.forall_mem_cons.2 ⟨rfl, (List.forall_mem_cons.2 ⟨rfl, (List.forall_mem_cons.2 ⟨rfl, (List.forall_mem_cons.2 ⟨rfl, (List.forall_mem_cons.2 ⟨rfl, (List.forall_mem_cons.2 ⟨rfl, (List.forall_mem_cons.2 ⟨rfl, fun _ h => nomatch h⟩)⟩)⟩)⟩)⟩)⟩)⟩)⟩))
  refine hK.out _ _ ?_ (fun hHeld => ?_)
  · first | exact hS3 | exact hS2 | exact hS1 | exact hS0 | exact (Bo.drew Mb).load (P := Tryz.prog) (show (#[.int .i64 0, .int .i64 0, .int .i64 0, .int .i64 0, .int .i64 0, .int .i64 0, .int .i64 0, .string ⟨#[]⟩] : Array Value).size = 8 from rfl)
  clear hK K
  (try simp only [Act.put, zSb, zS0, zS1])
  refine wpAnyH_ready (rs := [4]) (by kernel_rfl) (by simp) ?_
  refine (AllReadyH.cons (by rw [List.getElem?_toArray]; rfl) (fun K hK => ?_) AllReadyH.nil)
  go_simp
  (have hbt := putA_btw ([.int .i64 0, .int .i64 0, .int .i64 0, .int .i64 0, .int .i64 0, .int .i64 0, .int .i64 0, .string ⟨#[]⟩]) vy 0 (w.heap.size + 3)); (replace B := putA_below (k := w.heap.size + 3) ([.int .i64 0, .int .i64 0, .int .i64 0, .int .i64 0, .int .i64 0, .int .i64 0, .int .i64 0, .string ⟨#[]⟩]) w vy 0 B (by omega)); (have M9 : Bo (putA vy (w.heap.size + 3) 0 ([.int .i64 0, .int .i64 0, .int .i64 0, .int .i64 0, .int .i64 0, .int .i64 0, .int .i64 0, .string ⟨#[]⟩])) (w.heap.size + 3) (#[.int .i64 0, .int .i64 0, .int .i64 0, .int .i64 0, .int .i64 0, .int .i64 0, .int .i64 0, .string ⟨#[]⟩]) := M.putW (U := #[.int .i64 0, .int .i64 0, .int .i64 0, .int .i64 0, .int .i64 0, .int .i64 0, .int .i64 0, .string ⟨#[]⟩]) rfl); (replace R := R.btw hbt (by omega)); (replace Mb := Mb.btw hbt (by omega)); (have zz2 := hbt.2.2.2.1); (clear hst hbt M); (generalize putA vy (w.heap.size + 3) 0 ([.int .i64 0, .int .i64 0, .int .i64 0, .int .i64 0, .int .i64 0, .int .i64 0, .int .i64 0, .string ⟨#[]⟩]) = vz at *); (have hS3 : (fun w' => (loadCells ⟨kMb, 0, none⟩ 8).run Tryz.prog w' = .ok #[.int .i64 0, .int .i64 0, .int .i64 0, .int .i64 0, .int .i64 0, .int .i64 0, .int .i64 0, .string ⟨#[]⟩] w') vz := Mb.load (P := Tryz.prog) (show (#[.int .i64 0, .int .i64 0, .int .i64 0, .int .i64 0, .int .i64 0, .int .i64 0, .int .i64 0, .string ⟨#[]⟩] : Array Value).size = 8 from rfl))
  refine hK.out _ _ ?_ (fun hHeld => ?_)
  · first | exact hS3 | exact hS2 | exact hS1 | exact hS0 | exact (Bo.drew Mb).load (P := Tryz.prog) (show (#[.int .i64 0, .int .i64 0, .int .i64 0, .int .i64 0, .int .i64 0, .int .i64 0, .int .i64 0, .string ⟨#[]⟩] : Array Value).size = 8 from rfl)
  clear hK K
  (try simp only [Act.put, zSb, zS0, zS1])
  refine zTk 5 ?_
  (try simp only [Act.put, zSb, zS0, zS1])
  refine wpAnyH_done (by kernel_rfl) ?_ _
  go_wp2_with fail
  have hL0 := R.load (P := Tryz.prog) hU
  have hL1 := M9.load (P := Tryz.prog) (show (#[.int .i64 0, .int .i64 0, .int .i64 0, .int .i64 0, .int .i64 0, .int .i64 0, .int .i64 0, .string ⟨#[]⟩] : Array Value).size = 8 from rfl)
  exact bodyPost_ret (v := .tuple #[.agg (ndV (zX 0 0 0 0 0 0) none 0 none 0 none 0), .agg #[.int .i64 0, .int .i64 0, .int .i64 0, .int .i64 0, .int .i64 0, .int .i64 0, .int .i64 0, .string ⟨#[]⟩], .int .i64 1]) (by simp [results, Tryz.results11, go_sem]; rw [hL0]; simp only [Result.andThen_ok]; rw [show w.heap.size + 1 + 1 + 1 = w.heap.size + 3 from rfl, hL1]; rfl) rfl ⟨_, rfl, zX_own 0 0 0 0 0 0 _ _ _, B⟩
attribute [-go_sem] loadCells storeCells in
set_option maxRecDepth 100000 in
set_option maxHeartbeats 8000000 in
theorem implAskunfit2 (AC AN : Array Value) (y : CfX) (x : NdX) (ct xt : Int) (w : World) (HC : CfS w AC y) (HN : NdS w AN x) (hwf : wfX x) (hnd : nodB xt = true) (he : (xt == x.ni) = true) :
    Calls Tryz.prog 11 #[.agg AC, .agg AN, .int .i64 ct, .int .i64 xt] w fun e w' => ∃ R, e = .returned (.tuple #[.agg R, .agg #[.int .i64 ((askX y x ct xt).2.1.1), .int .i64 ((askX y x ct xt).2.1.2.1), .int .i64 ((askX y x ct xt).2.1.2.2.1), .int .i64 ((askX y x ct xt).2.1.2.2.2.1), .int .i64 ((askX y x ct xt).2.1.2.2.2.2.1), .int .i64 ((askX y x ct xt).2.1.2.2.2.2.2.1), .int .i64 ((askX y x ct xt).2.1.2.2.2.2.2.2.1), .string ((askX y x ct xt).2.1.2.2.2.2.2.2.2)], .int .i64 (askX y x ct xt).2.2]) ∧ NdO w' w.heap.size w'.heap.size R (askX y x ct xt).1 ∧ Below w.heap.size w w' := by
  have hft : fitB x xt = false := by unfold fitB; rw [hnd, he]; rfl
  have hF : askX y x ct xt = (zX 0 0 0 0 0 0, zMs, 1) := by unfold askX; simp only [hft]
  rw [hF]
  clear hF
  clear hft
  have hne : (xt != x.ni) = false := by rw [bne, he]; rfl
  clear he
  have hbad : staI y x ct = 1 ∨ false = false := .inr rfl
  have CIV := fun v => isNode_any xt v
  have hN0 : AN[0]? = some (.int .i64 x.ni) := by obtain ⟨_, _, _, _, _, _, e, _⟩ := id HN; rw [e]; rfl
  have hC := HC.size
  have hN := HN.size
  have CW := fun (v : World) (h : Below w.heap.size w v) => workOn_bad AC AN y x ct false v (HC.below h) (HN.below h) hwf (hbad)
  clear HC HN hwf
  have A0 := Below.nw w (.cells AC 67)
  have A1 := Below.nw (w.alloc (.cells AC 67)) (.cells AN 57)
  have A2 := Below.nw (((w.alloc (.cells AC 67))).alloc (.cells AN 57)) (.cells #[.int .i64 0, .int .i64 0, .int .i64 0, .int .i64 0, .bool false, .int .i64 0, .int .i64 0, .int .i64 0, .int .i64 0, .int .i64 0, .slice none 0 0, .slice none 0 0, .bool false, .int .i64 0, .slice none 0 0, .int .i64 0] 57)
  have A3 := Below.nw (((((w.alloc (.cells AC 67))).alloc (.cells AN 57))).alloc (.cells #[.int .i64 0, .int .i64 0, .int .i64 0, .int .i64 0, .bool false, .int .i64 0, .int .i64 0, .int .i64 0, .int .i64 0, .int .i64 0, .slice none 0 0, .slice none 0 0, .bool false, .int .i64 0, .slice none 0 0, .int .i64 0] 57)) (.cells #[.int .i64 0, .int .i64 0, .int .i64 0, .int .i64 0, .int .i64 0, .int .i64 0, .int .i64 0, .string ⟨#[]⟩] 59)
  have C := (((Bo.new w AC 67).below A1).below A2).below A3
  have N := ((Bo.new (w.alloc (.cells AC 67)) AN 57).below A2).below A3
  have R := (Bo.new (((w.alloc (.cells AC 67))).alloc (.cells AN 57)) #[.int .i64 0, .int .i64 0, .int .i64 0, .int .i64 0, .bool false, .int .i64 0, .int .i64 0, .int .i64 0, .int .i64 0, .int .i64 0, .slice none 0 0, .slice none 0 0, .bool false, .int .i64 0, .slice none 0 0, .int .i64 0] 57).below A3
  have M := Bo.new (((((w.alloc (.cells AC 67))).alloc (.cells AN 57))).alloc (.cells #[.int .i64 0, .int .i64 0, .int .i64 0, .int .i64 0, .bool false, .int .i64 0, .int .i64 0, .int .i64 0, .int .i64 0, .int .i64 0, .slice none 0 0, .slice none 0 0, .bool false, .int .i64 0, .slice none 0 0, .int .i64 0] 57)) #[.int .i64 0, .int .i64 0, .int .i64 0, .int .i64 0, .int .i64 0, .int .i64 0, .int .i64 0, .string ⟨#[]⟩] 59
  have B := A0
  replace B := B.trans (A1.mono B.size)
  replace B := B.trans (A2.mono B.size)
  replace B := B.trans (A3.mono B.size)
  simp only [World.size_alloc] at N R M
  clear A0 A1 A2 A3
  go_enter Tryz.func11, Tryz.ntmps11
  go_upto_region 1 with fail
  generalize ((((((w.alloc (.cells AC 67))).alloc (.cells AN 57))).alloc (.cells #[.int .i64 0, .int .i64 0, .int .i64 0, .int .i64 0, .bool false, .int .i64 0, .int .i64 0, .int .i64 0, .int .i64 0, .int .i64 0, .slice none 0 0, .slice none 0 0, .bool false, .int .i64 0, .slice none 0 0, .int .i64 0] 57))).alloc (.cells #[.int .i64 0, .int .i64 0, .int .i64 0, .int .i64 0, .int .i64 0, .int .i64 0, .int .i64 0, .string ⟨#[]⟩] 59) = v0 at *
  have SK : Hid (∀ w', Below v0.heap.size v0 w' → (fun w' => (loadCells ⟨w.heap.size, 0, none⟩ 11).run Tryz.prog w' = .ok AC w' ∧ (loadCells ⟨w.heap.size + 1, 0, none⟩ 16).run Tryz.prog w' = .ok AN w' ∧ w'.cell? ⟨w.heap.size + 1, 0, none⟩ = some (.int .i64 x.ni)) w') := fun w' hw => ⟨(C.below hw).load hC, (N.below hw).load hN, (N.below hw).cell hN0⟩
  go_cut [11, 12] (fun s11 s12 wx => ∃ (j : Nat), s11 = .pointer (some ⟨j, 0, none⟩) ∧ s12 = .int .i64 1 ∧ Bo wx j zWk ∧ v0.heap.size ≤ j ∧ Below v0.heap.size v0 wx)
  case first => as_aux_lemma =>
    refine wp_region_held_drew (S := (fun w' => (loadCells ⟨w.heap.size, 0, none⟩ 11).run Tryz.prog w' = .ok AC w' ∧ (loadCells ⟨w.heap.size + 1, 0, none⟩ 16).run Tryz.prog w' = .ok AN w' ∧ w'.cell? ⟨w.heap.size + 1, 0, none⟩ = some (.int .i64 x.ni))) (by kernel_rfl) ?_ (fun hHeld => ?_)
    · first | exact SK.out _ XB | exact SK.out _ (Below.drew (Below.refl _ _)) | exact SK.out _ XF
    have XB : Below v0.heap.size v0 v0.drew := Below.drew (Below.refl _ _)
    generalize v0.drew = vx at *
    refine zTk 0 ?_
    (try simp only [Act.put, zSb, zS0, zS1])
    refine zTk 1 ?_
    (try simp only [Act.put, zSb, zS0, zS1])
    refine zTk 2 ?_
    (try simp only [Act.put, zSb, zS0, zS1])
    refine zTk 3 ?_
    (try simp only [Act.put, zSb, zS0, zS1])
    refine wpAnyH_ready (rs := [4, 15]) (by kernel_rfl) (by simp) ?_
    refine (AllReadyH.cons (by rw [List.getElem?_toArray]; rfl) (fun K hK => ?_) (AllReadyH.cons (by rw [List.getElem?_toArray]; rfl) (fun K hK => ?_) AllReadyH.nil))
    · go_simp
      refine (CIV vx).mono ?_; rintro ee w9 ⟨rfl, rfl⟩; rw [hnd]
      (try go_wp2_with fail)
      refine hK.out _ _ ?_ (fun hHeld => ?_)
      · first | exact SK.out _ XB | exact SK.out _ (Below.drew (Below.refl _ _)) | exact SK.out _ XF
      clear hK K
      (try simp only [Act.put, zSb, zS0, zS1])
      refine zTk 5 ?_
      (try simp only [Act.put, zSb, zS0, zS1])
      refine zTk 6 ?_
      (try simp only [Act.put, zSb, zS0, zS1])
      refine zTk 7 ?_
      (try simp only [Act.put, zSb, zS0, zS1])
      refine zTk 8 ?_
      (try simp only [Act.put, zSb, zS0, zS1])
      refine zTk 9 ?_
      (try simp only [Act.put, zSb, zS0, zS1])
      refine zTk 10 ?_
      (try simp only [Act.put, zSb, zS0, zS1])
      refine wpAnyH_ready (rs := [11, 15]) (by kernel_rfl) (by simp) ?_
      refine (AllReadyH.cons (by rw [List.getElem?_toArray]; rfl) (fun K hK => ?_) (AllReadyH.cons (by rw [List.getElem?_toArray]; rfl) (fun K hK => ?_) AllReadyH.nil))
      · go_simp
        (try rw [hne]); refine (CW vx (B.trans (XB.mono B.size))).mono ?_; rintro ee vs ⟨rfl, hbl⟩; (have hl0 : v0.heap.size ≤ vx.heap.size := XB.size); (have hlu : vx.heap.size ≤ vs.heap.size := hbl.size); (replace XB := XB.trans (hbl.mono XB.size)); (clear hbl)
        (try go_wp2_with fail)
        refine hK.out _ _ ?_ (fun hHeld => ?_)
        · first | exact SK.out _ XB | exact SK.out _ (Below.drew (Below.refl _ _)) | exact SK.out _ XF
        clear hK K
        (try simp only [Act.put, zSb, zS0, zS1])
        refine zTk 12 ?_
        (try simp only [Act.put, zSb, zS0, zS1])
        refine zTk 13 ?_
        (try simp only [Act.put, zSb, zS0, zS1])
        refine zTk 14 ?_
        (try simp only [Act.put, zSb, zS0, zS1])
        refine wpAnyH_ready (rs := [15]) (by kernel_rfl) (by simp) ?_
        refine (AllReadyH.cons (by rw [List.getElem?_toArray]; rfl) (fun K hK => ?_) AllReadyH.nil)
        go_simp
        (have Z := Bo.new vs (#[.int .i64 0, .int .i64 0, .slice none 0 0, .bool false, .int .i64 0, .int .i64 0, .int .i64 0, .int .i64 0, .int .i64 0, .int .i64 0, .int .i64 0, .int .i64 0, .int .i64 0, .int .i64 0, .int .i64 0, .slice none 0 0, .int .i64 0, .int .i64 0, .int .i64 0, .int .i64 0, .int .i64 0, .bool false, .int .i64 0, .int .i64 0, .int .i64 0, .slice none 0 0, .slice none 0 0, .int .i64 0]) 103); (have NL := Below.nw vs (.cells (#[.int .i64 0, .int .i64 0, .slice none 0 0, .bool false, .int .i64 0, .int .i64 0, .int .i64 0, .int .i64 0, .int .i64 0, .int .i64 0, .int .i64 0, .int .i64 0, .int .i64 0, .int .i64 0, .int .i64 0, .slice none 0 0, .int .i64 0, .int .i64 0, .int .i64 0, .int .i64 0, .int .i64 0, .bool false, .int .i64 0, .int .i64 0, .int .i64 0, .slice none 0 0, .slice none 0 0, .int .i64 0]) 103)); (have hzv : v0.heap.size ≤ vs.heap.size := XB.size); (replace XB := XB.trans (NL.mono XB.size)); (clear NL); (generalize vs.alloc (.cells (#[.int .i64 0, .int .i64 0, .slice none 0 0, .bool false, .int .i64 0, .int .i64 0, .int .i64 0, .int .i64 0, .int .i64 0, .int .i64 0, .int .i64 0, .int .i64 0, .int .i64 0, .int .i64 0, .int .i64 0, .slice none 0 0, .int .i64 0, .int .i64 0, .int .i64 0, .int .i64 0, .int .i64 0, .bool false, .int .i64 0, .int .i64 0, .int .i64 0, .slice none 0 0, .slice none 0 0, .int .i64 0]) 103) = vy at *); (generalize vs.heap.size = jz at *); (have hRW := zWk_size); (have hst := Bo.store (P := Tryz.prog) (b := 0) zWk.toList 0 0 Z rfl (by simp [hRW]) zWk_one); (have XF := putA_below (k := jz) zWk.toList v0 vy 0 XB hzv); (have ZF := Z.putW (U := zWk) hRW); (have hsz := putA_size jz zWk.toList vy 0); (generalize putA vy jz 0 zWk.toList = vf at *)
        refine hK.out _ _ ?_ (fun hHeld => ?_)
        · first | exact SK.out _ XB | exact SK.out _ (Below.drew (Below.refl _ _)) | exact SK.out _ XF
        clear hK K
        (try simp only [Act.put, zSb, zS0, zS1])
        refine wpAnyH_ready (rs := [16]) (by kernel_rfl) (by simp) ?_
        refine (AllReadyH.cons (by rw [List.getElem?_toArray]; rfl) (fun K hK => ?_) AllReadyH.nil)
        go_simp
        refine hK.out _ _ ?_ (fun hHeld => ?_)
        · first | exact SK.out _ XB | exact SK.out _ (Below.drew (Below.refl _ _)) | exact SK.out _ XF
        clear hK K
        (try simp only [Act.put, zSb, zS0, zS1])
        refine zTk 17 ?_
        (try simp only [Act.put, zSb, zS0, zS1])
        refine wpAnyH_done (by kernel_rfl) ?_ _
        go_wp2_with (rw [hst])
        go_meet
        case rel => exact ⟨jz, rfl, rfl, ZF, hzv, XF⟩
      · go_simp
        (have Z := Bo.new vx (#[.int .i64 0, .int .i64 0, .slice none 0 0, .bool false, .int .i64 0, .int .i64 0, .int .i64 0, .int .i64 0, .int .i64 0, .int .i64 0, .int .i64 0, .int .i64 0, .int .i64 0, .int .i64 0, .int .i64 0, .slice none 0 0, .int .i64 0, .int .i64 0, .int .i64 0, .int .i64 0, .int .i64 0, .bool false, .int .i64 0, .int .i64 0, .int .i64 0, .slice none 0 0, .slice none 0 0, .int .i64 0]) 103); (have NL := Below.nw vx (.cells (#[.int .i64 0, .int .i64 0, .slice none 0 0, .bool false, .int .i64 0, .int .i64 0, .int .i64 0, .int .i64 0, .int .i64 0, .int .i64 0, .int .i64 0, .int .i64 0, .int .i64 0, .int .i64 0, .int .i64 0, .slice none 0 0, .int .i64 0, .int .i64 0, .int .i64 0, .int .i64 0, .int .i64 0, .bool false, .int .i64 0, .int .i64 0, .int .i64 0, .slice none 0 0, .slice none 0 0, .int .i64 0]) 103)); (have hzv : v0.heap.size ≤ vx.heap.size := XB.size); (replace XB := XB.trans (NL.mono XB.size)); (clear NL); (generalize vx.alloc (.cells (#[.int .i64 0, .int .i64 0, .slice none 0 0, .bool false, .int .i64 0, .int .i64 0, .int .i64 0, .int .i64 0, .int .i64 0, .int .i64 0, .int .i64 0, .int .i64 0, .int .i64 0, .int .i64 0, .int .i64 0, .slice none 0 0, .int .i64 0, .int .i64 0, .int .i64 0, .int .i64 0, .int .i64 0, .bool false, .int .i64 0, .int .i64 0, .int .i64 0, .slice none 0 0, .slice none 0 0, .int .i64 0]) 103) = vy at *); (generalize vx.heap.size = jz at *)
        refine hK.out _ _ ?_ (fun hHeld => ?_)
        · first | exact SK.out _ XB | exact SK.out _ (Below.drew (Below.refl _ _)) | exact SK.out _ XF
        clear hK K
        (try simp only [Act.put, zSb, zS0, zS1])
        refine wpAnyH_ready (rs := [11]) (by kernel_rfl) (by simp) ?_
        refine (AllReadyH.cons (by rw [List.getElem?_toArray]; rfl) (fun K hK => ?_) AllReadyH.nil)
        go_simp
        (try rw [hne]); refine (CW vy (B.trans (XB.mono B.size))).mono ?_; rintro ee vs ⟨rfl, hbl⟩; (have hl0 : v0.heap.size ≤ vy.heap.size := XB.size); (have hlu : vy.heap.size ≤ vs.heap.size := hbl.size); (replace XB := XB.trans (hbl.mono XB.size)); (have hjl : jz < vy.heap.size := Z.1); (replace Z := Z.below hbl); (clear hbl); (have hRW := zWk_size); (have hst := Bo.store (P := Tryz.prog) (b := 0) zWk.toList 0 0 Z rfl (by simp [hRW]) zWk_one); (have XF := putA_below (k := jz) zWk.toList v0 vs 0 XB hzv); (have ZF := Z.putW (U := zWk) hRW); (have hsz := putA_size jz zWk.toList vs 0); (generalize putA vs jz 0 zWk.toList = vf at *)
        (try go_wp2_with fail)
        refine hK.out _ _ ?_ (fun hHeld => ?_)
        · first | exact SK.out _ XB | exact SK.out _ (Below.drew (Below.refl _ _)) | exact SK.out _ XF
        clear hK K
        (try simp only [Act.put, zSb, zS0, zS1])
        refine zTk 12 ?_
        (try simp only [Act.put, zSb, zS0, zS1])
        refine zTk 13 ?_
        (try simp only [Act.put, zSb, zS0, zS1])
        refine zTk 14 ?_
        (try simp only [Act.put, zSb, zS0, zS1])
        refine wpAnyH_ready (rs := [16]) (by kernel_rfl) (by simp) ?_
        refine (AllReadyH.cons (by rw [List.getElem?_toArray]; rfl) (fun K hK => ?_) AllReadyH.nil)
        go_simp
        refine hK.out _ _ ?_ (fun hHeld => ?_)
        · first | exact SK.out _ XB | exact SK.out _ (Below.drew (Below.refl _ _)) | exact SK.out _ XF
        clear hK K
        (try simp only [Act.put, zSb, zS0, zS1])
        refine zTk 17 ?_
        (try simp only [Act.put, zSb, zS0, zS1])
        refine wpAnyH_done (by kernel_rfl) ?_ _
        go_wp2_with (rw [hst])
        go_meet
        case rel => exact ⟨jz, rfl, rfl, ZF, hzv, XF⟩
    · go_simp
      (have Z := Bo.new vx (#[.int .i64 0, .int .i64 0, .slice none 0 0, .bool false, .int .i64 0, .int .i64 0, .int .i64 0, .int .i64 0, .int .i64 0, .int .i64 0, .int .i64 0, .int .i64 0, .int .i64 0, .int .i64 0, .int .i64 0, .slice none 0 0, .int .i64 0, .int .i64 0, .int .i64 0, .int .i64 0, .int .i64 0, .bool false, .int .i64 0, .int .i64 0, .int .i64 0, .slice none 0 0, .slice none 0 0, .int .i64 0]) 103); (have NL := Below.nw vx (.cells (#[.int .i64 0, .int .i64 0, .slice none 0 0, .bool false, .int .i64 0, .int .i64 0, .int .i64 0, .int .i64 0, .int .i64 0, .int .i64 0, .int .i64 0, .int .i64 0, .int .i64 0, .int .i64 0, .int .i64 0, .slice none 0 0, .int .i64 0, .int .i64 0, .int .i64 0, .int .i64 0, .int .i64 0, .bool false, .int .i64 0, .int .i64 0, .int .i64 0, .slice none 0 0, .slice none 0 0, .int .i64 0]) 103)); (have hzv : v0.heap.size ≤ vx.heap.size := XB.size); (replace XB := XB.trans (NL.mono XB.size)); (clear NL); (generalize vx.alloc (.cells (#[.int .i64 0, .int .i64 0, .slice none 0 0, .bool false, .int .i64 0, .int .i64 0, .int .i64 0, .int .i64 0, .int .i64 0, .int .i64 0, .int .i64 0, .int .i64 0, .int .i64 0, .int .i64 0, .int .i64 0, .slice none 0 0, .int .i64 0, .int .i64 0, .int .i64 0, .int .i64 0, .int .i64 0, .bool false, .int .i64 0, .int .i64 0, .int .i64 0, .slice none 0 0, .slice none 0 0, .int .i64 0]) 103) = vy at *); (generalize vx.heap.size = jz at *)
      refine hK.out _ _ ?_ (fun hHeld => ?_)
      · first | exact SK.out _ XB | exact SK.out _ (Below.drew (Below.refl _ _)) | exact SK.out _ XF
      clear hK K
      (try simp only [Act.put, zSb, zS0, zS1])
      refine wpAnyH_ready (rs := [4]) (by kernel_rfl) (by simp) ?_
      refine (AllReadyH.cons (by rw [List.getElem?_toArray]; rfl) (fun K hK => ?_) AllReadyH.nil)
      go_simp
      refine (CIV vy).mono ?_; rintro ee w9 ⟨rfl, rfl⟩; rw [hnd]
      (try go_wp2_with fail)
      refine hK.out _ _ ?_ (fun hHeld => ?_)
      · first | exact SK.out _ XB | exact SK.out _ (Below.drew (Below.refl _ _)) | exact SK.out _ XF
      clear hK K
      (try simp only [Act.put, zSb, zS0, zS1])
      refine zTk 5 ?_
      (try simp only [Act.put, zSb, zS0, zS1])
      refine zTk 6 ?_
      (try simp only [Act.put, zSb, zS0, zS1])
      refine zTk 7 ?_
      (try simp only [Act.put, zSb, zS0, zS1])
      refine zTk 8 ?_
      (try simp only [Act.put, zSb, zS0, zS1])
      refine zTk 9 ?_
      (try simp only [Act.put, zSb, zS0, zS1])
      refine zTk 10 ?_
      (try simp only [Act.put, zSb, zS0, zS1])
      refine wpAnyH_ready (rs := [11]) (by kernel_rfl) (by simp) ?_
      refine (AllReadyH.cons (by rw [List.getElem?_toArray]; rfl) (fun K hK => ?_) AllReadyH.nil)
      go_simp
      (try rw [hne]); refine (CW vy (B.trans (XB.mono B.size))).mono ?_; rintro ee vs ⟨rfl, hbl⟩; (have hl0 : v0.heap.size ≤ vy.heap.size := XB.size); (have hlu : vy.heap.size ≤ vs.heap.size := hbl.size); (replace XB := XB.trans (hbl.mono XB.size)); (have hjl : jz < vy.heap.size := Z.1); (replace Z := Z.below hbl); (clear hbl); (have hRW := zWk_size); (have hst := Bo.store (P := Tryz.prog) (b := 0) zWk.toList 0 0 Z rfl (by simp [hRW]) zWk_one); (have XF := putA_below (k := jz) zWk.toList v0 vs 0 XB hzv); (have ZF := Z.putW (U := zWk) hRW); (have hsz := putA_size jz zWk.toList vs 0); (generalize putA vs jz 0 zWk.toList = vf at *)
      (try go_wp2_with fail)
      refine hK.out _ _ ?_ (fun hHeld => ?_)
      · first | exact SK.out _ XB | exact SK.out _ (Below.drew (Below.refl _ _)) | exact SK.out _ XF
      clear hK K
      (try simp only [Act.put, zSb, zS0, zS1])
      refine zTk 12 ?_
      (try simp only [Act.put, zSb, zS0, zS1])
      refine zTk 13 ?_
      (try simp only [Act.put, zSb, zS0, zS1])
      refine zTk 14 ?_
      (try simp only [Act.put, zSb, zS0, zS1])
      refine wpAnyH_ready (rs := [16]) (by kernel_rfl) (by simp) ?_
      refine (AllReadyH.cons (by rw [List.getElem?_toArray]; rfl) (fun K hK => ?_) AllReadyH.nil)
      go_simp
      refine hK.out _ _ ?_ (fun hHeld => ?_)
      · first | exact SK.out _ XB | exact SK.out _ (Below.drew (Below.refl _ _)) | exact SK.out _ XF
      clear hK K
      (try simp only [Act.put, zSb, zS0, zS1])
      refine zTk 17 ?_
      (try simp only [Act.put, zSb, zS0, zS1])
      refine wpAnyH_done (by kernel_rfl) ?_ _
      go_wp2_with (rw [hst])
      go_meet
      case rel => exact ⟨jz, rfl, rfl, ZF, hzv, XF⟩
  case rest =>
  have gKC : w.heap.size < v0.heap.size := C.1
  have gKN : w.heap.size + 1 < v0.heap.size := N.1
  have gKR : w.heap.size + 2 < v0.heap.size := R.1
  have gKM : w.heap.size + 3 < v0.heap.size := M.1
  obtain ⟨kKW, rfl, rfl, KW, hjK, hb⟩ := hcut
  clear SK CW CIV
  generalize wc = v1 at *
  have zz : v0.heap.size ≤ v1.heap.size := hb.size
  replace B := B.trans (hb.mono B.size)
  replace C := C.below hb
  replace N := N.below hb
  replace R := R.below hb
  replace M := M.below hb
  clear hb
  have gMbC : w.heap.size < v1.heap.size := C.1
  have gMbN : w.heap.size + 1 < v1.heap.size := N.1
  have gMbR : w.heap.size + 2 < v1.heap.size := R.1
  have gMbM : w.heap.size + 3 < v1.heap.size := M.1
  have gMbKW : kKW < v1.heap.size := KW.1
  have hb := Below.nw v1 (.cells #[.int .i64 0, .int .i64 0, .int .i64 0, .int .i64 0, .int .i64 0, .int .i64 0, .int .i64 0, .string ⟨#[]⟩] 59)
  have Mb := Bo.new v1 #[.int .i64 0, .int .i64 0, .int .i64 0, .int .i64 0, .int .i64 0, .int .i64 0, .int .i64 0, .string ⟨#[]⟩] 59
  go_upto_region 3 with fail
  replace B := B.trans (hb.mono B.size)
  replace C := C.below hb
  replace N := N.below hb
  replace R := R.below hb
  replace M := M.below hb
  replace KW := KW.below hb
  clear hb
  generalize v1.alloc (.cells #[.int .i64 0, .int .i64 0, .int .i64 0, .int .i64 0, .int .i64 0, .int .i64 0, .int .i64 0, .string ⟨#[]⟩] 59) = v2 at *
  generalize v1.heap.size = kMb at *
  go_upto_region 5 with fail
  refine wp_region_held_drew (S := (fun w' => (loadCells ⟨kMb, 0, none⟩ 8).run Tryz.prog w' = .ok #[.int .i64 0, .int .i64 0, .int .i64 0, .int .i64 0, .int .i64 0, .int .i64 0, .int .i64 0, .string ⟨#[]⟩] w')) (by kernel_rfl) ?_ (fun hHeld => ?_)
  · first | exact hS3 | exact hS2 | exact hS1 | exact hS0 | exact (Bo.drew Mb).load (P := Tryz.prog) (show (#[.int .i64 0, .int .i64 0, .int .i64 0, .int .i64 0, .int .i64 0, .int .i64 0, .int .i64 0, .string ⟨#[]⟩] : Array Value).size = 8 from rfl)
  have hb : Below v2.heap.size v2 v2.drew := Below.drew (Below.refl _ _)
  replace B := B.trans (hb.mono B.size)
  replace C := C.below hb
  replace N := N.below hb
  replace R := R.below hb
  replace M := M.below hb
  replace KW := KW.below hb
  replace Mb := Mb.below hb
  clear hb
  generalize v2.drew = vx at *
  have hS0 : (fun w' => (loadCells ⟨kMb, 0, none⟩ 8).run Tryz.prog w' = .ok #[.int .i64 0, .int .i64 0, .int .i64 0, .int .i64 0, .int .i64 0, .int .i64 0, .int .i64 0, .string ⟨#[]⟩] w') vx := Mb.load (P := Tryz.prog) (show (#[.int .i64 0, .int .i64 0, .int .i64 0, .int .i64 0, .int .i64 0, .int .i64 0, .int .i64 0, .string ⟨#[]⟩] : Array Value).size = 8 from rfl)
  have hU : (ndV (zX 0 0 0 0 0 0) none 0 none 0 none 0).size = 16 := rfl
  refine zTk 1 ?_
  (try simp only [Act.put, zSb, zS0, zS1])
  refine zTk 2 ?_
  (try simp only [Act.put, zSb, zS0, zS1])
  refine wpAnyH_ready (rs := [0]) (by kernel_rfl) (by simp) ?_
  refine (AllReadyH.cons (by rw [List.getElem?_toArray]; rfl) (fun K hK => ?_) AllReadyH.nil)
  go_simp
  refine (wkNode zY (zX 0 0 0 0 0 0) 0 none 0 none 0 none 0 none 0 kKW vx KW).mono ?_; rintro ee vs ⟨rfl, hb⟩; (replace B := B.trans (hb.mono B.size)); (replace C := C.below hb); (replace N := N.below hb); (replace R := R.below hb); (replace M := M.below hb); (replace KW := KW.below hb); (replace Mb := Mb.below hb); (have zz0 := hb.size); (clear hb); (have hS1 : (fun w' => (loadCells ⟨kMb, 0, none⟩ 8).run Tryz.prog w' = .ok #[.int .i64 0, .int .i64 0, .int .i64 0, .int .i64 0, .int .i64 0, .int .i64 0, .int .i64 0, .string ⟨#[]⟩] w') vs := Mb.load (P := Tryz.prog) (show (#[.int .i64 0, .int .i64 0, .int .i64 0, .int .i64 0, .int .i64 0, .int .i64 0, .int .i64 0, .string ⟨#[]⟩] : Array Value).size = 8 from rfl)); (have hst := Bo.store (P := Tryz.prog) (b := 0) (ndV (zX 0 0 0 0 0 0) none 0 none 0 none 0).toList 0 0 R rfl (by simp [hU]) (ndV_one _ _ _ _ _ _ _))
  (try go_wp2_with fail)
  refine hK.out _ _ ?_ (fun hHeld => ?_)
  · first | exact hS3 | exact hS2 | exact hS1 | exact hS0 | exact (Bo.drew Mb).load (P := Tryz.prog) (show (#[.int .i64 0, .int .i64 0, .int .i64 0, .int .i64 0, .int .i64 0, .int .i64 0, .int .i64 0, .string ⟨#[]⟩] : Array Value).size = 8 from rfl)
  clear hK K
  (try simp only [Act.put, zSb, zS0, zS1])
  refine wpAnyH_ready (rs := [3]) (by kernel_rfl) (by simp) ?_
  refine (AllReadyH.cons (by rw [List.getElem?_toArray]; rfl) (fun K hK => ?_) AllReadyH.nil)
  go_simp
  (have hbt := putA_btw (ndV (zX 0 0 0 0 0 0) none 0 none 0 none 0).toList vs 0 (w.heap.size + 2)); (replace B := putA_below (k := w.heap.size + 2) (ndV (zX 0 0 0 0 0 0) none 0 none 0 none 0).toList w vs 0 B (by omega)); (replace R := R.putW (U := (ndV (zX 0 0 0 0 0 0) none 0 none 0 none 0)) hU); (replace M := M.btw hbt (by omega)); (replace Mb := Mb.btw hbt (by omega)); (have zz1 := hbt.2.2.2.1); (clear hst hbt); (generalize putA vs (w.heap.size + 2) 0 (ndV (zX 0 0 0 0 0 0) none 0 none 0 none 0).toList = vy at *); (have hS2 : (fun w' => (loadCells ⟨kMb, 0, none⟩ 8).run Tryz.prog w' = .ok #[.int .i64 0, .int .i64 0, .int .i64 0, .int .i64 0, .int .i64 0, .int .i64 0, .int .i64 0, .string ⟨#[]⟩] w') vy := Mb.load (P := Tryz.prog) (show (#[.int .i64 0, .int .i64 0, .int .i64 0, .int .i64 0, .int .i64 0, .int .i64 0, .int .i64 0, .string ⟨#[]⟩] : Array Value).size = 8 from rfl)); (have hst := Bo.store (P := Tryz.prog) (b := 0) ([.int .i64 0, .int .i64 0, .int .i64 0, .int .i64 0, .int .i64 0, .int .i64 0, .int .i64 0, .string ⟨#[]⟩]) 0 0 M rfl (show 0 + 8 ≤ 8 by decide) (List.forall_mem_cons.2 ⟨rfl, (List.forall_mem_cons.2 ⟨rfl, (List.forall_mem_cons.2 ⟨rfl, (List.forall_mem_cons.2 ⟨rfl, (List.forall_mem_cons.2 ⟨rfl, (List.forall_mem_cons.2 ⟨rfl, (List.forall_mem_cons.2 ⟨rfl, (List.forall_mem_cons.2 ⟨rfl, fun _ h => nomatch h⟩)⟩)⟩)⟩)⟩)⟩)⟩)⟩))
  refine hK.out _ _ ?_ (fun hHeld => ?_)
  · first | exact hS3 | exact hS2 | exact hS1 | exact hS0 | exact (Bo.drew Mb).load (P := Tryz.prog) (show (#[.int .i64 0, .int .i64 0, .int .i64 0, .int .i64 0, .int .i64 0, .int .i64 0, .int .i64 0, .string ⟨#[]⟩] : Array Value).size = 8 from rfl)
  clear hK K
  (try simp only [Act.put, zSb, zS0, zS1])
  refine wpAnyH_ready (rs := [4]) (by kernel_rfl) (by simp) ?_
  refine (AllReadyH.cons (by rw [List.getElem?_toArray]; rfl) (fun K hK => ?_) AllReadyH.nil)
  go_simp
  (have hbt := putA_btw ([.int .i64 0, .int .i64 0, .int .i64 0, .int .i64 0, .int .i64 0, .int .i64 0, .int .i64 0, .string ⟨#[]⟩]) vy 0 (w.heap.size + 3)); (replace B := putA_below (k := w.heap.size + 3) ([.int .i64 0, .int .i64 0, .int .i64 0, .int .i64 0, .int .i64 0, .int .i64 0, .int .i64 0, .string ⟨#[]⟩]) w vy 0 B (by omega)); (have M9 : Bo (putA vy (w.heap.size + 3) 0 ([.int .i64 0, .int .i64 0, .int .i64 0, .int .i64 0, .int .i64 0, .int .i64 0, .int .i64 0, .string ⟨#[]⟩])) (w.heap.size + 3) (#[.int .i64 0, .int .i64 0, .int .i64 0, .int .i64 0, .int .i64 0, .int .i64 0, .int .i64 0, .string ⟨#[]⟩]) := M.putW (U := #[.int .i64 0, .int .i64 0, .int .i64 0, .int .i64 0, .int .i64 0, .int .i64 0, .int .i64 0, .string ⟨#[]⟩]) rfl); (replace R := R.btw hbt (by omega)); (replace Mb := Mb.btw hbt (by omega)); (have zz2 := hbt.2.2.2.1); (clear hst hbt M); (generalize putA vy (w.heap.size + 3) 0 ([.int .i64 0, .int .i64 0, .int .i64 0, .int .i64 0, .int .i64 0, .int .i64 0, .int .i64 0, .string ⟨#[]⟩]) = vz at *); (have hS3 : (fun w' => (loadCells ⟨kMb, 0, none⟩ 8).run Tryz.prog w' = .ok #[.int .i64 0, .int .i64 0, .int .i64 0, .int .i64 0, .int .i64 0, .int .i64 0, .int .i64 0, .string ⟨#[]⟩] w') vz := Mb.load (P := Tryz.prog) (show (#[.int .i64 0, .int .i64 0, .int .i64 0, .int .i64 0, .int .i64 0, .int .i64 0, .int .i64 0, .string ⟨#[]⟩] : Array Value).size = 8 from rfl))
  refine hK.out _ _ ?_ (fun hHeld => ?_)
  · first | exact hS3 | exact hS2 | exact hS1 | exact hS0 | exact (Bo.drew Mb).load (P := Tryz.prog) (show (#[.int .i64 0, .int .i64 0, .int .i64 0, .int .i64 0, .int .i64 0, .int .i64 0, .int .i64 0, .string ⟨#[]⟩] : Array Value).size = 8 from rfl)
  clear hK K
  (try simp only [Act.put, zSb, zS0, zS1])
  refine zTk 5 ?_
  (try simp only [Act.put, zSb, zS0, zS1])
  refine wpAnyH_done (by kernel_rfl) ?_ _
  go_wp2_with fail
  have hL0 := R.load (P := Tryz.prog) hU
  have hL1 := M9.load (P := Tryz.prog) (show (#[.int .i64 0, .int .i64 0, .int .i64 0, .int .i64 0, .int .i64 0, .int .i64 0, .int .i64 0, .string ⟨#[]⟩] : Array Value).size = 8 from rfl)
  exact bodyPost_ret (v := .tuple #[.agg (ndV (zX 0 0 0 0 0 0) none 0 none 0 none 0), .agg #[.int .i64 0, .int .i64 0, .int .i64 0, .int .i64 0, .int .i64 0, .int .i64 0, .int .i64 0, .string ⟨#[]⟩], .int .i64 1]) (by simp [results, Tryz.results11, go_sem]; rw [hL0]; simp only [Result.andThen_ok]; rw [show w.heap.size + 1 + 1 + 1 = w.heap.size + 3 from rfl, hL1]; rfl) rfl ⟨_, rfl, zX_own 0 0 0 0 0 0 _ _ _, B⟩
attribute [-go_sem] loadCells storeCells in
set_option maxRecDepth 100000 in
set_option maxHeartbeats 8000000 in
theorem implAskbad (AC AN : Array Value) (y : CfX) (x : NdX) (ct xt : Int) (w : World) (HC : CfS w AC y) (HN : NdS w AN x) (hwf : wfX x) (hnd : nodB xt = true) (he : (xt == x.ni) = false) (hst0 : staI y x ct = 1) :
    Calls Tryz.prog 11 #[.agg AC, .agg AN, .int .i64 ct, .int .i64 xt] w fun e w' => ∃ R, e = .returned (.tuple #[.agg R, .agg #[.int .i64 ((askX y x ct xt).2.1.1), .int .i64 ((askX y x ct xt).2.1.2.1), .int .i64 ((askX y x ct xt).2.1.2.2.1), .int .i64 ((askX y x ct xt).2.1.2.2.2.1), .int .i64 ((askX y x ct xt).2.1.2.2.2.2.1), .int .i64 ((askX y x ct xt).2.1.2.2.2.2.2.1), .int .i64 ((askX y x ct xt).2.1.2.2.2.2.2.2.1), .string ((askX y x ct xt).2.1.2.2.2.2.2.2.2)], .int .i64 (askX y x ct xt).2.2]) ∧ NdO w' w.heap.size w'.heap.size R (askX y x ct xt).1 ∧ Below w.heap.size w w' := by
  have hft : fitB x xt = true := by unfold fitB; rw [hnd, he]; rfl
  have hF : askX y x ct xt = (zX 0 0 0 0 0 0, zMs, 1) := by unfold askX; simp only [hft, hst0, Int.reduceBEq]
  rw [hF]
  clear hF
  clear hft
  have hne : (xt != x.ni) = true := by rw [bne, he]; rfl
  clear he
  have hbad : staI y x ct = 1 ∨ true = false := .inl hst0
  have CIV := fun v => isNode_any xt v
  have hN0 : AN[0]? = some (.int .i64 x.ni) := by obtain ⟨_, _, _, _, _, _, e, _⟩ := id HN; rw [e]; rfl
  have hC := HC.size
  have hN := HN.size
  have CW := fun (v : World) (h : Below w.heap.size w v) => workOn_bad AC AN y x ct true v (HC.below h) (HN.below h) hwf (hbad)
  clear HC HN hwf
  have A0 := Below.nw w (.cells AC 67)
  have A1 := Below.nw (w.alloc (.cells AC 67)) (.cells AN 57)
  have A2 := Below.nw (((w.alloc (.cells AC 67))).alloc (.cells AN 57)) (.cells #[.int .i64 0, .int .i64 0, .int .i64 0, .int .i64 0, .bool false, .int .i64 0, .int .i64 0, .int .i64 0, .int .i64 0, .int .i64 0, .slice none 0 0, .slice none 0 0, .bool false, .int .i64 0, .slice none 0 0, .int .i64 0] 57)
  have A3 := Below.nw (((((w.alloc (.cells AC 67))).alloc (.cells AN 57))).alloc (.cells #[.int .i64 0, .int .i64 0, .int .i64 0, .int .i64 0, .bool false, .int .i64 0, .int .i64 0, .int .i64 0, .int .i64 0, .int .i64 0, .slice none 0 0, .slice none 0 0, .bool false, .int .i64 0, .slice none 0 0, .int .i64 0] 57)) (.cells #[.int .i64 0, .int .i64 0, .int .i64 0, .int .i64 0, .int .i64 0, .int .i64 0, .int .i64 0, .string ⟨#[]⟩] 59)
  have C := (((Bo.new w AC 67).below A1).below A2).below A3
  have N := ((Bo.new (w.alloc (.cells AC 67)) AN 57).below A2).below A3
  have R := (Bo.new (((w.alloc (.cells AC 67))).alloc (.cells AN 57)) #[.int .i64 0, .int .i64 0, .int .i64 0, .int .i64 0, .bool false, .int .i64 0, .int .i64 0, .int .i64 0, .int .i64 0, .int .i64 0, .slice none 0 0, .slice none 0 0, .bool false, .int .i64 0, .slice none 0 0, .int .i64 0] 57).below A3
  have M := Bo.new (((((w.alloc (.cells AC 67))).alloc (.cells AN 57))).alloc (.cells #[.int .i64 0, .int .i64 0, .int .i64 0, .int .i64 0, .bool false, .int .i64 0, .int .i64 0, .int .i64 0, .int .i64 0, .int .i64 0, .slice none 0 0, .slice none 0 0, .bool false, .int .i64 0, .slice none 0 0, .int .i64 0] 57)) #[.int .i64 0, .int .i64 0, .int .i64 0, .int .i64 0, .int .i64 0, .int .i64 0, .int .i64 0, .string ⟨#[]⟩] 59
  have B := A0
  replace B := B.trans (A1.mono B.size)
  replace B := B.trans (A2.mono B.size)
  replace B := B.trans (A3.mono B.size)
  simp only [World.size_alloc] at N R M
  clear A0 A1 A2 A3
  go_enter Tryz.func11, Tryz.ntmps11
  go_upto_region 1 with fail
  generalize ((((((w.alloc (.cells AC 67))).alloc (.cells AN 57))).alloc (.cells #[.int .i64 0, .int .i64 0, .int .i64 0, .int .i64 0, .bool false, .int .i64 0, .int .i64 0, .int .i64 0, .int .i64 0, .int .i64 0, .slice none 0 0, .slice none 0 0, .bool false, .int .i64 0, .slice none 0 0, .int .i64 0] 57))).alloc (.cells #[.int .i64 0, .int .i64 0, .int .i64 0, .int .i64 0, .int .i64 0, .int .i64 0, .int .i64 0, .string ⟨#[]⟩] 59) = v0 at *
  have SK : Hid (∀ w', Below v0.heap.size v0 w' → (fun w' => (loadCells ⟨w.heap.size, 0, none⟩ 11).run Tryz.prog w' = .ok AC w' ∧ (loadCells ⟨w.heap.size + 1, 0, none⟩ 16).run Tryz.prog w' = .ok AN w' ∧ w'.cell? ⟨w.heap.size + 1, 0, none⟩ = some (.int .i64 x.ni)) w') := fun w' hw => ⟨(C.below hw).load hC, (N.below hw).load hN, (N.below hw).cell hN0⟩
  go_cut [11, 12] (fun s11 s12 wx => ∃ (j : Nat), s11 = .pointer (some ⟨j, 0, none⟩) ∧ s12 = .int .i64 1 ∧ Bo wx j zWk ∧ v0.heap.size ≤ j ∧ Below v0.heap.size v0 wx)
  case first => as_aux_lemma =>
    refine wp_region_held_drew (S := (fun w' => (loadCells ⟨w.heap.size, 0, none⟩ 11).run Tryz.prog w' = .ok AC w' ∧ (loadCells ⟨w.heap.size + 1, 0, none⟩ 16).run Tryz.prog w' = .ok AN w' ∧ w'.cell? ⟨w.heap.size + 1, 0, none⟩ = some (.int .i64 x.ni))) (by kernel_rfl) ?_ (fun hHeld => ?_)
    · first | exact SK.out _ XB | exact SK.out _ (Below.drew (Below.refl _ _)) | exact SK.out _ XF
    have XB : Below v0.heap.size v0 v0.drew := Below.drew (Below.refl _ _)
    generalize v0.drew = vx at *
    refine zTk 0 ?_
    (try simp only [Act.put, zSb, zS0, zS1])
    refine zTk 1 ?_
    (try simp only [Act.put, zSb, zS0, zS1])
    refine zTk 2 ?_
    (try simp only [Act.put, zSb, zS0, zS1])
    refine zTk 3 ?_
    (try simp only [Act.put, zSb, zS0, zS1])
    refine wpAnyH_ready (rs := [4, 15]) (by kernel_rfl) (by simp) ?_
    refine (AllReadyH.cons (by rw [List.getElem?_toArray]; rfl) (fun K hK => ?_) (AllReadyH.cons (by rw [List.getElem?_toArray]; rfl) (fun K hK => ?_) AllReadyH.nil))
    · go_simp
      refine (CIV vx).mono ?_; rintro ee w9 ⟨rfl, rfl⟩; rw [hnd]
      (try go_wp2_with fail)
      refine hK.out _ _ ?_ (fun hHeld => ?_)
      · first | exact SK.out _ XB | exact SK.out _ (Below.drew (Below.refl _ _)) | exact SK.out _ XF
      clear hK K
      (try simp only [Act.put, zSb, zS0, zS1])
      refine zTk 5 ?_
      (try simp only [Act.put, zSb, zS0, zS1])
      refine zTk 6 ?_
      (try simp only [Act.put, zSb, zS0, zS1])
      refine zTk 7 ?_
      (try simp only [Act.put, zSb, zS0, zS1])
      refine zTk 8 ?_
      (try simp only [Act.put, zSb, zS0, zS1])
      refine zTk 9 ?_
      (try simp only [Act.put, zSb, zS0, zS1])
      refine zTk 10 ?_
      (try simp only [Act.put, zSb, zS0, zS1])
      refine wpAnyH_ready (rs := [11, 15]) (by kernel_rfl) (by simp) ?_
      refine (AllReadyH.cons (by rw [List.getElem?_toArray]; rfl) (fun K hK => ?_) (AllReadyH.cons (by rw [List.getElem?_toArray]; rfl) (fun K hK => ?_) AllReadyH.nil))
      · go_simp
        (try rw [hne]); refine (CW vx (B.trans (XB.mono B.size))).mono ?_; rintro ee vs ⟨rfl, hbl⟩; (have hl0 : v0.heap.size ≤ vx.heap.size := XB.size); (have hlu : vx.heap.size ≤ vs.heap.size := hbl.size); (replace XB := XB.trans (hbl.mono XB.size)); (clear hbl)
        (try go_wp2_with fail)
        refine hK.out _ _ ?_ (fun hHeld => ?_)
        · first | exact SK.out _ XB | exact SK.out _ (Below.drew (Below.refl _ _)) | exact SK.out _ XF
        clear hK K
        (try simp only [Act.put, zSb, zS0, zS1])
        refine zTk 12 ?_
        (try simp only [Act.put, zSb, zS0, zS1])
        refine zTk 13 ?_
        (try simp only [Act.put, zSb, zS0, zS1])
        refine zTk 14 ?_
        (try simp only [Act.put, zSb, zS0, zS1])
        refine wpAnyH_ready (rs := [15]) (by kernel_rfl) (by simp) ?_
        refine (AllReadyH.cons (by rw [List.getElem?_toArray]; rfl) (fun K hK => ?_) AllReadyH.nil)
        go_simp
        (have Z := Bo.new vs (#[.int .i64 0, .int .i64 0, .slice none 0 0, .bool false, .int .i64 0, .int .i64 0, .int .i64 0, .int .i64 0, .int .i64 0, .int .i64 0, .int .i64 0, .int .i64 0, .int .i64 0, .int .i64 0, .int .i64 0, .slice none 0 0, .int .i64 0, .int .i64 0, .int .i64 0, .int .i64 0, .int .i64 0, .bool false, .int .i64 0, .int .i64 0, .int .i64 0, .slice none 0 0, .slice none 0 0, .int .i64 0]) 103); (have NL := Below.nw vs (.cells (#[.int .i64 0, .int .i64 0, .slice none 0 0, .bool false, .int .i64 0, .int .i64 0, .int .i64 0, .int .i64 0, .int .i64 0, .int .i64 0, .int .i64 0, .int .i64 0, .int .i64 0, .int .i64 0, .int .i64 0, .slice none 0 0, .int .i64 0, .int .i64 0, .int .i64 0, .int .i64 0, .int .i64 0, .bool false, .int .i64 0, .int .i64 0, .int .i64 0, .slice none 0 0, .slice none 0 0, .int .i64 0]) 103)); (have hzv : v0.heap.size ≤ vs.heap.size := XB.size); (replace XB := XB.trans (NL.mono XB.size)); (clear NL); (generalize vs.alloc (.cells (#[.int .i64 0, .int .i64 0, .slice none 0 0, .bool false, .int .i64 0, .int .i64 0, .int .i64 0, .int .i64 0, .int .i64 0, .int .i64 0, .int .i64 0, .int .i64 0, .int .i64 0, .int .i64 0, .int .i64 0, .slice none 0 0, .int .i64 0, .int .i64 0, .int .i64 0, .int .i64 0, .int .i64 0, .bool false, .int .i64 0, .int .i64 0, .int .i64 0, .slice none 0 0, .slice none 0 0, .int .i64 0]) 103) = vy at *); (generalize vs.heap.size = jz at *); (have hRW := zWk_size); (have hst := Bo.store (P := Tryz.prog) (b := 0) zWk.toList 0 0 Z rfl (by simp [hRW]) zWk_one); (have XF := putA_below (k := jz) zWk.toList v0 vy 0 XB hzv); (have ZF := Z.putW (U := zWk) hRW); (have hsz := putA_size jz zWk.toList vy 0); (generalize putA vy jz 0 zWk.toList = vf at *)
        refine hK.out _ _ ?_ (fun hHeld => ?_)
        · first | exact SK.out _ XB | exact SK.out _ (Below.drew (Below.refl _ _)) | exact SK.out _ XF
        clear hK K
        (try simp only [Act.put, zSb, zS0, zS1])
        refine wpAnyH_ready (rs := [16]) (by kernel_rfl) (by simp) ?_
        refine (AllReadyH.cons (by rw [List.getElem?_toArray]; rfl) (fun K hK => ?_) AllReadyH.nil)
        go_simp
        refine hK.out _ _ ?_ (fun hHeld => ?_)
        · first | exact SK.out _ XB | exact SK.out _ (Below.drew (Below.refl _ _)) | exact SK.out _ XF
        clear hK K
        (try simp only [Act.put, zSb, zS0, zS1])
        refine zTk 17 ?_
        (try simp only [Act.put, zSb, zS0, zS1])
        refine wpAnyH_done (by kernel_rfl) ?_ _
        go_wp2_with (rw [hst])
        go_meet
        case rel => exact ⟨jz, rfl, rfl, ZF, hzv, XF⟩
      · go_simp
        (have Z := Bo.new vx (#[.int .i64 0, .int .i64 0, .slice none 0 0, .bool false, .int .i64 0, .int .i64 0, .int .i64 0, .int .i64 0, .int .i64 0, .int .i64 0, .int .i64 0, .int .i64 0, .int .i64 0, .int .i64 0, .int .i64 0, .slice none 0 0, .int .i64 0, .int .i64 0, .int .i64 0, .int .i64 0, .int .i64 0, .bool false, .int .i64 0, .int .i64 0, .int .i64 0, .slice none 0 0, .slice none 0 0, .int .i64 0]) 103); (have NL := Below.nw vx (.cells (#[.int .i64 0, .int .i64 0, .slice none 0 0, .bool false, .int .i64 0, .int .i64 0, .int .i64 0, .int .i64 0, .int .i64 0, .int .i64 0, .int .i64 0, .int .i64 0, .int .i64 0, .int .i64 0, .int .i64 0, .slice none 0 0, .int .i64 0, .int .i64 0, .int .i64 0, .int .i64 0, .int .i64 0, .bool false, .int .i64 0, .int .i64 0, .int .i64 0, .slice none 0 0, .slice none 0 0, .int .i64 0]) 103)); (have hzv : v0.heap.size ≤ vx.heap.size := XB.size); (replace XB := XB.trans (NL.mono XB.size)); (clear NL); (generalize vx.alloc (.cells (#[.int .i64 0, .int .i64 0, .slice none 0 0, .bool false, .int .i64 0, .int .i64 0, .int .i64 0, .int .i64 0, .int .i64 0, .int .i64 0, .int .i64 0, .int .i64 0, .int .i64 0, .int .i64 0, .int .i64 0, .slice none 0 0, .int .i64 0, .int .i64 0, .int .i64 0, .int .i64 0, .int .i64 0, .bool false, .int .i64 0, .int .i64 0, .int .i64 0, .slice none 0 0, .slice none 0 0, .int .i64 0]) 103) = vy at *); (generalize vx.heap.size = jz at *)
        refine hK.out _ _ ?_ (fun hHeld => ?_)
        · first | exact SK.out _ XB | exact SK.out _ (Below.drew (Below.refl _ _)) | exact SK.out _ XF
        clear hK K
        (try simp only [Act.put, zSb, zS0, zS1])
        refine wpAnyH_ready (rs := [11]) (by kernel_rfl) (by simp) ?_
        refine (AllReadyH.cons (by rw [List.getElem?_toArray]; rfl) (fun K hK => ?_) AllReadyH.nil)
        go_simp
        (try rw [hne]); refine (CW vy (B.trans (XB.mono B.size))).mono ?_; rintro ee vs ⟨rfl, hbl⟩; (have hl0 : v0.heap.size ≤ vy.heap.size := XB.size); (have hlu : vy.heap.size ≤ vs.heap.size := hbl.size); (replace XB := XB.trans (hbl.mono XB.size)); (have hjl : jz < vy.heap.size := Z.1); (replace Z := Z.below hbl); (clear hbl); (have hRW := zWk_size); (have hst := Bo.store (P := Tryz.prog) (b := 0) zWk.toList 0 0 Z rfl (by simp [hRW]) zWk_one); (have XF := putA_below (k := jz) zWk.toList v0 vs 0 XB hzv); (have ZF := Z.putW (U := zWk) hRW); (have hsz := putA_size jz zWk.toList vs 0); (generalize putA vs jz 0 zWk.toList = vf at *)
        (try go_wp2_with fail)
        refine hK.out _ _ ?_ (fun hHeld => ?_)
        · first | exact SK.out _ XB | exact SK.out _ (Below.drew (Below.refl _ _)) | exact SK.out _ XF
        clear hK K
        (try simp only [Act.put, zSb, zS0, zS1])
        refine zTk 12 ?_
        (try simp only [Act.put, zSb, zS0, zS1])
        refine zTk 13 ?_
        (try simp only [Act.put, zSb, zS0, zS1])
        refine zTk 14 ?_
        (try simp only [Act.put, zSb, zS0, zS1])
        refine wpAnyH_ready (rs := [16]) (by kernel_rfl) (by simp) ?_
        refine (AllReadyH.cons (by rw [List.getElem?_toArray]; rfl) (fun K hK => ?_) AllReadyH.nil)
        go_simp
        refine hK.out _ _ ?_ (fun hHeld => ?_)
        · first | exact SK.out _ XB | exact SK.out _ (Below.drew (Below.refl _ _)) | exact SK.out _ XF
        clear hK K
        (try simp only [Act.put, zSb, zS0, zS1])
        refine zTk 17 ?_
        (try simp only [Act.put, zSb, zS0, zS1])
        refine wpAnyH_done (by kernel_rfl) ?_ _
        go_wp2_with (rw [hst])
        go_meet
        case rel => exact ⟨jz, rfl, rfl, ZF, hzv, XF⟩
    · go_simp
      (have Z := Bo.new vx (#[.int .i64 0, .int .i64 0, .slice none 0 0, .bool false, .int .i64 0, .int .i64 0, .int .i64 0, .int .i64 0, .int .i64 0, .int .i64 0, .int .i64 0, .int .i64 0, .int .i64 0, .int .i64 0, .int .i64 0, .slice none 0 0, .int .i64 0, .int .i64 0, .int .i64 0, .int .i64 0, .int .i64 0, .bool false, .int .i64 0, .int .i64 0, .int .i64 0, .slice none 0 0, .slice none 0 0, .int .i64 0]) 103); (have NL := Below.nw vx (.cells (#[.int .i64 0, .int .i64 0, .slice none 0 0, .bool false, .int .i64 0, .int .i64 0, .int .i64 0, .int .i64 0, .int .i64 0, .int .i64 0, .int .i64 0, .int .i64 0, .int .i64 0, .int .i64 0, .int .i64 0, .slice none 0 0, .int .i64 0, .int .i64 0, .int .i64 0, .int .i64 0, .int .i64 0, .bool false, .int .i64 0, .int .i64 0, .int .i64 0, .slice none 0 0, .slice none 0 0, .int .i64 0]) 103)); (have hzv : v0.heap.size ≤ vx.heap.size := XB.size); (replace XB := XB.trans (NL.mono XB.size)); (clear NL); (generalize vx.alloc (.cells (#[.int .i64 0, .int .i64 0, .slice none 0 0, .bool false, .int .i64 0, .int .i64 0, .int .i64 0, .int .i64 0, .int .i64 0, .int .i64 0, .int .i64 0, .int .i64 0, .int .i64 0, .int .i64 0, .int .i64 0, .slice none 0 0, .int .i64 0, .int .i64 0, .int .i64 0, .int .i64 0, .int .i64 0, .bool false, .int .i64 0, .int .i64 0, .int .i64 0, .slice none 0 0, .slice none 0 0, .int .i64 0]) 103) = vy at *); (generalize vx.heap.size = jz at *)
      refine hK.out _ _ ?_ (fun hHeld => ?_)
      · first | exact SK.out _ XB | exact SK.out _ (Below.drew (Below.refl _ _)) | exact SK.out _ XF
      clear hK K
      (try simp only [Act.put, zSb, zS0, zS1])
      refine wpAnyH_ready (rs := [4]) (by kernel_rfl) (by simp) ?_
      refine (AllReadyH.cons (by rw [List.getElem?_toArray]; rfl) (fun K hK => ?_) AllReadyH.nil)
      go_simp
      refine (CIV vy).mono ?_; rintro ee w9 ⟨rfl, rfl⟩; rw [hnd]
      (try go_wp2_with fail)
      refine hK.out _ _ ?_ (fun hHeld => ?_)
      · first | exact SK.out _ XB | exact SK.out _ (Below.drew (Below.refl _ _)) | exact SK.out _ XF
      clear hK K
      (try simp only [Act.put, zSb, zS0, zS1])
      refine zTk 5 ?_
      (try simp only [Act.put, zSb, zS0, zS1])
      refine zTk 6 ?_
      (try simp only [Act.put, zSb, zS0, zS1])
      refine zTk 7 ?_
      (try simp only [Act.put, zSb, zS0, zS1])
      refine zTk 8 ?_
      (try simp only [Act.put, zSb, zS0, zS1])
      refine zTk 9 ?_
      (try simp only [Act.put, zSb, zS0, zS1])
      refine zTk 10 ?_
      (try simp only [Act.put, zSb, zS0, zS1])
      refine wpAnyH_ready (rs := [11]) (by kernel_rfl) (by simp) ?_
      refine (AllReadyH.cons (by rw [List.getElem?_toArray]; rfl) (fun K hK => ?_) AllReadyH.nil)
      go_simp
      (try rw [hne]); refine (CW vy (B.trans (XB.mono B.size))).mono ?_; rintro ee vs ⟨rfl, hbl⟩; (have hl0 : v0.heap.size ≤ vy.heap.size := XB.size); (have hlu : vy.heap.size ≤ vs.heap.size := hbl.size); (replace XB := XB.trans (hbl.mono XB.size)); (have hjl : jz < vy.heap.size := Z.1); (replace Z := Z.below hbl); (clear hbl); (have hRW := zWk_size); (have hst := Bo.store (P := Tryz.prog) (b := 0) zWk.toList 0 0 Z rfl (by simp [hRW]) zWk_one); (have XF := putA_below (k := jz) zWk.toList v0 vs 0 XB hzv); (have ZF := Z.putW (U := zWk) hRW); (have hsz := putA_size jz zWk.toList vs 0); (generalize putA vs jz 0 zWk.toList = vf at *)
      (try go_wp2_with fail)
      refine hK.out _ _ ?_ (fun hHeld => ?_)
      · first | exact SK.out _ XB | exact SK.out _ (Below.drew (Below.refl _ _)) | exact SK.out _ XF
      clear hK K
      (try simp only [Act.put, zSb, zS0, zS1])
      refine zTk 12 ?_
      (try simp only [Act.put, zSb, zS0, zS1])
      refine zTk 13 ?_
      (try simp only [Act.put, zSb, zS0, zS1])
      refine zTk 14 ?_
      (try simp only [Act.put, zSb, zS0, zS1])
      refine wpAnyH_ready (rs := [16]) (by kernel_rfl) (by simp) ?_
      refine (AllReadyH.cons (by rw [List.getElem?_toArray]; rfl) (fun K hK => ?_) AllReadyH.nil)
      go_simp
      refine hK.out _ _ ?_ (fun hHeld => ?_)
      · first | exact SK.out _ XB | exact SK.out _ (Below.drew (Below.refl _ _)) | exact SK.out _ XF
      clear hK K
      (try simp only [Act.put, zSb, zS0, zS1])
      refine zTk 17 ?_
      (try simp only [Act.put, zSb, zS0, zS1])
      refine wpAnyH_done (by kernel_rfl) ?_ _
      go_wp2_with (rw [hst])
      go_meet
      case rel => exact ⟨jz, rfl, rfl, ZF, hzv, XF⟩
  case rest =>
  have gKC : w.heap.size < v0.heap.size := C.1
  have gKN : w.heap.size + 1 < v0.heap.size := N.1
  have gKR : w.heap.size + 2 < v0.heap.size := R.1
  have gKM : w.heap.size + 3 < v0.heap.size := M.1
  obtain ⟨kKW, rfl, rfl, KW, hjK, hb⟩ := hcut
  clear SK CW CIV
  generalize wc = v1 at *
  have zz : v0.heap.size ≤ v1.heap.size := hb.size
  replace B := B.trans (hb.mono B.size)
  replace C := C.below hb
  replace N := N.below hb
  replace R := R.below hb
  replace M := M.below hb
  clear hb
  have gMbC : w.heap.size < v1.heap.size := C.1
  have gMbN : w.heap.size + 1 < v1.heap.size := N.1
  have gMbR : w.heap.size + 2 < v1.heap.size := R.1
  have gMbM : w.heap.size + 3 < v1.heap.size := M.1
  have gMbKW : kKW < v1.heap.size := KW.1
  have hb := Below.nw v1 (.cells #[.int .i64 0, .int .i64 0, .int .i64 0, .int .i64 0, .int .i64 0, .int .i64 0, .int .i64 0, .string ⟨#[]⟩] 59)
  have Mb := Bo.new v1 #[.int .i64 0, .int .i64 0, .int .i64 0, .int .i64 0, .int .i64 0, .int .i64 0, .int .i64 0, .string ⟨#[]⟩] 59
  go_upto_region 3 with fail
  replace B := B.trans (hb.mono B.size)
  replace C := C.below hb
  replace N := N.below hb
  replace R := R.below hb
  replace M := M.below hb
  replace KW := KW.below hb
  clear hb
  generalize v1.alloc (.cells #[.int .i64 0, .int .i64 0, .int .i64 0, .int .i64 0, .int .i64 0, .int .i64 0, .int .i64 0, .string ⟨#[]⟩] 59) = v2 at *
  generalize v1.heap.size = kMb at *
  go_upto_region 5 with fail
  refine wp_region_held_drew (S := (fun w' => (loadCells ⟨kMb, 0, none⟩ 8).run Tryz.prog w' = .ok #[.int .i64 0, .int .i64 0, .int .i64 0, .int .i64 0, .int .i64 0, .int .i64 0, .int .i64 0, .string ⟨#[]⟩] w')) (by kernel_rfl) ?_ (fun hHeld => ?_)
  · first | exact hS3 | exact hS2 | exact hS1 | exact hS0 | exact (Bo.drew Mb).load (P := Tryz.prog) (show (#[.int .i64 0, .int .i64 0, .int .i64 0, .int .i64 0, .int .i64 0, .int .i64 0, .int .i64 0, .string ⟨#[]⟩] : Array Value).size = 8 from rfl)
  have hb : Below v2.heap.size v2 v2.drew := Below.drew (Below.refl _ _)
  replace B := B.trans (hb.mono B.size)
  replace C := C.below hb
  replace N := N.below hb
  replace R := R.below hb
  replace M := M.below hb
  replace KW := KW.below hb
  replace Mb := Mb.below hb
  clear hb
  generalize v2.drew = vx at *
  have hS0 : (fun w' => (loadCells ⟨kMb, 0, none⟩ 8).run Tryz.prog w' = .ok #[.int .i64 0, .int .i64 0, .int .i64 0, .int .i64 0, .int .i64 0, .int .i64 0, .int .i64 0, .string ⟨#[]⟩] w') vx := Mb.load (P := Tryz.prog) (show (#[.int .i64 0, .int .i64 0, .int .i64 0, .int .i64 0, .int .i64 0, .int .i64 0, .int .i64 0, .string ⟨#[]⟩] : Array Value).size = 8 from rfl)
  have hU : (ndV (zX 0 0 0 0 0 0) none 0 none 0 none 0).size = 16 := rfl
  refine zTk 1 ?_
  (try simp only [Act.put, zSb, zS0, zS1])
  refine zTk 2 ?_
  (try simp only [Act.put, zSb, zS0, zS1])
  refine wpAnyH_ready (rs := [0]) (by kernel_rfl) (by simp) ?_
  refine (AllReadyH.cons (by rw [List.getElem?_toArray]; rfl) (fun K hK => ?_) AllReadyH.nil)
  go_simp
  refine (wkNode zY (zX 0 0 0 0 0 0) 0 none 0 none 0 none 0 none 0 kKW vx KW).mono ?_; rintro ee vs ⟨rfl, hb⟩; (replace B := B.trans (hb.mono B.size)); (replace C := C.below hb); (replace N := N.below hb); (replace R := R.below hb); (replace M := M.below hb); (replace KW := KW.below hb); (replace Mb := Mb.below hb); (have zz0 := hb.size); (clear hb); (have hS1 : (fun w' => (loadCells ⟨kMb, 0, none⟩ 8).run Tryz.prog w' = .ok #[.int .i64 0, .int .i64 0, .int .i64 0, .int .i64 0, .int .i64 0, .int .i64 0, .int .i64 0, .string ⟨#[]⟩] w') vs := Mb.load (P := Tryz.prog) (show (#[.int .i64 0, .int .i64 0, .int .i64 0, .int .i64 0, .int .i64 0, .int .i64 0, .int .i64 0, .string ⟨#[]⟩] : Array Value).size = 8 from rfl)); (have hst := Bo.store (P := Tryz.prog) (b := 0) (ndV (zX 0 0 0 0 0 0) none 0 none 0 none 0).toList 0 0 R rfl (by simp [hU]) (ndV_one _ _ _ _ _ _ _))
  (try go_wp2_with fail)
  refine hK.out _ _ ?_ (fun hHeld => ?_)
  · first | exact hS3 | exact hS2 | exact hS1 | exact hS0 | exact (Bo.drew Mb).load (P := Tryz.prog) (show (#[.int .i64 0, .int .i64 0, .int .i64 0, .int .i64 0, .int .i64 0, .int .i64 0, .int .i64 0, .string ⟨#[]⟩] : Array Value).size = 8 from rfl)
  clear hK K
  (try simp only [Act.put, zSb, zS0, zS1])
  refine wpAnyH_ready (rs := [3]) (by kernel_rfl) (by simp) ?_
  refine (AllReadyH.cons (by rw [List.getElem?_toArray]; rfl) (fun K hK => ?_) AllReadyH.nil)
  go_simp
  (have hbt := putA_btw (ndV (zX 0 0 0 0 0 0) none 0 none 0 none 0).toList vs 0 (w.heap.size + 2)); (replace B := putA_below (k := w.heap.size + 2) (ndV (zX 0 0 0 0 0 0) none 0 none 0 none 0).toList w vs 0 B (by omega)); (replace R := R.putW (U := (ndV (zX 0 0 0 0 0 0) none 0 none 0 none 0)) hU); (replace M := M.btw hbt (by omega)); (replace Mb := Mb.btw hbt (by omega)); (have zz1 := hbt.2.2.2.1); (clear hst hbt); (generalize putA vs (w.heap.size + 2) 0 (ndV (zX 0 0 0 0 0 0) none 0 none 0 none 0).toList = vy at *); (have hS2 : (fun w' => (loadCells ⟨kMb, 0, none⟩ 8).run Tryz.prog w' = .ok #[.int .i64 0, .int .i64 0, .int .i64 0, .int .i64 0, .int .i64 0, .int .i64 0, .int .i64 0, .string ⟨#[]⟩] w') vy := Mb.load (P := Tryz.prog) (show (#[.int .i64 0, .int .i64 0, .int .i64 0, .int .i64 0, .int .i64 0, .int .i64 0, .int .i64 0, .string ⟨#[]⟩] : Array Value).size = 8 from rfl)); (have hst := Bo.store (P := Tryz.prog) (b := 0) ([.int .i64 0, .int .i64 0, .int .i64 0, .int .i64 0, .int .i64 0, .int .i64 0, .int .i64 0, .string ⟨#[]⟩]) 0 0 M rfl (show 0 + 8 ≤ 8 by decide) (List.forall_mem_cons.2 ⟨rfl, (List.forall_mem_cons.2 ⟨rfl, (List.forall_mem_cons.2 ⟨rfl, (List.forall_mem_cons.2 ⟨rfl, (List.forall_mem_cons.2 ⟨rfl, (List.forall_mem_cons.2 ⟨rfl, (List.forall_mem_cons.2 ⟨rfl, (List.forall_mem_cons.2 ⟨rfl, fun _ h => nomatch h⟩)⟩)⟩)⟩)⟩)⟩)⟩)⟩))
  refine hK.out _ _ ?_ (fun hHeld => ?_)
  · first | exact hS3 | exact hS2 | exact hS1 | exact hS0 | exact (Bo.drew Mb).load (P := Tryz.prog) (show (#[.int .i64 0, .int .i64 0, .int .i64 0, .int .i64 0, .int .i64 0, .int .i64 0, .int .i64 0, .string ⟨#[]⟩] : Array Value).size = 8 from rfl)
  clear hK K
  (try simp only [Act.put, zSb, zS0, zS1])
  refine wpAnyH_ready (rs := [4]) (by kernel_rfl) (by simp) ?_
  refine (AllReadyH.cons (by rw [List.getElem?_toArray]; rfl) (fun K hK => ?_) AllReadyH.nil)
  go_simp
  (have hbt := putA_btw ([.int .i64 0, .int .i64 0, .int .i64 0, .int .i64 0, .int .i64 0, .int .i64 0, .int .i64 0, .string ⟨#[]⟩]) vy 0 (w.heap.size + 3)); (replace B := putA_below (k := w.heap.size + 3) ([.int .i64 0, .int .i64 0, .int .i64 0, .int .i64 0, .int .i64 0, .int .i64 0, .int .i64 0, .string ⟨#[]⟩]) w vy 0 B (by omega)); (have M9 : Bo (putA vy (w.heap.size + 3) 0 ([.int .i64 0, .int .i64 0, .int .i64 0, .int .i64 0, .int .i64 0, .int .i64 0, .int .i64 0, .string ⟨#[]⟩])) (w.heap.size + 3) (#[.int .i64 0, .int .i64 0, .int .i64 0, .int .i64 0, .int .i64 0, .int .i64 0, .int .i64 0, .string ⟨#[]⟩]) := M.putW (U := #[.int .i64 0, .int .i64 0, .int .i64 0, .int .i64 0, .int .i64 0, .int .i64 0, .int .i64 0, .string ⟨#[]⟩]) rfl); (replace R := R.btw hbt (by omega)); (replace Mb := Mb.btw hbt (by omega)); (have zz2 := hbt.2.2.2.1); (clear hst hbt M); (generalize putA vy (w.heap.size + 3) 0 ([.int .i64 0, .int .i64 0, .int .i64 0, .int .i64 0, .int .i64 0, .int .i64 0, .int .i64 0, .string ⟨#[]⟩]) = vz at *); (have hS3 : (fun w' => (loadCells ⟨kMb, 0, none⟩ 8).run Tryz.prog w' = .ok #[.int .i64 0, .int .i64 0, .int .i64 0, .int .i64 0, .int .i64 0, .int .i64 0, .int .i64 0, .string ⟨#[]⟩] w') vz := Mb.load (P := Tryz.prog) (show (#[.int .i64 0, .int .i64 0, .int .i64 0, .int .i64 0, .int .i64 0, .int .i64 0, .int .i64 0, .string ⟨#[]⟩] : Array Value).size = 8 from rfl))
  refine hK.out _ _ ?_ (fun hHeld => ?_)
  · first | exact hS3 | exact hS2 | exact hS1 | exact hS0 | exact (Bo.drew Mb).load (P := Tryz.prog) (show (#[.int .i64 0, .int .i64 0, .int .i64 0, .int .i64 0, .int .i64 0, .int .i64 0, .int .i64 0, .string ⟨#[]⟩] : Array Value).size = 8 from rfl)
  clear hK K
  (try simp only [Act.put, zSb, zS0, zS1])
  refine zTk 5 ?_
  (try simp only [Act.put, zSb, zS0, zS1])
  refine wpAnyH_done (by kernel_rfl) ?_ _
  go_wp2_with fail
  have hL0 := R.load (P := Tryz.prog) hU
  have hL1 := M9.load (P := Tryz.prog) (show (#[.int .i64 0, .int .i64 0, .int .i64 0, .int .i64 0, .int .i64 0, .int .i64 0, .int .i64 0, .string ⟨#[]⟩] : Array Value).size = 8 from rfl)
  exact bodyPost_ret (v := .tuple #[.agg (ndV (zX 0 0 0 0 0 0) none 0 none 0 none 0), .agg #[.int .i64 0, .int .i64 0, .int .i64 0, .int .i64 0, .int .i64 0, .int .i64 0, .int .i64 0, .string ⟨#[]⟩], .int .i64 1]) (by simp [results, Tryz.results11, go_sem]; rw [hL0]; simp only [Result.andThen_ok]; rw [show w.heap.size + 1 + 1 + 1 = w.heap.size + 3 from rfl, hL1]; rfl) rfl ⟨_, rfl, zX_own 0 0 0 0 0 0 _ _ _, B⟩
attribute [-go_sem] loadCells storeCells in
set_option maxRecDepth 100000 in
set_option maxHeartbeats 8000000 in
theorem implAskoff (AC AN : Array Value) (y : CfX) (x : NdX) (ct xt : Int) (w : World) (HC : CfS w AC y) (HN : NdS w AN x) (hwf : wfX x) (hnd : nodB xt = true) (he : (xt == x.ni) = false) (hst0 : staI y x ct = 2) (hok : okX x = true) :
    Calls Tryz.prog 11 #[.agg AC, .agg AN, .int .i64 ct, .int .i64 xt] w fun e w' => ∃ R, e = .returned (.tuple #[.agg R, .agg #[.int .i64 ((askX y x ct xt).2.1.1), .int .i64 ((askX y x ct xt).2.1.2.1), .int .i64 ((askX y x ct xt).2.1.2.2.1), .int .i64 ((askX y x ct xt).2.1.2.2.2.1), .int .i64 ((askX y x ct xt).2.1.2.2.2.2.1), .int .i64 ((askX y x ct xt).2.1.2.2.2.2.2.1), .int .i64 ((askX y x ct xt).2.1.2.2.2.2.2.2.1), .string ((askX y x ct xt).2.1.2.2.2.2.2.2.2)], .int .i64 (askX y x ct xt).2.2]) ∧ NdO w' w.heap.size w'.heap.size R (askX y x ct xt).1 ∧ Below w.heap.size w w' := by
  have hft : fitB x xt = true := by unfold fitB; rw [hnd, he]; rfl
  have hF : askX y x ct xt = (x, zMs, 2) := by unfold askX; simp only [hft, hst0, Int.reduceBEq]
  rw [hF]
  clear hF
  clear hft
  have hne : (xt != x.ni) = true := by rw [bne, he]; rfl
  clear he
  have hs1 : staI y x ct ≠ 1 := by rw [hst0]; decide
  have CIV := fun v => isNode_any xt v
  have hN0 : AN[0]? = some (.int .i64 x.ni) := by obtain ⟨_, _, _, _, _, _, e, _⟩ := id HN; rw [e]; rfl
  have hC := HC.size
  have hN := HN.size
  obtain ⟨p, d, hpd, hm, hr⟩ := id HC
  have CW := fun (v : World) (h : Below w.heap.size w v) => workOn_ok AC AN y x ct p d v (HC.below h) (HN.below h) hwf hpd hok hs1
  clear HC HN hwf hm hr hpd
  have A0 := Below.nw w (.cells AC 67)
  have A1 := Below.nw (w.alloc (.cells AC 67)) (.cells AN 57)
  have A2 := Below.nw (((w.alloc (.cells AC 67))).alloc (.cells AN 57)) (.cells #[.int .i64 0, .int .i64 0, .int .i64 0, .int .i64 0, .bool false, .int .i64 0, .int .i64 0, .int .i64 0, .int .i64 0, .int .i64 0, .slice none 0 0, .slice none 0 0, .bool false, .int .i64 0, .slice none 0 0, .int .i64 0] 57)
  have A3 := Below.nw (((((w.alloc (.cells AC 67))).alloc (.cells AN 57))).alloc (.cells #[.int .i64 0, .int .i64 0, .int .i64 0, .int .i64 0, .bool false, .int .i64 0, .int .i64 0, .int .i64 0, .int .i64 0, .int .i64 0, .slice none 0 0, .slice none 0 0, .bool false, .int .i64 0, .slice none 0 0, .int .i64 0] 57)) (.cells #[.int .i64 0, .int .i64 0, .int .i64 0, .int .i64 0, .int .i64 0, .int .i64 0, .int .i64 0, .string ⟨#[]⟩] 59)
  have C := (((Bo.new w AC 67).below A1).below A2).below A3
  have N := ((Bo.new (w.alloc (.cells AC 67)) AN 57).below A2).below A3
  have R := (Bo.new (((w.alloc (.cells AC 67))).alloc (.cells AN 57)) #[.int .i64 0, .int .i64 0, .int .i64 0, .int .i64 0, .bool false, .int .i64 0, .int .i64 0, .int .i64 0, .int .i64 0, .int .i64 0, .slice none 0 0, .slice none 0 0, .bool false, .int .i64 0, .slice none 0 0, .int .i64 0] 57).below A3
  have M := Bo.new (((((w.alloc (.cells AC 67))).alloc (.cells AN 57))).alloc (.cells #[.int .i64 0, .int .i64 0, .int .i64 0, .int .i64 0, .bool false, .int .i64 0, .int .i64 0, .int .i64 0, .int .i64 0, .int .i64 0, .slice none 0 0, .slice none 0 0, .bool false, .int .i64 0, .slice none 0 0, .int .i64 0] 57)) #[.int .i64 0, .int .i64 0, .int .i64 0, .int .i64 0, .int .i64 0, .int .i64 0, .int .i64 0, .string ⟨#[]⟩] 59
  have B := A0
  replace B := B.trans (A1.mono B.size)
  replace B := B.trans (A2.mono B.size)
  replace B := B.trans (A3.mono B.size)
  simp only [World.size_alloc] at N R M
  clear A0 A1 A2 A3
  go_enter Tryz.func11, Tryz.ntmps11
  go_upto_region 1 with fail
  generalize ((((((w.alloc (.cells AC 67))).alloc (.cells AN 57))).alloc (.cells #[.int .i64 0, .int .i64 0, .int .i64 0, .int .i64 0, .bool false, .int .i64 0, .int .i64 0, .int .i64 0, .int .i64 0, .int .i64 0, .slice none 0 0, .slice none 0 0, .bool false, .int .i64 0, .slice none 0 0, .int .i64 0] 57))).alloc (.cells #[.int .i64 0, .int .i64 0, .int .i64 0, .int .i64 0, .int .i64 0, .int .i64 0, .int .i64 0, .string ⟨#[]⟩] 59) = v0 at *
  have SK : Hid (∀ w', Below v0.heap.size v0 w' → (fun w' => (loadCells ⟨w.heap.size, 0, none⟩ 11).run Tryz.prog w' = .ok AC w' ∧ (loadCells ⟨w.heap.size + 1, 0, none⟩ 16).run Tryz.prog w' = .ok AN w' ∧ w'.cell? ⟨w.heap.size + 1, 0, none⟩ = some (.int .i64 x.ni)) w') := fun w' hw => ⟨(C.below hw).load hC, (N.below hw).load hN, (N.below hw).cell hN0⟩
  go_cut [11, 12] (fun s11 s12 wx => ∃ (j l u : Nat) (R : Array Value), s11 = .pointer (some ⟨j, 0, none⟩) ∧ s12 = .int .i64 2 ∧ Bo wx j R ∧ WkO wx l u R y x ct p d ∧ v0.heap.size ≤ l ∧ v0.heap.size ≤ j ∧ u ≤ wx.heap.size ∧ j < wx.heap.size ∧ l ≤ u ∧ (j < l ∨ u ≤ j) ∧ Below v0.heap.size v0 wx)
  case first => as_aux_lemma =>
    refine wp_region_held_drew (S := (fun w' => (loadCells ⟨w.heap.size, 0, none⟩ 11).run Tryz.prog w' = .ok AC w' ∧ (loadCells ⟨w.heap.size + 1, 0, none⟩ 16).run Tryz.prog w' = .ok AN w' ∧ w'.cell? ⟨w.heap.size + 1, 0, none⟩ = some (.int .i64 x.ni))) (by kernel_rfl) ?_ (fun hHeld => ?_)
    · first | exact SK.out _ XB | exact SK.out _ (Below.drew (Below.refl _ _)) | exact SK.out _ XF
    have XB : Below v0.heap.size v0 v0.drew := Below.drew (Below.refl _ _)
    generalize v0.drew = vx at *
    refine zTk 0 ?_
    (try simp only [Act.put, zSb, zS0, zS1])
    refine zTk 1 ?_
    (try simp only [Act.put, zSb, zS0, zS1])
    refine zTk 2 ?_
    (try simp only [Act.put, zSb, zS0, zS1])
    refine zTk 3 ?_
    (try simp only [Act.put, zSb, zS0, zS1])
    refine wpAnyH_ready (rs := [4, 15]) (by kernel_rfl) (by simp) ?_
    refine (AllReadyH.cons (by rw [List.getElem?_toArray]; rfl) (fun K hK => ?_) (AllReadyH.cons (by rw [List.getElem?_toArray]; rfl) (fun K hK => ?_) AllReadyH.nil))
    · go_simp
      refine (CIV vx).mono ?_; rintro ee w9 ⟨rfl, rfl⟩; rw [hnd]
      (try go_wp2_with fail)
      refine hK.out _ _ ?_ (fun hHeld => ?_)
      · first | exact SK.out _ XB | exact SK.out _ (Below.drew (Below.refl _ _)) | exact SK.out _ XF
      clear hK K
      (try simp only [Act.put, zSb, zS0, zS1])
      refine zTk 5 ?_
      (try simp only [Act.put, zSb, zS0, zS1])
      refine zTk 6 ?_
      (try simp only [Act.put, zSb, zS0, zS1])
      refine zTk 7 ?_
      (try simp only [Act.put, zSb, zS0, zS1])
      refine zTk 8 ?_
      (try simp only [Act.put, zSb, zS0, zS1])
      refine zTk 9 ?_
      (try simp only [Act.put, zSb, zS0, zS1])
      refine zTk 10 ?_
      (try simp only [Act.put, zSb, zS0, zS1])
      refine wpAnyH_ready (rs := [11, 15]) (by kernel_rfl) (by simp) ?_
      refine (AllReadyH.cons (by rw [List.getElem?_toArray]; rfl) (fun K hK => ?_) (AllReadyH.cons (by rw [List.getElem?_toArray]; rfl) (fun K hK => ?_) AllReadyH.nil))
      · go_simp
        (try rw [hne]); refine (CW vx (B.trans (XB.mono B.size))).mono ?_; rintro ee vs ⟨RW, rfl, OW, hbl⟩; (have hl0 : v0.heap.size ≤ vx.heap.size := XB.size); (have hlu : vx.heap.size ≤ vs.heap.size := hbl.size); (replace XB := XB.trans (hbl.mono XB.size)); (clear hbl)
        (try go_wp2_with fail)
        refine hK.out _ _ ?_ (fun hHeld => ?_)
        · first | exact SK.out _ XB | exact SK.out _ (Below.drew (Below.refl _ _)) | exact SK.out _ XF
        clear hK K
        (try simp only [Act.put, zSb, zS0, zS1])
        refine zTk 12 ?_
        (try simp only [Act.put, zSb, zS0, zS1])
        refine zTk 13 ?_
        (try simp only [Act.put, zSb, zS0, zS1])
        refine zTk 14 ?_
        (try simp only [Act.put, zSb, zS0, zS1])
        refine wpAnyH_ready (rs := [15]) (by kernel_rfl) (by simp) ?_
        refine (AllReadyH.cons (by rw [List.getElem?_toArray]; rfl) (fun K hK => ?_) AllReadyH.nil)
        go_simp
        (have Z := Bo.new vs (#[.int .i64 0, .int .i64 0, .slice none 0 0, .bool false, .int .i64 0, .int .i64 0, .int .i64 0, .int .i64 0, .int .i64 0, .int .i64 0, .int .i64 0, .int .i64 0, .int .i64 0, .int .i64 0, .int .i64 0, .slice none 0 0, .int .i64 0, .int .i64 0, .int .i64 0, .int .i64 0, .int .i64 0, .bool false, .int .i64 0, .int .i64 0, .int .i64 0, .slice none 0 0, .slice none 0 0, .int .i64 0]) 103); (have NL := Below.nw vs (.cells (#[.int .i64 0, .int .i64 0, .slice none 0 0, .bool false, .int .i64 0, .int .i64 0, .int .i64 0, .int .i64 0, .int .i64 0, .int .i64 0, .int .i64 0, .int .i64 0, .int .i64 0, .int .i64 0, .int .i64 0, .slice none 0 0, .int .i64 0, .int .i64 0, .int .i64 0, .int .i64 0, .int .i64 0, .bool false, .int .i64 0, .int .i64 0, .int .i64 0, .slice none 0 0, .slice none 0 0, .int .i64 0]) 103)); (have hzv : v0.heap.size ≤ vs.heap.size := XB.size); (replace XB := XB.trans (NL.mono XB.size)); (replace OW := OW.below NL); (clear NL); (generalize vs.alloc (.cells (#[.int .i64 0, .int .i64 0, .slice none 0 0, .bool false, .int .i64 0, .int .i64 0, .int .i64 0, .int .i64 0, .int .i64 0, .int .i64 0, .int .i64 0, .int .i64 0, .int .i64 0, .int .i64 0, .int .i64 0, .slice none 0 0, .int .i64 0, .int .i64 0, .int .i64 0, .int .i64 0, .int .i64 0, .bool false, .int .i64 0, .int .i64 0, .int .i64 0, .slice none 0 0, .slice none 0 0, .int .i64 0]) 103) = vy at *); (generalize vs.heap.size = jz at *); (have hRW := OW.size); (have hst := Bo.store (P := Tryz.prog) (b := 0) RW.toList 0 0 Z rfl (by simp [hRW]) OW.one); (have OF := OW.btw (putA_btw RW.toList vy 0 jz) (.inl (Nat.le_refl _))); (have XF := putA_below (k := jz) RW.toList v0 vy 0 XB hzv); (have ZF := Z.putW (U := RW) hRW); (have hsz := putA_size jz RW.toList vy 0); (generalize putA vy jz 0 RW.toList = vf at *)
        refine hK.out _ _ ?_ (fun hHeld => ?_)
        · first | exact SK.out _ XB | exact SK.out _ (Below.drew (Below.refl _ _)) | exact SK.out _ XF
        clear hK K
        (try simp only [Act.put, zSb, zS0, zS1])
        refine wpAnyH_ready (rs := [16]) (by kernel_rfl) (by simp) ?_
        refine (AllReadyH.cons (by rw [List.getElem?_toArray]; rfl) (fun K hK => ?_) AllReadyH.nil)
        go_simp
        refine hK.out _ _ ?_ (fun hHeld => ?_)
        · first | exact SK.out _ XB | exact SK.out _ (Below.drew (Below.refl _ _)) | exact SK.out _ XF
        clear hK K
        (try simp only [Act.put, zSb, zS0, zS1])
        refine zTk 17 ?_
        (try simp only [Act.put, zSb, zS0, zS1])
        refine wpAnyH_done (by kernel_rfl) ?_ _
        go_wp2_with (rw [hst])
        go_meet
        case rel => exact ⟨jz, _, _, RW, rfl, rfl, ZF, OF, hl0, hzv, by first | exact Nat.le_of_eq hsz.symm | (rw [hsz]; exact Nat.le_of_lt Z.1), by rw [hsz]; exact Z.1, hlu, .inr (Nat.le_refl _), XF⟩
      · go_simp
        (have Z := Bo.new vx (#[.int .i64 0, .int .i64 0, .slice none 0 0, .bool false, .int .i64 0, .int .i64 0, .int .i64 0, .int .i64 0, .int .i64 0, .int .i64 0, .int .i64 0, .int .i64 0, .int .i64 0, .int .i64 0, .int .i64 0, .slice none 0 0, .int .i64 0, .int .i64 0, .int .i64 0, .int .i64 0, .int .i64 0, .bool false, .int .i64 0, .int .i64 0, .int .i64 0, .slice none 0 0, .slice none 0 0, .int .i64 0]) 103); (have NL := Below.nw vx (.cells (#[.int .i64 0, .int .i64 0, .slice none 0 0, .bool false, .int .i64 0, .int .i64 0, .int .i64 0, .int .i64 0, .int .i64 0, .int .i64 0, .int .i64 0, .int .i64 0, .int .i64 0, .int .i64 0, .int .i64 0, .slice none 0 0, .int .i64 0, .int .i64 0, .int .i64 0, .int .i64 0, .int .i64 0, .bool false, .int .i64 0, .int .i64 0, .int .i64 0, .slice none 0 0, .slice none 0 0, .int .i64 0]) 103)); (have hzv : v0.heap.size ≤ vx.heap.size := XB.size); (replace XB := XB.trans (NL.mono XB.size)); (clear NL); (generalize vx.alloc (.cells (#[.int .i64 0, .int .i64 0, .slice none 0 0, .bool false, .int .i64 0, .int .i64 0, .int .i64 0, .int .i64 0, .int .i64 0, .int .i64 0, .int .i64 0, .int .i64 0, .int .i64 0, .int .i64 0, .int .i64 0, .slice none 0 0, .int .i64 0, .int .i64 0, .int .i64 0, .int .i64 0, .int .i64 0, .bool false, .int .i64 0, .int .i64 0, .int .i64 0, .slice none 0 0, .slice none 0 0, .int .i64 0]) 103) = vy at *); (generalize vx.heap.size = jz at *)
        refine hK.out _ _ ?_ (fun hHeld => ?_)
        · first | exact SK.out _ XB | exact SK.out _ (Below.drew (Below.refl _ _)) | exact SK.out _ XF
        clear hK K
        (try simp only [Act.put, zSb, zS0, zS1])
        refine wpAnyH_ready (rs := [11]) (by kernel_rfl) (by simp) ?_
        refine (AllReadyH.cons (by rw [List.getElem?_toArray]; rfl) (fun K hK => ?_) AllReadyH.nil)
        go_simp
        (try rw [hne]); refine (CW vy (B.trans (XB.mono B.size))).mono ?_; rintro ee vs ⟨RW, rfl, OW, hbl⟩; (have hl0 : v0.heap.size ≤ vy.heap.size := XB.size); (have hlu : vy.heap.size ≤ vs.heap.size := hbl.size); (replace XB := XB.trans (hbl.mono XB.size)); (have hjl : jz < vy.heap.size := Z.1); (replace Z := Z.below hbl); (clear hbl); (have hRW := OW.size); (have hst := Bo.store (P := Tryz.prog) (b := 0) RW.toList 0 0 Z rfl (by simp [hRW]) OW.one); (have OF := OW.btw (putA_btw RW.toList vs 0 jz) (.inr hjl)); (have XF := putA_below (k := jz) RW.toList v0 vs 0 XB hzv); (have ZF := Z.putW (U := RW) hRW); (have hsz := putA_size jz RW.toList vs 0); (generalize putA vs jz 0 RW.toList = vf at *)
        (try go_wp2_with fail)
        refine hK.out _ _ ?_ (fun hHeld => ?_)
        · first | exact SK.out _ XB | exact SK.out _ (Below.drew (Below.refl _ _)) | exact SK.out _ XF
        clear hK K
        (try simp only [Act.put, zSb, zS0, zS1])
        refine zTk 12 ?_
        (try simp only [Act.put, zSb, zS0, zS1])
        refine zTk 13 ?_
        (try simp only [Act.put, zSb, zS0, zS1])
        refine zTk 14 ?_
        (try simp only [Act.put, zSb, zS0, zS1])
        refine wpAnyH_ready (rs := [16]) (by kernel_rfl) (by simp) ?_
        refine (AllReadyH.cons (by rw [List.getElem?_toArray]; rfl) (fun K hK => ?_) AllReadyH.nil)
        go_simp
        refine hK.out _ _ ?_ (fun hHeld => ?_)
        · first | exact SK.out _ XB | exact SK.out _ (Below.drew (Below.refl _ _)) | exact SK.out _ XF
        clear hK K
        (try simp only [Act.put, zSb, zS0, zS1])
        refine zTk 17 ?_
        (try simp only [Act.put, zSb, zS0, zS1])
        refine wpAnyH_done (by kernel_rfl) ?_ _
        go_wp2_with (rw [hst])
        go_meet
        case rel => exact ⟨jz, _, _, RW, rfl, rfl, ZF, OF, hl0, hzv, by first | exact Nat.le_of_eq hsz.symm | (rw [hsz]; exact Nat.le_of_lt Z.1), by rw [hsz]; exact Z.1, hlu, .inl hjl, XF⟩
    · go_simp
      (have Z := Bo.new vx (#[.int .i64 0, .int .i64 0, .slice none 0 0, .bool false, .int .i64 0, .int .i64 0, .int .i64 0, .int .i64 0, .int .i64 0, .int .i64 0, .int .i64 0, .int .i64 0, .int .i64 0, .int .i64 0, .int .i64 0, .slice none 0 0, .int .i64 0, .int .i64 0, .int .i64 0, .int .i64 0, .int .i64 0, .bool false, .int .i64 0, .int .i64 0, .int .i64 0, .slice none 0 0, .slice none 0 0, .int .i64 0]) 103); (have NL := Below.nw vx (.cells (#[.int .i64 0, .int .i64 0, .slice none 0 0, .bool false, .int .i64 0, .int .i64 0, .int .i64 0, .int .i64 0, .int .i64 0, .int .i64 0, .int .i64 0, .int .i64 0, .int .i64 0, .int .i64 0, .int .i64 0, .slice none 0 0, .int .i64 0, .int .i64 0, .int .i64 0, .int .i64 0, .int .i64 0, .bool false, .int .i64 0, .int .i64 0, .int .i64 0, .slice none 0 0, .slice none 0 0, .int .i64 0]) 103)); (have hzv : v0.heap.size ≤ vx.heap.size := XB.size); (replace XB := XB.trans (NL.mono XB.size)); (clear NL); (generalize vx.alloc (.cells (#[.int .i64 0, .int .i64 0, .slice none 0 0, .bool false, .int .i64 0, .int .i64 0, .int .i64 0, .int .i64 0, .int .i64 0, .int .i64 0, .int .i64 0, .int .i64 0, .int .i64 0, .int .i64 0, .int .i64 0, .slice none 0 0, .int .i64 0, .int .i64 0, .int .i64 0, .int .i64 0, .int .i64 0, .bool false, .int .i64 0, .int .i64 0, .int .i64 0, .slice none 0 0, .slice none 0 0, .int .i64 0]) 103) = vy at *); (generalize vx.heap.size = jz at *)
      refine hK.out _ _ ?_ (fun hHeld => ?_)
      · first | exact SK.out _ XB | exact SK.out _ (Below.drew (Below.refl _ _)) | exact SK.out _ XF
      clear hK K
      (try simp only [Act.put, zSb, zS0, zS1])
      refine wpAnyH_ready (rs := [4]) (by kernel_rfl) (by simp) ?_
      refine (AllReadyH.cons (by rw [List.getElem?_toArray]; rfl) (fun K hK => ?_) AllReadyH.nil)
      go_simp
      refine (CIV vy).mono ?_; rintro ee w9 ⟨rfl, rfl⟩; rw [hnd]
      (try go_wp2_with fail)
      refine hK.out _ _ ?_ (fun hHeld => ?_)
      · first | exact SK.out _ XB | exact SK.out _ (Below.drew (Below.refl _ _)) | exact SK.out _ XF
      clear hK K
      (try simp only [Act.put, zSb, zS0, zS1])
      refine zTk 5 ?_
      (try simp only [Act.put, zSb, zS0, zS1])
      refine zTk 6 ?_
      (try simp only [Act.put, zSb, zS0, zS1])
      refine zTk 7 ?_
      (try simp only [Act.put, zSb, zS0, zS1])
      refine zTk 8 ?_
      (try simp only [Act.put, zSb, zS0, zS1])
      refine zTk 9 ?_
      (try simp only [Act.put, zSb, zS0, zS1])
      refine zTk 10 ?_
      (try simp only [Act.put, zSb, zS0, zS1])
      refine wpAnyH_ready (rs := [11]) (by kernel_rfl) (by simp) ?_
      refine (AllReadyH.cons (by rw [List.getElem?_toArray]; rfl) (fun K hK => ?_) AllReadyH.nil)
      go_simp
      (try rw [hne]); refine (CW vy (B.trans (XB.mono B.size))).mono ?_; rintro ee vs ⟨RW, rfl, OW, hbl⟩; (have hl0 : v0.heap.size ≤ vy.heap.size := XB.size); (have hlu : vy.heap.size ≤ vs.heap.size := hbl.size); (replace XB := XB.trans (hbl.mono XB.size)); (have hjl : jz < vy.heap.size := Z.1); (replace Z := Z.below hbl); (clear hbl); (have hRW := OW.size); (have hst := Bo.store (P := Tryz.prog) (b := 0) RW.toList 0 0 Z rfl (by simp [hRW]) OW.one); (have OF := OW.btw (putA_btw RW.toList vs 0 jz) (.inr hjl)); (have XF := putA_below (k := jz) RW.toList v0 vs 0 XB hzv); (have ZF := Z.putW (U := RW) hRW); (have hsz := putA_size jz RW.toList vs 0); (generalize putA vs jz 0 RW.toList = vf at *)
      (try go_wp2_with fail)
      refine hK.out _ _ ?_ (fun hHeld => ?_)
      · first | exact SK.out _ XB | exact SK.out _ (Below.drew (Below.refl _ _)) | exact SK.out _ XF
      clear hK K
      (try simp only [Act.put, zSb, zS0, zS1])
      refine zTk 12 ?_
      (try simp only [Act.put, zSb, zS0, zS1])
      refine zTk 13 ?_
      (try simp only [Act.put, zSb, zS0, zS1])
      refine zTk 14 ?_
      (try simp only [Act.put, zSb, zS0, zS1])
      refine wpAnyH_ready (rs := [16]) (by kernel_rfl) (by simp) ?_
      refine (AllReadyH.cons (by rw [List.getElem?_toArray]; rfl) (fun K hK => ?_) AllReadyH.nil)
      go_simp
      refine hK.out _ _ ?_ (fun hHeld => ?_)
      · first | exact SK.out _ XB | exact SK.out _ (Below.drew (Below.refl _ _)) | exact SK.out _ XF
      clear hK K
      (try simp only [Act.put, zSb, zS0, zS1])
      refine zTk 17 ?_
      (try simp only [Act.put, zSb, zS0, zS1])
      refine wpAnyH_done (by kernel_rfl) ?_ _
      go_wp2_with (rw [hst])
      go_meet
      case rel => exact ⟨jz, _, _, RW, rfl, rfl, ZF, OF, hl0, hzv, by first | exact Nat.le_of_eq hsz.symm | (rw [hsz]; exact Nat.le_of_lt Z.1), by rw [hsz]; exact Z.1, hlu, .inl hjl, XF⟩
  case rest =>
  have gKC : w.heap.size < v0.heap.size := C.1
  have gKN : w.heap.size + 1 < v0.heap.size := N.1
  have gKR : w.heap.size + 2 < v0.heap.size := R.1
  have gKM : w.heap.size + 3 < v0.heap.size := M.1
  obtain ⟨kKW, lk, uk, U, rfl, rfl, KW, OU, hlk1, hjK, huk, hjk2, hlk3, hlk4, hb⟩ := hcut
  clear SK CW CIV
  generalize wc = v1 at *
  have zz : v0.heap.size ≤ v1.heap.size := hb.size
  replace B := B.trans (hb.mono B.size)
  replace C := C.below hb
  replace N := N.below hb
  replace R := R.below hb
  replace M := M.below hb
  clear hb
  obtain ⟨aa, ac, pa, pc, ha, hc, rfl, hbn, P1, P2, P3⟩ := OU
  have gMbC : w.heap.size < v1.heap.size := C.1
  have gMbN : w.heap.size + 1 < v1.heap.size := N.1
  have gMbR : w.heap.size + 2 < v1.heap.size := R.1
  have gMbM : w.heap.size + 3 < v1.heap.size := M.1
  have gMbKW : kKW < v1.heap.size := KW.1
  have gMbP1 : uk ≤ v1.heap.size := by omega
  have gMbP2 : uk ≤ v1.heap.size := by omega
  have gMbP3 : uk ≤ v1.heap.size := by omega
  have hb := Below.nw v1 (.cells #[.int .i64 0, .int .i64 0, .int .i64 0, .int .i64 0, .int .i64 0, .int .i64 0, .int .i64 0, .string ⟨#[]⟩] 59)
  have Mb := Bo.new v1 #[.int .i64 0, .int .i64 0, .int .i64 0, .int .i64 0, .int .i64 0, .int .i64 0, .int .i64 0, .string ⟨#[]⟩] 59
  go_upto_region 3 with fail
  replace B := B.trans (hb.mono B.size)
  replace C := C.below hb
  replace N := N.below hb
  replace R := R.below hb
  replace M := M.below hb
  replace KW := KW.below hb
  replace P1 := P1.below hb
  replace P2 := P2.below hb
  replace P3 := P3.below hb
  clear hb
  generalize v1.alloc (.cells #[.int .i64 0, .int .i64 0, .int .i64 0, .int .i64 0, .int .i64 0, .int .i64 0, .int .i64 0, .string ⟨#[]⟩] 59) = v2 at *
  generalize v1.heap.size = kMb at *
  have zv2 : kMb ≤ v2.heap.size := Nat.le_of_lt Mb.1
  (try rw [hst0])
  go_upto_region 5 with fail
  refine wp_region_held_drew (S := (fun w' => (loadCells ⟨kMb, 0, none⟩ 8).run Tryz.prog w' = .ok #[.int .i64 0, .int .i64 0, .int .i64 0, .int .i64 0, .int .i64 0, .int .i64 0, .int .i64 0, .string ⟨#[]⟩] w')) (by kernel_rfl) ?_ (fun hHeld => ?_)
  · first | exact hS3 | exact hS2 | exact hS1 | exact hS0 | exact (Bo.drew Mb).load (P := Tryz.prog) (show (#[.int .i64 0, .int .i64 0, .int .i64 0, .int .i64 0, .int .i64 0, .int .i64 0, .int .i64 0, .string ⟨#[]⟩] : Array Value).size = 8 from rfl)
  have hb : Below v2.heap.size v2 v2.drew := Below.drew (Below.refl _ _)
  replace B := B.trans (hb.mono B.size)
  replace C := C.below hb
  replace N := N.below hb
  replace R := R.below hb
  replace M := M.below hb
  replace KW := KW.below hb
  replace Mb := Mb.below hb
  replace P1 := P1.below hb
  replace P2 := P2.below hb
  replace P3 := P3.below hb
  clear hb
  generalize v2.drew = vx at *
  have hS0 : (fun w' => (loadCells ⟨kMb, 0, none⟩ 8).run Tryz.prog w' = .ok #[.int .i64 0, .int .i64 0, .int .i64 0, .int .i64 0, .int .i64 0, .int .i64 0, .int .i64 0, .string ⟨#[]⟩] w') vx := Mb.load (P := Tryz.prog) (show (#[.int .i64 0, .int .i64 0, .int .i64 0, .int .i64 0, .int .i64 0, .int .i64 0, .int .i64 0, .string ⟨#[]⟩] : Array Value).size = 8 from rfl)
  have hU : (ndV x aa ac pa pc ha hc).size = 16 := rfl
  refine zTk 1 ?_
  (try simp only [Act.put, zSb, zS0, zS1])
  refine zTk 2 ?_
  (try simp only [Act.put, zSb, zS0, zS1])
  refine wpAnyH_ready (rs := [0]) (by kernel_rfl) (by simp) ?_
  refine (AllReadyH.cons (by rw [List.getElem?_toArray]; rfl) (fun K hK => ?_) AllReadyH.nil)
  go_simp
  refine (wkNode y x ct p d aa ac pa pc ha hc kKW vx KW).mono ?_; rintro ee vs ⟨rfl, hb⟩; (replace B := B.trans (hb.mono B.size)); (replace C := C.below hb); (replace N := N.below hb); (replace R := R.below hb); (replace M := M.below hb); (replace KW := KW.below hb); (replace Mb := Mb.below hb); (replace P1 := P1.below hb); (replace P2 := P2.below hb); (replace P3 := P3.below hb); (have zz0 := hb.size); (clear hb); (have hS1 : (fun w' => (loadCells ⟨kMb, 0, none⟩ 8).run Tryz.prog w' = .ok #[.int .i64 0, .int .i64 0, .int .i64 0, .int .i64 0, .int .i64 0, .int .i64 0, .int .i64 0, .string ⟨#[]⟩] w') vs := Mb.load (P := Tryz.prog) (show (#[.int .i64 0, .int .i64 0, .int .i64 0, .int .i64 0, .int .i64 0, .int .i64 0, .int .i64 0, .string ⟨#[]⟩] : Array Value).size = 8 from rfl)); (have hst := Bo.store (P := Tryz.prog) (b := 0) (ndV x aa ac pa pc ha hc).toList 0 0 R rfl (by simp [hU]) (ndV_one _ _ _ _ _ _ _))
  (try go_wp2_with fail)
  refine hK.out _ _ ?_ (fun hHeld => ?_)
  · first | exact hS3 | exact hS2 | exact hS1 | exact hS0 | exact (Bo.drew Mb).load (P := Tryz.prog) (show (#[.int .i64 0, .int .i64 0, .int .i64 0, .int .i64 0, .int .i64 0, .int .i64 0, .int .i64 0, .string ⟨#[]⟩] : Array Value).size = 8 from rfl)
  clear hK K
  (try simp only [Act.put, zSb, zS0, zS1])
  refine wpAnyH_ready (rs := [3]) (by kernel_rfl) (by simp) ?_
  refine (AllReadyH.cons (by rw [List.getElem?_toArray]; rfl) (fun K hK => ?_) AllReadyH.nil)
  go_simp
  (have hbt := putA_btw (ndV x aa ac pa pc ha hc).toList vs 0 (w.heap.size + 2)); (replace B := putA_below (k := w.heap.size + 2) (ndV x aa ac pa pc ha hc).toList w vs 0 B (by omega)); (replace R := R.putW (U := (ndV x aa ac pa pc ha hc)) hU); (replace M := M.btw hbt (by omega)); (replace P1 := P1.btw hbt (by omega)); (replace P2 := P2.btw hbt (by omega)); (replace P3 := P3.btw hbt (by omega)); (replace Mb := Mb.btw hbt (by omega)); (have zz1 := hbt.2.2.2.1); (clear hst hbt); (generalize putA vs (w.heap.size + 2) 0 (ndV x aa ac pa pc ha hc).toList = vy at *); (have hS2 : (fun w' => (loadCells ⟨kMb, 0, none⟩ 8).run Tryz.prog w' = .ok #[.int .i64 0, .int .i64 0, .int .i64 0, .int .i64 0, .int .i64 0, .int .i64 0, .int .i64 0, .string ⟨#[]⟩] w') vy := Mb.load (P := Tryz.prog) (show (#[.int .i64 0, .int .i64 0, .int .i64 0, .int .i64 0, .int .i64 0, .int .i64 0, .int .i64 0, .string ⟨#[]⟩] : Array Value).size = 8 from rfl)); (have hst := Bo.store (P := Tryz.prog) (b := 0) ([.int .i64 0, .int .i64 0, .int .i64 0, .int .i64 0, .int .i64 0, .int .i64 0, .int .i64 0, .string ⟨#[]⟩]) 0 0 M rfl (show 0 + 8 ≤ 8 by decide) (List.forall_mem_cons.2 ⟨rfl, (List.forall_mem_cons.2 ⟨rfl, (List.forall_mem_cons.2 ⟨rfl, (List.forall_mem_cons.2 ⟨rfl, (List.forall_mem_cons.2 ⟨rfl, (List.forall_mem_cons.2 ⟨rfl, (List.forall_mem_cons.2 ⟨rfl, (List.forall_mem_cons.2 ⟨rfl, fun _ h => nomatch h⟩)⟩)⟩)⟩)⟩)⟩)⟩)⟩))
  refine hK.out _ _ ?_ (fun hHeld => ?_)
  · first | exact hS3 | exact hS2 | exact hS1 | exact hS0 | exact (Bo.drew Mb).load (P := Tryz.prog) (show (#[.int .i64 0, .int .i64 0, .int .i64 0, .int .i64 0, .int .i64 0, .int .i64 0, .int .i64 0, .string ⟨#[]⟩] : Array Value).size = 8 from rfl)
  clear hK K
  (try simp only [Act.put, zSb, zS0, zS1])
  refine wpAnyH_ready (rs := [4]) (by kernel_rfl) (by simp) ?_
  refine (AllReadyH.cons (by rw [List.getElem?_toArray]; rfl) (fun K hK => ?_) AllReadyH.nil)
  go_simp
  (have hbt := putA_btw ([.int .i64 0, .int .i64 0, .int .i64 0, .int .i64 0, .int .i64 0, .int .i64 0, .int .i64 0, .string ⟨#[]⟩]) vy 0 (w.heap.size + 3)); (replace B := putA_below (k := w.heap.size + 3) ([.int .i64 0, .int .i64 0, .int .i64 0, .int .i64 0, .int .i64 0, .int .i64 0, .int .i64 0, .string ⟨#[]⟩]) w vy 0 B (by omega)); (have M9 : Bo (putA vy (w.heap.size + 3) 0 ([.int .i64 0, .int .i64 0, .int .i64 0, .int .i64 0, .int .i64 0, .int .i64 0, .int .i64 0, .string ⟨#[]⟩])) (w.heap.size + 3) (#[.int .i64 0, .int .i64 0, .int .i64 0, .int .i64 0, .int .i64 0, .int .i64 0, .int .i64 0, .string ⟨#[]⟩]) := M.putW (U := #[.int .i64 0, .int .i64 0, .int .i64 0, .int .i64 0, .int .i64 0, .int .i64 0, .int .i64 0, .string ⟨#[]⟩]) rfl); (replace R := R.btw hbt (by omega)); (replace P1 := P1.btw hbt (by omega)); (replace P2 := P2.btw hbt (by omega)); (replace P3 := P3.btw hbt (by omega)); (replace Mb := Mb.btw hbt (by omega)); (have zz2 := hbt.2.2.2.1); (clear hst hbt M); (generalize putA vy (w.heap.size + 3) 0 ([.int .i64 0, .int .i64 0, .int .i64 0, .int .i64 0, .int .i64 0, .int .i64 0, .int .i64 0, .string ⟨#[]⟩]) = vz at *); (have hS3 : (fun w' => (loadCells ⟨kMb, 0, none⟩ 8).run Tryz.prog w' = .ok #[.int .i64 0, .int .i64 0, .int .i64 0, .int .i64 0, .int .i64 0, .int .i64 0, .int .i64 0, .string ⟨#[]⟩] w') vz := Mb.load (P := Tryz.prog) (show (#[.int .i64 0, .int .i64 0, .int .i64 0, .int .i64 0, .int .i64 0, .int .i64 0, .int .i64 0, .string ⟨#[]⟩] : Array Value).size = 8 from rfl))
  refine hK.out _ _ ?_ (fun hHeld => ?_)
  · first | exact hS3 | exact hS2 | exact hS1 | exact hS0 | exact (Bo.drew Mb).load (P := Tryz.prog) (show (#[.int .i64 0, .int .i64 0, .int .i64 0, .int .i64 0, .int .i64 0, .int .i64 0, .int .i64 0, .string ⟨#[]⟩] : Array Value).size = 8 from rfl)
  clear hK K
  (try simp only [Act.put, zSb, zS0, zS1])
  refine zTk 5 ?_
  (try simp only [Act.put, zSb, zS0, zS1])
  refine wpAnyH_done (by kernel_rfl) ?_ _
  go_wp2_with fail
  have hL0 := R.load (P := Tryz.prog) hU
  have hL1 := M9.load (P := Tryz.prog) (show (#[.int .i64 0, .int .i64 0, .int .i64 0, .int .i64 0, .int .i64 0, .int .i64 0, .int .i64 0, .string ⟨#[]⟩] : Array Value).size = 8 from rfl)
  exact bodyPost_ret (v := .tuple #[.agg (ndV x aa ac pa pc ha hc), .agg #[.int .i64 0, .int .i64 0, .int .i64 0, .int .i64 0, .int .i64 0, .int .i64 0, .int .i64 0, .string ⟨#[]⟩], .int .i64 2]) (by simp [results, Tryz.results11, go_sem]; rw [hL0]; simp only [Result.andThen_ok]; rw [show w.heap.size + 1 + 1 + 1 = w.heap.size + 3 from rfl, hL1]; rfl) rfl ⟨_, rfl, ⟨aa, ac, pa, pc, ha, hc, rfl, hbn, P1.low (by omega), P2.low (by omega), P3.low (by omega)⟩, B⟩
attribute [-go_sem] loadCells storeCells in
set_option maxRecDepth 100000 in
set_option maxHeartbeats 8000000 in
theorem implAskspent (AC AN : Array Value) (y : CfX) (x : NdX) (ct xt : Int) (w : World) (HC : CfS w AC y) (HN : NdS w AN x) (hwf : wfX x) (hnd : nodB xt = true) (he : (xt == x.ni) = false) (hst0 : staI y x ct = 0) (hok : okX x = true) (hus : x.us = 1000) :
    Calls Tryz.prog 11 #[.agg AC, .agg AN, .int .i64 ct, .int .i64 xt] w fun e w' => ∃ R, e = .returned (.tuple #[.agg R, .agg #[.int .i64 ((askX y x ct xt).2.1.1), .int .i64 ((askX y x ct xt).2.1.2.1), .int .i64 ((askX y x ct xt).2.1.2.2.1), .int .i64 ((askX y x ct xt).2.1.2.2.2.1), .int .i64 ((askX y x ct xt).2.1.2.2.2.2.1), .int .i64 ((askX y x ct xt).2.1.2.2.2.2.2.1), .int .i64 ((askX y x ct xt).2.1.2.2.2.2.2.2.1), .string ((askX y x ct xt).2.1.2.2.2.2.2.2.2)], .int .i64 (askX y x ct xt).2.2]) ∧ NdO w' w.heap.size w'.heap.size R (askX y x ct xt).1 ∧ Below w.heap.size w w' := by
  have hft : fitB x xt = true := by unfold fitB; rw [hnd, he]; rfl
  have hub : (x.us == 1000) = true := by rw [hus]; rfl
  have hF : askX y x ct xt = (x, zMs, 4) := by unfold askX; simp only [hft, hst0, Int.reduceBEq, hub]
  rw [hF]
  clear hF
  clear hft hub
  have hne : (xt != x.ni) = true := by rw [bne, he]; rfl
  clear he
  have hs1 : staI y x ct ≠ 1 := by rw [hst0]; decide
  have HUS : Hid (x.us = 1000) := hus
  clear hus
  have hus := HUS
  have CIV := fun v => isNode_any xt v
  have hN0 : AN[0]? = some (.int .i64 x.ni) := by obtain ⟨_, _, _, _, _, _, e, _⟩ := id HN; rw [e]; rfl
  have htb := ok_tab hok
  have htm := come_tm hs1
  have hwa := hwf
  have hC := HC.size
  have hN := HN.size
  obtain ⟨p, d, hpd, hm, hr⟩ := id HC
  have CW := fun (v : World) (h : Below w.heap.size w v) => workOn_ok AC AN y x ct p d v (HC.below h) (HN.below h) hwf hpd hok hs1
  clear HC HN hwf hm hr hpd
  have A0 := Below.nw w (.cells AC 67)
  have A1 := Below.nw (w.alloc (.cells AC 67)) (.cells AN 57)
  have A2 := Below.nw (((w.alloc (.cells AC 67))).alloc (.cells AN 57)) (.cells #[.int .i64 0, .int .i64 0, .int .i64 0, .int .i64 0, .bool false, .int .i64 0, .int .i64 0, .int .i64 0, .int .i64 0, .int .i64 0, .slice none 0 0, .slice none 0 0, .bool false, .int .i64 0, .slice none 0 0, .int .i64 0] 57)
  have A3 := Below.nw (((((w.alloc (.cells AC 67))).alloc (.cells AN 57))).alloc (.cells #[.int .i64 0, .int .i64 0, .int .i64 0, .int .i64 0, .bool false, .int .i64 0, .int .i64 0, .int .i64 0, .int .i64 0, .int .i64 0, .slice none 0 0, .slice none 0 0, .bool false, .int .i64 0, .slice none 0 0, .int .i64 0] 57)) (.cells #[.int .i64 0, .int .i64 0, .int .i64 0, .int .i64 0, .int .i64 0, .int .i64 0, .int .i64 0, .string ⟨#[]⟩] 59)
  have C := (((Bo.new w AC 67).below A1).below A2).below A3
  have N := ((Bo.new (w.alloc (.cells AC 67)) AN 57).below A2).below A3
  have R := (Bo.new (((w.alloc (.cells AC 67))).alloc (.cells AN 57)) #[.int .i64 0, .int .i64 0, .int .i64 0, .int .i64 0, .bool false, .int .i64 0, .int .i64 0, .int .i64 0, .int .i64 0, .int .i64 0, .slice none 0 0, .slice none 0 0, .bool false, .int .i64 0, .slice none 0 0, .int .i64 0] 57).below A3
  have M := Bo.new (((((w.alloc (.cells AC 67))).alloc (.cells AN 57))).alloc (.cells #[.int .i64 0, .int .i64 0, .int .i64 0, .int .i64 0, .bool false, .int .i64 0, .int .i64 0, .int .i64 0, .int .i64 0, .int .i64 0, .slice none 0 0, .slice none 0 0, .bool false, .int .i64 0, .slice none 0 0, .int .i64 0] 57)) #[.int .i64 0, .int .i64 0, .int .i64 0, .int .i64 0, .int .i64 0, .int .i64 0, .int .i64 0, .string ⟨#[]⟩] 59
  have B := A0
  replace B := B.trans (A1.mono B.size)
  replace B := B.trans (A2.mono B.size)
  replace B := B.trans (A3.mono B.size)
  simp only [World.size_alloc] at N R M
  clear A0 A1 A2 A3
  go_enter Tryz.func11, Tryz.ntmps11
  go_upto_region 1 with fail
  generalize ((((((w.alloc (.cells AC 67))).alloc (.cells AN 57))).alloc (.cells #[.int .i64 0, .int .i64 0, .int .i64 0, .int .i64 0, .bool false, .int .i64 0, .int .i64 0, .int .i64 0, .int .i64 0, .int .i64 0, .slice none 0 0, .slice none 0 0, .bool false, .int .i64 0, .slice none 0 0, .int .i64 0] 57))).alloc (.cells #[.int .i64 0, .int .i64 0, .int .i64 0, .int .i64 0, .int .i64 0, .int .i64 0, .int .i64 0, .string ⟨#[]⟩] 59) = v0 at *
  have SK : Hid (∀ w', Below v0.heap.size v0 w' → (fun w' => (loadCells ⟨w.heap.size, 0, none⟩ 11).run Tryz.prog w' = .ok AC w' ∧ (loadCells ⟨w.heap.size + 1, 0, none⟩ 16).run Tryz.prog w' = .ok AN w' ∧ w'.cell? ⟨w.heap.size + 1, 0, none⟩ = some (.int .i64 x.ni)) w') := fun w' hw => ⟨(C.below hw).load hC, (N.below hw).load hN, (N.below hw).cell hN0⟩
  go_cut [11, 12] (fun s11 s12 wx => ∃ (j l u : Nat) (R : Array Value), s11 = .pointer (some ⟨j, 0, none⟩) ∧ s12 = .int .i64 0 ∧ Bo wx j R ∧ WkO wx l u R y x ct p d ∧ v0.heap.size ≤ l ∧ v0.heap.size ≤ j ∧ u ≤ wx.heap.size ∧ j < wx.heap.size ∧ l ≤ u ∧ (j < l ∨ u ≤ j) ∧ Below v0.heap.size v0 wx)
  case first => as_aux_lemma =>
    refine wp_region_held_drew (S := (fun w' => (loadCells ⟨w.heap.size, 0, none⟩ 11).run Tryz.prog w' = .ok AC w' ∧ (loadCells ⟨w.heap.size + 1, 0, none⟩ 16).run Tryz.prog w' = .ok AN w' ∧ w'.cell? ⟨w.heap.size + 1, 0, none⟩ = some (.int .i64 x.ni))) (by kernel_rfl) ?_ (fun hHeld => ?_)
    · first | exact SK.out _ XB | exact SK.out _ (Below.drew (Below.refl _ _)) | exact SK.out _ XF
    have XB : Below v0.heap.size v0 v0.drew := Below.drew (Below.refl _ _)
    generalize v0.drew = vx at *
    refine zTk 0 ?_
    (try simp only [Act.put, zSb, zS0, zS1])
    refine zTk 1 ?_
    (try simp only [Act.put, zSb, zS0, zS1])
    refine zTk 2 ?_
    (try simp only [Act.put, zSb, zS0, zS1])
    refine zTk 3 ?_
    (try simp only [Act.put, zSb, zS0, zS1])
    refine wpAnyH_ready (rs := [4, 15]) (by kernel_rfl) (by simp) ?_
    refine (AllReadyH.cons (by rw [List.getElem?_toArray]; rfl) (fun K hK => ?_) (AllReadyH.cons (by rw [List.getElem?_toArray]; rfl) (fun K hK => ?_) AllReadyH.nil))
    · go_simp
      refine (CIV vx).mono ?_; rintro ee w9 ⟨rfl, rfl⟩; rw [hnd]
      (try go_wp2_with fail)
      refine hK.out _ _ ?_ (fun hHeld => ?_)
      · first | exact SK.out _ XB | exact SK.out _ (Below.drew (Below.refl _ _)) | exact SK.out _ XF
      clear hK K
      (try simp only [Act.put, zSb, zS0, zS1])
      refine zTk 5 ?_
      (try simp only [Act.put, zSb, zS0, zS1])
      refine zTk 6 ?_
      (try simp only [Act.put, zSb, zS0, zS1])
      refine zTk 7 ?_
      (try simp only [Act.put, zSb, zS0, zS1])
      refine zTk 8 ?_
      (try simp only [Act.put, zSb, zS0, zS1])
      refine zTk 9 ?_
      (try simp only [Act.put, zSb, zS0, zS1])
      refine zTk 10 ?_
      (try simp only [Act.put, zSb, zS0, zS1])
      refine wpAnyH_ready (rs := [11, 15]) (by kernel_rfl) (by simp) ?_
      refine (AllReadyH.cons (by rw [List.getElem?_toArray]; rfl) (fun K hK => ?_) (AllReadyH.cons (by rw [List.getElem?_toArray]; rfl) (fun K hK => ?_) AllReadyH.nil))
      · go_simp
        (try rw [hne]); refine (CW vx (B.trans (XB.mono B.size))).mono ?_; rintro ee vs ⟨RW, rfl, OW, hbl⟩; (have hl0 : v0.heap.size ≤ vx.heap.size := XB.size); (have hlu : vx.heap.size ≤ vs.heap.size := hbl.size); (replace XB := XB.trans (hbl.mono XB.size)); (clear hbl)
        (try go_wp2_with fail)
        refine hK.out _ _ ?_ (fun hHeld => ?_)
        · first | exact SK.out _ XB | exact SK.out _ (Below.drew (Below.refl _ _)) | exact SK.out _ XF
        clear hK K
        (try simp only [Act.put, zSb, zS0, zS1])
        refine zTk 12 ?_
        (try simp only [Act.put, zSb, zS0, zS1])
        refine zTk 13 ?_
        (try simp only [Act.put, zSb, zS0, zS1])
        refine zTk 14 ?_
        (try simp only [Act.put, zSb, zS0, zS1])
        refine wpAnyH_ready (rs := [15]) (by kernel_rfl) (by simp) ?_
        refine (AllReadyH.cons (by rw [List.getElem?_toArray]; rfl) (fun K hK => ?_) AllReadyH.nil)
        go_simp
        (have Z := Bo.new vs (#[.int .i64 0, .int .i64 0, .slice none 0 0, .bool false, .int .i64 0, .int .i64 0, .int .i64 0, .int .i64 0, .int .i64 0, .int .i64 0, .int .i64 0, .int .i64 0, .int .i64 0, .int .i64 0, .int .i64 0, .slice none 0 0, .int .i64 0, .int .i64 0, .int .i64 0, .int .i64 0, .int .i64 0, .bool false, .int .i64 0, .int .i64 0, .int .i64 0, .slice none 0 0, .slice none 0 0, .int .i64 0]) 103); (have NL := Below.nw vs (.cells (#[.int .i64 0, .int .i64 0, .slice none 0 0, .bool false, .int .i64 0, .int .i64 0, .int .i64 0, .int .i64 0, .int .i64 0, .int .i64 0, .int .i64 0, .int .i64 0, .int .i64 0, .int .i64 0, .int .i64 0, .slice none 0 0, .int .i64 0, .int .i64 0, .int .i64 0, .int .i64 0, .int .i64 0, .bool false, .int .i64 0, .int .i64 0, .int .i64 0, .slice none 0 0, .slice none 0 0, .int .i64 0]) 103)); (have hzv : v0.heap.size ≤ vs.heap.size := XB.size); (replace XB := XB.trans (NL.mono XB.size)); (replace OW := OW.below NL); (clear NL); (generalize vs.alloc (.cells (#[.int .i64 0, .int .i64 0, .slice none 0 0, .bool false, .int .i64 0, .int .i64 0, .int .i64 0, .int .i64 0, .int .i64 0, .int .i64 0, .int .i64 0, .int .i64 0, .int .i64 0, .int .i64 0, .int .i64 0, .slice none 0 0, .int .i64 0, .int .i64 0, .int .i64 0, .int .i64 0, .int .i64 0, .bool false, .int .i64 0, .int .i64 0, .int .i64 0, .slice none 0 0, .slice none 0 0, .int .i64 0]) 103) = vy at *); (generalize vs.heap.size = jz at *); (have hRW := OW.size); (have hst := Bo.store (P := Tryz.prog) (b := 0) RW.toList 0 0 Z rfl (by simp [hRW]) OW.one); (have OF := OW.btw (putA_btw RW.toList vy 0 jz) (.inl (Nat.le_refl _))); (have XF := putA_below (k := jz) RW.toList v0 vy 0 XB hzv); (have ZF := Z.putW (U := RW) hRW); (have hsz := putA_size jz RW.toList vy 0); (generalize putA vy jz 0 RW.toList = vf at *)
        refine hK.out _ _ ?_ (fun hHeld => ?_)
        · first | exact SK.out _ XB | exact SK.out _ (Below.drew (Below.refl _ _)) | exact SK.out _ XF
        clear hK K
        (try simp only [Act.put, zSb, zS0, zS1])
        refine wpAnyH_ready (rs := [16]) (by kernel_rfl) (by simp) ?_
        refine (AllReadyH.cons (by rw [List.getElem?_toArray]; rfl) (fun K hK => ?_) AllReadyH.nil)
        go_simp
        refine hK.out _ _ ?_ (fun hHeld => ?_)
        · first | exact SK.out _ XB | exact SK.out _ (Below.drew (Below.refl _ _)) | exact SK.out _ XF
        clear hK K
        (try simp only [Act.put, zSb, zS0, zS1])
        refine zTk 17 ?_
        (try simp only [Act.put, zSb, zS0, zS1])
        refine wpAnyH_done (by kernel_rfl) ?_ _
        go_wp2_with (rw [hst])
        go_meet
        case rel => exact ⟨jz, _, _, RW, rfl, rfl, ZF, OF, hl0, hzv, by first | exact Nat.le_of_eq hsz.symm | (rw [hsz]; exact Nat.le_of_lt Z.1), by rw [hsz]; exact Z.1, hlu, .inr (Nat.le_refl _), XF⟩
      · go_simp
        (have Z := Bo.new vx (#[.int .i64 0, .int .i64 0, .slice none 0 0, .bool false, .int .i64 0, .int .i64 0, .int .i64 0, .int .i64 0, .int .i64 0, .int .i64 0, .int .i64 0, .int .i64 0, .int .i64 0, .int .i64 0, .int .i64 0, .slice none 0 0, .int .i64 0, .int .i64 0, .int .i64 0, .int .i64 0, .int .i64 0, .bool false, .int .i64 0, .int .i64 0, .int .i64 0, .slice none 0 0, .slice none 0 0, .int .i64 0]) 103); (have NL := Below.nw vx (.cells (#[.int .i64 0, .int .i64 0, .slice none 0 0, .bool false, .int .i64 0, .int .i64 0, .int .i64 0, .int .i64 0, .int .i64 0, .int .i64 0, .int .i64 0, .int .i64 0, .int .i64 0, .int .i64 0, .int .i64 0, .slice none 0 0, .int .i64 0, .int .i64 0, .int .i64 0, .int .i64 0, .int .i64 0, .bool false, .int .i64 0, .int .i64 0, .int .i64 0, .slice none 0 0, .slice none 0 0, .int .i64 0]) 103)); (have hzv : v0.heap.size ≤ vx.heap.size := XB.size); (replace XB := XB.trans (NL.mono XB.size)); (clear NL); (generalize vx.alloc (.cells (#[.int .i64 0, .int .i64 0, .slice none 0 0, .bool false, .int .i64 0, .int .i64 0, .int .i64 0, .int .i64 0, .int .i64 0, .int .i64 0, .int .i64 0, .int .i64 0, .int .i64 0, .int .i64 0, .int .i64 0, .slice none 0 0, .int .i64 0, .int .i64 0, .int .i64 0, .int .i64 0, .int .i64 0, .bool false, .int .i64 0, .int .i64 0, .int .i64 0, .slice none 0 0, .slice none 0 0, .int .i64 0]) 103) = vy at *); (generalize vx.heap.size = jz at *)
        refine hK.out _ _ ?_ (fun hHeld => ?_)
        · first | exact SK.out _ XB | exact SK.out _ (Below.drew (Below.refl _ _)) | exact SK.out _ XF
        clear hK K
        (try simp only [Act.put, zSb, zS0, zS1])
        refine wpAnyH_ready (rs := [11]) (by kernel_rfl) (by simp) ?_
        refine (AllReadyH.cons (by rw [List.getElem?_toArray]; rfl) (fun K hK => ?_) AllReadyH.nil)
        go_simp
        (try rw [hne]); refine (CW vy (B.trans (XB.mono B.size))).mono ?_; rintro ee vs ⟨RW, rfl, OW, hbl⟩; (have hl0 : v0.heap.size ≤ vy.heap.size := XB.size); (have hlu : vy.heap.size ≤ vs.heap.size := hbl.size); (replace XB := XB.trans (hbl.mono XB.size)); (have hjl : jz < vy.heap.size := Z.1); (replace Z := Z.below hbl); (clear hbl); (have hRW := OW.size); (have hst := Bo.store (P := Tryz.prog) (b := 0) RW.toList 0 0 Z rfl (by simp [hRW]) OW.one); (have OF := OW.btw (putA_btw RW.toList vs 0 jz) (.inr hjl)); (have XF := putA_below (k := jz) RW.toList v0 vs 0 XB hzv); (have ZF := Z.putW (U := RW) hRW); (have hsz := putA_size jz RW.toList vs 0); (generalize putA vs jz 0 RW.toList = vf at *)
        (try go_wp2_with fail)
        refine hK.out _ _ ?_ (fun hHeld => ?_)
        · first | exact SK.out _ XB | exact SK.out _ (Below.drew (Below.refl _ _)) | exact SK.out _ XF
        clear hK K
        (try simp only [Act.put, zSb, zS0, zS1])
        refine zTk 12 ?_
        (try simp only [Act.put, zSb, zS0, zS1])
        refine zTk 13 ?_
        (try simp only [Act.put, zSb, zS0, zS1])
        refine zTk 14 ?_
        (try simp only [Act.put, zSb, zS0, zS1])
        refine wpAnyH_ready (rs := [16]) (by kernel_rfl) (by simp) ?_
        refine (AllReadyH.cons (by rw [List.getElem?_toArray]; rfl) (fun K hK => ?_) AllReadyH.nil)
        go_simp
        refine hK.out _ _ ?_ (fun hHeld => ?_)
        · first | exact SK.out _ XB | exact SK.out _ (Below.drew (Below.refl _ _)) | exact SK.out _ XF
        clear hK K
        (try simp only [Act.put, zSb, zS0, zS1])
        refine zTk 17 ?_
        (try simp only [Act.put, zSb, zS0, zS1])
        refine wpAnyH_done (by kernel_rfl) ?_ _
        go_wp2_with (rw [hst])
        go_meet
        case rel => exact ⟨jz, _, _, RW, rfl, rfl, ZF, OF, hl0, hzv, by first | exact Nat.le_of_eq hsz.symm | (rw [hsz]; exact Nat.le_of_lt Z.1), by rw [hsz]; exact Z.1, hlu, .inl hjl, XF⟩
    · go_simp
      (have Z := Bo.new vx (#[.int .i64 0, .int .i64 0, .slice none 0 0, .bool false, .int .i64 0, .int .i64 0, .int .i64 0, .int .i64 0, .int .i64 0, .int .i64 0, .int .i64 0, .int .i64 0, .int .i64 0, .int .i64 0, .int .i64 0, .slice none 0 0, .int .i64 0, .int .i64 0, .int .i64 0, .int .i64 0, .int .i64 0, .bool false, .int .i64 0, .int .i64 0, .int .i64 0, .slice none 0 0, .slice none 0 0, .int .i64 0]) 103); (have NL := Below.nw vx (.cells (#[.int .i64 0, .int .i64 0, .slice none 0 0, .bool false, .int .i64 0, .int .i64 0, .int .i64 0, .int .i64 0, .int .i64 0, .int .i64 0, .int .i64 0, .int .i64 0, .int .i64 0, .int .i64 0, .int .i64 0, .slice none 0 0, .int .i64 0, .int .i64 0, .int .i64 0, .int .i64 0, .int .i64 0, .bool false, .int .i64 0, .int .i64 0, .int .i64 0, .slice none 0 0, .slice none 0 0, .int .i64 0]) 103)); (have hzv : v0.heap.size ≤ vx.heap.size := XB.size); (replace XB := XB.trans (NL.mono XB.size)); (clear NL); (generalize vx.alloc (.cells (#[.int .i64 0, .int .i64 0, .slice none 0 0, .bool false, .int .i64 0, .int .i64 0, .int .i64 0, .int .i64 0, .int .i64 0, .int .i64 0, .int .i64 0, .int .i64 0, .int .i64 0, .int .i64 0, .int .i64 0, .slice none 0 0, .int .i64 0, .int .i64 0, .int .i64 0, .int .i64 0, .int .i64 0, .bool false, .int .i64 0, .int .i64 0, .int .i64 0, .slice none 0 0, .slice none 0 0, .int .i64 0]) 103) = vy at *); (generalize vx.heap.size = jz at *)
      refine hK.out _ _ ?_ (fun hHeld => ?_)
      · first | exact SK.out _ XB | exact SK.out _ (Below.drew (Below.refl _ _)) | exact SK.out _ XF
      clear hK K
      (try simp only [Act.put, zSb, zS0, zS1])
      refine wpAnyH_ready (rs := [4]) (by kernel_rfl) (by simp) ?_
      refine (AllReadyH.cons (by rw [List.getElem?_toArray]; rfl) (fun K hK => ?_) AllReadyH.nil)
      go_simp
      refine (CIV vy).mono ?_; rintro ee w9 ⟨rfl, rfl⟩; rw [hnd]
      (try go_wp2_with fail)
      refine hK.out _ _ ?_ (fun hHeld => ?_)
      · first | exact SK.out _ XB | exact SK.out _ (Below.drew (Below.refl _ _)) | exact SK.out _ XF
      clear hK K
      (try simp only [Act.put, zSb, zS0, zS1])
      refine zTk 5 ?_
      (try simp only [Act.put, zSb, zS0, zS1])
      refine zTk 6 ?_
      (try simp only [Act.put, zSb, zS0, zS1])
      refine zTk 7 ?_
      (try simp only [Act.put, zSb, zS0, zS1])
      refine zTk 8 ?_
      (try simp only [Act.put, zSb, zS0, zS1])
      refine zTk 9 ?_
      (try simp only [Act.put, zSb, zS0, zS1])
      refine zTk 10 ?_
      (try simp only [Act.put, zSb, zS0, zS1])
      refine wpAnyH_ready (rs := [11]) (by kernel_rfl) (by simp) ?_
      refine (AllReadyH.cons (by rw [List.getElem?_toArray]; rfl) (fun K hK => ?_) AllReadyH.nil)
      go_simp
      (try rw [hne]); refine (CW vy (B.trans (XB.mono B.size))).mono ?_; rintro ee vs ⟨RW, rfl, OW, hbl⟩; (have hl0 : v0.heap.size ≤ vy.heap.size := XB.size); (have hlu : vy.heap.size ≤ vs.heap.size := hbl.size); (replace XB := XB.trans (hbl.mono XB.size)); (have hjl : jz < vy.heap.size := Z.1); (replace Z := Z.below hbl); (clear hbl); (have hRW := OW.size); (have hst := Bo.store (P := Tryz.prog) (b := 0) RW.toList 0 0 Z rfl (by simp [hRW]) OW.one); (have OF := OW.btw (putA_btw RW.toList vs 0 jz) (.inr hjl)); (have XF := putA_below (k := jz) RW.toList v0 vs 0 XB hzv); (have ZF := Z.putW (U := RW) hRW); (have hsz := putA_size jz RW.toList vs 0); (generalize putA vs jz 0 RW.toList = vf at *)
      (try go_wp2_with fail)
      refine hK.out _ _ ?_ (fun hHeld => ?_)
      · first | exact SK.out _ XB | exact SK.out _ (Below.drew (Below.refl _ _)) | exact SK.out _ XF
      clear hK K
      (try simp only [Act.put, zSb, zS0, zS1])
      refine zTk 12 ?_
      (try simp only [Act.put, zSb, zS0, zS1])
      refine zTk 13 ?_
      (try simp only [Act.put, zSb, zS0, zS1])
      refine zTk 14 ?_
      (try simp only [Act.put, zSb, zS0, zS1])
      refine wpAnyH_ready (rs := [16]) (by kernel_rfl) (by simp) ?_
      refine (AllReadyH.cons (by rw [List.getElem?_toArray]; rfl) (fun K hK => ?_) AllReadyH.nil)
      go_simp
      refine hK.out _ _ ?_ (fun hHeld => ?_)
      · first | exact SK.out _ XB | exact SK.out _ (Below.drew (Below.refl _ _)) | exact SK.out _ XF
      clear hK K
      (try simp only [Act.put, zSb, zS0, zS1])
      refine zTk 17 ?_
      (try simp only [Act.put, zSb, zS0, zS1])
      refine wpAnyH_done (by kernel_rfl) ?_ _
      go_wp2_with (rw [hst])
      go_meet
      case rel => exact ⟨jz, _, _, RW, rfl, rfl, ZF, OF, hl0, hzv, by first | exact Nat.le_of_eq hsz.symm | (rw [hsz]; exact Nat.le_of_lt Z.1), by rw [hsz]; exact Z.1, hlu, .inl hjl, XF⟩
  case rest =>
  have gKC : w.heap.size < v0.heap.size := C.1
  have gKN : w.heap.size + 1 < v0.heap.size := N.1
  have gKR : w.heap.size + 2 < v0.heap.size := R.1
  have gKM : w.heap.size + 3 < v0.heap.size := M.1
  obtain ⟨kKW, lk, uk, U, rfl, rfl, KW, OU, hlk1, hjK, huk, hjk2, hlk3, hlk4, hb⟩ := hcut
  clear SK CW CIV
  generalize wc = v1 at *
  have zz : v0.heap.size ≤ v1.heap.size := hb.size
  replace B := B.trans (hb.mono B.size)
  replace C := C.below hb
  replace N := N.below hb
  replace R := R.below hb
  replace M := M.below hb
  clear hb
  obtain ⟨aa, ac, pa, pc, ha, hc, rfl, hbn, P1, P2, P3⟩ := OU
  have gMbC : w.heap.size < v1.heap.size := C.1
  have gMbN : w.heap.size + 1 < v1.heap.size := N.1
  have gMbR : w.heap.size + 2 < v1.heap.size := R.1
  have gMbM : w.heap.size + 3 < v1.heap.size := M.1
  have gMbKW : kKW < v1.heap.size := KW.1
  have gMbP1 : uk ≤ v1.heap.size := by omega
  have gMbP2 : uk ≤ v1.heap.size := by omega
  have gMbP3 : uk ≤ v1.heap.size := by omega
  have hb := Below.nw v1 (.cells #[.int .i64 0, .int .i64 0, .int .i64 0, .int .i64 0, .int .i64 0, .int .i64 0, .int .i64 0, .string ⟨#[]⟩] 59)
  have Mb := Bo.new v1 #[.int .i64 0, .int .i64 0, .int .i64 0, .int .i64 0, .int .i64 0, .int .i64 0, .int .i64 0, .string ⟨#[]⟩] 59
  go_upto_region 3 with fail
  replace B := B.trans (hb.mono B.size)
  replace C := C.below hb
  replace N := N.below hb
  replace R := R.below hb
  replace M := M.below hb
  replace KW := KW.below hb
  replace P1 := P1.below hb
  replace P2 := P2.below hb
  replace P3 := P3.below hb
  clear hb
  generalize v1.alloc (.cells #[.int .i64 0, .int .i64 0, .int .i64 0, .int .i64 0, .int .i64 0, .int .i64 0, .int .i64 0, .string ⟨#[]⟩] 59) = v2 at *
  generalize v1.heap.size = kMb at *
  have zv2 : kMb ≤ v2.heap.size := Nat.le_of_lt Mb.1
  (try rw [hst0])
  have hmx : x.na ≤ maxLen := Nat.le_trans hbn.1 (by decide)
  go_wp2_with fail
  refine (wkAskspent y x ct p d aa ac pa pc ha hc kKW lk uk xt v2 hmx (by omega) (by omega) P1 hwa htb hnd htm hus KW).mono ?_
  rintro e v3 ⟨ta, tc, rfl, N1, RT, hb⟩
  have hwv : w.heap.size ≤ v2.heap.size := B.size
  have hqv : kMb < v2.heap.size := Mb.1
  replace B := B.trans ((hb.belowL (Nat.le_of_lt KW.1)).mono (show w.heap.size ≤ kKW by omega))
  clear P1
  replace C := C.btw hb (by omega)
  replace N := N.btw hb (by omega)
  replace R := R.btw hb (by omega)
  replace M := M.btw hb (by omega)
  replace Mb := Mb.btw hb (by omega)
  replace P2 := P2.btw hb (by omega)
  replace P3 := P3.btw hb (by omega)
  have zv3 := hb.2.2.2.1
  clear hb KW
  have KW := N1
  clear N1
  have qC : w.heap.size + 3 < v2.heap.size := by omega
  have hst := Bo.store (P := Tryz.prog) (b := 0) ([.int .i64 0, .int .i64 0, .int .i64 0, .int .i64 0, .int .i64 0, .int .i64 0, .int .i64 0, .string ⟨#[]⟩]) 0 0 Mb rfl (show 0 + 8 ≤ 8 by decide) (List.forall_mem_cons.2 ⟨rfl, (List.forall_mem_cons.2 ⟨rfl, (List.forall_mem_cons.2 ⟨rfl, (List.forall_mem_cons.2 ⟨rfl, (List.forall_mem_cons.2 ⟨rfl, (List.forall_mem_cons.2 ⟨rfl, (List.forall_mem_cons.2 ⟨rfl, (List.forall_mem_cons.2 ⟨rfl, fun _ h => nomatch h⟩)⟩)⟩)⟩)⟩)⟩)⟩)⟩)
  have hb : Btw (kMb) (kMb + 1) v3 _ := putA_btw ([.int .i64 0, .int .i64 0, .int .i64 0, .int .i64 0, .int .i64 0, .int .i64 0, .int .i64 0, .string ⟨#[]⟩]) v3 0 (kMb)
  have B1 := putA_below (k := kMb) ([.int .i64 0, .int .i64 0, .int .i64 0, .int .i64 0, .int .i64 0, .int .i64 0, .int .i64 0, .string ⟨#[]⟩]) w v3 0 B (by omega)
  have N1 : Bo (putA v3 (kMb) 0 ([.int .i64 0, .int .i64 0, .int .i64 0, .int .i64 0, .int .i64 0, .int .i64 0, .int .i64 0, .string ⟨#[]⟩])) (kMb) (#[.int .i64 0, .int .i64 0, .int .i64 0, .int .i64 0, .int .i64 0, .int .i64 0, .int .i64 0, .string ⟨#[]⟩]) := Mb.putW (U := #[.int .i64 0, .int .i64 0, .int .i64 0, .int .i64 0, .int .i64 0, .int .i64 0, .int .i64 0, .string ⟨#[]⟩]) rfl
  go_upto_region 5 with (rw [hst])
  clear hst  Mb B
  replace C := C.btw hb (by omega)
  replace N := N.btw hb (by omega)
  replace R := R.btw hb (by omega)
  replace M := M.btw hb (by omega)
  replace KW := KW.btw hb (by omega)
  replace P2 := P2.btw hb (by omega)
  replace P3 := P3.btw hb (by omega)
  replace RT := RT.btw hb (by omega)
  have zv4 := hb.2.2.2.1
  clear hb
  generalize putA v3 (kMb) 0 ([.int .i64 0, .int .i64 0, .int .i64 0, .int .i64 0, .int .i64 0, .int .i64 0, .int .i64 0, .string ⟨#[]⟩]) = v4 at *
  have B := B1
  have Mb := N1
  clear B1 N1
  go_upto_region 5 with fail
  refine wp_region_held_drew (S := (fun w' => (loadCells ⟨kMb, 0, none⟩ 8).run Tryz.prog w' = .ok #[.int .i64 0, .int .i64 0, .int .i64 0, .int .i64 0, .int .i64 0, .int .i64 0, .int .i64 0, .string ⟨#[]⟩] w')) (by kernel_rfl) ?_ (fun hHeld => ?_)
  · first | exact hS3 | exact hS2 | exact hS1 | exact hS0 | exact (Bo.drew Mb).load (P := Tryz.prog) (show (#[.int .i64 0, .int .i64 0, .int .i64 0, .int .i64 0, .int .i64 0, .int .i64 0, .int .i64 0, .string ⟨#[]⟩] : Array Value).size = 8 from rfl)
  have hb : Below v4.heap.size v4 v4.drew := Below.drew (Below.refl _ _)
  replace B := B.trans (hb.mono B.size)
  replace C := C.below hb
  replace N := N.below hb
  replace R := R.below hb
  replace M := M.below hb
  replace KW := KW.below hb
  replace Mb := Mb.below hb
  replace P2 := P2.below hb
  replace P3 := P3.below hb
  replace RT := RT.below hb
  clear hb
  generalize v4.drew = vx at *
  have hS0 : (fun w' => (loadCells ⟨kMb, 0, none⟩ 8).run Tryz.prog w' = .ok #[.int .i64 0, .int .i64 0, .int .i64 0, .int .i64 0, .int .i64 0, .int .i64 0, .int .i64 0, .string ⟨#[]⟩] w') vx := Mb.load (P := Tryz.prog) (show (#[.int .i64 0, .int .i64 0, .int .i64 0, .int .i64 0, .int .i64 0, .int .i64 0, .int .i64 0, .string ⟨#[]⟩] : Array Value).size = 8 from rfl)
  have hU : (ndV x ta tc pa pc ha hc).size = 16 := rfl
  refine zTk 1 ?_
  (try simp only [Act.put, zSb, zS0, zS1])
  refine zTk 2 ?_
  (try simp only [Act.put, zSb, zS0, zS1])
  refine wpAnyH_ready (rs := [0]) (by kernel_rfl) (by simp) ?_
  refine (AllReadyH.cons (by rw [List.getElem?_toArray]; rfl) (fun K hK => ?_) AllReadyH.nil)
  go_simp
  refine (wkNode y x ct p d ta tc pa pc ha hc kKW vx KW).mono ?_; rintro ee vs ⟨rfl, hb⟩; (replace B := B.trans (hb.mono B.size)); (replace C := C.below hb); (replace N := N.below hb); (replace R := R.below hb); (replace M := M.below hb); (replace KW := KW.below hb); (replace Mb := Mb.below hb); (replace P2 := P2.below hb); (replace P3 := P3.below hb); (replace RT := RT.below hb); (have zz0 := hb.size); (clear hb); (have hS1 : (fun w' => (loadCells ⟨kMb, 0, none⟩ 8).run Tryz.prog w' = .ok #[.int .i64 0, .int .i64 0, .int .i64 0, .int .i64 0, .int .i64 0, .int .i64 0, .int .i64 0, .string ⟨#[]⟩] w') vs := Mb.load (P := Tryz.prog) (show (#[.int .i64 0, .int .i64 0, .int .i64 0, .int .i64 0, .int .i64 0, .int .i64 0, .int .i64 0, .string ⟨#[]⟩] : Array Value).size = 8 from rfl)); (have hst := Bo.store (P := Tryz.prog) (b := 0) (ndV x ta tc pa pc ha hc).toList 0 0 R rfl (by simp [hU]) (ndV_one _ _ _ _ _ _ _))
  (try go_wp2_with fail)
  refine hK.out _ _ ?_ (fun hHeld => ?_)
  · first | exact hS3 | exact hS2 | exact hS1 | exact hS0 | exact (Bo.drew Mb).load (P := Tryz.prog) (show (#[.int .i64 0, .int .i64 0, .int .i64 0, .int .i64 0, .int .i64 0, .int .i64 0, .int .i64 0, .string ⟨#[]⟩] : Array Value).size = 8 from rfl)
  clear hK K
  (try simp only [Act.put, zSb, zS0, zS1])
  refine wpAnyH_ready (rs := [3]) (by kernel_rfl) (by simp) ?_
  refine (AllReadyH.cons (by rw [List.getElem?_toArray]; rfl) (fun K hK => ?_) AllReadyH.nil)
  go_simp
  (have hbt := putA_btw (ndV x ta tc pa pc ha hc).toList vs 0 (w.heap.size + 2)); (replace B := putA_below (k := w.heap.size + 2) (ndV x ta tc pa pc ha hc).toList w vs 0 B (by omega)); (replace R := R.putW (U := (ndV x ta tc pa pc ha hc)) hU); (replace M := M.btw hbt (by omega)); (replace P2 := P2.btw hbt (by omega)); (replace P3 := P3.btw hbt (by omega)); (replace RT := RT.btw hbt (by omega)); (replace Mb := Mb.btw hbt (by omega)); (have zz1 := hbt.2.2.2.1); (clear hst hbt); (generalize putA vs (w.heap.size + 2) 0 (ndV x ta tc pa pc ha hc).toList = vy at *); (have hS2 : (fun w' => (loadCells ⟨kMb, 0, none⟩ 8).run Tryz.prog w' = .ok #[.int .i64 0, .int .i64 0, .int .i64 0, .int .i64 0, .int .i64 0, .int .i64 0, .int .i64 0, .string ⟨#[]⟩] w') vy := Mb.load (P := Tryz.prog) (show (#[.int .i64 0, .int .i64 0, .int .i64 0, .int .i64 0, .int .i64 0, .int .i64 0, .int .i64 0, .string ⟨#[]⟩] : Array Value).size = 8 from rfl)); (have hst := Bo.store (P := Tryz.prog) (b := 0) ([.int .i64 0, .int .i64 0, .int .i64 0, .int .i64 0, .int .i64 0, .int .i64 0, .int .i64 0, .string ⟨#[]⟩]) 0 0 M rfl (show 0 + 8 ≤ 8 by decide) (List.forall_mem_cons.2 ⟨rfl, (List.forall_mem_cons.2 ⟨rfl, (List.forall_mem_cons.2 ⟨rfl, (List.forall_mem_cons.2 ⟨rfl, (List.forall_mem_cons.2 ⟨rfl, (List.forall_mem_cons.2 ⟨rfl, (List.forall_mem_cons.2 ⟨rfl, (List.forall_mem_cons.2 ⟨rfl, fun _ h => nomatch h⟩)⟩)⟩)⟩)⟩)⟩)⟩)⟩))
  refine hK.out _ _ ?_ (fun hHeld => ?_)
  · first | exact hS3 | exact hS2 | exact hS1 | exact hS0 | exact (Bo.drew Mb).load (P := Tryz.prog) (show (#[.int .i64 0, .int .i64 0, .int .i64 0, .int .i64 0, .int .i64 0, .int .i64 0, .int .i64 0, .string ⟨#[]⟩] : Array Value).size = 8 from rfl)
  clear hK K
  (try simp only [Act.put, zSb, zS0, zS1])
  refine wpAnyH_ready (rs := [4]) (by kernel_rfl) (by simp) ?_
  refine (AllReadyH.cons (by rw [List.getElem?_toArray]; rfl) (fun K hK => ?_) AllReadyH.nil)
  go_simp
  (have hbt := putA_btw ([.int .i64 0, .int .i64 0, .int .i64 0, .int .i64 0, .int .i64 0, .int .i64 0, .int .i64 0, .string ⟨#[]⟩]) vy 0 (w.heap.size + 3)); (replace B := putA_below (k := w.heap.size + 3) ([.int .i64 0, .int .i64 0, .int .i64 0, .int .i64 0, .int .i64 0, .int .i64 0, .int .i64 0, .string ⟨#[]⟩]) w vy 0 B (by omega)); (have M9 : Bo (putA vy (w.heap.size + 3) 0 ([.int .i64 0, .int .i64 0, .int .i64 0, .int .i64 0, .int .i64 0, .int .i64 0, .int .i64 0, .string ⟨#[]⟩])) (w.heap.size + 3) (#[.int .i64 0, .int .i64 0, .int .i64 0, .int .i64 0, .int .i64 0, .int .i64 0, .int .i64 0, .string ⟨#[]⟩]) := M.putW (U := #[.int .i64 0, .int .i64 0, .int .i64 0, .int .i64 0, .int .i64 0, .int .i64 0, .int .i64 0, .string ⟨#[]⟩]) rfl); (replace R := R.btw hbt (by omega)); (replace P2 := P2.btw hbt (by omega)); (replace P3 := P3.btw hbt (by omega)); (replace RT := RT.btw hbt (by omega)); (replace Mb := Mb.btw hbt (by omega)); (have zz2 := hbt.2.2.2.1); (clear hst hbt M); (generalize putA vy (w.heap.size + 3) 0 ([.int .i64 0, .int .i64 0, .int .i64 0, .int .i64 0, .int .i64 0, .int .i64 0, .int .i64 0, .string ⟨#[]⟩]) = vz at *); (have hS3 : (fun w' => (loadCells ⟨kMb, 0, none⟩ 8).run Tryz.prog w' = .ok #[.int .i64 0, .int .i64 0, .int .i64 0, .int .i64 0, .int .i64 0, .int .i64 0, .int .i64 0, .string ⟨#[]⟩] w') vz := Mb.load (P := Tryz.prog) (show (#[.int .i64 0, .int .i64 0, .int .i64 0, .int .i64 0, .int .i64 0, .int .i64 0, .int .i64 0, .string ⟨#[]⟩] : Array Value).size = 8 from rfl))
  refine hK.out _ _ ?_ (fun hHeld => ?_)
  · first | exact hS3 | exact hS2 | exact hS1 | exact hS0 | exact (Bo.drew Mb).load (P := Tryz.prog) (show (#[.int .i64 0, .int .i64 0, .int .i64 0, .int .i64 0, .int .i64 0, .int .i64 0, .int .i64 0, .string ⟨#[]⟩] : Array Value).size = 8 from rfl)
  clear hK K
  (try simp only [Act.put, zSb, zS0, zS1])
  refine zTk 5 ?_
  (try simp only [Act.put, zSb, zS0, zS1])
  refine wpAnyH_done (by kernel_rfl) ?_ _
  go_wp2_with fail
  have hL0 := R.load (P := Tryz.prog) hU
  have hL1 := M9.load (P := Tryz.prog) (show (#[.int .i64 0, .int .i64 0, .int .i64 0, .int .i64 0, .int .i64 0, .int .i64 0, .int .i64 0, .string ⟨#[]⟩] : Array Value).size = 8 from rfl)
  exact bodyPost_ret (v := .tuple #[.agg (ndV x ta tc pa pc ha hc), .agg #[.int .i64 0, .int .i64 0, .int .i64 0, .int .i64 0, .int .i64 0, .int .i64 0, .int .i64 0, .string ⟨#[]⟩], .int .i64 4]) (by simp [results, Tryz.results11, go_sem]; rw [hL0]; simp only [Result.andThen_ok]; rw [show w.heap.size + 1 + 1 + 1 = w.heap.size + 3 from rfl, hL1]; rfl) rfl ⟨_, rfl, ⟨ta, tc, pa, pc, ha, hc, rfl, ⟨hbn.1, hbn.2.1, hbn.2.2⟩, RT.low (by omega), P2.low (by omega), P3.low (by omega)⟩, B⟩
attribute [-go_sem] loadCells storeCells in
set_option maxRecDepth 100000 in
set_option maxHeartbeats 8000000 in
theorem implAskfull (AC AN : Array Value) (y : CfX) (x : NdX) (ct xt : Int) (w : World) (HC : CfS w AC y) (HN : NdS w AN x) (hwf : wfX x) (hnd : nodB xt = true) (he : (xt == x.ni) = false) (hst0 : staI y x ct = 0) (hok : okX x = true) (hus : x.us ≠ 1000) (hn16 : x.na = 16) :
    Calls Tryz.prog 11 #[.agg AC, .agg AN, .int .i64 ct, .int .i64 xt] w fun e w' => ∃ R, e = .returned (.tuple #[.agg R, .agg #[.int .i64 ((askX y x ct xt).2.1.1), .int .i64 ((askX y x ct xt).2.1.2.1), .int .i64 ((askX y x ct xt).2.1.2.2.1), .int .i64 ((askX y x ct xt).2.1.2.2.2.1), .int .i64 ((askX y x ct xt).2.1.2.2.2.2.1), .int .i64 ((askX y x ct xt).2.1.2.2.2.2.2.1), .int .i64 ((askX y x ct xt).2.1.2.2.2.2.2.2.1), .string ((askX y x ct xt).2.1.2.2.2.2.2.2.2)], .int .i64 (askX y x ct xt).2.2]) ∧ NdO w' w.heap.size w'.heap.size R (askX y x ct xt).1 ∧ Below w.heap.size w w' := by
  have hft : fitB x xt = true := by unfold fitB; rw [hnd, he]; rfl
  have hub : (x.us == 1000) = false := by simpa using hus
  have hnb : (x.na == 16) = true := by rw [hn16]; rfl
  have hF : askX y x ct xt = (x, zMs, 5) := by unfold askX; simp only [hft, hst0, Int.reduceBEq, hub, hnb]
  rw [hF]
  clear hF
  clear hft hub hnb
  have hne : (xt != x.ni) = true := by rw [bne, he]; rfl
  clear he
  have hs1 : staI y x ct ≠ 1 := by rw [hst0]; decide
  have HN16 : Hid (x.na = 16) := hn16
  clear hn16
  have hn16 := HN16
  have CIV := fun v => isNode_any xt v
  have hN0 : AN[0]? = some (.int .i64 x.ni) := by obtain ⟨_, _, _, _, _, _, e, _⟩ := id HN; rw [e]; rfl
  have htb := ok_tab hok
  have htm := come_tm hs1
  have hwa := hwf
  have hC := HC.size
  have hN := HN.size
  obtain ⟨p, d, hpd, hm, hr⟩ := id HC
  have CW := fun (v : World) (h : Below w.heap.size w v) => workOn_ok AC AN y x ct p d v (HC.below h) (HN.below h) hwf hpd hok hs1
  clear HC HN hwf hm hr hpd
  have A0 := Below.nw w (.cells AC 67)
  have A1 := Below.nw (w.alloc (.cells AC 67)) (.cells AN 57)
  have A2 := Below.nw (((w.alloc (.cells AC 67))).alloc (.cells AN 57)) (.cells #[.int .i64 0, .int .i64 0, .int .i64 0, .int .i64 0, .bool false, .int .i64 0, .int .i64 0, .int .i64 0, .int .i64 0, .int .i64 0, .slice none 0 0, .slice none 0 0, .bool false, .int .i64 0, .slice none 0 0, .int .i64 0] 57)
  have A3 := Below.nw (((((w.alloc (.cells AC 67))).alloc (.cells AN 57))).alloc (.cells #[.int .i64 0, .int .i64 0, .int .i64 0, .int .i64 0, .bool false, .int .i64 0, .int .i64 0, .int .i64 0, .int .i64 0, .int .i64 0, .slice none 0 0, .slice none 0 0, .bool false, .int .i64 0, .slice none 0 0, .int .i64 0] 57)) (.cells #[.int .i64 0, .int .i64 0, .int .i64 0, .int .i64 0, .int .i64 0, .int .i64 0, .int .i64 0, .string ⟨#[]⟩] 59)
  have C := (((Bo.new w AC 67).below A1).below A2).below A3
  have N := ((Bo.new (w.alloc (.cells AC 67)) AN 57).below A2).below A3
  have R := (Bo.new (((w.alloc (.cells AC 67))).alloc (.cells AN 57)) #[.int .i64 0, .int .i64 0, .int .i64 0, .int .i64 0, .bool false, .int .i64 0, .int .i64 0, .int .i64 0, .int .i64 0, .int .i64 0, .slice none 0 0, .slice none 0 0, .bool false, .int .i64 0, .slice none 0 0, .int .i64 0] 57).below A3
  have M := Bo.new (((((w.alloc (.cells AC 67))).alloc (.cells AN 57))).alloc (.cells #[.int .i64 0, .int .i64 0, .int .i64 0, .int .i64 0, .bool false, .int .i64 0, .int .i64 0, .int .i64 0, .int .i64 0, .int .i64 0, .slice none 0 0, .slice none 0 0, .bool false, .int .i64 0, .slice none 0 0, .int .i64 0] 57)) #[.int .i64 0, .int .i64 0, .int .i64 0, .int .i64 0, .int .i64 0, .int .i64 0, .int .i64 0, .string ⟨#[]⟩] 59
  have B := A0
  replace B := B.trans (A1.mono B.size)
  replace B := B.trans (A2.mono B.size)
  replace B := B.trans (A3.mono B.size)
  simp only [World.size_alloc] at N R M
  clear A0 A1 A2 A3
  go_enter Tryz.func11, Tryz.ntmps11
  go_upto_region 1 with fail
  generalize ((((((w.alloc (.cells AC 67))).alloc (.cells AN 57))).alloc (.cells #[.int .i64 0, .int .i64 0, .int .i64 0, .int .i64 0, .bool false, .int .i64 0, .int .i64 0, .int .i64 0, .int .i64 0, .int .i64 0, .slice none 0 0, .slice none 0 0, .bool false, .int .i64 0, .slice none 0 0, .int .i64 0] 57))).alloc (.cells #[.int .i64 0, .int .i64 0, .int .i64 0, .int .i64 0, .int .i64 0, .int .i64 0, .int .i64 0, .string ⟨#[]⟩] 59) = v0 at *
  have SK : Hid (∀ w', Below v0.heap.size v0 w' → (fun w' => (loadCells ⟨w.heap.size, 0, none⟩ 11).run Tryz.prog w' = .ok AC w' ∧ (loadCells ⟨w.heap.size + 1, 0, none⟩ 16).run Tryz.prog w' = .ok AN w' ∧ w'.cell? ⟨w.heap.size + 1, 0, none⟩ = some (.int .i64 x.ni)) w') := fun w' hw => ⟨(C.below hw).load hC, (N.below hw).load hN, (N.below hw).cell hN0⟩
  go_cut [11, 12] (fun s11 s12 wx => ∃ (j l u : Nat) (R : Array Value), s11 = .pointer (some ⟨j, 0, none⟩) ∧ s12 = .int .i64 0 ∧ Bo wx j R ∧ WkO wx l u R y x ct p d ∧ v0.heap.size ≤ l ∧ v0.heap.size ≤ j ∧ u ≤ wx.heap.size ∧ j < wx.heap.size ∧ l ≤ u ∧ (j < l ∨ u ≤ j) ∧ Below v0.heap.size v0 wx)
  case first => as_aux_lemma =>
    refine wp_region_held_drew (S := (fun w' => (loadCells ⟨w.heap.size, 0, none⟩ 11).run Tryz.prog w' = .ok AC w' ∧ (loadCells ⟨w.heap.size + 1, 0, none⟩ 16).run Tryz.prog w' = .ok AN w' ∧ w'.cell? ⟨w.heap.size + 1, 0, none⟩ = some (.int .i64 x.ni))) (by kernel_rfl) ?_ (fun hHeld => ?_)
    · first | exact SK.out _ XB | exact SK.out _ (Below.drew (Below.refl _ _)) | exact SK.out _ XF
    have XB : Below v0.heap.size v0 v0.drew := Below.drew (Below.refl _ _)
    generalize v0.drew = vx at *
    refine zTk 0 ?_
    (try simp only [Act.put, zSb, zS0, zS1])
    refine zTk 1 ?_
    (try simp only [Act.put, zSb, zS0, zS1])
    refine zTk 2 ?_
    (try simp only [Act.put, zSb, zS0, zS1])
    refine zTk 3 ?_
    (try simp only [Act.put, zSb, zS0, zS1])
    refine wpAnyH_ready (rs := [4, 15]) (by kernel_rfl) (by simp) ?_
    refine (AllReadyH.cons (by rw [List.getElem?_toArray]; rfl) (fun K hK => ?_) (AllReadyH.cons (by rw [List.getElem?_toArray]; rfl) (fun K hK => ?_) AllReadyH.nil))
    · go_simp
      refine (CIV vx).mono ?_; rintro ee w9 ⟨rfl, rfl⟩; rw [hnd]
      (try go_wp2_with fail)
      refine hK.out _ _ ?_ (fun hHeld => ?_)
      · first | exact SK.out _ XB | exact SK.out _ (Below.drew (Below.refl _ _)) | exact SK.out _ XF
      clear hK K
      (try simp only [Act.put, zSb, zS0, zS1])
      refine zTk 5 ?_
      (try simp only [Act.put, zSb, zS0, zS1])
      refine zTk 6 ?_
      (try simp only [Act.put, zSb, zS0, zS1])
      refine zTk 7 ?_
      (try simp only [Act.put, zSb, zS0, zS1])
      refine zTk 8 ?_
      (try simp only [Act.put, zSb, zS0, zS1])
      refine zTk 9 ?_
      (try simp only [Act.put, zSb, zS0, zS1])
      refine zTk 10 ?_
      (try simp only [Act.put, zSb, zS0, zS1])
      refine wpAnyH_ready (rs := [11, 15]) (by kernel_rfl) (by simp) ?_
      refine (AllReadyH.cons (by rw [List.getElem?_toArray]; rfl) (fun K hK => ?_) (AllReadyH.cons (by rw [List.getElem?_toArray]; rfl) (fun K hK => ?_) AllReadyH.nil))
      · go_simp
        (try rw [hne]); refine (CW vx (B.trans (XB.mono B.size))).mono ?_; rintro ee vs ⟨RW, rfl, OW, hbl⟩; (have hl0 : v0.heap.size ≤ vx.heap.size := XB.size); (have hlu : vx.heap.size ≤ vs.heap.size := hbl.size); (replace XB := XB.trans (hbl.mono XB.size)); (clear hbl)
        (try go_wp2_with fail)
        refine hK.out _ _ ?_ (fun hHeld => ?_)
        · first | exact SK.out _ XB | exact SK.out _ (Below.drew (Below.refl _ _)) | exact SK.out _ XF
        clear hK K
        (try simp only [Act.put, zSb, zS0, zS1])
        refine zTk 12 ?_
        (try simp only [Act.put, zSb, zS0, zS1])
        refine zTk 13 ?_
        (try simp only [Act.put, zSb, zS0, zS1])
        refine zTk 14 ?_
        (try simp only [Act.put, zSb, zS0, zS1])
        refine wpAnyH_ready (rs := [15]) (by kernel_rfl) (by simp) ?_
        refine (AllReadyH.cons (by rw [List.getElem?_toArray]; rfl) (fun K hK => ?_) AllReadyH.nil)
        go_simp
        (have Z := Bo.new vs (#[.int .i64 0, .int .i64 0, .slice none 0 0, .bool false, .int .i64 0, .int .i64 0, .int .i64 0, .int .i64 0, .int .i64 0, .int .i64 0, .int .i64 0, .int .i64 0, .int .i64 0, .int .i64 0, .int .i64 0, .slice none 0 0, .int .i64 0, .int .i64 0, .int .i64 0, .int .i64 0, .int .i64 0, .bool false, .int .i64 0, .int .i64 0, .int .i64 0, .slice none 0 0, .slice none 0 0, .int .i64 0]) 103); (have NL := Below.nw vs (.cells (#[.int .i64 0, .int .i64 0, .slice none 0 0, .bool false, .int .i64 0, .int .i64 0, .int .i64 0, .int .i64 0, .int .i64 0, .int .i64 0, .int .i64 0, .int .i64 0, .int .i64 0, .int .i64 0, .int .i64 0, .slice none 0 0, .int .i64 0, .int .i64 0, .int .i64 0, .int .i64 0, .int .i64 0, .bool false, .int .i64 0, .int .i64 0, .int .i64 0, .slice none 0 0, .slice none 0 0, .int .i64 0]) 103)); (have hzv : v0.heap.size ≤ vs.heap.size := XB.size); (replace XB := XB.trans (NL.mono XB.size)); (replace OW := OW.below NL); (clear NL); (generalize vs.alloc (.cells (#[.int .i64 0, .int .i64 0, .slice none 0 0, .bool false, .int .i64 0, .int .i64 0, .int .i64 0, .int .i64 0, .int .i64 0, .int .i64 0, .int .i64 0, .int .i64 0, .int .i64 0, .int .i64 0, .int .i64 0, .slice none 0 0, .int .i64 0, .int .i64 0, .int .i64 0, .int .i64 0, .int .i64 0, .bool false, .int .i64 0, .int .i64 0, .int .i64 0, .slice none 0 0, .slice none 0 0, .int .i64 0]) 103) = vy at *); (generalize vs.heap.size = jz at *); (have hRW := OW.size); (have hst := Bo.store (P := Tryz.prog) (b := 0) RW.toList 0 0 Z rfl (by simp [hRW]) OW.one); (have OF := OW.btw (putA_btw RW.toList vy 0 jz) (.inl (Nat.le_refl _))); (have XF := putA_below (k := jz) RW.toList v0 vy 0 XB hzv); (have ZF := Z.putW (U := RW) hRW); (have hsz := putA_size jz RW.toList vy 0); (generalize putA vy jz 0 RW.toList = vf at *)
        refine hK.out _ _ ?_ (fun hHeld => ?_)
        · first | exact SK.out _ XB | exact SK.out _ (Below.drew (Below.refl _ _)) | exact SK.out _ XF
        clear hK K
        (try simp only [Act.put, zSb, zS0, zS1])
        refine wpAnyH_ready (rs := [16]) (by kernel_rfl) (by simp) ?_
        refine (AllReadyH.cons (by rw [List.getElem?_toArray]; rfl) (fun K hK => ?_) AllReadyH.nil)
        go_simp
        refine hK.out _ _ ?_ (fun hHeld => ?_)
        · first | exact SK.out _ XB | exact SK.out _ (Below.drew (Below.refl _ _)) | exact SK.out _ XF
        clear hK K
        (try simp only [Act.put, zSb, zS0, zS1])
        refine zTk 17 ?_
        (try simp only [Act.put, zSb, zS0, zS1])
        refine wpAnyH_done (by kernel_rfl) ?_ _
        go_wp2_with (rw [hst])
        go_meet
        case rel => exact ⟨jz, _, _, RW, rfl, rfl, ZF, OF, hl0, hzv, by first | exact Nat.le_of_eq hsz.symm | (rw [hsz]; exact Nat.le_of_lt Z.1), by rw [hsz]; exact Z.1, hlu, .inr (Nat.le_refl _), XF⟩
      · go_simp
        (have Z := Bo.new vx (#[.int .i64 0, .int .i64 0, .slice none 0 0, .bool false, .int .i64 0, .int .i64 0, .int .i64 0, .int .i64 0, .int .i64 0, .int .i64 0, .int .i64 0, .int .i64 0, .int .i64 0, .int .i64 0, .int .i64 0, .slice none 0 0, .int .i64 0, .int .i64 0, .int .i64 0, .int .i64 0, .int .i64 0, .bool false, .int .i64 0, .int .i64 0, .int .i64 0, .slice none 0 0, .slice none 0 0, .int .i64 0]) 103); (have NL := Below.nw vx (.cells (#[.int .i64 0, .int .i64 0, .slice none 0 0, .bool false, .int .i64 0, .int .i64 0, .int .i64 0, .int .i64 0, .int .i64 0, .int .i64 0, .int .i64 0, .int .i64 0, .int .i64 0, .int .i64 0, .int .i64 0, .slice none 0 0, .int .i64 0, .int .i64 0, .int .i64 0, .int .i64 0, .int .i64 0, .bool false, .int .i64 0, .int .i64 0, .int .i64 0, .slice none 0 0, .slice none 0 0, .int .i64 0]) 103)); (have hzv : v0.heap.size ≤ vx.heap.size := XB.size); (replace XB := XB.trans (NL.mono XB.size)); (clear NL); (generalize vx.alloc (.cells (#[.int .i64 0, .int .i64 0, .slice none 0 0, .bool false, .int .i64 0, .int .i64 0, .int .i64 0, .int .i64 0, .int .i64 0, .int .i64 0, .int .i64 0, .int .i64 0, .int .i64 0, .int .i64 0, .int .i64 0, .slice none 0 0, .int .i64 0, .int .i64 0, .int .i64 0, .int .i64 0, .int .i64 0, .bool false, .int .i64 0, .int .i64 0, .int .i64 0, .slice none 0 0, .slice none 0 0, .int .i64 0]) 103) = vy at *); (generalize vx.heap.size = jz at *)
        refine hK.out _ _ ?_ (fun hHeld => ?_)
        · first | exact SK.out _ XB | exact SK.out _ (Below.drew (Below.refl _ _)) | exact SK.out _ XF
        clear hK K
        (try simp only [Act.put, zSb, zS0, zS1])
        refine wpAnyH_ready (rs := [11]) (by kernel_rfl) (by simp) ?_
        refine (AllReadyH.cons (by rw [List.getElem?_toArray]; rfl) (fun K hK => ?_) AllReadyH.nil)
        go_simp
        (try rw [hne]); refine (CW vy (B.trans (XB.mono B.size))).mono ?_; rintro ee vs ⟨RW, rfl, OW, hbl⟩; (have hl0 : v0.heap.size ≤ vy.heap.size := XB.size); (have hlu : vy.heap.size ≤ vs.heap.size := hbl.size); (replace XB := XB.trans (hbl.mono XB.size)); (have hjl : jz < vy.heap.size := Z.1); (replace Z := Z.below hbl); (clear hbl); (have hRW := OW.size); (have hst := Bo.store (P := Tryz.prog) (b := 0) RW.toList 0 0 Z rfl (by simp [hRW]) OW.one); (have OF := OW.btw (putA_btw RW.toList vs 0 jz) (.inr hjl)); (have XF := putA_below (k := jz) RW.toList v0 vs 0 XB hzv); (have ZF := Z.putW (U := RW) hRW); (have hsz := putA_size jz RW.toList vs 0); (generalize putA vs jz 0 RW.toList = vf at *)
        (try go_wp2_with fail)
        refine hK.out _ _ ?_ (fun hHeld => ?_)
        · first | exact SK.out _ XB | exact SK.out _ (Below.drew (Below.refl _ _)) | exact SK.out _ XF
        clear hK K
        (try simp only [Act.put, zSb, zS0, zS1])
        refine zTk 12 ?_
        (try simp only [Act.put, zSb, zS0, zS1])
        refine zTk 13 ?_
        (try simp only [Act.put, zSb, zS0, zS1])
        refine zTk 14 ?_
        (try simp only [Act.put, zSb, zS0, zS1])
        refine wpAnyH_ready (rs := [16]) (by kernel_rfl) (by simp) ?_
        refine (AllReadyH.cons (by rw [List.getElem?_toArray]; rfl) (fun K hK => ?_) AllReadyH.nil)
        go_simp
        refine hK.out _ _ ?_ (fun hHeld => ?_)
        · first | exact SK.out _ XB | exact SK.out _ (Below.drew (Below.refl _ _)) | exact SK.out _ XF
        clear hK K
        (try simp only [Act.put, zSb, zS0, zS1])
        refine zTk 17 ?_
        (try simp only [Act.put, zSb, zS0, zS1])
        refine wpAnyH_done (by kernel_rfl) ?_ _
        go_wp2_with (rw [hst])
        go_meet
        case rel => exact ⟨jz, _, _, RW, rfl, rfl, ZF, OF, hl0, hzv, by first | exact Nat.le_of_eq hsz.symm | (rw [hsz]; exact Nat.le_of_lt Z.1), by rw [hsz]; exact Z.1, hlu, .inl hjl, XF⟩
    · go_simp
      (have Z := Bo.new vx (#[.int .i64 0, .int .i64 0, .slice none 0 0, .bool false, .int .i64 0, .int .i64 0, .int .i64 0, .int .i64 0, .int .i64 0, .int .i64 0, .int .i64 0, .int .i64 0, .int .i64 0, .int .i64 0, .int .i64 0, .slice none 0 0, .int .i64 0, .int .i64 0, .int .i64 0, .int .i64 0, .int .i64 0, .bool false, .int .i64 0, .int .i64 0, .int .i64 0, .slice none 0 0, .slice none 0 0, .int .i64 0]) 103); (have NL := Below.nw vx (.cells (#[.int .i64 0, .int .i64 0, .slice none 0 0, .bool false, .int .i64 0, .int .i64 0, .int .i64 0, .int .i64 0, .int .i64 0, .int .i64 0, .int .i64 0, .int .i64 0, .int .i64 0, .int .i64 0, .int .i64 0, .slice none 0 0, .int .i64 0, .int .i64 0, .int .i64 0, .int .i64 0, .int .i64 0, .bool false, .int .i64 0, .int .i64 0, .int .i64 0, .slice none 0 0, .slice none 0 0, .int .i64 0]) 103)); (have hzv : v0.heap.size ≤ vx.heap.size := XB.size); (replace XB := XB.trans (NL.mono XB.size)); (clear NL); (generalize vx.alloc (.cells (#[.int .i64 0, .int .i64 0, .slice none 0 0, .bool false, .int .i64 0, .int .i64 0, .int .i64 0, .int .i64 0, .int .i64 0, .int .i64 0, .int .i64 0, .int .i64 0, .int .i64 0, .int .i64 0, .int .i64 0, .slice none 0 0, .int .i64 0, .int .i64 0, .int .i64 0, .int .i64 0, .int .i64 0, .bool false, .int .i64 0, .int .i64 0, .int .i64 0, .slice none 0 0, .slice none 0 0, .int .i64 0]) 103) = vy at *); (generalize vx.heap.size = jz at *)
      refine hK.out _ _ ?_ (fun hHeld => ?_)
      · first | exact SK.out _ XB | exact SK.out _ (Below.drew (Below.refl _ _)) | exact SK.out _ XF
      clear hK K
      (try simp only [Act.put, zSb, zS0, zS1])
      refine wpAnyH_ready (rs := [4]) (by kernel_rfl) (by simp) ?_
      refine (AllReadyH.cons (by rw [List.getElem?_toArray]; rfl) (fun K hK => ?_) AllReadyH.nil)
      go_simp
      refine (CIV vy).mono ?_; rintro ee w9 ⟨rfl, rfl⟩; rw [hnd]
      (try go_wp2_with fail)
      refine hK.out _ _ ?_ (fun hHeld => ?_)
      · first | exact SK.out _ XB | exact SK.out _ (Below.drew (Below.refl _ _)) | exact SK.out _ XF
      clear hK K
      (try simp only [Act.put, zSb, zS0, zS1])
      refine zTk 5 ?_
      (try simp only [Act.put, zSb, zS0, zS1])
      refine zTk 6 ?_
      (try simp only [Act.put, zSb, zS0, zS1])
      refine zTk 7 ?_
      (try simp only [Act.put, zSb, zS0, zS1])
      refine zTk 8 ?_
      (try simp only [Act.put, zSb, zS0, zS1])
      refine zTk 9 ?_
      (try simp only [Act.put, zSb, zS0, zS1])
      refine zTk 10 ?_
      (try simp only [Act.put, zSb, zS0, zS1])
      refine wpAnyH_ready (rs := [11]) (by kernel_rfl) (by simp) ?_
      refine (AllReadyH.cons (by rw [List.getElem?_toArray]; rfl) (fun K hK => ?_) AllReadyH.nil)
      go_simp
      (try rw [hne]); refine (CW vy (B.trans (XB.mono B.size))).mono ?_; rintro ee vs ⟨RW, rfl, OW, hbl⟩; (have hl0 : v0.heap.size ≤ vy.heap.size := XB.size); (have hlu : vy.heap.size ≤ vs.heap.size := hbl.size); (replace XB := XB.trans (hbl.mono XB.size)); (have hjl : jz < vy.heap.size := Z.1); (replace Z := Z.below hbl); (clear hbl); (have hRW := OW.size); (have hst := Bo.store (P := Tryz.prog) (b := 0) RW.toList 0 0 Z rfl (by simp [hRW]) OW.one); (have OF := OW.btw (putA_btw RW.toList vs 0 jz) (.inr hjl)); (have XF := putA_below (k := jz) RW.toList v0 vs 0 XB hzv); (have ZF := Z.putW (U := RW) hRW); (have hsz := putA_size jz RW.toList vs 0); (generalize putA vs jz 0 RW.toList = vf at *)
      (try go_wp2_with fail)
      refine hK.out _ _ ?_ (fun hHeld => ?_)
      · first | exact SK.out _ XB | exact SK.out _ (Below.drew (Below.refl _ _)) | exact SK.out _ XF
      clear hK K
      (try simp only [Act.put, zSb, zS0, zS1])
      refine zTk 12 ?_
      (try simp only [Act.put, zSb, zS0, zS1])
      refine zTk 13 ?_
      (try simp only [Act.put, zSb, zS0, zS1])
      refine zTk 14 ?_
      (try simp only [Act.put, zSb, zS0, zS1])
      refine wpAnyH_ready (rs := [16]) (by kernel_rfl) (by simp) ?_
      refine (AllReadyH.cons (by rw [List.getElem?_toArray]; rfl) (fun K hK => ?_) AllReadyH.nil)
      go_simp
      refine hK.out _ _ ?_ (fun hHeld => ?_)
      · first | exact SK.out _ XB | exact SK.out _ (Below.drew (Below.refl _ _)) | exact SK.out _ XF
      clear hK K
      (try simp only [Act.put, zSb, zS0, zS1])
      refine zTk 17 ?_
      (try simp only [Act.put, zSb, zS0, zS1])
      refine wpAnyH_done (by kernel_rfl) ?_ _
      go_wp2_with (rw [hst])
      go_meet
      case rel => exact ⟨jz, _, _, RW, rfl, rfl, ZF, OF, hl0, hzv, by first | exact Nat.le_of_eq hsz.symm | (rw [hsz]; exact Nat.le_of_lt Z.1), by rw [hsz]; exact Z.1, hlu, .inl hjl, XF⟩
  case rest =>
  have gKC : w.heap.size < v0.heap.size := C.1
  have gKN : w.heap.size + 1 < v0.heap.size := N.1
  have gKR : w.heap.size + 2 < v0.heap.size := R.1
  have gKM : w.heap.size + 3 < v0.heap.size := M.1
  obtain ⟨kKW, lk, uk, U, rfl, rfl, KW, OU, hlk1, hjK, huk, hjk2, hlk3, hlk4, hb⟩ := hcut
  clear SK CW CIV
  generalize wc = v1 at *
  have zz : v0.heap.size ≤ v1.heap.size := hb.size
  replace B := B.trans (hb.mono B.size)
  replace C := C.below hb
  replace N := N.below hb
  replace R := R.below hb
  replace M := M.below hb
  clear hb
  obtain ⟨aa, ac, pa, pc, ha, hc, rfl, hbn, P1, P2, P3⟩ := OU
  have gMbC : w.heap.size < v1.heap.size := C.1
  have gMbN : w.heap.size + 1 < v1.heap.size := N.1
  have gMbR : w.heap.size + 2 < v1.heap.size := R.1
  have gMbM : w.heap.size + 3 < v1.heap.size := M.1
  have gMbKW : kKW < v1.heap.size := KW.1
  have gMbP1 : uk ≤ v1.heap.size := by omega
  have gMbP2 : uk ≤ v1.heap.size := by omega
  have gMbP3 : uk ≤ v1.heap.size := by omega
  have hb := Below.nw v1 (.cells #[.int .i64 0, .int .i64 0, .int .i64 0, .int .i64 0, .int .i64 0, .int .i64 0, .int .i64 0, .string ⟨#[]⟩] 59)
  have Mb := Bo.new v1 #[.int .i64 0, .int .i64 0, .int .i64 0, .int .i64 0, .int .i64 0, .int .i64 0, .int .i64 0, .string ⟨#[]⟩] 59
  go_upto_region 3 with fail
  replace B := B.trans (hb.mono B.size)
  replace C := C.below hb
  replace N := N.below hb
  replace R := R.below hb
  replace M := M.below hb
  replace KW := KW.below hb
  replace P1 := P1.below hb
  replace P2 := P2.below hb
  replace P3 := P3.below hb
  clear hb
  generalize v1.alloc (.cells #[.int .i64 0, .int .i64 0, .int .i64 0, .int .i64 0, .int .i64 0, .int .i64 0, .int .i64 0, .string ⟨#[]⟩] 59) = v2 at *
  generalize v1.heap.size = kMb at *
  have zv2 : kMb ≤ v2.heap.size := Nat.le_of_lt Mb.1
  (try rw [hst0])
  have hmx : x.na ≤ maxLen := Nat.le_trans hbn.1 (by decide)
  go_wp2_with fail
  refine (wkAskfull y x ct p d aa ac pa pc ha hc kKW lk uk xt v2 hmx (by omega) (by omega) P1 hwa htb hnd htm hus hn16 KW).mono ?_
  rintro e v3 ⟨ta, tc, rfl, N1, RT, hb⟩
  have hwv : w.heap.size ≤ v2.heap.size := B.size
  have hqv : kMb < v2.heap.size := Mb.1
  replace B := B.trans ((hb.belowL (Nat.le_of_lt KW.1)).mono (show w.heap.size ≤ kKW by omega))
  clear P1
  replace C := C.btw hb (by omega)
  replace N := N.btw hb (by omega)
  replace R := R.btw hb (by omega)
  replace M := M.btw hb (by omega)
  replace Mb := Mb.btw hb (by omega)
  replace P2 := P2.btw hb (by omega)
  replace P3 := P3.btw hb (by omega)
  have zv3 := hb.2.2.2.1
  clear hb KW
  have KW := N1
  clear N1
  have qC : w.heap.size + 3 < v2.heap.size := by omega
  have hst := Bo.store (P := Tryz.prog) (b := 0) ([.int .i64 0, .int .i64 0, .int .i64 0, .int .i64 0, .int .i64 0, .int .i64 0, .int .i64 0, .string ⟨#[]⟩]) 0 0 Mb rfl (show 0 + 8 ≤ 8 by decide) (List.forall_mem_cons.2 ⟨rfl, (List.forall_mem_cons.2 ⟨rfl, (List.forall_mem_cons.2 ⟨rfl, (List.forall_mem_cons.2 ⟨rfl, (List.forall_mem_cons.2 ⟨rfl, (List.forall_mem_cons.2 ⟨rfl, (List.forall_mem_cons.2 ⟨rfl, (List.forall_mem_cons.2 ⟨rfl, fun _ h => nomatch h⟩)⟩)⟩)⟩)⟩)⟩)⟩)⟩)
  have hb : Btw (kMb) (kMb + 1) v3 _ := putA_btw ([.int .i64 0, .int .i64 0, .int .i64 0, .int .i64 0, .int .i64 0, .int .i64 0, .int .i64 0, .string ⟨#[]⟩]) v3 0 (kMb)
  have B1 := putA_below (k := kMb) ([.int .i64 0, .int .i64 0, .int .i64 0, .int .i64 0, .int .i64 0, .int .i64 0, .int .i64 0, .string ⟨#[]⟩]) w v3 0 B (by omega)
  have N1 : Bo (putA v3 (kMb) 0 ([.int .i64 0, .int .i64 0, .int .i64 0, .int .i64 0, .int .i64 0, .int .i64 0, .int .i64 0, .string ⟨#[]⟩])) (kMb) (#[.int .i64 0, .int .i64 0, .int .i64 0, .int .i64 0, .int .i64 0, .int .i64 0, .int .i64 0, .string ⟨#[]⟩]) := Mb.putW (U := #[.int .i64 0, .int .i64 0, .int .i64 0, .int .i64 0, .int .i64 0, .int .i64 0, .int .i64 0, .string ⟨#[]⟩]) rfl
  go_upto_region 5 with (rw [hst])
  clear hst  Mb B
  replace C := C.btw hb (by omega)
  replace N := N.btw hb (by omega)
  replace R := R.btw hb (by omega)
  replace M := M.btw hb (by omega)
  replace KW := KW.btw hb (by omega)
  replace P2 := P2.btw hb (by omega)
  replace P3 := P3.btw hb (by omega)
  replace RT := RT.btw hb (by omega)
  have zv4 := hb.2.2.2.1
  clear hb
  generalize putA v3 (kMb) 0 ([.int .i64 0, .int .i64 0, .int .i64 0, .int .i64 0, .int .i64 0, .int .i64 0, .int .i64 0, .string ⟨#[]⟩]) = v4 at *
  have B := B1
  have Mb := N1
  clear B1 N1
  go_upto_region 5 with fail
  refine wp_region_held_drew (S := (fun w' => (loadCells ⟨kMb, 0, none⟩ 8).run Tryz.prog w' = .ok #[.int .i64 0, .int .i64 0, .int .i64 0, .int .i64 0, .int .i64 0, .int .i64 0, .int .i64 0, .string ⟨#[]⟩] w')) (by kernel_rfl) ?_ (fun hHeld => ?_)
  · first | exact hS3 | exact hS2 | exact hS1 | exact hS0 | exact (Bo.drew Mb).load (P := Tryz.prog) (show (#[.int .i64 0, .int .i64 0, .int .i64 0, .int .i64 0, .int .i64 0, .int .i64 0, .int .i64 0, .string ⟨#[]⟩] : Array Value).size = 8 from rfl)
  have hb : Below v4.heap.size v4 v4.drew := Below.drew (Below.refl _ _)
  replace B := B.trans (hb.mono B.size)
  replace C := C.below hb
  replace N := N.below hb
  replace R := R.below hb
  replace M := M.below hb
  replace KW := KW.below hb
  replace Mb := Mb.below hb
  replace P2 := P2.below hb
  replace P3 := P3.below hb
  replace RT := RT.below hb
  clear hb
  generalize v4.drew = vx at *
  have hS0 : (fun w' => (loadCells ⟨kMb, 0, none⟩ 8).run Tryz.prog w' = .ok #[.int .i64 0, .int .i64 0, .int .i64 0, .int .i64 0, .int .i64 0, .int .i64 0, .int .i64 0, .string ⟨#[]⟩] w') vx := Mb.load (P := Tryz.prog) (show (#[.int .i64 0, .int .i64 0, .int .i64 0, .int .i64 0, .int .i64 0, .int .i64 0, .int .i64 0, .string ⟨#[]⟩] : Array Value).size = 8 from rfl)
  have hU : (ndV x ta tc pa pc ha hc).size = 16 := rfl
  refine zTk 1 ?_
  (try simp only [Act.put, zSb, zS0, zS1])
  refine zTk 2 ?_
  (try simp only [Act.put, zSb, zS0, zS1])
  refine wpAnyH_ready (rs := [0]) (by kernel_rfl) (by simp) ?_
  refine (AllReadyH.cons (by rw [List.getElem?_toArray]; rfl) (fun K hK => ?_) AllReadyH.nil)
  go_simp
  refine (wkNode y x ct p d ta tc pa pc ha hc kKW vx KW).mono ?_; rintro ee vs ⟨rfl, hb⟩; (replace B := B.trans (hb.mono B.size)); (replace C := C.below hb); (replace N := N.below hb); (replace R := R.below hb); (replace M := M.below hb); (replace KW := KW.below hb); (replace Mb := Mb.below hb); (replace P2 := P2.below hb); (replace P3 := P3.below hb); (replace RT := RT.below hb); (have zz0 := hb.size); (clear hb); (have hS1 : (fun w' => (loadCells ⟨kMb, 0, none⟩ 8).run Tryz.prog w' = .ok #[.int .i64 0, .int .i64 0, .int .i64 0, .int .i64 0, .int .i64 0, .int .i64 0, .int .i64 0, .string ⟨#[]⟩] w') vs := Mb.load (P := Tryz.prog) (show (#[.int .i64 0, .int .i64 0, .int .i64 0, .int .i64 0, .int .i64 0, .int .i64 0, .int .i64 0, .string ⟨#[]⟩] : Array Value).size = 8 from rfl)); (have hst := Bo.store (P := Tryz.prog) (b := 0) (ndV x ta tc pa pc ha hc).toList 0 0 R rfl (by simp [hU]) (ndV_one _ _ _ _ _ _ _))
  (try go_wp2_with fail)
  refine hK.out _ _ ?_ (fun hHeld => ?_)
  · first | exact hS3 | exact hS2 | exact hS1 | exact hS0 | exact (Bo.drew Mb).load (P := Tryz.prog) (show (#[.int .i64 0, .int .i64 0, .int .i64 0, .int .i64 0, .int .i64 0, .int .i64 0, .int .i64 0, .string ⟨#[]⟩] : Array Value).size = 8 from rfl)
  clear hK K
  (try simp only [Act.put, zSb, zS0, zS1])
  refine wpAnyH_ready (rs := [3]) (by kernel_rfl) (by simp) ?_
  refine (AllReadyH.cons (by rw [List.getElem?_toArray]; rfl) (fun K hK => ?_) AllReadyH.nil)
  go_simp
  (have hbt := putA_btw (ndV x ta tc pa pc ha hc).toList vs 0 (w.heap.size + 2)); (replace B := putA_below (k := w.heap.size + 2) (ndV x ta tc pa pc ha hc).toList w vs 0 B (by omega)); (replace R := R.putW (U := (ndV x ta tc pa pc ha hc)) hU); (replace M := M.btw hbt (by omega)); (replace P2 := P2.btw hbt (by omega)); (replace P3 := P3.btw hbt (by omega)); (replace RT := RT.btw hbt (by omega)); (replace Mb := Mb.btw hbt (by omega)); (have zz1 := hbt.2.2.2.1); (clear hst hbt); (generalize putA vs (w.heap.size + 2) 0 (ndV x ta tc pa pc ha hc).toList = vy at *); (have hS2 : (fun w' => (loadCells ⟨kMb, 0, none⟩ 8).run Tryz.prog w' = .ok #[.int .i64 0, .int .i64 0, .int .i64 0, .int .i64 0, .int .i64 0, .int .i64 0, .int .i64 0, .string ⟨#[]⟩] w') vy := Mb.load (P := Tryz.prog) (show (#[.int .i64 0, .int .i64 0, .int .i64 0, .int .i64 0, .int .i64 0, .int .i64 0, .int .i64 0, .string ⟨#[]⟩] : Array Value).size = 8 from rfl)); (have hst := Bo.store (P := Tryz.prog) (b := 0) ([.int .i64 0, .int .i64 0, .int .i64 0, .int .i64 0, .int .i64 0, .int .i64 0, .int .i64 0, .string ⟨#[]⟩]) 0 0 M rfl (show 0 + 8 ≤ 8 by decide) (List.forall_mem_cons.2 ⟨rfl, (List.forall_mem_cons.2 ⟨rfl, (List.forall_mem_cons.2 ⟨rfl, (List.forall_mem_cons.2 ⟨rfl, (List.forall_mem_cons.2 ⟨rfl, (List.forall_mem_cons.2 ⟨rfl, (List.forall_mem_cons.2 ⟨rfl, (List.forall_mem_cons.2 ⟨rfl, fun _ h => nomatch h⟩)⟩)⟩)⟩)⟩)⟩)⟩)⟩))
  refine hK.out _ _ ?_ (fun hHeld => ?_)
  · first | exact hS3 | exact hS2 | exact hS1 | exact hS0 | exact (Bo.drew Mb).load (P := Tryz.prog) (show (#[.int .i64 0, .int .i64 0, .int .i64 0, .int .i64 0, .int .i64 0, .int .i64 0, .int .i64 0, .string ⟨#[]⟩] : Array Value).size = 8 from rfl)
  clear hK K
  (try simp only [Act.put, zSb, zS0, zS1])
  refine wpAnyH_ready (rs := [4]) (by kernel_rfl) (by simp) ?_
  refine (AllReadyH.cons (by rw [List.getElem?_toArray]; rfl) (fun K hK => ?_) AllReadyH.nil)
  go_simp
  (have hbt := putA_btw ([.int .i64 0, .int .i64 0, .int .i64 0, .int .i64 0, .int .i64 0, .int .i64 0, .int .i64 0, .string ⟨#[]⟩]) vy 0 (w.heap.size + 3)); (replace B := putA_below (k := w.heap.size + 3) ([.int .i64 0, .int .i64 0, .int .i64 0, .int .i64 0, .int .i64 0, .int .i64 0, .int .i64 0, .string ⟨#[]⟩]) w vy 0 B (by omega)); (have M9 : Bo (putA vy (w.heap.size + 3) 0 ([.int .i64 0, .int .i64 0, .int .i64 0, .int .i64 0, .int .i64 0, .int .i64 0, .int .i64 0, .string ⟨#[]⟩])) (w.heap.size + 3) (#[.int .i64 0, .int .i64 0, .int .i64 0, .int .i64 0, .int .i64 0, .int .i64 0, .int .i64 0, .string ⟨#[]⟩]) := M.putW (U := #[.int .i64 0, .int .i64 0, .int .i64 0, .int .i64 0, .int .i64 0, .int .i64 0, .int .i64 0, .string ⟨#[]⟩]) rfl); (replace R := R.btw hbt (by omega)); (replace P2 := P2.btw hbt (by omega)); (replace P3 := P3.btw hbt (by omega)); (replace RT := RT.btw hbt (by omega)); (replace Mb := Mb.btw hbt (by omega)); (have zz2 := hbt.2.2.2.1); (clear hst hbt M); (generalize putA vy (w.heap.size + 3) 0 ([.int .i64 0, .int .i64 0, .int .i64 0, .int .i64 0, .int .i64 0, .int .i64 0, .int .i64 0, .string ⟨#[]⟩]) = vz at *); (have hS3 : (fun w' => (loadCells ⟨kMb, 0, none⟩ 8).run Tryz.prog w' = .ok #[.int .i64 0, .int .i64 0, .int .i64 0, .int .i64 0, .int .i64 0, .int .i64 0, .int .i64 0, .string ⟨#[]⟩] w') vz := Mb.load (P := Tryz.prog) (show (#[.int .i64 0, .int .i64 0, .int .i64 0, .int .i64 0, .int .i64 0, .int .i64 0, .int .i64 0, .string ⟨#[]⟩] : Array Value).size = 8 from rfl))
  refine hK.out _ _ ?_ (fun hHeld => ?_)
  · first | exact hS3 | exact hS2 | exact hS1 | exact hS0 | exact (Bo.drew Mb).load (P := Tryz.prog) (show (#[.int .i64 0, .int .i64 0, .int .i64 0, .int .i64 0, .int .i64 0, .int .i64 0, .int .i64 0, .string ⟨#[]⟩] : Array Value).size = 8 from rfl)
  clear hK K
  (try simp only [Act.put, zSb, zS0, zS1])
  refine zTk 5 ?_
  (try simp only [Act.put, zSb, zS0, zS1])
  refine wpAnyH_done (by kernel_rfl) ?_ _
  go_wp2_with fail
  have hL0 := R.load (P := Tryz.prog) hU
  have hL1 := M9.load (P := Tryz.prog) (show (#[.int .i64 0, .int .i64 0, .int .i64 0, .int .i64 0, .int .i64 0, .int .i64 0, .int .i64 0, .string ⟨#[]⟩] : Array Value).size = 8 from rfl)
  exact bodyPost_ret (v := .tuple #[.agg (ndV x ta tc pa pc ha hc), .agg #[.int .i64 0, .int .i64 0, .int .i64 0, .int .i64 0, .int .i64 0, .int .i64 0, .int .i64 0, .string ⟨#[]⟩], .int .i64 5]) (by simp [results, Tryz.results11, go_sem]; rw [hL0]; simp only [Result.andThen_ok]; rw [show w.heap.size + 1 + 1 + 1 = w.heap.size + 3 from rfl, hL1]; rfl) rfl ⟨_, rfl, ⟨ta, tc, pa, pc, ha, hc, rfl, ⟨hbn.1, hbn.2.1, hbn.2.2⟩, RT.low (by omega), P2.low (by omega), P3.low (by omega)⟩, B⟩
attribute [-go_sem] loadCells storeCells in
set_option maxRecDepth 100000 in
set_option maxHeartbeats 8000000 in
theorem implAskdone (AC AN : Array Value) (y : CfX) (x : NdX) (ct xt : Int) (w : World) (HC : CfS w AC y) (HN : NdS w AN x) (hwf : wfX x) (hnd : nodB xt = true) (he : (xt == x.ni) = false) (hst0 : staI y x ct = 0) (hok : okX x = true) (hus : x.us ≠ 1000) (hn16 : x.na ≠ 16) :
    Calls Tryz.prog 11 #[.agg AC, .agg AN, .int .i64 ct, .int .i64 xt] w fun e w' => ∃ R, e = .returned (.tuple #[.agg R, .agg #[.int .i64 ((askX y x ct xt).2.1.1), .int .i64 ((askX y x ct xt).2.1.2.1), .int .i64 ((askX y x ct xt).2.1.2.2.1), .int .i64 ((askX y x ct xt).2.1.2.2.2.1), .int .i64 ((askX y x ct xt).2.1.2.2.2.2.1), .int .i64 ((askX y x ct xt).2.1.2.2.2.2.2.1), .int .i64 ((askX y x ct xt).2.1.2.2.2.2.2.2.1), .string ((askX y x ct xt).2.1.2.2.2.2.2.2.2)], .int .i64 (askX y x ct xt).2.2]) ∧ NdO w' w.heap.size w'.heap.size R (askX y x ct xt).1 ∧ Below w.heap.size w w' := by
  have hft : fitB x xt = true := by unfold fitB; rw [hnd, he]; rfl
  have hna := (okX_short hok).1
  have hub : (x.us == 1000) = false := by simpa using hus
  have hnb : (x.na == 16) = false := by simpa using hn16
  have hF : askX y x ct xt = ({ x with us := x.us + 1, AM := addG x.AM x.na (kT (x.te * 1000 + x.us) xt ct 1), na := x.na + 1 }, (1, x.ni, xt, (x.te * 1000 + x.us), 0, 0, 0, ⟨#[]⟩), 0) := by unfold askX; simp only [hft, hst0, Int.reduceBEq, hub, hnb]
  rw [hF]
  clear hF
  clear hft hub hnb
  have hne : (xt != x.ni) = true := by rw [bne, he]; rfl
  clear he
  have hs1 : staI y x ct ≠ 1 := by rw [hst0]; decide
  have CIV := fun v => isNode_any xt v
  have hN0 : AN[0]? = some (.int .i64 x.ni) := by obtain ⟨_, _, _, _, _, _, e, _⟩ := id HN; rw [e]; rfl
  have htb := ok_tab hok
  have htm := come_tm hs1
  have hwa := hwf
  have hC := HC.size
  have hN := HN.size
  obtain ⟨p, d, hpd, hm, hr⟩ := id HC
  have CW := fun (v : World) (h : Below w.heap.size w v) => workOn_ok AC AN y x ct p d v (HC.below h) (HN.below h) hwf hpd hok hs1
  clear HC HN hwf hm hr hpd
  have A0 := Below.nw w (.cells AC 67)
  have A1 := Below.nw (w.alloc (.cells AC 67)) (.cells AN 57)
  have A2 := Below.nw (((w.alloc (.cells AC 67))).alloc (.cells AN 57)) (.cells #[.int .i64 0, .int .i64 0, .int .i64 0, .int .i64 0, .bool false, .int .i64 0, .int .i64 0, .int .i64 0, .int .i64 0, .int .i64 0, .slice none 0 0, .slice none 0 0, .bool false, .int .i64 0, .slice none 0 0, .int .i64 0] 57)
  have A3 := Below.nw (((((w.alloc (.cells AC 67))).alloc (.cells AN 57))).alloc (.cells #[.int .i64 0, .int .i64 0, .int .i64 0, .int .i64 0, .bool false, .int .i64 0, .int .i64 0, .int .i64 0, .int .i64 0, .int .i64 0, .slice none 0 0, .slice none 0 0, .bool false, .int .i64 0, .slice none 0 0, .int .i64 0] 57)) (.cells #[.int .i64 0, .int .i64 0, .int .i64 0, .int .i64 0, .int .i64 0, .int .i64 0, .int .i64 0, .string ⟨#[]⟩] 59)
  have C := (((Bo.new w AC 67).below A1).below A2).below A3
  have N := ((Bo.new (w.alloc (.cells AC 67)) AN 57).below A2).below A3
  have R := (Bo.new (((w.alloc (.cells AC 67))).alloc (.cells AN 57)) #[.int .i64 0, .int .i64 0, .int .i64 0, .int .i64 0, .bool false, .int .i64 0, .int .i64 0, .int .i64 0, .int .i64 0, .int .i64 0, .slice none 0 0, .slice none 0 0, .bool false, .int .i64 0, .slice none 0 0, .int .i64 0] 57).below A3
  have M := Bo.new (((((w.alloc (.cells AC 67))).alloc (.cells AN 57))).alloc (.cells #[.int .i64 0, .int .i64 0, .int .i64 0, .int .i64 0, .bool false, .int .i64 0, .int .i64 0, .int .i64 0, .int .i64 0, .int .i64 0, .slice none 0 0, .slice none 0 0, .bool false, .int .i64 0, .slice none 0 0, .int .i64 0] 57)) #[.int .i64 0, .int .i64 0, .int .i64 0, .int .i64 0, .int .i64 0, .int .i64 0, .int .i64 0, .string ⟨#[]⟩] 59
  have B := A0
  replace B := B.trans (A1.mono B.size)
  replace B := B.trans (A2.mono B.size)
  replace B := B.trans (A3.mono B.size)
  simp only [World.size_alloc] at N R M
  clear A0 A1 A2 A3
  go_enter Tryz.func11, Tryz.ntmps11
  go_upto_region 1 with fail
  generalize ((((((w.alloc (.cells AC 67))).alloc (.cells AN 57))).alloc (.cells #[.int .i64 0, .int .i64 0, .int .i64 0, .int .i64 0, .bool false, .int .i64 0, .int .i64 0, .int .i64 0, .int .i64 0, .int .i64 0, .slice none 0 0, .slice none 0 0, .bool false, .int .i64 0, .slice none 0 0, .int .i64 0] 57))).alloc (.cells #[.int .i64 0, .int .i64 0, .int .i64 0, .int .i64 0, .int .i64 0, .int .i64 0, .int .i64 0, .string ⟨#[]⟩] 59) = v0 at *
  have SK : Hid (∀ w', Below v0.heap.size v0 w' → (fun w' => (loadCells ⟨w.heap.size, 0, none⟩ 11).run Tryz.prog w' = .ok AC w' ∧ (loadCells ⟨w.heap.size + 1, 0, none⟩ 16).run Tryz.prog w' = .ok AN w' ∧ w'.cell? ⟨w.heap.size + 1, 0, none⟩ = some (.int .i64 x.ni)) w') := fun w' hw => ⟨(C.below hw).load hC, (N.below hw).load hN, (N.below hw).cell hN0⟩
  go_cut [11, 12] (fun s11 s12 wx => ∃ (j l u : Nat) (R : Array Value), s11 = .pointer (some ⟨j, 0, none⟩) ∧ s12 = .int .i64 0 ∧ Bo wx j R ∧ WkO wx l u R y x ct p d ∧ v0.heap.size ≤ l ∧ v0.heap.size ≤ j ∧ u ≤ wx.heap.size ∧ j < wx.heap.size ∧ l ≤ u ∧ (j < l ∨ u ≤ j) ∧ Below v0.heap.size v0 wx)
  case first => as_aux_lemma =>
    refine wp_region_held_drew (S := (fun w' => (loadCells ⟨w.heap.size, 0, none⟩ 11).run Tryz.prog w' = .ok AC w' ∧ (loadCells ⟨w.heap.size + 1, 0, none⟩ 16).run Tryz.prog w' = .ok AN w' ∧ w'.cell? ⟨w.heap.size + 1, 0, none⟩ = some (.int .i64 x.ni))) (by kernel_rfl) ?_ (fun hHeld => ?_)
    · first | exact SK.out _ XB | exact SK.out _ (Below.drew (Below.refl _ _)) | exact SK.out _ XF
    have XB : Below v0.heap.size v0 v0.drew := Below.drew (Below.refl _ _)
    generalize v0.drew = vx at *
    refine zTk 0 ?_
    (try simp only [Act.put, zSb, zS0, zS1])
    refine zTk 1 ?_
    (try simp only [Act.put, zSb, zS0, zS1])
    refine zTk 2 ?_
    (try simp only [Act.put, zSb, zS0, zS1])
    refine zTk 3 ?_
    (try simp only [Act.put, zSb, zS0, zS1])
    refine wpAnyH_ready (rs := [4, 15]) (by kernel_rfl) (by simp) ?_
    refine (AllReadyH.cons (by rw [List.getElem?_toArray]; rfl) (fun K hK => ?_) (AllReadyH.cons (by rw [List.getElem?_toArray]; rfl) (fun K hK => ?_) AllReadyH.nil))
    · go_simp
      refine (CIV vx).mono ?_; rintro ee w9 ⟨rfl, rfl⟩; rw [hnd]
      (try go_wp2_with fail)
      refine hK.out _ _ ?_ (fun hHeld => ?_)
      · first | exact SK.out _ XB | exact SK.out _ (Below.drew (Below.refl _ _)) | exact SK.out _ XF
      clear hK K
      (try simp only [Act.put, zSb, zS0, zS1])
      refine zTk 5 ?_
      (try simp only [Act.put, zSb, zS0, zS1])
      refine zTk 6 ?_
      (try simp only [Act.put, zSb, zS0, zS1])
      refine zTk 7 ?_
      (try simp only [Act.put, zSb, zS0, zS1])
      refine zTk 8 ?_
      (try simp only [Act.put, zSb, zS0, zS1])
      refine zTk 9 ?_
      (try simp only [Act.put, zSb, zS0, zS1])
      refine zTk 10 ?_
      (try simp only [Act.put, zSb, zS0, zS1])
      refine wpAnyH_ready (rs := [11, 15]) (by kernel_rfl) (by simp) ?_
      refine (AllReadyH.cons (by rw [List.getElem?_toArray]; rfl) (fun K hK => ?_) (AllReadyH.cons (by rw [List.getElem?_toArray]; rfl) (fun K hK => ?_) AllReadyH.nil))
      · go_simp
        (try rw [hne]); refine (CW vx (B.trans (XB.mono B.size))).mono ?_; rintro ee vs ⟨RW, rfl, OW, hbl⟩; (have hl0 : v0.heap.size ≤ vx.heap.size := XB.size); (have hlu : vx.heap.size ≤ vs.heap.size := hbl.size); (replace XB := XB.trans (hbl.mono XB.size)); (clear hbl)
        (try go_wp2_with fail)
        refine hK.out _ _ ?_ (fun hHeld => ?_)
        · first | exact SK.out _ XB | exact SK.out _ (Below.drew (Below.refl _ _)) | exact SK.out _ XF
        clear hK K
        (try simp only [Act.put, zSb, zS0, zS1])
        refine zTk 12 ?_
        (try simp only [Act.put, zSb, zS0, zS1])
        refine zTk 13 ?_
        (try simp only [Act.put, zSb, zS0, zS1])
        refine zTk 14 ?_
        (try simp only [Act.put, zSb, zS0, zS1])
        refine wpAnyH_ready (rs := [15]) (by kernel_rfl) (by simp) ?_
        refine (AllReadyH.cons (by rw [List.getElem?_toArray]; rfl) (fun K hK => ?_) AllReadyH.nil)
        go_simp
        (have Z := Bo.new vs (#[.int .i64 0, .int .i64 0, .slice none 0 0, .bool false, .int .i64 0, .int .i64 0, .int .i64 0, .int .i64 0, .int .i64 0, .int .i64 0, .int .i64 0, .int .i64 0, .int .i64 0, .int .i64 0, .int .i64 0, .slice none 0 0, .int .i64 0, .int .i64 0, .int .i64 0, .int .i64 0, .int .i64 0, .bool false, .int .i64 0, .int .i64 0, .int .i64 0, .slice none 0 0, .slice none 0 0, .int .i64 0]) 103); (have NL := Below.nw vs (.cells (#[.int .i64 0, .int .i64 0, .slice none 0 0, .bool false, .int .i64 0, .int .i64 0, .int .i64 0, .int .i64 0, .int .i64 0, .int .i64 0, .int .i64 0, .int .i64 0, .int .i64 0, .int .i64 0, .int .i64 0, .slice none 0 0, .int .i64 0, .int .i64 0, .int .i64 0, .int .i64 0, .int .i64 0, .bool false, .int .i64 0, .int .i64 0, .int .i64 0, .slice none 0 0, .slice none 0 0, .int .i64 0]) 103)); (have hzv : v0.heap.size ≤ vs.heap.size := XB.size); (replace XB := XB.trans (NL.mono XB.size)); (replace OW := OW.below NL); (clear NL); (generalize vs.alloc (.cells (#[.int .i64 0, .int .i64 0, .slice none 0 0, .bool false, .int .i64 0, .int .i64 0, .int .i64 0, .int .i64 0, .int .i64 0, .int .i64 0, .int .i64 0, .int .i64 0, .int .i64 0, .int .i64 0, .int .i64 0, .slice none 0 0, .int .i64 0, .int .i64 0, .int .i64 0, .int .i64 0, .int .i64 0, .bool false, .int .i64 0, .int .i64 0, .int .i64 0, .slice none 0 0, .slice none 0 0, .int .i64 0]) 103) = vy at *); (generalize vs.heap.size = jz at *); (have hRW := OW.size); (have hst := Bo.store (P := Tryz.prog) (b := 0) RW.toList 0 0 Z rfl (by simp [hRW]) OW.one); (have OF := OW.btw (putA_btw RW.toList vy 0 jz) (.inl (Nat.le_refl _))); (have XF := putA_below (k := jz) RW.toList v0 vy 0 XB hzv); (have ZF := Z.putW (U := RW) hRW); (have hsz := putA_size jz RW.toList vy 0); (generalize putA vy jz 0 RW.toList = vf at *)
        refine hK.out _ _ ?_ (fun hHeld => ?_)
        · first | exact SK.out _ XB | exact SK.out _ (Below.drew (Below.refl _ _)) | exact SK.out _ XF
        clear hK K
        (try simp only [Act.put, zSb, zS0, zS1])
        refine wpAnyH_ready (rs := [16]) (by kernel_rfl) (by simp) ?_
        refine (AllReadyH.cons (by rw [List.getElem?_toArray]; rfl) (fun K hK => ?_) AllReadyH.nil)
        go_simp
        refine hK.out _ _ ?_ (fun hHeld => ?_)
        · first | exact SK.out _ XB | exact SK.out _ (Below.drew (Below.refl _ _)) | exact SK.out _ XF
        clear hK K
        (try simp only [Act.put, zSb, zS0, zS1])
        refine zTk 17 ?_
        (try simp only [Act.put, zSb, zS0, zS1])
        refine wpAnyH_done (by kernel_rfl) ?_ _
        go_wp2_with (rw [hst])
        go_meet
        case rel => exact ⟨jz, _, _, RW, rfl, rfl, ZF, OF, hl0, hzv, by first | exact Nat.le_of_eq hsz.symm | (rw [hsz]; exact Nat.le_of_lt Z.1), by rw [hsz]; exact Z.1, hlu, .inr (Nat.le_refl _), XF⟩
      · go_simp
        (have Z := Bo.new vx (#[.int .i64 0, .int .i64 0, .slice none 0 0, .bool false, .int .i64 0, .int .i64 0, .int .i64 0, .int .i64 0, .int .i64 0, .int .i64 0, .int .i64 0, .int .i64 0, .int .i64 0, .int .i64 0, .int .i64 0, .slice none 0 0, .int .i64 0, .int .i64 0, .int .i64 0, .int .i64 0, .int .i64 0, .bool false, .int .i64 0, .int .i64 0, .int .i64 0, .slice none 0 0, .slice none 0 0, .int .i64 0]) 103); (have NL := Below.nw vx (.cells (#[.int .i64 0, .int .i64 0, .slice none 0 0, .bool false, .int .i64 0, .int .i64 0, .int .i64 0, .int .i64 0, .int .i64 0, .int .i64 0, .int .i64 0, .int .i64 0, .int .i64 0, .int .i64 0, .int .i64 0, .slice none 0 0, .int .i64 0, .int .i64 0, .int .i64 0, .int .i64 0, .int .i64 0, .bool false, .int .i64 0, .int .i64 0, .int .i64 0, .slice none 0 0, .slice none 0 0, .int .i64 0]) 103)); (have hzv : v0.heap.size ≤ vx.heap.size := XB.size); (replace XB := XB.trans (NL.mono XB.size)); (clear NL); (generalize vx.alloc (.cells (#[.int .i64 0, .int .i64 0, .slice none 0 0, .bool false, .int .i64 0, .int .i64 0, .int .i64 0, .int .i64 0, .int .i64 0, .int .i64 0, .int .i64 0, .int .i64 0, .int .i64 0, .int .i64 0, .int .i64 0, .slice none 0 0, .int .i64 0, .int .i64 0, .int .i64 0, .int .i64 0, .int .i64 0, .bool false, .int .i64 0, .int .i64 0, .int .i64 0, .slice none 0 0, .slice none 0 0, .int .i64 0]) 103) = vy at *); (generalize vx.heap.size = jz at *)
        refine hK.out _ _ ?_ (fun hHeld => ?_)
        · first | exact SK.out _ XB | exact SK.out _ (Below.drew (Below.refl _ _)) | exact SK.out _ XF
        clear hK K
        (try simp only [Act.put, zSb, zS0, zS1])
        refine wpAnyH_ready (rs := [11]) (by kernel_rfl) (by simp) ?_
        refine (AllReadyH.cons (by rw [List.getElem?_toArray]; rfl) (fun K hK => ?_) AllReadyH.nil)
        go_simp
        (try rw [hne]); refine (CW vy (B.trans (XB.mono B.size))).mono ?_; rintro ee vs ⟨RW, rfl, OW, hbl⟩; (have hl0 : v0.heap.size ≤ vy.heap.size := XB.size); (have hlu : vy.heap.size ≤ vs.heap.size := hbl.size); (replace XB := XB.trans (hbl.mono XB.size)); (have hjl : jz < vy.heap.size := Z.1); (replace Z := Z.below hbl); (clear hbl); (have hRW := OW.size); (have hst := Bo.store (P := Tryz.prog) (b := 0) RW.toList 0 0 Z rfl (by simp [hRW]) OW.one); (have OF := OW.btw (putA_btw RW.toList vs 0 jz) (.inr hjl)); (have XF := putA_below (k := jz) RW.toList v0 vs 0 XB hzv); (have ZF := Z.putW (U := RW) hRW); (have hsz := putA_size jz RW.toList vs 0); (generalize putA vs jz 0 RW.toList = vf at *)
        (try go_wp2_with fail)
        refine hK.out _ _ ?_ (fun hHeld => ?_)
        · first | exact SK.out _ XB | exact SK.out _ (Below.drew (Below.refl _ _)) | exact SK.out _ XF
        clear hK K
        (try simp only [Act.put, zSb, zS0, zS1])
        refine zTk 12 ?_
        (try simp only [Act.put, zSb, zS0, zS1])
        refine zTk 13 ?_
        (try simp only [Act.put, zSb, zS0, zS1])
        refine zTk 14 ?_
        (try simp only [Act.put, zSb, zS0, zS1])
        refine wpAnyH_ready (rs := [16]) (by kernel_rfl) (by simp) ?_
        refine (AllReadyH.cons (by rw [List.getElem?_toArray]; rfl) (fun K hK => ?_) AllReadyH.nil)
        go_simp
        refine hK.out _ _ ?_ (fun hHeld => ?_)
        · first | exact SK.out _ XB | exact SK.out _ (Below.drew (Below.refl _ _)) | exact SK.out _ XF
        clear hK K
        (try simp only [Act.put, zSb, zS0, zS1])
        refine zTk 17 ?_
        (try simp only [Act.put, zSb, zS0, zS1])
        refine wpAnyH_done (by kernel_rfl) ?_ _
        go_wp2_with (rw [hst])
        go_meet
        case rel => exact ⟨jz, _, _, RW, rfl, rfl, ZF, OF, hl0, hzv, by first | exact Nat.le_of_eq hsz.symm | (rw [hsz]; exact Nat.le_of_lt Z.1), by rw [hsz]; exact Z.1, hlu, .inl hjl, XF⟩
    · go_simp
      (have Z := Bo.new vx (#[.int .i64 0, .int .i64 0, .slice none 0 0, .bool false, .int .i64 0, .int .i64 0, .int .i64 0, .int .i64 0, .int .i64 0, .int .i64 0, .int .i64 0, .int .i64 0, .int .i64 0, .int .i64 0, .int .i64 0, .slice none 0 0, .int .i64 0, .int .i64 0, .int .i64 0, .int .i64 0, .int .i64 0, .bool false, .int .i64 0, .int .i64 0, .int .i64 0, .slice none 0 0, .slice none 0 0, .int .i64 0]) 103); (have NL := Below.nw vx (.cells (#[.int .i64 0, .int .i64 0, .slice none 0 0, .bool false, .int .i64 0, .int .i64 0, .int .i64 0, .int .i64 0, .int .i64 0, .int .i64 0, .int .i64 0, .int .i64 0, .int .i64 0, .int .i64 0, .int .i64 0, .slice none 0 0, .int .i64 0, .int .i64 0, .int .i64 0, .int .i64 0, .int .i64 0, .bool false, .int .i64 0, .int .i64 0, .int .i64 0, .slice none 0 0, .slice none 0 0, .int .i64 0]) 103)); (have hzv : v0.heap.size ≤ vx.heap.size := XB.size); (replace XB := XB.trans (NL.mono XB.size)); (clear NL); (generalize vx.alloc (.cells (#[.int .i64 0, .int .i64 0, .slice none 0 0, .bool false, .int .i64 0, .int .i64 0, .int .i64 0, .int .i64 0, .int .i64 0, .int .i64 0, .int .i64 0, .int .i64 0, .int .i64 0, .int .i64 0, .int .i64 0, .slice none 0 0, .int .i64 0, .int .i64 0, .int .i64 0, .int .i64 0, .int .i64 0, .bool false, .int .i64 0, .int .i64 0, .int .i64 0, .slice none 0 0, .slice none 0 0, .int .i64 0]) 103) = vy at *); (generalize vx.heap.size = jz at *)
      refine hK.out _ _ ?_ (fun hHeld => ?_)
      · first | exact SK.out _ XB | exact SK.out _ (Below.drew (Below.refl _ _)) | exact SK.out _ XF
      clear hK K
      (try simp only [Act.put, zSb, zS0, zS1])
      refine wpAnyH_ready (rs := [4]) (by kernel_rfl) (by simp) ?_
      refine (AllReadyH.cons (by rw [List.getElem?_toArray]; rfl) (fun K hK => ?_) AllReadyH.nil)
      go_simp
      refine (CIV vy).mono ?_; rintro ee w9 ⟨rfl, rfl⟩; rw [hnd]
      (try go_wp2_with fail)
      refine hK.out _ _ ?_ (fun hHeld => ?_)
      · first | exact SK.out _ XB | exact SK.out _ (Below.drew (Below.refl _ _)) | exact SK.out _ XF
      clear hK K
      (try simp only [Act.put, zSb, zS0, zS1])
      refine zTk 5 ?_
      (try simp only [Act.put, zSb, zS0, zS1])
      refine zTk 6 ?_
      (try simp only [Act.put, zSb, zS0, zS1])
      refine zTk 7 ?_
      (try simp only [Act.put, zSb, zS0, zS1])
      refine zTk 8 ?_
      (try simp only [Act.put, zSb, zS0, zS1])
      refine zTk 9 ?_
      (try simp only [Act.put, zSb, zS0, zS1])
      refine zTk 10 ?_
      (try simp only [Act.put, zSb, zS0, zS1])
      refine wpAnyH_ready (rs := [11]) (by kernel_rfl) (by simp) ?_
      refine (AllReadyH.cons (by rw [List.getElem?_toArray]; rfl) (fun K hK => ?_) AllReadyH.nil)
      go_simp
      (try rw [hne]); refine (CW vy (B.trans (XB.mono B.size))).mono ?_; rintro ee vs ⟨RW, rfl, OW, hbl⟩; (have hl0 : v0.heap.size ≤ vy.heap.size := XB.size); (have hlu : vy.heap.size ≤ vs.heap.size := hbl.size); (replace XB := XB.trans (hbl.mono XB.size)); (have hjl : jz < vy.heap.size := Z.1); (replace Z := Z.below hbl); (clear hbl); (have hRW := OW.size); (have hst := Bo.store (P := Tryz.prog) (b := 0) RW.toList 0 0 Z rfl (by simp [hRW]) OW.one); (have OF := OW.btw (putA_btw RW.toList vs 0 jz) (.inr hjl)); (have XF := putA_below (k := jz) RW.toList v0 vs 0 XB hzv); (have ZF := Z.putW (U := RW) hRW); (have hsz := putA_size jz RW.toList vs 0); (generalize putA vs jz 0 RW.toList = vf at *)
      (try go_wp2_with fail)
      refine hK.out _ _ ?_ (fun hHeld => ?_)
      · first | exact SK.out _ XB | exact SK.out _ (Below.drew (Below.refl _ _)) | exact SK.out _ XF
      clear hK K
      (try simp only [Act.put, zSb, zS0, zS1])
      refine zTk 12 ?_
      (try simp only [Act.put, zSb, zS0, zS1])
      refine zTk 13 ?_
      (try simp only [Act.put, zSb, zS0, zS1])
      refine zTk 14 ?_
      (try simp only [Act.put, zSb, zS0, zS1])
      refine wpAnyH_ready (rs := [16]) (by kernel_rfl) (by simp) ?_
      refine (AllReadyH.cons (by rw [List.getElem?_toArray]; rfl) (fun K hK => ?_) AllReadyH.nil)
      go_simp
      refine hK.out _ _ ?_ (fun hHeld => ?_)
      · first | exact SK.out _ XB | exact SK.out _ (Below.drew (Below.refl _ _)) | exact SK.out _ XF
      clear hK K
      (try simp only [Act.put, zSb, zS0, zS1])
      refine zTk 17 ?_
      (try simp only [Act.put, zSb, zS0, zS1])
      refine wpAnyH_done (by kernel_rfl) ?_ _
      go_wp2_with (rw [hst])
      go_meet
      case rel => exact ⟨jz, _, _, RW, rfl, rfl, ZF, OF, hl0, hzv, by first | exact Nat.le_of_eq hsz.symm | (rw [hsz]; exact Nat.le_of_lt Z.1), by rw [hsz]; exact Z.1, hlu, .inl hjl, XF⟩
  case rest =>
  have gKC : w.heap.size < v0.heap.size := C.1
  have gKN : w.heap.size + 1 < v0.heap.size := N.1
  have gKR : w.heap.size + 2 < v0.heap.size := R.1
  have gKM : w.heap.size + 3 < v0.heap.size := M.1
  obtain ⟨kKW, lk, uk, U, rfl, rfl, KW, OU, hlk1, hjK, huk, hjk2, hlk3, hlk4, hb⟩ := hcut
  clear SK CW CIV
  generalize wc = v1 at *
  have zz : v0.heap.size ≤ v1.heap.size := hb.size
  replace B := B.trans (hb.mono B.size)
  replace C := C.below hb
  replace N := N.below hb
  replace R := R.below hb
  replace M := M.below hb
  clear hb
  obtain ⟨aa, ac, pa, pc, ha, hc, rfl, hbn, P1, P2, P3⟩ := OU
  have gMbC : w.heap.size < v1.heap.size := C.1
  have gMbN : w.heap.size + 1 < v1.heap.size := N.1
  have gMbR : w.heap.size + 2 < v1.heap.size := R.1
  have gMbM : w.heap.size + 3 < v1.heap.size := M.1
  have gMbKW : kKW < v1.heap.size := KW.1
  have gMbP1 : uk ≤ v1.heap.size := by omega
  have gMbP2 : uk ≤ v1.heap.size := by omega
  have gMbP3 : uk ≤ v1.heap.size := by omega
  have hb := Below.nw v1 (.cells #[.int .i64 0, .int .i64 0, .int .i64 0, .int .i64 0, .int .i64 0, .int .i64 0, .int .i64 0, .string ⟨#[]⟩] 59)
  have Mb := Bo.new v1 #[.int .i64 0, .int .i64 0, .int .i64 0, .int .i64 0, .int .i64 0, .int .i64 0, .int .i64 0, .string ⟨#[]⟩] 59
  go_upto_region 3 with fail
  replace B := B.trans (hb.mono B.size)
  replace C := C.below hb
  replace N := N.below hb
  replace R := R.below hb
  replace M := M.below hb
  replace KW := KW.below hb
  replace P1 := P1.below hb
  replace P2 := P2.below hb
  replace P3 := P3.below hb
  clear hb
  generalize v1.alloc (.cells #[.int .i64 0, .int .i64 0, .int .i64 0, .int .i64 0, .int .i64 0, .int .i64 0, .int .i64 0, .string ⟨#[]⟩] 59) = v2 at *
  generalize v1.heap.size = kMb at *
  have zv2 : kMb ≤ v2.heap.size := Nat.le_of_lt Mb.1
  (try rw [hst0])
  have hmx : x.na ≤ maxLen := Nat.le_trans hbn.1 (by decide)
  go_wp2_with fail
  refine (wkAskdone y x ct p d aa ac pa pc ha hc kKW lk uk xt v2 hmx (by omega) (by omega) P1 hwa htb hnd htm hus hn16 KW).mono ?_
  rintro e v3 ⟨ta, tc, rfl, N1, RT, hb⟩
  have hwv : w.heap.size ≤ v2.heap.size := B.size
  have hqv : kMb < v2.heap.size := Mb.1
  replace B := B.trans ((hb.belowL (Nat.le_of_lt KW.1)).mono (show w.heap.size ≤ kKW by omega))
  clear P1
  replace C := C.btw hb (by omega)
  replace N := N.btw hb (by omega)
  replace R := R.btw hb (by omega)
  replace M := M.btw hb (by omega)
  replace Mb := Mb.btw hb (by omega)
  replace P2 := P2.btw hb (by omega)
  replace P3 := P3.btw hb (by omega)
  have zv3 := hb.2.2.2.1
  clear hb KW
  have KW := N1
  clear N1
  have qC : w.heap.size + 3 < v2.heap.size := by omega
  have hst := Bo.store (P := Tryz.prog) (b := 0) ([.int .i64 1, .int .i64 x.ni, .int .i64 xt, .int .i64 (x.te * 1000 + x.us), .int .i64 0, .int .i64 0, .int .i64 0, .string ⟨#[]⟩]) 0 0 Mb rfl (show 0 + 8 ≤ 8 by decide) (List.forall_mem_cons.2 ⟨rfl, (List.forall_mem_cons.2 ⟨rfl, (List.forall_mem_cons.2 ⟨rfl, (List.forall_mem_cons.2 ⟨rfl, (List.forall_mem_cons.2 ⟨rfl, (List.forall_mem_cons.2 ⟨rfl, (List.forall_mem_cons.2 ⟨rfl, (List.forall_mem_cons.2 ⟨rfl, fun _ h => nomatch h⟩)⟩)⟩)⟩)⟩)⟩)⟩)⟩)
  have hb : Btw (kMb) (kMb + 1) v3 _ := putA_btw ([.int .i64 1, .int .i64 x.ni, .int .i64 xt, .int .i64 (x.te * 1000 + x.us), .int .i64 0, .int .i64 0, .int .i64 0, .string ⟨#[]⟩]) v3 0 (kMb)
  have B1 := putA_below (k := kMb) ([.int .i64 1, .int .i64 x.ni, .int .i64 xt, .int .i64 (x.te * 1000 + x.us), .int .i64 0, .int .i64 0, .int .i64 0, .string ⟨#[]⟩]) w v3 0 B (by omega)
  have N1 : Bo (putA v3 (kMb) 0 ([.int .i64 1, .int .i64 x.ni, .int .i64 xt, .int .i64 (x.te * 1000 + x.us), .int .i64 0, .int .i64 0, .int .i64 0, .string ⟨#[]⟩])) (kMb) (#[.int .i64 1, .int .i64 x.ni, .int .i64 xt, .int .i64 (x.te * 1000 + x.us), .int .i64 0, .int .i64 0, .int .i64 0, .string ⟨#[]⟩]) := Mb.putW (U := #[.int .i64 1, .int .i64 x.ni, .int .i64 xt, .int .i64 (x.te * 1000 + x.us), .int .i64 0, .int .i64 0, .int .i64 0, .string ⟨#[]⟩]) rfl
  go_upto_region 5 with (rw [hst])
  clear hst  Mb B
  replace C := C.btw hb (by omega)
  replace N := N.btw hb (by omega)
  replace R := R.btw hb (by omega)
  replace M := M.btw hb (by omega)
  replace KW := KW.btw hb (by omega)
  replace P2 := P2.btw hb (by omega)
  replace P3 := P3.btw hb (by omega)
  replace RT := RT.btw hb (by omega)
  have zv4 := hb.2.2.2.1
  clear hb
  generalize putA v3 (kMb) 0 ([.int .i64 1, .int .i64 x.ni, .int .i64 xt, .int .i64 (x.te * 1000 + x.us), .int .i64 0, .int .i64 0, .int .i64 0, .string ⟨#[]⟩]) = v4 at *
  have B := B1
  have Mb := N1
  clear B1 N1
  go_upto_region 5 with fail
  refine wp_region_held_drew (S := (fun w' => (loadCells ⟨kMb, 0, none⟩ 8).run Tryz.prog w' = .ok #[.int .i64 1, .int .i64 x.ni, .int .i64 xt, .int .i64 (x.te * 1000 + x.us), .int .i64 0, .int .i64 0, .int .i64 0, .string ⟨#[]⟩] w')) (by kernel_rfl) ?_ (fun hHeld => ?_)
  · first | exact hS3 | exact hS2 | exact hS1 | exact hS0 | exact (Bo.drew Mb).load (P := Tryz.prog) (show (#[.int .i64 1, .int .i64 x.ni, .int .i64 xt, .int .i64 (x.te * 1000 + x.us), .int .i64 0, .int .i64 0, .int .i64 0, .string ⟨#[]⟩] : Array Value).size = 8 from rfl)
  have hb : Below v4.heap.size v4 v4.drew := Below.drew (Below.refl _ _)
  replace B := B.trans (hb.mono B.size)
  replace C := C.below hb
  replace N := N.below hb
  replace R := R.below hb
  replace M := M.below hb
  replace KW := KW.below hb
  replace Mb := Mb.below hb
  replace P2 := P2.below hb
  replace P3 := P3.below hb
  replace RT := RT.below hb
  clear hb
  generalize v4.drew = vx at *
  have hS0 : (fun w' => (loadCells ⟨kMb, 0, none⟩ 8).run Tryz.prog w' = .ok #[.int .i64 1, .int .i64 x.ni, .int .i64 xt, .int .i64 (x.te * 1000 + x.us), .int .i64 0, .int .i64 0, .int .i64 0, .string ⟨#[]⟩] w') vx := Mb.load (P := Tryz.prog) (show (#[.int .i64 1, .int .i64 x.ni, .int .i64 xt, .int .i64 (x.te * 1000 + x.us), .int .i64 0, .int .i64 0, .int .i64 0, .string ⟨#[]⟩] : Array Value).size = 8 from rfl)
  have hU : (ndV { x with us := x.us + 1, AM := addG x.AM x.na (kT (x.te * 1000 + x.us) xt ct 1), na := x.na + 1 } ta tc pa pc ha hc).size = 16 := rfl
  refine zTk 1 ?_
  (try simp only [Act.put, zSb, zS0, zS1])
  refine zTk 2 ?_
  (try simp only [Act.put, zSb, zS0, zS1])
  refine wpAnyH_ready (rs := [0]) (by kernel_rfl) (by simp) ?_
  refine (AllReadyH.cons (by rw [List.getElem?_toArray]; rfl) (fun K hK => ?_) AllReadyH.nil)
  go_simp
  refine (wkNode y { x with us := x.us + 1, AM := addG x.AM x.na (kT (x.te * 1000 + x.us) xt ct 1), na := x.na + 1 } ct p d ta tc pa pc ha hc kKW vx KW).mono ?_; rintro ee vs ⟨rfl, hb⟩; (replace B := B.trans (hb.mono B.size)); (replace C := C.below hb); (replace N := N.below hb); (replace R := R.below hb); (replace M := M.below hb); (replace KW := KW.below hb); (replace Mb := Mb.below hb); (replace P2 := P2.below hb); (replace P3 := P3.below hb); (replace RT := RT.below hb); (have zz0 := hb.size); (clear hb); (have hS1 : (fun w' => (loadCells ⟨kMb, 0, none⟩ 8).run Tryz.prog w' = .ok #[.int .i64 1, .int .i64 x.ni, .int .i64 xt, .int .i64 (x.te * 1000 + x.us), .int .i64 0, .int .i64 0, .int .i64 0, .string ⟨#[]⟩] w') vs := Mb.load (P := Tryz.prog) (show (#[.int .i64 1, .int .i64 x.ni, .int .i64 xt, .int .i64 (x.te * 1000 + x.us), .int .i64 0, .int .i64 0, .int .i64 0, .string ⟨#[]⟩] : Array Value).size = 8 from rfl)); (have hst := Bo.store (P := Tryz.prog) (b := 0) (ndV { x with us := x.us + 1, AM := addG x.AM x.na (kT (x.te * 1000 + x.us) xt ct 1), na := x.na + 1 } ta tc pa pc ha hc).toList 0 0 R rfl (by simp [hU]) (ndV_one _ _ _ _ _ _ _))
  (try go_wp2_with fail)
  refine hK.out _ _ ?_ (fun hHeld => ?_)
  · first | exact hS3 | exact hS2 | exact hS1 | exact hS0 | exact (Bo.drew Mb).load (P := Tryz.prog) (show (#[.int .i64 1, .int .i64 x.ni, .int .i64 xt, .int .i64 (x.te * 1000 + x.us), .int .i64 0, .int .i64 0, .int .i64 0, .string ⟨#[]⟩] : Array Value).size = 8 from rfl)
  clear hK K
  (try simp only [Act.put, zSb, zS0, zS1])
  refine wpAnyH_ready (rs := [3]) (by kernel_rfl) (by simp) ?_
  refine (AllReadyH.cons (by rw [List.getElem?_toArray]; rfl) (fun K hK => ?_) AllReadyH.nil)
  go_simp
  (have hbt := putA_btw (ndV { x with us := x.us + 1, AM := addG x.AM x.na (kT (x.te * 1000 + x.us) xt ct 1), na := x.na + 1 } ta tc pa pc ha hc).toList vs 0 (w.heap.size + 2)); (replace B := putA_below (k := w.heap.size + 2) (ndV { x with us := x.us + 1, AM := addG x.AM x.na (kT (x.te * 1000 + x.us) xt ct 1), na := x.na + 1 } ta tc pa pc ha hc).toList w vs 0 B (by omega)); (replace R := R.putW (U := (ndV { x with us := x.us + 1, AM := addG x.AM x.na (kT (x.te * 1000 + x.us) xt ct 1), na := x.na + 1 } ta tc pa pc ha hc)) hU); (replace M := M.btw hbt (by omega)); (replace P2 := P2.btw hbt (by omega)); (replace P3 := P3.btw hbt (by omega)); (replace RT := RT.btw hbt (by omega)); (replace Mb := Mb.btw hbt (by omega)); (have zz1 := hbt.2.2.2.1); (clear hst hbt); (generalize putA vs (w.heap.size + 2) 0 (ndV { x with us := x.us + 1, AM := addG x.AM x.na (kT (x.te * 1000 + x.us) xt ct 1), na := x.na + 1 } ta tc pa pc ha hc).toList = vy at *); (have hS2 : (fun w' => (loadCells ⟨kMb, 0, none⟩ 8).run Tryz.prog w' = .ok #[.int .i64 1, .int .i64 x.ni, .int .i64 xt, .int .i64 (x.te * 1000 + x.us), .int .i64 0, .int .i64 0, .int .i64 0, .string ⟨#[]⟩] w') vy := Mb.load (P := Tryz.prog) (show (#[.int .i64 1, .int .i64 x.ni, .int .i64 xt, .int .i64 (x.te * 1000 + x.us), .int .i64 0, .int .i64 0, .int .i64 0, .string ⟨#[]⟩] : Array Value).size = 8 from rfl)); (have hst := Bo.store (P := Tryz.prog) (b := 0) ([.int .i64 1, .int .i64 x.ni, .int .i64 xt, .int .i64 (x.te * 1000 + x.us), .int .i64 0, .int .i64 0, .int .i64 0, .string ⟨#[]⟩]) 0 0 M rfl (show 0 + 8 ≤ 8 by decide) (List.forall_mem_cons.2 ⟨rfl, (List.forall_mem_cons.2 ⟨rfl, (List.forall_mem_cons.2 ⟨rfl, (List.forall_mem_cons.2 ⟨rfl, (List.forall_mem_cons.2 ⟨rfl, (List.forall_mem_cons.2 ⟨rfl, (List.forall_mem_cons.2 ⟨rfl, (List.forall_mem_cons.2 ⟨rfl, fun _ h => nomatch h⟩)⟩)⟩)⟩)⟩)⟩)⟩)⟩))
  refine hK.out _ _ ?_ (fun hHeld => ?_)
  · first | exact hS3 | exact hS2 | exact hS1 | exact hS0 | exact (Bo.drew Mb).load (P := Tryz.prog) (show (#[.int .i64 1, .int .i64 x.ni, .int .i64 xt, .int .i64 (x.te * 1000 + x.us), .int .i64 0, .int .i64 0, .int .i64 0, .string ⟨#[]⟩] : Array Value).size = 8 from rfl)
  clear hK K
  (try simp only [Act.put, zSb, zS0, zS1])
  refine wpAnyH_ready (rs := [4]) (by kernel_rfl) (by simp) ?_
  refine (AllReadyH.cons (by rw [List.getElem?_toArray]; rfl) (fun K hK => ?_) AllReadyH.nil)
  go_simp
  (have hbt := putA_btw ([.int .i64 1, .int .i64 x.ni, .int .i64 xt, .int .i64 (x.te * 1000 + x.us), .int .i64 0, .int .i64 0, .int .i64 0, .string ⟨#[]⟩]) vy 0 (w.heap.size + 3)); (replace B := putA_below (k := w.heap.size + 3) ([.int .i64 1, .int .i64 x.ni, .int .i64 xt, .int .i64 (x.te * 1000 + x.us), .int .i64 0, .int .i64 0, .int .i64 0, .string ⟨#[]⟩]) w vy 0 B (by omega)); (have M9 : Bo (putA vy (w.heap.size + 3) 0 ([.int .i64 1, .int .i64 x.ni, .int .i64 xt, .int .i64 (x.te * 1000 + x.us), .int .i64 0, .int .i64 0, .int .i64 0, .string ⟨#[]⟩])) (w.heap.size + 3) (#[.int .i64 1, .int .i64 x.ni, .int .i64 xt, .int .i64 (x.te * 1000 + x.us), .int .i64 0, .int .i64 0, .int .i64 0, .string ⟨#[]⟩]) := M.putW (U := #[.int .i64 1, .int .i64 x.ni, .int .i64 xt, .int .i64 (x.te * 1000 + x.us), .int .i64 0, .int .i64 0, .int .i64 0, .string ⟨#[]⟩]) rfl); (replace R := R.btw hbt (by omega)); (replace P2 := P2.btw hbt (by omega)); (replace P3 := P3.btw hbt (by omega)); (replace RT := RT.btw hbt (by omega)); (replace Mb := Mb.btw hbt (by omega)); (have zz2 := hbt.2.2.2.1); (clear hst hbt M); (generalize putA vy (w.heap.size + 3) 0 ([.int .i64 1, .int .i64 x.ni, .int .i64 xt, .int .i64 (x.te * 1000 + x.us), .int .i64 0, .int .i64 0, .int .i64 0, .string ⟨#[]⟩]) = vz at *); (have hS3 : (fun w' => (loadCells ⟨kMb, 0, none⟩ 8).run Tryz.prog w' = .ok #[.int .i64 1, .int .i64 x.ni, .int .i64 xt, .int .i64 (x.te * 1000 + x.us), .int .i64 0, .int .i64 0, .int .i64 0, .string ⟨#[]⟩] w') vz := Mb.load (P := Tryz.prog) (show (#[.int .i64 1, .int .i64 x.ni, .int .i64 xt, .int .i64 (x.te * 1000 + x.us), .int .i64 0, .int .i64 0, .int .i64 0, .string ⟨#[]⟩] : Array Value).size = 8 from rfl))
  refine hK.out _ _ ?_ (fun hHeld => ?_)
  · first | exact hS3 | exact hS2 | exact hS1 | exact hS0 | exact (Bo.drew Mb).load (P := Tryz.prog) (show (#[.int .i64 1, .int .i64 x.ni, .int .i64 xt, .int .i64 (x.te * 1000 + x.us), .int .i64 0, .int .i64 0, .int .i64 0, .string ⟨#[]⟩] : Array Value).size = 8 from rfl)
  clear hK K
  (try simp only [Act.put, zSb, zS0, zS1])
  refine zTk 5 ?_
  (try simp only [Act.put, zSb, zS0, zS1])
  refine wpAnyH_done (by kernel_rfl) ?_ _
  go_wp2_with fail
  have hL0 := R.load (P := Tryz.prog) hU
  have hL1 := M9.load (P := Tryz.prog) (show (#[.int .i64 1, .int .i64 x.ni, .int .i64 xt, .int .i64 (x.te * 1000 + x.us), .int .i64 0, .int .i64 0, .int .i64 0, .string ⟨#[]⟩] : Array Value).size = 8 from rfl)
  exact bodyPost_ret (v := .tuple #[.agg (ndV { x with us := x.us + 1, AM := addG x.AM x.na (kT (x.te * 1000 + x.us) xt ct 1), na := x.na + 1 } ta tc pa pc ha hc), .agg #[.int .i64 1, .int .i64 x.ni, .int .i64 xt, .int .i64 (x.te * 1000 + x.us), .int .i64 0, .int .i64 0, .int .i64 0, .string ⟨#[]⟩], .int .i64 0]) (by simp [results, Tryz.results11, go_sem]; rw [hL0]; simp only [Result.andThen_ok]; rw [show w.heap.size + 1 + 1 + 1 = w.heap.size + 3 from rfl, hL1]; rfl) rfl ⟨_, rfl, ⟨ta, tc, pa, pc, ha, hc, rfl, ⟨(by have := hna; show x.na + 1 ≤ 1048576; omega), hbn.2.1, hbn.2.2⟩, RT.low (by omega), P2.low (by omega), P3.low (by omega)⟩, B⟩
theorem implAskX (AC AN : Array Value) (y : CfX) (x : NdX) (ct xt : Int) (w : World) (HC : CfS w AC y) (HN : NdS w AN x) (hwf : wfX x) :
    Calls Tryz.prog 11 #[.agg AC, .agg AN, .int .i64 ct, .int .i64 xt] w fun e w' => ∃ R, e = .returned (.tuple #[.agg R, .agg #[.int .i64 ((askX y x ct xt).2.1.1), .int .i64 ((askX y x ct xt).2.1.2.1), .int .i64 ((askX y x ct xt).2.1.2.2.1), .int .i64 ((askX y x ct xt).2.1.2.2.2.1), .int .i64 ((askX y x ct xt).2.1.2.2.2.2.1), .int .i64 ((askX y x ct xt).2.1.2.2.2.2.2.1), .int .i64 ((askX y x ct xt).2.1.2.2.2.2.2.2.1), .string ((askX y x ct xt).2.1.2.2.2.2.2.2.2)], .int .i64 (askX y x ct xt).2.2]) ∧ NdO w' w.heap.size w'.heap.size R (askX y x ct xt).1 ∧ Below w.heap.size w w' := by
  cases hnd : nodB xt
  · exact implAskunfit1 AC AN y x ct xt w HC HN hwf hnd
  cases hne : (xt == x.ni)
  rotate_left
  · exact implAskunfit2 AC AN y x ct xt w HC HN hwf hnd hne
  rcases sta_cases y x ct with h0 | ⟨h0, hok⟩ | ⟨h0, hok⟩
  · exact implAskbad AC AN y x ct xt w HC HN hwf hnd hne h0
  · exact implAskoff AC AN y x ct xt w HC HN hwf hnd hne h0 hok
  by_cases hus : x.us = 1000
  · exact implAskspent AC AN y x ct xt w HC HN hwf hnd hne h0 hok hus
  by_cases hn16 : x.na = 16
  · exact implAskfull AC AN y x ct xt w HC HN hwf hnd hne h0 hok hus hn16
  · exact implAskdone AC AN y x ct xt w HC HN hwf hnd hne h0 hok hus hn16
end Go.Proofs.YtgempaoamamaeaaGreat
