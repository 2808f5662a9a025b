/- The walk of the exact law of NodeNow (specification and program told as hypotheses). -/
import Derived.Test.YtfhappkeipcemaaGreatM0
import Derived.Test.YtfhappkeipcemaaGreatM24
namespace Go.Proofs.YtfhappkeipcemaaGreat
open Go.RowKit
set_option linter.unusedVariables false
def NodeNowTold (f : Nat) (F : CfX → NdX → Int → Int × Int × Int) : Prop := ∀ (AC AN : Array Value) (y : CfX) (x : NdX) (ct : Int) (w : World), CfS w AC y → NdS w AN x → wfX x →
    Calls Tryz.prog f #[.agg AC, .agg AN, .int .i64 ct] w fun e w' => e = .returned (.tuple #[.agg #[.int .i64 ((F y x ct).1), .int .i64 ((F y x ct).2.1)], .int .i64 ((F y x ct).2.2)]) ∧ Below w.heap.size w w'
attribute [-go_sem] loadCells storeCells in
set_option maxRecDepth 100000 in
set_option maxHeartbeats 16000000 in
theorem lawNodeNow (F : CfX → NdX → Int → Int × Int × Int) (TS : NodeNowTold 12 F) (TI : NodeNowTold 15 F) (AC AN : Array Value) (y : CfX) (x : NdX) (ct : Int) (w : World) (HC : CfW w AC y) (HN : NdW w AN x) (hwf : wfX x) :
    Calls Tryz.prog 3 #[.agg AC, .agg AN, .int .i64 ct] w fun e w' => e = .returned (.bool true) ∧ Below w.heap.size w w' := by
  have A0 := Below.nw w (.cells AC 28)
  have A1 := Below.nw (w.alloc (.cells AC 28)) (.cells AN 43)
  have C := (Bo.new w AC 28).below A1
  have N := Bo.new (w.alloc (.cells AC 28)) AN 43
  have B := A0.trans (A1.mono A0.size)
  simp only [World.size_alloc] at N
  clear A0 A1
  have hC := HC.size
  have hN := HN.size
  have HSC : Hid (CfW w AC y) := HC
  have HSN : Hid (NdW w AN x) := HN
  clear HC HN
  have CS := fun (v : World) (RC RN : Array Value) (h : CfS v RC y) (h' : NdS v RN x) => TS RC RN y x ct v h h' hwf
  have CP := fun (v : World) (RC RN : Array Value) (h : CfS v RC y) (h' : NdS v RN x) => TI RC RN y x ct v h h' hwf
  clear TS TI
  generalize F y x ct = Y at *
  obtain ⟨ra, rb, cd⟩ := Y
  simp only at CS CP
  have hqcd : (cd != cd) = false := by simp
  go_enter Tryz.func3, Tryz.ntmps3
  go_upto_region 2 with fail
  generalize (w.alloc (.cells AC 28)).alloc (.cells AN 43) = v0 at *
  have hL := C.load (P := Tryz.prog) hC
  go_wp2_with (rw [hL])
  refine (szCfgW AC y 1048576 v0 (HSC.out.below B) (by decide) (by decide)).mono ?_
  rintro e v1 ⟨Z, rfl, hZ, hb⟩
  clear hL
  replace B := B.trans (hb.mono B.size)
  replace C := C.below hb
  replace N := N.below hb
  clear hb
  by_cases hz : Z < 0
  · clear CS CP hZ
    go_wp2_with fail
    go_ret
    exact ⟨rfl, B⟩
  obtain ⟨hcs, hZ1⟩ := hZ (by omega)
  clear hZ
  have hL := N.load (P := Tryz.prog) hN
  go_wp2_with (rw [hL])
  refine (szNodeW AN x Z v1 (HSN.out.below B) (by omega) hZ1).mono ?_
  rintro e v2 ⟨Z2, rfl, hZ, hb⟩
  clear hL
  replace B := B.trans (hb.mono B.size)
  replace C := C.below hb
  replace N := N.below hb
  clear hb
  by_cases hz2 : Z2 < 0
  · clear CS CP hZ
    go_wp2_with fail
    go_ret
    exact ⟨rfl, B⟩
  obtain ⟨hsh, -⟩ := hZ (by omega)
  clear hZ hZ1
  have CTC := fun (v : World) (h : Below w.heap.size w v) => toCfgW AC y v (HSC.out.below h) hcs
  have CTN := fun (v : World) (h : Below w.heap.size w v) => toNodeW AN x v (HSN.out.below h) hsh
  have hw2 : w.heap.size + 1 < v2.heap.size := N.1
  go_upto_region 8 with fail
  have SK : Hid (∀ w', Below v2.heap.size v2 w' → (fun w' => (loadCells ⟨w.heap.size, 0, none⟩ 11).run Tryz.prog w' = .ok AC w' ∧ (loadCells ⟨w.heap.size + 1, 0, none⟩ 16).run Tryz.prog w' = .ok AN w') w') := fun w' hw => ⟨(C.below hw).load hC, (N.below hw).load hN⟩
  go_cut [8, 9] (fun s8 s9 wx => ∃ (j : Nat), s8 = .pointer (some ⟨j, 0, none⟩) ∧ s9 = .int .i64 cd ∧ Bo wx j (#[.int .i64 ra, .int .i64 rb]) ∧ v2.heap.size ≤ j ∧ Below v2.heap.size v2 wx)
  case first => as_aux_lemma =>
    refine wp_region_held_drew (S := (fun w' => (loadCells ⟨w.heap.size, 0, none⟩ 11).run Tryz.prog w' = .ok AC w' ∧ (loadCells ⟨w.heap.size + 1, 0, none⟩ 16).run Tryz.prog w' = .ok AN w')) (by kernel_rfl) ?_ (fun hHeld => ?_)
    · first | exact SK.out _ XB | exact SK.out _ (Below.drew (Below.refl _ _)) | exact SK.out _ XF
    have XB : Below v2.heap.size v2 v2.drew := Below.drew (Below.refl _ _)
    generalize v2.drew = vx at *
    refine zTk 0 ?_
    (try simp only [Act.put, zSb, zS0, zS1])
    refine zTk 2 ?_
    (try simp only [Act.put, zSb, zS0, zS1])
    refine zTk 4 ?_
    (try simp only [Act.put, zSb, zS0, zS1])
    refine wpAnyH_ready (rs := [1, 9]) (by kernel_rfl) (by simp) ?_
    refine (AllReadyH.cons (by rw [List.getElem?_toArray]; rfl) (fun K hK => ?_) (AllReadyH.cons (by rw [List.getElem?_toArray]; rfl) (fun K hK => ?_) AllReadyH.nil))
    · go_simp
      refine (CTC vx (B.trans (XB.mono B.size))).mono ?_; rintro ee vx ⟨RC, rfl, OC, hbl⟩; (replace XB := XB.trans (hbl.mono XB.size)); (clear hbl)
      (try go_wp2_with fail)
      refine hK.out _ _ ?_ (fun hHeld => ?_)
      · first | exact SK.out _ XB | exact SK.out _ (Below.drew (Below.refl _ _)) | exact SK.out _ XF
      clear hK K
      (try simp only [Act.put, zSb, zS0, zS1])
      refine wpAnyH_ready (rs := [3, 9]) (by kernel_rfl) (by simp) ?_
      refine (AllReadyH.cons (by rw [List.getElem?_toArray]; rfl) (fun K hK => ?_) (AllReadyH.cons (by rw [List.getElem?_toArray]; rfl) (fun K hK => ?_) AllReadyH.nil))
      · go_simp
        refine (CTN vx (B.trans (XB.mono B.size))).mono ?_; rintro ee vx ⟨RN, rfl, ON, hbl⟩; (replace XB := XB.trans (hbl.mono XB.size)); (replace OC := OC.below hbl); (clear hbl)
        (try go_wp2_with fail)
        refine hK.out _ _ ?_ (fun hHeld => ?_)
        · first | exact SK.out _ XB | exact SK.out _ (Below.drew (Below.refl _ _)) | exact SK.out _ XF
        clear hK K
        (try simp only [Act.put, zSb, zS0, zS1])
        refine wpAnyH_ready (rs := [5, 9]) (by kernel_rfl) (by simp) ?_
        refine (AllReadyH.cons (by rw [List.getElem?_toArray]; rfl) (fun K hK => ?_) (AllReadyH.cons (by rw [List.getElem?_toArray]; rfl) (fun K hK => ?_) AllReadyH.nil))
        · go_simp
          refine (CS vx RC RN OC.src ON.src).mono ?_; rintro ee vs ⟨rfl, hbl⟩; (have hl0 : v2.heap.size ≤ vx.heap.size := XB.size); (have hlu : vx.heap.size ≤ vs.heap.size := hbl.size); (replace XB := XB.trans (hbl.mono XB.size)); (clear hbl)
          (try go_wp2_with fail)
          refine hK.out _ _ ?_ (fun hHeld => ?_)
          · first | exact SK.out _ XB | exact SK.out _ (Below.drew (Below.refl _ _)) | exact SK.out _ XF
          clear hK K
          (try simp only [Act.put, zSb, zS0, zS1])
          refine zTk 6 ?_
          (try simp only [Act.put, zSb, zS0, zS1])
          refine zTk 7 ?_
          (try simp only [Act.put, zSb, zS0, zS1])
          refine zTk 8 ?_
          (try simp only [Act.put, zSb, zS0, zS1])
          refine wpAnyH_ready (rs := [9]) (by kernel_rfl) (by simp) ?_
          refine (AllReadyH.cons (by rw [List.getElem?_toArray]; rfl) (fun K hK => ?_) AllReadyH.nil)
          go_simp
          (have Z := Bo.new vs (#[.int .i64 0, .int .i64 0]) 46); (have NL := Below.nw vs (.cells (#[.int .i64 0, .int .i64 0]) 46)); (have hzv : v2.heap.size ≤ vs.heap.size := XB.size); (replace XB := XB.trans (NL.mono XB.size)); (clear NL); (generalize vs.alloc (.cells (#[.int .i64 0, .int .i64 0]) 46) = vy at *); (generalize vs.heap.size = jz at *); (have hst := Bo.store (P := Tryz.prog) (b := 0) ([.int .i64 ra, .int .i64 rb]) 0 0 Z rfl (show 0 + 2 ≤ 2 by decide) (List.forall_mem_cons.2 ⟨rfl, (List.forall_mem_cons.2 ⟨rfl, fun _ h => nomatch h⟩)⟩)); (have XF := putA_below (k := jz) ([.int .i64 ra, .int .i64 rb]) v2 vy 0 XB hzv); (have ZF : Bo _ jz (#[.int .i64 ra, .int .i64 rb]) := Bo.put ([.int .i64 ra, .int .i64 rb]) 0 Z)
          refine hK.out _ _ ?_ (fun hHeld => ?_)
          · first | exact SK.out _ XB | exact SK.out _ (Below.drew (Below.refl _ _)) | exact SK.out _ XF
          clear hK K
          (try simp only [Act.put, zSb, zS0, zS1])
          refine wpAnyH_ready (rs := [10]) (by kernel_rfl) (by simp) ?_
          refine (AllReadyH.cons (by rw [List.getElem?_toArray]; rfl) (fun K hK => ?_) AllReadyH.nil)
          go_simp
          refine hK.out _ _ ?_ (fun hHeld => ?_)
          · first | exact SK.out _ XB | exact SK.out _ (Below.drew (Below.refl _ _)) | exact SK.out _ XF
          clear hK K
          (try simp only [Act.put, zSb, zS0, zS1])
          refine zTk 11 ?_
          (try simp only [Act.put, zSb, zS0, zS1])
          refine wpAnyH_done (by kernel_rfl) ?_ _
          go_wp2_with (rw [hst])
          go_meet
          case rel => exact ⟨jz, rfl, rfl, ZF, hzv, XF⟩
        · go_simp
          (have Z := Bo.new vx (#[.int .i64 0, .int .i64 0]) 46); (have NL := Below.nw vx (.cells (#[.int .i64 0, .int .i64 0]) 46)); (have hzv : v2.heap.size ≤ vx.heap.size := XB.size); (replace XB := XB.trans (NL.mono XB.size)); (replace OC := OC.below NL); (replace ON := ON.below NL); (clear NL); (generalize vx.alloc (.cells (#[.int .i64 0, .int .i64 0]) 46) = vy at *); (generalize vx.heap.size = jz at *)
          refine hK.out _ _ ?_ (fun hHeld => ?_)
          · first | exact SK.out _ XB | exact SK.out _ (Below.drew (Below.refl _ _)) | exact SK.out _ XF
          clear hK K
          (try simp only [Act.put, zSb, zS0, zS1])
          refine wpAnyH_ready (rs := [5]) (by kernel_rfl) (by simp) ?_
          refine (AllReadyH.cons (by rw [List.getElem?_toArray]; rfl) (fun K hK => ?_) AllReadyH.nil)
          go_simp
          refine (CS vy RC RN OC.src ON.src).mono ?_; rintro ee vs ⟨rfl, hbl⟩; (have hl0 : v2.heap.size ≤ vy.heap.size := XB.size); (have hlu : vy.heap.size ≤ vs.heap.size := hbl.size); (replace XB := XB.trans (hbl.mono XB.size)); (have hjl : jz < vy.heap.size := Z.1); (replace Z := Z.below hbl); (clear hbl); (have hst := Bo.store (P := Tryz.prog) (b := 0) ([.int .i64 ra, .int .i64 rb]) 0 0 Z rfl (show 0 + 2 ≤ 2 by decide) (List.forall_mem_cons.2 ⟨rfl, (List.forall_mem_cons.2 ⟨rfl, fun _ h => nomatch h⟩)⟩)); (have XF := putA_below (k := jz) ([.int .i64 ra, .int .i64 rb]) v2 vs 0 XB hzv); (have ZF : Bo _ jz (#[.int .i64 ra, .int .i64 rb]) := Bo.put ([.int .i64 ra, .int .i64 rb]) 0 Z)
          (try go_wp2_with fail)
          refine hK.out _ _ ?_ (fun hHeld => ?_)
          · first | exact SK.out _ XB | exact SK.out _ (Below.drew (Below.refl _ _)) | exact SK.out _ XF
          clear hK K
          (try simp only [Act.put, zSb, zS0, zS1])
          refine zTk 6 ?_
          (try simp only [Act.put, zSb, zS0, zS1])
          refine zTk 7 ?_
          (try simp only [Act.put, zSb, zS0, zS1])
          refine zTk 8 ?_
          (try simp only [Act.put, zSb, zS0, zS1])
          refine wpAnyH_ready (rs := [10]) (by kernel_rfl) (by simp) ?_
          refine (AllReadyH.cons (by rw [List.getElem?_toArray]; rfl) (fun K hK => ?_) AllReadyH.nil)
          go_simp
          refine hK.out _ _ ?_ (fun hHeld => ?_)
          · first | exact SK.out _ XB | exact SK.out _ (Below.drew (Below.refl _ _)) | exact SK.out _ XF
          clear hK K
          (try simp only [Act.put, zSb, zS0, zS1])
          refine zTk 11 ?_
          (try simp only [Act.put, zSb, zS0, zS1])
          refine wpAnyH_done (by kernel_rfl) ?_ _
          go_wp2_with (rw [hst])
          go_meet
          case rel => exact ⟨jz, rfl, rfl, ZF, hzv, XF⟩
      · go_simp
        (have Z := Bo.new vx (#[.int .i64 0, .int .i64 0]) 46); (have NL := Below.nw vx (.cells (#[.int .i64 0, .int .i64 0]) 46)); (have hzv : v2.heap.size ≤ vx.heap.size := XB.size); (replace XB := XB.trans (NL.mono XB.size)); (replace OC := OC.below NL); (clear NL); (generalize vx.alloc (.cells (#[.int .i64 0, .int .i64 0]) 46) = vy at *); (generalize vx.heap.size = jz at *)
        refine hK.out _ _ ?_ (fun hHeld => ?_)
        · first | exact SK.out _ XB | exact SK.out _ (Below.drew (Below.refl _ _)) | exact SK.out _ XF
        clear hK K
        (try simp only [Act.put, zSb, zS0, zS1])
        refine wpAnyH_ready (rs := [3]) (by kernel_rfl) (by simp) ?_
        refine (AllReadyH.cons (by rw [List.getElem?_toArray]; rfl) (fun K hK => ?_) AllReadyH.nil)
        go_simp
        refine (CTN vy (B.trans (XB.mono B.size))).mono ?_; rintro ee vx ⟨RN, rfl, ON, hbl⟩; (replace XB := XB.trans (hbl.mono XB.size)); (replace OC := OC.below hbl); (replace Z := Z.below hbl); (clear hbl)
        (try go_wp2_with fail)
        refine hK.out _ _ ?_ (fun hHeld => ?_)
        · first | exact SK.out _ XB | exact SK.out _ (Below.drew (Below.refl _ _)) | exact SK.out _ XF
        clear hK K
        (try simp only [Act.put, zSb, zS0, zS1])
        refine wpAnyH_ready (rs := [5]) (by kernel_rfl) (by simp) ?_
        refine (AllReadyH.cons (by rw [List.getElem?_toArray]; rfl) (fun K hK => ?_) AllReadyH.nil)
        go_simp
        refine (CS vx RC RN OC.src ON.src).mono ?_; rintro ee vs ⟨rfl, hbl⟩; (have hl0 : v2.heap.size ≤ vx.heap.size := XB.size); (have hlu : vx.heap.size ≤ vs.heap.size := hbl.size); (replace XB := XB.trans (hbl.mono XB.size)); (have hjl : jz < vx.heap.size := Z.1); (replace Z := Z.below hbl); (clear hbl); (have hst := Bo.store (P := Tryz.prog) (b := 0) ([.int .i64 ra, .int .i64 rb]) 0 0 Z rfl (show 0 + 2 ≤ 2 by decide) (List.forall_mem_cons.2 ⟨rfl, (List.forall_mem_cons.2 ⟨rfl, fun _ h => nomatch h⟩)⟩)); (have XF := putA_below (k := jz) ([.int .i64 ra, .int .i64 rb]) v2 vs 0 XB hzv); (have ZF : Bo _ jz (#[.int .i64 ra, .int .i64 rb]) := Bo.put ([.int .i64 ra, .int .i64 rb]) 0 Z)
        (try go_wp2_with fail)
        refine hK.out _ _ ?_ (fun hHeld => ?_)
        · first | exact SK.out _ XB | exact SK.out _ (Below.drew (Below.refl _ _)) | exact SK.out _ XF
        clear hK K
        (try simp only [Act.put, zSb, zS0, zS1])
        refine zTk 6 ?_
        (try simp only [Act.put, zSb, zS0, zS1])
        refine zTk 7 ?_
        (try simp only [Act.put, zSb, zS0, zS1])
        refine zTk 8 ?_
        (try simp only [Act.put, zSb, zS0, zS1])
        refine wpAnyH_ready (rs := [10]) (by kernel_rfl) (by simp) ?_
        refine (AllReadyH.cons (by rw [List.getElem?_toArray]; rfl) (fun K hK => ?_) AllReadyH.nil)
        go_simp
        refine hK.out _ _ ?_ (fun hHeld => ?_)
        · first | exact SK.out _ XB | exact SK.out _ (Below.drew (Below.refl _ _)) | exact SK.out _ XF
        clear hK K
        (try simp only [Act.put, zSb, zS0, zS1])
        refine zTk 11 ?_
        (try simp only [Act.put, zSb, zS0, zS1])
        refine wpAnyH_done (by kernel_rfl) ?_ _
        go_wp2_with (rw [hst])
        go_meet
        case rel => exact ⟨jz, rfl, rfl, ZF, hzv, XF⟩
    · go_simp
      (have Z := Bo.new vx (#[.int .i64 0, .int .i64 0]) 46); (have NL := Below.nw vx (.cells (#[.int .i64 0, .int .i64 0]) 46)); (have hzv : v2.heap.size ≤ vx.heap.size := XB.size); (replace XB := XB.trans (NL.mono XB.size)); (clear NL); (generalize vx.alloc (.cells (#[.int .i64 0, .int .i64 0]) 46) = vy at *); (generalize vx.heap.size = jz at *)
      refine hK.out _ _ ?_ (fun hHeld => ?_)
      · first | exact SK.out _ XB | exact SK.out _ (Below.drew (Below.refl _ _)) | exact SK.out _ XF
      clear hK K
      (try simp only [Act.put, zSb, zS0, zS1])
      refine wpAnyH_ready (rs := [1]) (by kernel_rfl) (by simp) ?_
      refine (AllReadyH.cons (by rw [List.getElem?_toArray]; rfl) (fun K hK => ?_) AllReadyH.nil)
      go_simp
      refine (CTC vy (B.trans (XB.mono B.size))).mono ?_; rintro ee vx ⟨RC, rfl, OC, hbl⟩; (replace XB := XB.trans (hbl.mono XB.size)); (replace Z := Z.below hbl); (clear hbl)
      (try go_wp2_with fail)
      refine hK.out _ _ ?_ (fun hHeld => ?_)
      · first | exact SK.out _ XB | exact SK.out _ (Below.drew (Below.refl _ _)) | exact SK.out _ XF
      clear hK K
      (try simp only [Act.put, zSb, zS0, zS1])
      refine wpAnyH_ready (rs := [3]) (by kernel_rfl) (by simp) ?_
      refine (AllReadyH.cons (by rw [List.getElem?_toArray]; rfl) (fun K hK => ?_) AllReadyH.nil)
      go_simp
      refine (CTN vx (B.trans (XB.mono B.size))).mono ?_; rintro ee vx ⟨RN, rfl, ON, hbl⟩; (replace XB := XB.trans (hbl.mono XB.size)); (replace OC := OC.below hbl); (replace Z := Z.below hbl); (clear hbl)
      (try go_wp2_with fail)
      refine hK.out _ _ ?_ (fun hHeld => ?_)
      · first | exact SK.out _ XB | exact SK.out _ (Below.drew (Below.refl _ _)) | exact SK.out _ XF
      clear hK K
      (try simp only [Act.put, zSb, zS0, zS1])
      refine wpAnyH_ready (rs := [5]) (by kernel_rfl) (by simp) ?_
      refine (AllReadyH.cons (by rw [List.getElem?_toArray]; rfl) (fun K hK => ?_) AllReadyH.nil)
      go_simp
      refine (CS vx RC RN OC.src ON.src).mono ?_; rintro ee vs ⟨rfl, hbl⟩; (have hl0 : v2.heap.size ≤ vx.heap.size := XB.size); (have hlu : vx.heap.size ≤ vs.heap.size := hbl.size); (replace XB := XB.trans (hbl.mono XB.size)); (have hjl : jz < vx.heap.size := Z.1); (replace Z := Z.below hbl); (clear hbl); (have hst := Bo.store (P := Tryz.prog) (b := 0) ([.int .i64 ra, .int .i64 rb]) 0 0 Z rfl (show 0 + 2 ≤ 2 by decide) (List.forall_mem_cons.2 ⟨rfl, (List.forall_mem_cons.2 ⟨rfl, fun _ h => nomatch h⟩)⟩)); (have XF := putA_below (k := jz) ([.int .i64 ra, .int .i64 rb]) v2 vs 0 XB hzv); (have ZF : Bo _ jz (#[.int .i64 ra, .int .i64 rb]) := Bo.put ([.int .i64 ra, .int .i64 rb]) 0 Z)
      (try go_wp2_with fail)
      refine hK.out _ _ ?_ (fun hHeld => ?_)
      · first | exact SK.out _ XB | exact SK.out _ (Below.drew (Below.refl _ _)) | exact SK.out _ XF
      clear hK K
      (try simp only [Act.put, zSb, zS0, zS1])
      refine zTk 6 ?_
      (try simp only [Act.put, zSb, zS0, zS1])
      refine zTk 7 ?_
      (try simp only [Act.put, zSb, zS0, zS1])
      refine zTk 8 ?_
      (try simp only [Act.put, zSb, zS0, zS1])
      refine wpAnyH_ready (rs := [10]) (by kernel_rfl) (by simp) ?_
      refine (AllReadyH.cons (by rw [List.getElem?_toArray]; rfl) (fun K hK => ?_) AllReadyH.nil)
      go_simp
      refine hK.out _ _ ?_ (fun hHeld => ?_)
      · first | exact SK.out _ XB | exact SK.out _ (Below.drew (Below.refl _ _)) | exact SK.out _ XF
      clear hK K
      (try simp only [Act.put, zSb, zS0, zS1])
      refine zTk 11 ?_
      (try simp only [Act.put, zSb, zS0, zS1])
      refine wpAnyH_done (by kernel_rfl) ?_ _
      go_wp2_with (rw [hst])
      go_meet
      case rel => exact ⟨jz, rfl, rfl, ZF, hzv, XF⟩
  case rest =>
    obtain ⟨kW, rfl, rfl, W, hkW1, hb⟩ := hcut
    clear SK
    generalize wc = v3 at *
    replace B := B.trans (hb.mono B.size)
    replace C := C.below hb
    replace N := N.below hb
    clear hb
    have hL := C.load (P := Tryz.prog) hC
    have z3 : v3.heap.size ≤ v3.heap.size := Nat.le_refl _
    go_wp2_with (rw [hL])
    refine (CTC _ B).mono ?_
    rintro e v4 ⟨RX, rfl, OX, hb⟩
    clear hL z3
    have hxx : v3.heap.size ≤ v4.heap.size := hb.size
    replace B := B.trans (hb.mono B.size)
    replace C := C.below hb
    replace N := N.below hb
    replace W := W.below hb
    clear hb
    generalize v3.heap.size = lx at *
    have hRX := OX.size
    have hst := storeNew (P := Tryz.prog) v4 (#[.int .i64 0, .int .i64 0, .int .i64 0, .int .i64 0, .int .i64 0, .int .i64 0, .int .i64 0, .int .i64 0, .int .i64 0, .int .i64 0, .slice none 0 0]) RX 54 (by rw [hRX]; rfl) OX.one
    have hb := Below.nw v4 (.cells RX 54)
    have X := Bo.new v4 RX 54
    go_upto_region 10 with (rw [hst])
    clear hst
    replace B := B.trans (hb.mono B.size)
    replace C := C.below hb
    replace N := N.below hb
    replace W := W.below hb
    replace OX := OX.below hb
    clear hb
    generalize v4.alloc (.cells RX 54) = v5 at *
    generalize v4.heap.size = kX at *
    have hxm : kX < v5.heap.size := X.1
    have hL := N.load (P := Tryz.prog) hN
    go_wp2_with (rw [hL])
    refine (CTN _ B).mono ?_
    rintro e v6 ⟨RM, rfl, OM, hb⟩
    clear hL
    have hmm : v5.heap.size ≤ v6.heap.size := hb.size
    replace B := B.trans (hb.mono B.size)
    replace C := C.below hb
    replace N := N.below hb
    replace W := W.below hb
    replace OX := OX.below hb
    replace X := X.below hb
    clear hb
    generalize v5.heap.size = lm at *
    have hRM := OM.size
    have hst := storeNew (P := Tryz.prog) v6 (#[.int .i64 0, .int .i64 0, .int .i64 0, .int .i64 0, .bool false, .int .i64 0, .int .i64 0, .int .i64 0, .int .i64 0, .int .i64 0, .slice none 0 0, .slice none 0 0, .bool false, .int .i64 0, .slice none 0 0, .int .i64 0]) RM 66 (by rw [hRM]; rfl) OM.one
    have hb := Below.nw v6 (.cells RM 66)
    have M := Bo.new v6 RM 66
    go_upto_region 11 with (rw [hst])
    clear hst
    replace B := B.trans (hb.mono B.size)
    replace C := C.below hb
    replace N := N.below hb
    replace W := W.below hb
    replace OX := OX.below hb
    replace X := X.below hb
    replace OM := OM.below hb
    clear hb
    generalize v6.alloc (.cells RM 66) = v7 at *
    generalize v6.heap.size = kM at *
    have hmg : kM < v7.heap.size := M.1
    have hL := X.load (P := Tryz.prog) hRX
    have hL2 := M.load (P := Tryz.prog) hRM
    go_wp2_with (first | rw [hL] | rw [hL2])
    refine (CP _ RX RM OX.src OM.src).mono ?_
    rintro e v8 ⟨rfl, hb⟩
    clear hL hL2
    have hgg : v7.heap.size ≤ v8.heap.size := hb.size
    replace B := B.trans (hb.mono B.size)
    replace C := C.below hb
    replace N := N.below hb
    replace W := W.below hb
    replace OX := OX.below hb
    replace X := X.below hb
    replace OM := OM.below hb
    replace M := M.below hb
    clear hb
    have hst := storeNew (P := Tryz.prog) v8 (#[.int .i64 0, .int .i64 0]) (#[.int .i64 ra, .int .i64 rb]) 46 rfl (List.forall_mem_cons.2 ⟨rfl, (List.forall_mem_cons.2 ⟨rfl, fun _ h => nomatch h⟩)⟩)
    have hb := Below.nw v8 (.cells (#[.int .i64 ra, .int .i64 rb]) 46)
    have G := Bo.new v8 (#[.int .i64 ra, .int .i64 rb]) 46
    go_upto_region 12 with (rw [hst])
    clear hst
    replace B := B.trans (hb.mono B.size)
    replace C := C.below hb
    replace N := N.below hb
    replace W := W.below hb
    replace OX := OX.below hb
    replace X := X.below hb
    replace OM := OM.below hb
    replace M := M.below hb
    clear hb
    generalize v8.alloc (.cells (#[.int .i64 ra, .int .i64 rb]) 46) = v9 at *
    generalize v8.heap.size = kG at *
    have hL := G.load (P := Tryz.prog) (show (#[.int .i64 ra, .int .i64 rb] : Array Value).size = 2 from rfl)
    have hL2 := W.load (P := Tryz.prog) (show (#[.int .i64 ra, .int .i64 rb] : Array Value).size = 2 from rfl)
    go_wp2_with (first | rw [hL] | rw [hL2])
    refine (eqIval_same ra rb v9).mono ?_
    rintro e va ⟨rfl, hb⟩
    clear hL hL2
    replace B := B.trans (hb.mono B.size)
    replace C := C.below hb
    replace N := N.below hb
    replace W := W.below hb
    replace OX := OX.below hb
    replace X := X.below hb
    replace OM := OM.below hb
    replace M := M.below hb
    replace G := G.below hb
    clear hb
    go_upto_region 14 with fail
    have SK : Hid (∀ w', Below va.heap.size va w' → (fun w' => (loadCells ⟨kX, 0, none⟩ 11).run Tryz.prog w' = .ok RX w' ∧ (loadCells ⟨w.heap.size, 0, none⟩ 11).run Tryz.prog w' = .ok AC w') w') := fun w' hw => ⟨(X.below hw).load hRX, (C.below hw).load hC⟩
    refine wp_region_held_drew (S := (fun w' => (loadCells ⟨kX, 0, none⟩ 11).run Tryz.prog w' = .ok RX w' ∧ (loadCells ⟨w.heap.size, 0, none⟩ 11).run Tryz.prog w' = .ok AC w')) (by kernel_rfl) ?_ (fun hHeld => ?_)
    · first | exact SK.out _ XB | exact SK.out _ (Below.drew (Below.refl _ _))
    have XB : Below va.heap.size va va.drew := Below.drew (Below.refl _ _)
    generalize va.drew = vx at *
    refine zTk 0 ?_
    (try simp only [Act.put, zSb, zS0, zS1])
    refine zTk 1 ?_
    (try simp only [Act.put, zSb, zS0, zS1])
    refine wpAnyH_ready (rs := [2]) (by kernel_rfl) (by simp) ?_
    refine AllReadyH.cons (by rw [List.getElem?_toArray]; rfl) (fun K hK => ?_) AllReadyH.nil
    go_simp
    refine (CTC vx (B.trans (XB.mono B.size))).mono ?_; rintro ee vy ⟨RY, rfl, OY, hbl⟩; (replace XB := XB.trans (hbl.mono XB.size)); (clear hbl); (generalize hvv : vy = vx at *); (clear hvv)
    (try go_wp2_with fail)
    refine hK.out _ _ ?_ (fun hHeld => ?_)
    · first | exact SK.out _ XB | exact SK.out _ (Below.drew (Below.refl _ _))
    clear hK K
    (try simp only [Act.put, zSb, zS0, zS1])
    refine wpAnyH_ready (rs := [3]) (by kernel_rfl) (by simp) ?_
    refine AllReadyH.cons (by rw [List.getElem?_toArray]; rfl) (fun K hK => ?_) AllReadyH.nil
    go_simp
    refine (eqCfgX RX RY _ vx (OX.below XB).src OY.src).mono ?_; rintro ee vx ⟨rfl, hbl⟩; (replace XB := XB.trans (hbl.mono XB.size)); (clear hbl OY)
    (try go_wp2_with fail)
    refine hK.out _ _ ?_ (fun hHeld => ?_)
    · first | exact SK.out _ XB | exact SK.out _ (Below.drew (Below.refl _ _))
    clear hK K
    (try simp only [Act.put, zSb, zS0, zS1])
    refine zTk 4 ?_
    (try simp only [Act.put, zSb, zS0, zS1])
    refine wpAnyH_done (by kernel_rfl) ?_ _
    have hb := XB
    clear XB SK
    replace B := B.trans (hb.mono B.size)
    replace C := C.below hb
    replace N := N.below hb
    replace W := W.below hb
    replace OX := OX.below hb
    replace X := X.below hb
    replace OM := OM.below hb
    replace M := M.below hb
    replace G := G.below hb
    clear hb
    generalize vx = vb at *
    go_upto_region 16 with fail
    have SK : Hid (∀ w', Below vb.heap.size vb w' → (fun w' => (loadCells ⟨kM, 0, none⟩ 16).run Tryz.prog w' = .ok RM w' ∧ (loadCells ⟨w.heap.size + 1, 0, none⟩ 16).run Tryz.prog w' = .ok AN w') w') := fun w' hw => ⟨(M.below hw).load hRM, (N.below hw).load hN⟩
    refine wp_region_held_drew (S := (fun w' => (loadCells ⟨kM, 0, none⟩ 16).run Tryz.prog w' = .ok RM w' ∧ (loadCells ⟨w.heap.size + 1, 0, none⟩ 16).run Tryz.prog w' = .ok AN w')) (by kernel_rfl) ?_ (fun hHeld => ?_)
    · first | exact SK.out _ XB | exact SK.out _ (Below.drew (Below.refl _ _))
    have XB : Below vb.heap.size vb vb.drew := Below.drew (Below.refl _ _)
    generalize vb.drew = vx at *
    refine zTk 0 ?_
    (try simp only [Act.put, zSb, zS0, zS1])
    refine zTk 1 ?_
    (try simp only [Act.put, zSb, zS0, zS1])
    refine wpAnyH_ready (rs := [2]) (by kernel_rfl) (by simp) ?_
    refine AllReadyH.cons (by rw [List.getElem?_toArray]; rfl) (fun K hK => ?_) AllReadyH.nil
    go_simp
    refine (CTN vx (B.trans (XB.mono B.size))).mono ?_; rintro ee vy ⟨RY, rfl, OY, hbl⟩; (replace XB := XB.trans (hbl.mono XB.size)); (clear hbl); (generalize hvv : vy = vx at *); (clear hvv)
    (try go_wp2_with fail)
    refine hK.out _ _ ?_ (fun hHeld => ?_)
    · first | exact SK.out _ XB | exact SK.out _ (Below.drew (Below.refl _ _))
    clear hK K
    (try simp only [Act.put, zSb, zS0, zS1])
    refine wpAnyH_ready (rs := [3]) (by kernel_rfl) (by simp) ?_
    refine AllReadyH.cons (by rw [List.getElem?_toArray]; rfl) (fun K hK => ?_) AllReadyH.nil
    go_simp
    refine (eqNodeX RM RY _ vx (OM.below XB).src OY.src).mono ?_; rintro ee vx ⟨rfl, hbl⟩; (replace XB := XB.trans (hbl.mono XB.size)); (clear hbl OY)
    (try go_wp2_with fail)
    refine hK.out _ _ ?_ (fun hHeld => ?_)
    · first | exact SK.out _ XB | exact SK.out _ (Below.drew (Below.refl _ _))
    clear hK K
    (try simp only [Act.put, zSb, zS0, zS1])
    refine zTk 4 ?_
    (try simp only [Act.put, zSb, zS0, zS1])
    refine wpAnyH_done (by kernel_rfl) ?_ _
    have hb := XB
    clear XB SK
    replace B := B.trans (hb.mono B.size)
    replace C := C.below hb
    replace N := N.below hb
    replace W := W.below hb
    replace OX := OX.below hb
    replace X := X.below hb
    replace OM := OM.below hb
    replace M := M.below hb
    replace G := G.below hb
    clear hb
    generalize vx = vc at *
    go_wp2_with fail
    go_ret
    exact ⟨rfl, B⟩
end Go.Proofs.YtfhappkeipcemaaGreat
