/- The walk of the exact law of NodeTrue (specification and program told as hypotheses). -/
import Derived.Test.YtfhappkeipcemaaGreatM0
import Derived.Test.YtfhappkeipcemaaGreatM24
namespace Go.Proofs.YtfhappkeipcemaaGreat
open Go.RowKit
set_option linter.unusedVariables false
def NodeTrueTold (f : Nat) (F : CfX → NdX → Int → Int → Bool) : Prop := ∀ (AC AN : Array Value) (y : CfX) (x : NdX) (ct : Int) (xt : Int) (w : World), CfS w AC y → NdS w AN x → wfX x →
    Calls Tryz.prog f #[.agg AC, .agg AN, .int .i64 ct, .int .i64 xt] w fun e w' => e = .returned (.bool ((F y x ct xt))) ∧ Below w.heap.size w w'
attribute [-go_sem] loadCells storeCells in
set_option maxRecDepth 100000 in
set_option maxHeartbeats 16000000 in
theorem lawNodeTrue (F : CfX → NdX → Int → Int → Bool) (TS : NodeTrueTold 37 F) (TI : NodeTrueTold 38 F) (AC AN : Array Value) (y : CfX) (x : NdX) (ct : Int) (xt : Int) (w : World) (HC : CfW w AC y) (HN : NdW w AN x) (hwf : wfX x) :
    Calls Tryz.prog 9 #[.agg AC, .agg AN, .int .i64 ct, .int .i64 xt] w fun e w' => e = .returned (.bool true) ∧ Below w.heap.size w w' := by
  have A0 := Below.nw w (.cells AC 28)
  have A1 := Below.nw (w.alloc (.cells AC 28)) (.cells AN 43)
  have C := (Bo.new w AC 28).below A1
  have N := Bo.new (w.alloc (.cells AC 28)) AN 43
  have B := A0.trans (A1.mono A0.size)
  simp only [World.size_alloc] at N
  clear A0 A1
  have hC := HC.size
  have hN := HN.size
  have HSC : Hid (CfW w AC y) := HC
  have HSN : Hid (NdW w AN x) := HN
  clear HC HN
  have CS := fun (v : World) (RC RN : Array Value) (h : CfS v RC y) (h' : NdS v RN x) => TS RC RN y x ct xt v h h' hwf
  have CP := fun (v : World) (RC RN : Array Value) (h : CfS v RC y) (h' : NdS v RN x) => TI RC RN y x ct xt v h h' hwf
  clear TS TI
  generalize F y x ct xt = bt at *
  have hqbt : (bt != bt) = false := by simp
  go_enter Tryz.func9, Tryz.ntmps9
  go_upto_region 2 with fail
  generalize (w.alloc (.cells AC 28)).alloc (.cells AN 43) = v0 at *
  have hL := C.load (P := Tryz.prog) hC
  go_wp2_with (rw [hL])
  refine (szCfgW AC y 1048576 v0 (HSC.out.below B) (by decide) (by decide)).mono ?_
  rintro e v1 ⟨Z, rfl, hZ, hb⟩
  clear hL
  replace B := B.trans (hb.mono B.size)
  replace C := C.below hb
  replace N := N.below hb
  clear hb
  by_cases hz : Z < 0
  · clear CS CP hZ
    go_wp2_with fail
    go_ret
    exact ⟨rfl, B⟩
  obtain ⟨hcs, hZ1⟩ := hZ (by omega)
  clear hZ
  have hL := N.load (P := Tryz.prog) hN
  go_wp2_with (rw [hL])
  refine (szNodeW AN x Z v1 (HSN.out.below B) (by omega) hZ1).mono ?_
  rintro e v2 ⟨Z2, rfl, hZ, hb⟩
  clear hL
  replace B := B.trans (hb.mono B.size)
  replace C := C.below hb
  replace N := N.below hb
  clear hb
  by_cases hz2 : Z2 < 0
  · clear CS CP hZ
    go_wp2_with fail
    go_ret
    exact ⟨rfl, B⟩
  obtain ⟨hsh, -⟩ := hZ (by omega)
  clear hZ hZ1
  have CTC := fun (v : World) (h : Below w.heap.size w v) => toCfgW AC y v (HSC.out.below h) hcs
  have CTN := fun (v : World) (h : Below w.heap.size w v) => toNodeW AN x v (HSN.out.below h) hsh
  have hw2 : w.heap.size + 1 < v2.heap.size := N.1
  go_upto_region 8 with fail
  have SK : Hid (∀ w', Below v2.heap.size v2 w' → (fun w' => (loadCells ⟨w.heap.size, 0, none⟩ 11).run Tryz.prog w' = .ok AC w' ∧ (loadCells ⟨w.heap.size + 1, 0, none⟩ 16).run Tryz.prog w' = .ok AN w') w') := fun w' hw => ⟨(C.below hw).load hC, (N.below hw).load hN⟩
  go_cut [10] (fun s10 wx => s10 = .bool bt ∧ Below v2.heap.size v2 wx)
  case first => as_aux_lemma =>
    refine wp_region_held_drew (S := (fun w' => (loadCells ⟨w.heap.size, 0, none⟩ 11).run Tryz.prog w' = .ok AC w' ∧ (loadCells ⟨w.heap.size + 1, 0, none⟩ 16).run Tryz.prog w' = .ok AN w')) (by kernel_rfl) ?_ (fun hHeld => ?_)
    · first | exact SK.out _ XB | exact SK.out _ (Below.drew (Below.refl _ _))
    have XB : Below v2.heap.size v2 v2.drew := Below.drew (Below.refl _ _)
    generalize v2.drew = vx at *
    refine zTk 0 ?_
    (try simp only [Act.put, zSb, zS0, zS1])
    refine zTk 2 ?_
    (try simp only [Act.put, zSb, zS0, zS1])
    refine zTk 4 ?_
    (try simp only [Act.put, zSb, zS0, zS1])
    refine zTk 5 ?_
    (try simp only [Act.put, zSb, zS0, zS1])
    refine wpAnyH_ready (rs := [1]) (by kernel_rfl) (by simp) ?_
    refine (AllReadyH.cons (by rw [List.getElem?_toArray]; rfl) (fun K hK => ?_) AllReadyH.nil)
    go_simp
    refine (CTC vx (B.trans (XB.mono B.size))).mono ?_; rintro ee vx ⟨RC, rfl, OC, hbl⟩; (replace XB := XB.trans (hbl.mono XB.size)); (clear hbl)
    (try go_wp2_with fail)
    refine hK.out _ _ ?_ (fun hHeld => ?_)
    · first | exact SK.out _ XB | exact SK.out _ (Below.drew (Below.refl _ _))
    clear hK K
    (try simp only [Act.put, zSb, zS0, zS1])
    refine wpAnyH_ready (rs := [3]) (by kernel_rfl) (by simp) ?_
    refine (AllReadyH.cons (by rw [List.getElem?_toArray]; rfl) (fun K hK => ?_) AllReadyH.nil)
    go_simp
    refine (CTN vx (B.trans (XB.mono B.size))).mono ?_; rintro ee vx ⟨RN, rfl, ON, hbl⟩; (replace XB := XB.trans (hbl.mono XB.size)); (replace OC := OC.below hbl); (clear hbl)
    (try go_wp2_with fail)
    refine hK.out _ _ ?_ (fun hHeld => ?_)
    · first | exact SK.out _ XB | exact SK.out _ (Below.drew (Below.refl _ _))
    clear hK K
    (try simp only [Act.put, zSb, zS0, zS1])
    refine wpAnyH_ready (rs := [6]) (by kernel_rfl) (by simp) ?_
    refine (AllReadyH.cons (by rw [List.getElem?_toArray]; rfl) (fun K hK => ?_) AllReadyH.nil)
    go_simp
    refine (CS vx RC RN OC.src ON.src).mono ?_; rintro ee vs ⟨rfl, hbl⟩; (have hl0 : v2.heap.size ≤ vx.heap.size := XB.size); (have hlu : vx.heap.size ≤ vs.heap.size := hbl.size); (replace XB := XB.trans (hbl.mono XB.size)); (clear hbl)
    (try go_wp2_with fail)
    refine hK.out _ _ ?_ (fun hHeld => ?_)
    · first | exact SK.out _ XB | exact SK.out _ (Below.drew (Below.refl _ _))
    clear hK K
    (try simp only [Act.put, zSb, zS0, zS1])
    refine zTk 7 ?_
    (try simp only [Act.put, zSb, zS0, zS1])
    refine wpAnyH_done (by kernel_rfl) ?_ _
    go_wp2_with fail
    go_meet
    case rel => exact ⟨rfl, XB⟩
  case rest =>
    obtain ⟨rfl, hb⟩ := hcut
    clear SK
    generalize wc = v3 at *
    replace B := B.trans (hb.mono B.size)
    replace C := C.below hb
    replace N := N.below hb
    clear hb
    have hL := C.load (P := Tryz.prog) hC
    have z3 : v3.heap.size ≤ v3.heap.size := Nat.le_refl _
    go_wp2_with (rw [hL])
    refine (CTC _ B).mono ?_
    rintro e v4 ⟨RX, rfl, OX, hb⟩
    clear hL z3
    have hxx : v3.heap.size ≤ v4.heap.size := hb.size
    replace B := B.trans (hb.mono B.size)
    replace C := C.below hb
    replace N := N.below hb
    clear hb
    generalize v3.heap.size = lx at *
    have hRX := OX.size
    have hst := storeNew (P := Tryz.prog) v4 (#[.int .i64 0, .int .i64 0, .int .i64 0, .int .i64 0, .int .i64 0, .int .i64 0, .int .i64 0, .int .i64 0, .int .i64 0, .int .i64 0, .slice none 0 0]) RX 54 (by rw [hRX]; rfl) OX.one
    have hb := Below.nw v4 (.cells RX 54)
    have X := Bo.new v4 RX 54
    go_upto_region 10 with (rw [hst])
    clear hst
    replace B := B.trans (hb.mono B.size)
    replace C := C.below hb
    replace N := N.below hb
    replace OX := OX.below hb
    clear hb
    generalize v4.alloc (.cells RX 54) = v5 at *
    generalize v4.heap.size = kX at *
    have hxm : kX < v5.heap.size := X.1
    have hL := N.load (P := Tryz.prog) hN
    go_wp2_with (rw [hL])
    refine (CTN _ B).mono ?_
    rintro e v6 ⟨RM, rfl, OM, hb⟩
    clear hL
    have hmm : v5.heap.size ≤ v6.heap.size := hb.size
    replace B := B.trans (hb.mono B.size)
    replace C := C.below hb
    replace N := N.below hb
    replace OX := OX.below hb
    replace X := X.below hb
    clear hb
    generalize v5.heap.size = lm at *
    have hRM := OM.size
    have hst := storeNew (P := Tryz.prog) v6 (#[.int .i64 0, .int .i64 0, .int .i64 0, .int .i64 0, .bool false, .int .i64 0, .int .i64 0, .int .i64 0, .int .i64 0, .int .i64 0, .slice none 0 0, .slice none 0 0, .bool false, .int .i64 0, .slice none 0 0, .int .i64 0]) RM 66 (by rw [hRM]; rfl) OM.one
    have hb := Below.nw v6 (.cells RM 66)
    have M := Bo.new v6 RM 66
    go_upto_region 11 with (rw [hst])
    clear hst
    replace B := B.trans (hb.mono B.size)
    replace C := C.below hb
    replace N := N.below hb
    replace OX := OX.below hb
    replace X := X.below hb
    replace OM := OM.below hb
    clear hb
    generalize v6.alloc (.cells RM 66) = v7 at *
    generalize v6.heap.size = kM at *
    have hmg : kM < v7.heap.size := M.1
    have hL := X.load (P := Tryz.prog) hRX
    have hL2 := M.load (P := Tryz.prog) hRM
    go_wp2_with (first | rw [hL] | rw [hL2])
    refine (CP _ RX RM OX.src OM.src).mono ?_
    rintro e v8 ⟨rfl, hb⟩
    clear hL hL2
    have hgg : v7.heap.size ≤ v8.heap.size := hb.size
    replace B := B.trans (hb.mono B.size)
    replace C := C.below hb
    replace N := N.below hb
    replace OX := OX.below hb
    replace X := X.below hb
    replace OM := OM.below hb
    replace M := M.below hb
    clear hb
    generalize hv89 : v8 = v9 at *
    clear hv89
    generalize hv89 : v9 = va at *
    clear hv89
    go_upto_region 14 with fail
    have SK : Hid (∀ w', Below va.heap.size va w' → (fun w' => (loadCells ⟨kX, 0, none⟩ 11).run Tryz.prog w' = .ok RX w' ∧ (loadCells ⟨w.heap.size, 0, none⟩ 11).run Tryz.prog w' = .ok AC w') w') := fun w' hw => ⟨(X.below hw).load hRX, (C.below hw).load hC⟩
    refine wp_region_held_drew (S := (fun w' => (loadCells ⟨kX, 0, none⟩ 11).run Tryz.prog w' = .ok RX w' ∧ (loadCells ⟨w.heap.size, 0, none⟩ 11).run Tryz.prog w' = .ok AC w')) (by kernel_rfl) ?_ (fun hHeld => ?_)
    · first | exact SK.out _ XB | exact SK.out _ (Below.drew (Below.refl _ _))
    have XB : Below va.heap.size va va.drew := Below.drew (Below.refl _ _)
    generalize va.drew = vx at *
    refine zTk 0 ?_
    (try simp only [Act.put, zSb, zS0, zS1])
    refine zTk 1 ?_
    (try simp only [Act.put, zSb, zS0, zS1])
    refine wpAnyH_ready (rs := [2]) (by kernel_rfl) (by simp) ?_
    refine AllReadyH.cons (by rw [List.getElem?_toArray]; rfl) (fun K hK => ?_) AllReadyH.nil
    go_simp
    refine (CTC vx (B.trans (XB.mono B.size))).mono ?_; rintro ee vy ⟨RY, rfl, OY, hbl⟩; (replace XB := XB.trans (hbl.mono XB.size)); (clear hbl); (generalize hvv : vy = vx at *); (clear hvv)
    (try go_wp2_with fail)
    refine hK.out _ _ ?_ (fun hHeld => ?_)
    · first | exact SK.out _ XB | exact SK.out _ (Below.drew (Below.refl _ _))
    clear hK K
    (try simp only [Act.put, zSb, zS0, zS1])
    refine wpAnyH_ready (rs := [3]) (by kernel_rfl) (by simp) ?_
    refine AllReadyH.cons (by rw [List.getElem?_toArray]; rfl) (fun K hK => ?_) AllReadyH.nil
    go_simp
    refine (eqCfgX RX RY _ vx (OX.below XB).src OY.src).mono ?_; rintro ee vx ⟨rfl, hbl⟩; (replace XB := XB.trans (hbl.mono XB.size)); (clear hbl OY)
    (try go_wp2_with fail)
    refine hK.out _ _ ?_ (fun hHeld => ?_)
    · first | exact SK.out _ XB | exact SK.out _ (Below.drew (Below.refl _ _))
    clear hK K
    (try simp only [Act.put, zSb, zS0, zS1])
    refine zTk 4 ?_
    (try simp only [Act.put, zSb, zS0, zS1])
    refine wpAnyH_done (by kernel_rfl) ?_ _
    have hb := XB
    clear XB SK
    replace B := B.trans (hb.mono B.size)
    replace C := C.below hb
    replace N := N.below hb
    replace OX := OX.below hb
    replace X := X.below hb
    replace OM := OM.below hb
    replace M := M.below hb
    clear hb
    generalize vx = vb at *
    go_upto_region 16 with fail
    have SK : Hid (∀ w', Below vb.heap.size vb w' → (fun w' => (loadCells ⟨kM, 0, none⟩ 16).run Tryz.prog w' = .ok RM w' ∧ (loadCells ⟨w.heap.size + 1, 0, none⟩ 16).run Tryz.prog w' = .ok AN w') w') := fun w' hw => ⟨(M.below hw).load hRM, (N.below hw).load hN⟩
    refine wp_region_held_drew (S := (fun w' => (loadCells ⟨kM, 0, none⟩ 16).run Tryz.prog w' = .ok RM w' ∧ (loadCells ⟨w.heap.size + 1, 0, none⟩ 16).run Tryz.prog w' = .ok AN w')) (by kernel_rfl) ?_ (fun hHeld => ?_)
    · first | exact SK.out _ XB | exact SK.out _ (Below.drew (Below.refl _ _))
    have XB : Below vb.heap.size vb vb.drew := Below.drew (Below.refl _ _)
    generalize vb.drew = vx at *
    refine zTk 0 ?_
    (try simp only [Act.put, zSb, zS0, zS1])
    refine zTk 1 ?_
    (try simp only [Act.put, zSb, zS0, zS1])
    refine wpAnyH_ready (rs := [2]) (by kernel_rfl) (by simp) ?_
    refine AllReadyH.cons (by rw [List.getElem?_toArray]; rfl) (fun K hK => ?_) AllReadyH.nil
    go_simp
    refine (CTN vx (B.trans (XB.mono B.size))).mono ?_; rintro ee vy ⟨RY, rfl, OY, hbl⟩; (replace XB := XB.trans (hbl.mono XB.size)); (clear hbl); (generalize hvv : vy = vx at *); (clear hvv)
    (try go_wp2_with fail)
    refine hK.out _ _ ?_ (fun hHeld => ?_)
    · first | exact SK.out _ XB | exact SK.out _ (Below.drew (Below.refl _ _))
    clear hK K
    (try simp only [Act.put, zSb, zS0, zS1])
    refine wpAnyH_ready (rs := [3]) (by kernel_rfl) (by simp) ?_
    refine AllReadyH.cons (by rw [List.getElem?_toArray]; rfl) (fun K hK => ?_) AllReadyH.nil
    go_simp
    refine (eqNodeX RM RY _ vx (OM.below XB).src OY.src).mono ?_; rintro ee vx ⟨rfl, hbl⟩; (replace XB := XB.trans (hbl.mono XB.size)); (clear hbl OY)
    (try go_wp2_with fail)
    refine hK.out _ _ ?_ (fun hHeld => ?_)
    · first | exact SK.out _ XB | exact SK.out _ (Below.drew (Below.refl _ _))
    clear hK K
    (try simp only [Act.put, zSb, zS0, zS1])
    refine zTk 4 ?_
    (try simp only [Act.put, zSb, zS0, zS1])
    refine wpAnyH_done (by kernel_rfl) ?_ _
    have hb := XB
    clear XB SK
    replace B := B.trans (hb.mono B.size)
    replace C := C.below hb
    replace N := N.below hb
    replace OX := OX.below hb
    replace X := X.below hb
    replace OM := OM.below hb
    replace M := M.below hb
    clear hb
    generalize vx = vc at *
    go_wp2_with fail
    go_ret
    exact ⟨rfl, B⟩
end Go.Proofs.YtfhappkeipcemaaGreat
