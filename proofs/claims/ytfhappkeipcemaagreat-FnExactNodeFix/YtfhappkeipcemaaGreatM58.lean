/- NodeNow, NodeTrue, NodeRead, NodeFix (the program), over arrays of cells. The exact law of NodeFix. -/
import Derived.Test.YtfhappkeipcemaaGreatM0
import Derived.Test.YtfhappkeipcemaaGreatM53
import Derived.Test.YtfhappkeipcemaaGreatM54
import Derived.Test.YtfhappkeipcemaaGreatM57
namespace Go.Proofs.YtfhappkeipcemaaGreat
open Go.RowKit
set_option linter.unusedVariables false
theorem pf_own {w : World} {l u : Nat} {y : CfX} {x : NdX} {ct ia ib : Int} {aa : Option Addr} {ac : Nat} {pa : Option Addr} {pc : Nat} {ha : Option Addr} {hc : Nat} (hb : x.na ≤ 1048576 ∧ x.np ≤ 1048576 ∧ x.nh ≤ 1048576) (h1 : Rwo w l u 142 4 aa x.na ac (MFAsk x.AM)) (h2 : Rwo w l u 171 5 pa x.np pc (MFPeer x.QM)) (h3 : Rwo w l u 176 2 ha x.nh hc (MFIval x.HM)) :
    NdO w l u (ndV (pfX y x ct ia ib) aa ac pa pc ha hc) (pfX y x ct ia ib) := by
  have e : (pfX y x ct ia ib).na = x.na ∧ (pfX y x ct ia ib).np = x.np ∧ (pfX y x ct ia ib).nh = x.nh ∧ (pfX y x ct ia ib).AM = x.AM ∧ (pfX y x ct ia ib).QM = x.QM ∧ (pfX y x ct ia ib).HM = x.HM := by
    unfold pfX
    split
    · exact ⟨rfl, rfl, rfl, rfl, rfl, rfl⟩
    · split <;> exact ⟨rfl, rfl, rfl, rfl, rfl, rfl⟩
  obtain ⟨e1, e2, e3, e4, e5, e6⟩ := e
  exact ⟨aa, ac, pa, pc, ha, hc, rfl, by rw [e1, e2, e3]; exact hb, by rw [e1, e4]; exact h1, by rw [e2, e5]; exact h2, by rw [e3, e6]; exact h3⟩
theorem fix_pf {y : CfX} {x : NdX} {ct ia ib : Int} (h : fxI y x ct ia ib = 0) : fixX y x ct ia ib = (pfX y x ct ia ib, pfC y x ct ia ib) := by
  unfold fixX pfX pfC
  rw [h]
  cases h4 : (nwC x.kn x.lo x.hi x.la y.dn y.dd ct ia ib == 4)
  · cases h5 : (nwC x.kn x.lo x.hi x.la y.dn y.dd ct ia ib == 5) <;> rfl
  · rfl
attribute [-go_sem] loadCells storeCells in
set_option maxRecDepth 100000 in
set_option maxHeartbeats 8000000 in
theorem implFixX (AC AN : Array Value) (y : CfX) (x : NdX) (ct ia ib : Int) (w : World) (HC : CfS w AC y) (HN : NdS w AN x) (hwf : wfX x) :
    Calls Tryz.prog 21 #[.agg AC, .agg AN, .int .i64 ct, .agg #[.int .i64 ia, .int .i64 ib]] w fun e w' => ∃ R, e = .returned (.tuple #[.agg R, .int .i64 (fixX y x ct ia ib).2]) ∧ NdO w' w.heap.size w'.heap.size R (fixX y x ct ia ib).1 ∧ Below w.heap.size w w' := by
  cases hiv : okI ia ib
  · have hbad : staI y x ct = 1 ∨ false = false := .inr rfl
    have hfx : fxI y x ct ia ib = 1 := by unfold fxI; rw [hiv]
    have hF : fixX y x ct ia ib = (zX 0 0 0 0 0 0, 1) := by unfold fixX; simp only [hfx, Int.reduceBEq]
    rw [hF]
    clear hF hfx
    have CIV := fun v => ok_any ia ib v
    have hC := HC.size
    have hN := HN.size
    have CW := fun (v : World) (h : Below w.heap.size w v) => workOn_bad AC AN y x ct false v (HC.below h) (HN.below h) hwf (hbad)
    clear HC HN hwf
    have A0 := Below.nw w (.cells AC 54)
    have A1 := Below.nw (w.alloc (.cells AC 54)) (.cells AN 66)
    have A2 := Below.nw (((w.alloc (.cells AC 54))).alloc (.cells AN 66)) (.cells #[.int .i64 ia, .int .i64 ib] 46)
    have A3 := Below.nw (((((w.alloc (.cells AC 54))).alloc (.cells AN 66))).alloc (.cells #[.int .i64 ia, .int .i64 ib] 46)) (.cells #[.int .i64 0, .int .i64 0, .int .i64 0, .int .i64 0, .bool false, .int .i64 0, .int .i64 0, .int .i64 0, .int .i64 0, .int .i64 0, .slice none 0 0, .slice none 0 0, .bool false, .int .i64 0, .slice none 0 0, .int .i64 0] 66)
    have C := (((Bo.new w AC 54).below A1).below A2).below A3
    have N := ((Bo.new (w.alloc (.cells AC 54)) AN 66).below A2).below A3
    have I := (Bo.new (((w.alloc (.cells AC 54))).alloc (.cells AN 66)) #[.int .i64 ia, .int .i64 ib] 46).below A3
    have R := Bo.new (((((w.alloc (.cells AC 54))).alloc (.cells AN 66))).alloc (.cells #[.int .i64 ia, .int .i64 ib] 46)) #[.int .i64 0, .int .i64 0, .int .i64 0, .int .i64 0, .bool false, .int .i64 0, .int .i64 0, .int .i64 0, .int .i64 0, .int .i64 0, .slice none 0 0, .slice none 0 0, .bool false, .int .i64 0, .slice none 0 0, .int .i64 0] 66
    have B := A0
    replace B := B.trans (A1.mono B.size)
    replace B := B.trans (A2.mono B.size)
    replace B := B.trans (A3.mono B.size)
    simp only [World.size_alloc] at N I R
    clear A0 A1 A2 A3
    go_enter Tryz.func21, Tryz.ntmps21
    go_upto_region 1 with fail
    generalize ((((((w.alloc (.cells AC 54))).alloc (.cells AN 66))).alloc (.cells #[.int .i64 ia, .int .i64 ib] 46))).alloc (.cells #[.int .i64 0, .int .i64 0, .int .i64 0, .int .i64 0, .bool false, .int .i64 0, .int .i64 0, .int .i64 0, .int .i64 0, .int .i64 0, .slice none 0 0, .slice none 0 0, .bool false, .int .i64 0, .slice none 0 0, .int .i64 0] 66) = v0 at *
    have SK : Hid (∀ w', Below v0.heap.size v0 w' → (fun w' => (loadCells ⟨w.heap.size, 0, none⟩ 11).run Tryz.prog w' = .ok AC w' ∧ (loadCells ⟨w.heap.size + 1, 0, none⟩ 16).run Tryz.prog w' = .ok AN w' ∧ (loadCells ⟨w.heap.size + 2, 0, none⟩ 2).run Tryz.prog w' = .ok #[.int .i64 ia, .int .i64 ib] w') w') := fun w' hw => ⟨(C.below hw).load hC, (N.below hw).load hN, (I.below hw).load (show (#[.int .i64 ia, .int .i64 ib] : Array Value).size = 2 from rfl)⟩
    go_cut [10, 11] (fun s10 s11 wx => ∃ (j : Nat), s10 = .pointer (some ⟨j, 0, none⟩) ∧ s11 = .int .i64 1 ∧ Bo wx j zWk ∧ v0.heap.size ≤ j ∧ Below v0.heap.size v0 wx)
    case first => as_aux_lemma =>
      refine wp_region_held_drew (S := (fun w' => (loadCells ⟨w.heap.size, 0, none⟩ 11).run Tryz.prog w' = .ok AC w' ∧ (loadCells ⟨w.heap.size + 1, 0, none⟩ 16).run Tryz.prog w' = .ok AN w' ∧ (loadCells ⟨w.heap.size + 2, 0, none⟩ 2).run Tryz.prog w' = .ok #[.int .i64 ia, .int .i64 ib] w')) (by kernel_rfl) ?_ (fun hHeld => ?_)
      · first | exact SK.out _ XB | exact SK.out _ (Below.drew (Below.refl _ _)) | exact SK.out _ XF
      have XB : Below v0.heap.size v0 v0.drew := Below.drew (Below.refl _ _)
      generalize v0.drew = vx at *
      refine zTk 0 ?_
      (try simp only [Act.put, zSb, zS0, zS1])
      refine zTk 1 ?_
      (try simp only [Act.put, zSb, zS0, zS1])
      refine zTk 2 ?_
      (try simp only [Act.put, zSb, zS0, zS1])
      refine zTk 3 ?_
      (try simp only [Act.put, zSb, zS0, zS1])
      refine wpAnyH_ready (rs := [4, 9]) (by kernel_rfl) (by simp) ?_
      refine (AllReadyH.cons (by rw [List.getElem?_toArray]; rfl) (fun K hK => ?_) (AllReadyH.cons (by rw [List.getElem?_toArray]; rfl) (fun K hK => ?_) AllReadyH.nil))
      · go_simp
        refine (CIV vx).mono ?_; rintro ee vx ⟨rfl, hbl⟩; rw [hiv]; (replace XB := XB.trans (hbl.mono XB.size)); (clear hbl)
        (try go_wp2_with fail)
        refine hK.out _ _ ?_ (fun hHeld => ?_)
        · first | exact SK.out _ XB | exact SK.out _ (Below.drew (Below.refl _ _)) | exact SK.out _ XF
        clear hK K
        (try simp only [Act.put, zSb, zS0, zS1])
        refine wpAnyH_ready (rs := [5, 9]) (by kernel_rfl) (by simp) ?_
        refine (AllReadyH.cons (by rw [List.getElem?_toArray]; rfl) (fun K hK => ?_) (AllReadyH.cons (by rw [List.getElem?_toArray]; rfl) (fun K hK => ?_) AllReadyH.nil))
        · go_simp
          refine (CW vx (B.trans (XB.mono B.size))).mono ?_; rintro ee vs ⟨rfl, hbl⟩; (have hl0 : v0.heap.size ≤ vx.heap.size := XB.size); (have hlu : vx.heap.size ≤ vs.heap.size := hbl.size); (replace XB := XB.trans (hbl.mono XB.size)); (clear hbl)
          (try go_wp2_with fail)
          refine hK.out _ _ ?_ (fun hHeld => ?_)
          · first | exact SK.out _ XB | exact SK.out _ (Below.drew (Below.refl _ _)) | exact SK.out _ XF
          clear hK K
          (try simp only [Act.put, zSb, zS0, zS1])
          refine zTk 6 ?_
          (try simp only [Act.put, zSb, zS0, zS1])
          refine zTk 7 ?_
          (try simp only [Act.put, zSb, zS0, zS1])
          refine zTk 8 ?_
          (try simp only [Act.put, zSb, zS0, zS1])
          refine wpAnyH_ready (rs := [9]) (by kernel_rfl) (by simp) ?_
          refine (AllReadyH.cons (by rw [List.getElem?_toArray]; rfl) (fun K hK => ?_) AllReadyH.nil)
          go_simp
          (have Z := Bo.new vs (#[.int .i64 0, .int .i64 0, .slice none 0 0, .bool false, .int .i64 0, .int .i64 0, .int .i64 0, .int .i64 0, .int .i64 0, .int .i64 0, .int .i64 0, .int .i64 0, .int .i64 0, .int .i64 0, .int .i64 0, .slice none 0 0, .int .i64 0, .int .i64 0, .int .i64 0, .int .i64 0, .int .i64 0, .bool false, .int .i64 0, .int .i64 0, .int .i64 0, .slice none 0 0, .slice none 0 0, .int .i64 0]) 108); (have NL := Below.nw vs (.cells (#[.int .i64 0, .int .i64 0, .slice none 0 0, .bool false, .int .i64 0, .int .i64 0, .int .i64 0, .int .i64 0, .int .i64 0, .int .i64 0, .int .i64 0, .int .i64 0, .int .i64 0, .int .i64 0, .int .i64 0, .slice none 0 0, .int .i64 0, .int .i64 0, .int .i64 0, .int .i64 0, .int .i64 0, .bool false, .int .i64 0, .int .i64 0, .int .i64 0, .slice none 0 0, .slice none 0 0, .int .i64 0]) 108)); (have hzv : v0.heap.size ≤ vs.heap.size := XB.size); (replace XB := XB.trans (NL.mono XB.size)); (clear NL); (generalize vs.alloc (.cells (#[.int .i64 0, .int .i64 0, .slice none 0 0, .bool false, .int .i64 0, .int .i64 0, .int .i64 0, .int .i64 0, .int .i64 0, .int .i64 0, .int .i64 0, .int .i64 0, .int .i64 0, .int .i64 0, .int .i64 0, .slice none 0 0, .int .i64 0, .int .i64 0, .int .i64 0, .int .i64 0, .int .i64 0, .bool false, .int .i64 0, .int .i64 0, .int .i64 0, .slice none 0 0, .slice none 0 0, .int .i64 0]) 108) = vy at *); (generalize vs.heap.size = jz at *); (have hRW := zWk_size); (have hst := Bo.store (P := Tryz.prog) (b := 0) zWk.toList 0 0 Z rfl (by simp [hRW]) zWk_one); (have XF := putA_below (k := jz) zWk.toList v0 vy 0 XB hzv); (have ZF := Z.putW (U := zWk) hRW); (have hsz := putA_size jz zWk.toList vy 0); (generalize putA vy jz 0 zWk.toList = vf at *)
          refine hK.out _ _ ?_ (fun hHeld => ?_)
          · first | exact SK.out _ XB | exact SK.out _ (Below.drew (Below.refl _ _)) | exact SK.out _ XF
          clear hK K
          (try simp only [Act.put, zSb, zS0, zS1])
          refine wpAnyH_ready (rs := [10]) (by kernel_rfl) (by simp) ?_
          refine (AllReadyH.cons (by rw [List.getElem?_toArray]; rfl) (fun K hK => ?_) AllReadyH.nil)
          go_simp
          refine hK.out _ _ ?_ (fun hHeld => ?_)
          · first | exact SK.out _ XB | exact SK.out _ (Below.drew (Below.refl _ _)) | exact SK.out _ XF
          clear hK K
          (try simp only [Act.put, zSb, zS0, zS1])
          refine zTk 11 ?_
          (try simp only [Act.put, zSb, zS0, zS1])
          refine wpAnyH_done (by kernel_rfl) ?_ _
          go_wp2_with (rw [hst])
          go_meet
          case rel => exact ⟨jz, rfl, rfl, ZF, hzv, XF⟩
        · go_simp
          (have Z := Bo.new vx (#[.int .i64 0, .int .i64 0, .slice none 0 0, .bool false, .int .i64 0, .int .i64 0, .int .i64 0, .int .i64 0, .int .i64 0, .int .i64 0, .int .i64 0, .int .i64 0, .int .i64 0, .int .i64 0, .int .i64 0, .slice none 0 0, .int .i64 0, .int .i64 0, .int .i64 0, .int .i64 0, .int .i64 0, .bool false, .int .i64 0, .int .i64 0, .int .i64 0, .slice none 0 0, .slice none 0 0, .int .i64 0]) 108); (have NL := Below.nw vx (.cells (#[.int .i64 0, .int .i64 0, .slice none 0 0, .bool false, .int .i64 0, .int .i64 0, .int .i64 0, .int .i64 0, .int .i64 0, .int .i64 0, .int .i64 0, .int .i64 0, .int .i64 0, .int .i64 0, .int .i64 0, .slice none 0 0, .int .i64 0, .int .i64 0, .int .i64 0, .int .i64 0, .int .i64 0, .bool false, .int .i64 0, .int .i64 0, .int .i64 0, .slice none 0 0, .slice none 0 0, .int .i64 0]) 108)); (have hzv : v0.heap.size ≤ vx.heap.size := XB.size); (replace XB := XB.trans (NL.mono XB.size)); (clear NL); (generalize vx.alloc (.cells (#[.int .i64 0, .int .i64 0, .slice none 0 0, .bool false, .int .i64 0, .int .i64 0, .int .i64 0, .int .i64 0, .int .i64 0, .int .i64 0, .int .i64 0, .int .i64 0, .int .i64 0, .int .i64 0, .int .i64 0, .slice none 0 0, .int .i64 0, .int .i64 0, .int .i64 0, .int .i64 0, .int .i64 0, .bool false, .int .i64 0, .int .i64 0, .int .i64 0, .slice none 0 0, .slice none 0 0, .int .i64 0]) 108) = vy at *); (generalize vx.heap.size = jz at *)
          refine hK.out _ _ ?_ (fun hHeld => ?_)
          · first | exact SK.out _ XB | exact SK.out _ (Below.drew (Below.refl _ _)) | exact SK.out _ XF
          clear hK K
          (try simp only [Act.put, zSb, zS0, zS1])
          refine wpAnyH_ready (rs := [5]) (by kernel_rfl) (by simp) ?_
          refine (AllReadyH.cons (by rw [List.getElem?_toArray]; rfl) (fun K hK => ?_) AllReadyH.nil)
          go_simp
          refine (CW vy (B.trans (XB.mono B.size))).mono ?_; rintro ee vs ⟨rfl, hbl⟩; (have hl0 : v0.heap.size ≤ vy.heap.size := XB.size); (have hlu : vy.heap.size ≤ vs.heap.size := hbl.size); (replace XB := XB.trans (hbl.mono XB.size)); (have hjl : jz < vy.heap.size := Z.1); (replace Z := Z.below hbl); (clear hbl); (have hRW := zWk_size); (have hst := Bo.store (P := Tryz.prog) (b := 0) zWk.toList 0 0 Z rfl (by simp [hRW]) zWk_one); (have XF := putA_below (k := jz) zWk.toList v0 vs 0 XB hzv); (have ZF := Z.putW (U := zWk) hRW); (have hsz := putA_size jz zWk.toList vs 0); (generalize putA vs jz 0 zWk.toList = vf at *)
          (try go_wp2_with fail)
          refine hK.out _ _ ?_ (fun hHeld => ?_)
          · first | exact SK.out _ XB | exact SK.out _ (Below.drew (Below.refl _ _)) | exact SK.out _ XF
          clear hK K
          (try simp only [Act.put, zSb, zS0, zS1])
          refine zTk 6 ?_
          (try simp only [Act.put, zSb, zS0, zS1])
          refine zTk 7 ?_
          (try simp only [Act.put, zSb, zS0, zS1])
          refine zTk 8 ?_
          (try simp only [Act.put, zSb, zS0, zS1])
          refine wpAnyH_ready (rs := [10]) (by kernel_rfl) (by simp) ?_
          refine (AllReadyH.cons (by rw [List.getElem?_toArray]; rfl) (fun K hK => ?_) AllReadyH.nil)
          go_simp
          refine hK.out _ _ ?_ (fun hHeld => ?_)
          · first | exact SK.out _ XB | exact SK.out _ (Below.drew (Below.refl _ _)) | exact SK.out _ XF
          clear hK K
          (try simp only [Act.put, zSb, zS0, zS1])
          refine zTk 11 ?_
          (try simp only [Act.put, zSb, zS0, zS1])
          refine wpAnyH_done (by kernel_rfl) ?_ _
          go_wp2_with (rw [hst])
          go_meet
          case rel => exact ⟨jz, rfl, rfl, ZF, hzv, XF⟩
      · go_simp
        (have Z := Bo.new vx (#[.int .i64 0, .int .i64 0, .slice none 0 0, .bool false, .int .i64 0, .int .i64 0, .int .i64 0, .int .i64 0, .int .i64 0, .int .i64 0, .int .i64 0, .int .i64 0, .int .i64 0, .int .i64 0, .int .i64 0, .slice none 0 0, .int .i64 0, .int .i64 0, .int .i64 0, .int .i64 0, .int .i64 0, .bool false, .int .i64 0, .int .i64 0, .int .i64 0, .slice none 0 0, .slice none 0 0, .int .i64 0]) 108); (have NL := Below.nw vx (.cells (#[.int .i64 0, .int .i64 0, .slice none 0 0, .bool false, .int .i64 0, .int .i64 0, .int .i64 0, .int .i64 0, .int .i64 0, .int .i64 0, .int .i64 0, .int .i64 0, .int .i64 0, .int .i64 0, .int .i64 0, .slice none 0 0, .int .i64 0, .int .i64 0, .int .i64 0, .int .i64 0, .int .i64 0, .bool false, .int .i64 0, .int .i64 0, .int .i64 0, .slice none 0 0, .slice none 0 0, .int .i64 0]) 108)); (have hzv : v0.heap.size ≤ vx.heap.size := XB.size); (replace XB := XB.trans (NL.mono XB.size)); (clear NL); (generalize vx.alloc (.cells (#[.int .i64 0, .int .i64 0, .slice none 0 0, .bool false, .int .i64 0, .int .i64 0, .int .i64 0, .int .i64 0, .int .i64 0, .int .i64 0, .int .i64 0, .int .i64 0, .int .i64 0, .int .i64 0, .int .i64 0, .slice none 0 0, .int .i64 0, .int .i64 0, .int .i64 0, .int .i64 0, .int .i64 0, .bool false, .int .i64 0, .int .i64 0, .int .i64 0, .slice none 0 0, .slice none 0 0, .int .i64 0]) 108) = vy at *); (generalize vx.heap.size = jz at *)
        refine hK.out _ _ ?_ (fun hHeld => ?_)
        · first | exact SK.out _ XB | exact SK.out _ (Below.drew (Below.refl _ _)) | exact SK.out _ XF
        clear hK K
        (try simp only [Act.put, zSb, zS0, zS1])
        refine wpAnyH_ready (rs := [4]) (by kernel_rfl) (by simp) ?_
        refine (AllReadyH.cons (by rw [List.getElem?_toArray]; rfl) (fun K hK => ?_) AllReadyH.nil)
        go_simp
        refine (CIV vy).mono ?_; rintro ee vx ⟨rfl, hbl⟩; rw [hiv]; (replace XB := XB.trans (hbl.mono XB.size)); (replace Z := Z.below hbl); (clear hbl)
        (try go_wp2_with fail)
        refine hK.out _ _ ?_ (fun hHeld => ?_)
        · first | exact SK.out _ XB | exact SK.out _ (Below.drew (Below.refl _ _)) | exact SK.out _ XF
        clear hK K
        (try simp only [Act.put, zSb, zS0, zS1])
        refine wpAnyH_ready (rs := [5]) (by kernel_rfl) (by simp) ?_
        refine (AllReadyH.cons (by rw [List.getElem?_toArray]; rfl) (fun K hK => ?_) AllReadyH.nil)
        go_simp
        refine (CW vx (B.trans (XB.mono B.size))).mono ?_; rintro ee vs ⟨rfl, hbl⟩; (have hl0 : v0.heap.size ≤ vx.heap.size := XB.size); (have hlu : vx.heap.size ≤ vs.heap.size := hbl.size); (replace XB := XB.trans (hbl.mono XB.size)); (have hjl : jz < vx.heap.size := Z.1); (replace Z := Z.below hbl); (clear hbl); (have hRW := zWk_size); (have hst := Bo.store (P := Tryz.prog) (b := 0) zWk.toList 0 0 Z rfl (by simp [hRW]) zWk_one); (have XF := putA_below (k := jz) zWk.toList v0 vs 0 XB hzv); (have ZF := Z.putW (U := zWk) hRW); (have hsz := putA_size jz zWk.toList vs 0); (generalize putA vs jz 0 zWk.toList = vf at *)
        (try go_wp2_with fail)
        refine hK.out _ _ ?_ (fun hHeld => ?_)
        · first | exact SK.out _ XB | exact SK.out _ (Below.drew (Below.refl _ _)) | exact SK.out _ XF
        clear hK K
        (try simp only [Act.put, zSb, zS0, zS1])
        refine zTk 6 ?_
        (try simp only [Act.put, zSb, zS0, zS1])
        refine zTk 7 ?_
        (try simp only [Act.put, zSb, zS0, zS1])
        refine zTk 8 ?_
        (try simp only [Act.put, zSb, zS0, zS1])
        refine wpAnyH_ready (rs := [10]) (by kernel_rfl) (by simp) ?_
        refine (AllReadyH.cons (by rw [List.getElem?_toArray]; rfl) (fun K hK => ?_) AllReadyH.nil)
        go_simp
        refine hK.out _ _ ?_ (fun hHeld => ?_)
        · first | exact SK.out _ XB | exact SK.out _ (Below.drew (Below.refl _ _)) | exact SK.out _ XF
        clear hK K
        (try simp only [Act.put, zSb, zS0, zS1])
        refine zTk 11 ?_
        (try simp only [Act.put, zSb, zS0, zS1])
        refine wpAnyH_done (by kernel_rfl) ?_ _
        go_wp2_with (rw [hst])
        go_meet
        case rel => exact ⟨jz, rfl, rfl, ZF, hzv, XF⟩
    case rest =>
    have gKC : w.heap.size < v0.heap.size := C.1
    have gKN : w.heap.size + 1 < v0.heap.size := N.1
    have gKI : w.heap.size + 2 < v0.heap.size := I.1
    have gKR : w.heap.size + 3 < v0.heap.size := R.1
    obtain ⟨kKW, rfl, rfl, KW, hjK, hb⟩ := hcut
    clear SK CW CIV
    generalize wc = v1 at *
    have zz : v0.heap.size ≤ v1.heap.size := hb.size
    replace B := B.trans (hb.mono B.size)
    replace C := C.below hb
    replace N := N.below hb
    replace I := I.below hb
    replace R := R.below hb
    clear hb
    go_wp2_with fail
    refine (wkNode zY (zX 0 0 0 0 0 0) 0 none 0 none 0 none 0 none 0 kKW v1 KW).mono ?_
    rintro e v2 ⟨rfl, hb⟩
    replace B := B.trans (hb.mono B.size)
    replace C := C.below hb
    replace N := N.below hb
    replace I := I.below hb
    replace R := R.below hb
    replace KW := KW.below hb
    clear hb
    have hU : (ndV (zX 0 0 0 0 0 0) none 0 none 0 none 0).size = 16 := rfl
    have hUl : 0 + (ndV (zX 0 0 0 0 0 0) none 0 none 0 none 0).toList.length ≤ 16 := by simp [hU]
    have hst := Bo.store (P := Tryz.prog) (b := 0) ((ndV (zX 0 0 0 0 0 0) none 0 none 0 none 0).toList) 0 0 R rfl hUl (ndV_one _ _ _ _ _ _ _)
    have hb : Btw (w.heap.size + 3) (w.heap.size + 3 + 1) v2 _ := putA_btw ((ndV (zX 0 0 0 0 0 0) none 0 none 0 none 0).toList) v2 0 (w.heap.size + 3)
    have B1 := putA_below (k := w.heap.size + 3) ((ndV (zX 0 0 0 0 0 0) none 0 none 0 none 0).toList) w v2 0 B (by omega)
    have N1 := R.putW (U := (ndV (zX 0 0 0 0 0 0) none 0 none 0 none 0)) hU
    go_wp2_with (rw [hst])
    clear hst  R B
    replace C := C.btw hb (by omega)
    replace N := N.btw hb (by omega)
    replace I := I.btw hb (by omega)
    replace KW := KW.btw hb (by omega)
    clear hb
    generalize putA v2 (w.heap.size + 3) 0 ((ndV (zX 0 0 0 0 0 0) none 0 none 0 none 0).toList) = v3 at *
    have B := B1
    have R := N1
    clear B1 N1
    have hL0 := R.load (P := Tryz.prog) hU
    exact bodyPost_ret (v := .tuple #[.agg (ndV (zX 0 0 0 0 0 0) none 0 none 0 none 0), .int .i64 1]) (by simp [results, Tryz.results21, go_sem]; rw [hL0]; rfl) rfl ⟨_, rfl, zX_own 0 0 0 0 0 0 _ _ _, B⟩
  have hfx : fxI y x ct ia ib = staI y x ct := by unfold fxI; rw [hiv]
  rcases sta_cases y x ct with hst0 | ⟨hst0, hok⟩ | ⟨hst0, hok⟩
  · have hbad : staI y x ct = 1 ∨ true = false := .inl hst0
    rw [hst0] at hfx
    have hF : fixX y x ct ia ib = (zX 0 0 0 0 0 0, 1) := by unfold fixX; simp only [hfx, Int.reduceBEq]
    rw [hF]
    clear hF hfx
    have CIV := fun v => ok_any ia ib v
    have hC := HC.size
    have hN := HN.size
    have CW := fun (v : World) (h : Below w.heap.size w v) => workOn_bad AC AN y x ct true v (HC.below h) (HN.below h) hwf (hbad)
    clear HC HN hwf
    have A0 := Below.nw w (.cells AC 54)
    have A1 := Below.nw (w.alloc (.cells AC 54)) (.cells AN 66)
    have A2 := Below.nw (((w.alloc (.cells AC 54))).alloc (.cells AN 66)) (.cells #[.int .i64 ia, .int .i64 ib] 46)
    have A3 := Below.nw (((((w.alloc (.cells AC 54))).alloc (.cells AN 66))).alloc (.cells #[.int .i64 ia, .int .i64 ib] 46)) (.cells #[.int .i64 0, .int .i64 0, .int .i64 0, .int .i64 0, .bool false, .int .i64 0, .int .i64 0, .int .i64 0, .int .i64 0, .int .i64 0, .slice none 0 0, .slice none 0 0, .bool false, .int .i64 0, .slice none 0 0, .int .i64 0] 66)
    have C := (((Bo.new w AC 54).below A1).below A2).below A3
    have N := ((Bo.new (w.alloc (.cells AC 54)) AN 66).below A2).below A3
    have I := (Bo.new (((w.alloc (.cells AC 54))).alloc (.cells AN 66)) #[.int .i64 ia, .int .i64 ib] 46).below A3
    have R := Bo.new (((((w.alloc (.cells AC 54))).alloc (.cells AN 66))).alloc (.cells #[.int .i64 ia, .int .i64 ib] 46)) #[.int .i64 0, .int .i64 0, .int .i64 0, .int .i64 0, .bool false, .int .i64 0, .int .i64 0, .int .i64 0, .int .i64 0, .int .i64 0, .slice none 0 0, .slice none 0 0, .bool false, .int .i64 0, .slice none 0 0, .int .i64 0] 66
    have B := A0
    replace B := B.trans (A1.mono B.size)
    replace B := B.trans (A2.mono B.size)
    replace B := B.trans (A3.mono B.size)
    simp only [World.size_alloc] at N I R
    clear A0 A1 A2 A3
    go_enter Tryz.func21, Tryz.ntmps21
    go_upto_region 1 with fail
    generalize ((((((w.alloc (.cells AC 54))).alloc (.cells AN 66))).alloc (.cells #[.int .i64 ia, .int .i64 ib] 46))).alloc (.cells #[.int .i64 0, .int .i64 0, .int .i64 0, .int .i64 0, .bool false, .int .i64 0, .int .i64 0, .int .i64 0, .int .i64 0, .int .i64 0, .slice none 0 0, .slice none 0 0, .bool false, .int .i64 0, .slice none 0 0, .int .i64 0] 66) = v0 at *
    have SK : Hid (∀ w', Below v0.heap.size v0 w' → (fun w' => (loadCells ⟨w.heap.size, 0, none⟩ 11).run Tryz.prog w' = .ok AC w' ∧ (loadCells ⟨w.heap.size + 1, 0, none⟩ 16).run Tryz.prog w' = .ok AN w' ∧ (loadCells ⟨w.heap.size + 2, 0, none⟩ 2).run Tryz.prog w' = .ok #[.int .i64 ia, .int .i64 ib] w') w') := fun w' hw => ⟨(C.below hw).load hC, (N.below hw).load hN, (I.below hw).load (show (#[.int .i64 ia, .int .i64 ib] : Array Value).size = 2 from rfl)⟩
    go_cut [10, 11] (fun s10 s11 wx => ∃ (j : Nat), s10 = .pointer (some ⟨j, 0, none⟩) ∧ s11 = .int .i64 1 ∧ Bo wx j zWk ∧ v0.heap.size ≤ j ∧ Below v0.heap.size v0 wx)
    case first => as_aux_lemma =>
      refine wp_region_held_drew (S := (fun w' => (loadCells ⟨w.heap.size, 0, none⟩ 11).run Tryz.prog w' = .ok AC w' ∧ (loadCells ⟨w.heap.size + 1, 0, none⟩ 16).run Tryz.prog w' = .ok AN w' ∧ (loadCells ⟨w.heap.size + 2, 0, none⟩ 2).run Tryz.prog w' = .ok #[.int .i64 ia, .int .i64 ib] w')) (by kernel_rfl) ?_ (fun hHeld => ?_)
      · first | exact SK.out _ XB | exact SK.out _ (Below.drew (Below.refl _ _)) | exact SK.out _ XF
      have XB : Below v0.heap.size v0 v0.drew := Below.drew (Below.refl _ _)
      generalize v0.drew = vx at *
      refine zTk 0 ?_
      (try simp only [Act.put, zSb, zS0, zS1])
      refine zTk 1 ?_
      (try simp only [Act.put, zSb, zS0, zS1])
      refine zTk 2 ?_
      (try simp only [Act.put, zSb, zS0, zS1])
      refine zTk 3 ?_
      (try simp only [Act.put, zSb, zS0, zS1])
      refine wpAnyH_ready (rs := [4, 9]) (by kernel_rfl) (by simp) ?_
      refine (AllReadyH.cons (by rw [List.getElem?_toArray]; rfl) (fun K hK => ?_) (AllReadyH.cons (by rw [List.getElem?_toArray]; rfl) (fun K hK => ?_) AllReadyH.nil))
      · go_simp
        refine (CIV vx).mono ?_; rintro ee vx ⟨rfl, hbl⟩; rw [hiv]; (replace XB := XB.trans (hbl.mono XB.size)); (clear hbl)
        (try go_wp2_with fail)
        refine hK.out _ _ ?_ (fun hHeld => ?_)
        · first | exact SK.out _ XB | exact SK.out _ (Below.drew (Below.refl _ _)) | exact SK.out _ XF
        clear hK K
        (try simp only [Act.put, zSb, zS0, zS1])
        refine wpAnyH_ready (rs := [5, 9]) (by kernel_rfl) (by simp) ?_
        refine (AllReadyH.cons (by rw [List.getElem?_toArray]; rfl) (fun K hK => ?_) (AllReadyH.cons (by rw [List.getElem?_toArray]; rfl) (fun K hK => ?_) AllReadyH.nil))
        · go_simp
          refine (CW vx (B.trans (XB.mono B.size))).mono ?_; rintro ee vs ⟨rfl, hbl⟩; (have hl0 : v0.heap.size ≤ vx.heap.size := XB.size); (have hlu : vx.heap.size ≤ vs.heap.size := hbl.size); (replace XB := XB.trans (hbl.mono XB.size)); (clear hbl)
          (try go_wp2_with fail)
          refine hK.out _ _ ?_ (fun hHeld => ?_)
          · first | exact SK.out _ XB | exact SK.out _ (Below.drew (Below.refl _ _)) | exact SK.out _ XF
          clear hK K
          (try simp only [Act.put, zSb, zS0, zS1])
          refine zTk 6 ?_
          (try simp only [Act.put, zSb, zS0, zS1])
          refine zTk 7 ?_
          (try simp only [Act.put, zSb, zS0, zS1])
          refine zTk 8 ?_
          (try simp only [Act.put, zSb, zS0, zS1])
          refine wpAnyH_ready (rs := [9]) (by kernel_rfl) (by simp) ?_
          refine (AllReadyH.cons (by rw [List.getElem?_toArray]; rfl) (fun K hK => ?_) AllReadyH.nil)
          go_simp
          (have Z := Bo.new vs (#[.int .i64 0, .int .i64 0, .slice none 0 0, .bool false, .int .i64 0, .int .i64 0, .int .i64 0, .int .i64 0, .int .i64 0, .int .i64 0, .int .i64 0, .int .i64 0, .int .i64 0, .int .i64 0, .int .i64 0, .slice none 0 0, .int .i64 0, .int .i64 0, .int .i64 0, .int .i64 0, .int .i64 0, .bool false, .int .i64 0, .int .i64 0, .int .i64 0, .slice none 0 0, .slice none 0 0, .int .i64 0]) 108); (have NL := Below.nw vs (.cells (#[.int .i64 0, .int .i64 0, .slice none 0 0, .bool false, .int .i64 0, .int .i64 0, .int .i64 0, .int .i64 0, .int .i64 0, .int .i64 0, .int .i64 0, .int .i64 0, .int .i64 0, .int .i64 0, .int .i64 0, .slice none 0 0, .int .i64 0, .int .i64 0, .int .i64 0, .int .i64 0, .int .i64 0, .bool false, .int .i64 0, .int .i64 0, .int .i64 0, .slice none 0 0, .slice none 0 0, .int .i64 0]) 108)); (have hzv : v0.heap.size ≤ vs.heap.size := XB.size); (replace XB := XB.trans (NL.mono XB.size)); (clear NL); (generalize vs.alloc (.cells (#[.int .i64 0, .int .i64 0, .slice none 0 0, .bool false, .int .i64 0, .int .i64 0, .int .i64 0, .int .i64 0, .int .i64 0, .int .i64 0, .int .i64 0, .int .i64 0, .int .i64 0, .int .i64 0, .int .i64 0, .slice none 0 0, .int .i64 0, .int .i64 0, .int .i64 0, .int .i64 0, .int .i64 0, .bool false, .int .i64 0, .int .i64 0, .int .i64 0, .slice none 0 0, .slice none 0 0, .int .i64 0]) 108) = vy at *); (generalize vs.heap.size = jz at *); (have hRW := zWk_size); (have hst := Bo.store (P := Tryz.prog) (b := 0) zWk.toList 0 0 Z rfl (by simp [hRW]) zWk_one); (have XF := putA_below (k := jz) zWk.toList v0 vy 0 XB hzv); (have ZF := Z.putW (U := zWk) hRW); (have hsz := putA_size jz zWk.toList vy 0); (generalize putA vy jz 0 zWk.toList = vf at *)
          refine hK.out _ _ ?_ (fun hHeld => ?_)
          · first | exact SK.out _ XB | exact SK.out _ (Below.drew (Below.refl _ _)) | exact SK.out _ XF
          clear hK K
          (try simp only [Act.put, zSb, zS0, zS1])
          refine wpAnyH_ready (rs := [10]) (by kernel_rfl) (by simp) ?_
          refine (AllReadyH.cons (by rw [List.getElem?_toArray]; rfl) (fun K hK => ?_) AllReadyH.nil)
          go_simp
          refine hK.out _ _ ?_ (fun hHeld => ?_)
          · first | exact SK.out _ XB | exact SK.out _ (Below.drew (Below.refl _ _)) | exact SK.out _ XF
          clear hK K
          (try simp only [Act.put, zSb, zS0, zS1])
          refine zTk 11 ?_
          (try simp only [Act.put, zSb, zS0, zS1])
          refine wpAnyH_done (by kernel_rfl) ?_ _
          go_wp2_with (rw [hst])
          go_meet
          case rel => exact ⟨jz, rfl, rfl, ZF, hzv, XF⟩
        · go_simp
          (have Z := Bo.new vx (#[.int .i64 0, .int .i64 0, .slice none 0 0, .bool false, .int .i64 0, .int .i64 0, .int .i64 0, .int .i64 0, .int .i64 0, .int .i64 0, .int .i64 0, .int .i64 0, .int .i64 0, .int .i64 0, .int .i64 0, .slice none 0 0, .int .i64 0, .int .i64 0, .int .i64 0, .int .i64 0, .int .i64 0, .bool false, .int .i64 0, .int .i64 0, .int .i64 0, .slice none 0 0, .slice none 0 0, .int .i64 0]) 108); (have NL := Below.nw vx (.cells (#[.int .i64 0, .int .i64 0, .slice none 0 0, .bool false, .int .i64 0, .int .i64 0, .int .i64 0, .int .i64 0, .int .i64 0, .int .i64 0, .int .i64 0, .int .i64 0, .int .i64 0, .int .i64 0, .int .i64 0, .slice none 0 0, .int .i64 0, .int .i64 0, .int .i64 0, .int .i64 0, .int .i64 0, .bool false, .int .i64 0, .int .i64 0, .int .i64 0, .slice none 0 0, .slice none 0 0, .int .i64 0]) 108)); (have hzv : v0.heap.size ≤ vx.heap.size := XB.size); (replace XB := XB.trans (NL.mono XB.size)); (clear NL); (generalize vx.alloc (.cells (#[.int .i64 0, .int .i64 0, .slice none 0 0, .bool false, .int .i64 0, .int .i64 0, .int .i64 0, .int .i64 0, .int .i64 0, .int .i64 0, .int .i64 0, .int .i64 0, .int .i64 0, .int .i64 0, .int .i64 0, .slice none 0 0, .int .i64 0, .int .i64 0, .int .i64 0, .int .i64 0, .int .i64 0, .bool false, .int .i64 0, .int .i64 0, .int .i64 0, .slice none 0 0, .slice none 0 0, .int .i64 0]) 108) = vy at *); (generalize vx.heap.size = jz at *)
          refine hK.out _ _ ?_ (fun hHeld => ?_)
          · first | exact SK.out _ XB | exact SK.out _ (Below.drew (Below.refl _ _)) | exact SK.out _ XF
          clear hK K
          (try simp only [Act.put, zSb, zS0, zS1])
          refine wpAnyH_ready (rs := [5]) (by kernel_rfl) (by simp) ?_
          refine (AllReadyH.cons (by rw [List.getElem?_toArray]; rfl) (fun K hK => ?_) AllReadyH.nil)
          go_simp
          refine (CW vy (B.trans (XB.mono B.size))).mono ?_; rintro ee vs ⟨rfl, hbl⟩; (have hl0 : v0.heap.size ≤ vy.heap.size := XB.size); (have hlu : vy.heap.size ≤ vs.heap.size := hbl.size); (replace XB := XB.trans (hbl.mono XB.size)); (have hjl : jz < vy.heap.size := Z.1); (replace Z := Z.below hbl); (clear hbl); (have hRW := zWk_size); (have hst := Bo.store (P := Tryz.prog) (b := 0) zWk.toList 0 0 Z rfl (by simp [hRW]) zWk_one); (have XF := putA_below (k := jz) zWk.toList v0 vs 0 XB hzv); (have ZF := Z.putW (U := zWk) hRW); (have hsz := putA_size jz zWk.toList vs 0); (generalize putA vs jz 0 zWk.toList = vf at *)
          (try go_wp2_with fail)
          refine hK.out _ _ ?_ (fun hHeld => ?_)
          · first | exact SK.out _ XB | exact SK.out _ (Below.drew (Below.refl _ _)) | exact SK.out _ XF
          clear hK K
          (try simp only [Act.put, zSb, zS0, zS1])
          refine zTk 6 ?_
          (try simp only [Act.put, zSb, zS0, zS1])
          refine zTk 7 ?_
          (try simp only [Act.put, zSb, zS0, zS1])
          refine zTk 8 ?_
          (try simp only [Act.put, zSb, zS0, zS1])
          refine wpAnyH_ready (rs := [10]) (by kernel_rfl) (by simp) ?_
          refine (AllReadyH.cons (by rw [List.getElem?_toArray]; rfl) (fun K hK => ?_) AllReadyH.nil)
          go_simp
          refine hK.out _ _ ?_ (fun hHeld => ?_)
          · first | exact SK.out _ XB | exact SK.out _ (Below.drew (Below.refl _ _)) | exact SK.out _ XF
          clear hK K
          (try simp only [Act.put, zSb, zS0, zS1])
          refine zTk 11 ?_
          (try simp only [Act.put, zSb, zS0, zS1])
          refine wpAnyH_done (by kernel_rfl) ?_ _
          go_wp2_with (rw [hst])
          go_meet
          case rel => exact ⟨jz, rfl, rfl, ZF, hzv, XF⟩
      · go_simp
        (have Z := Bo.new vx (#[.int .i64 0, .int .i64 0, .slice none 0 0, .bool false, .int .i64 0, .int .i64 0, .int .i64 0, .int .i64 0, .int .i64 0, .int .i64 0, .int .i64 0, .int .i64 0, .int .i64 0, .int .i64 0, .int .i64 0, .slice none 0 0, .int .i64 0, .int .i64 0, .int .i64 0, .int .i64 0, .int .i64 0, .bool false, .int .i64 0, .int .i64 0, .int .i64 0, .slice none 0 0, .slice none 0 0, .int .i64 0]) 108); (have NL := Below.nw vx (.cells (#[.int .i64 0, .int .i64 0, .slice none 0 0, .bool false, .int .i64 0, .int .i64 0, .int .i64 0, .int .i64 0, .int .i64 0, .int .i64 0, .int .i64 0, .int .i64 0, .int .i64 0, .int .i64 0, .int .i64 0, .slice none 0 0, .int .i64 0, .int .i64 0, .int .i64 0, .int .i64 0, .int .i64 0, .bool false, .int .i64 0, .int .i64 0, .int .i64 0, .slice none 0 0, .slice none 0 0, .int .i64 0]) 108)); (have hzv : v0.heap.size ≤ vx.heap.size := XB.size); (replace XB := XB.trans (NL.mono XB.size)); (clear NL); (generalize vx.alloc (.cells (#[.int .i64 0, .int .i64 0, .slice none 0 0, .bool false, .int .i64 0, .int .i64 0, .int .i64 0, .int .i64 0, .int .i64 0, .int .i64 0, .int .i64 0, .int .i64 0, .int .i64 0, .int .i64 0, .int .i64 0, .slice none 0 0, .int .i64 0, .int .i64 0, .int .i64 0, .int .i64 0, .int .i64 0, .bool false, .int .i64 0, .int .i64 0, .int .i64 0, .slice none 0 0, .slice none 0 0, .int .i64 0]) 108) = vy at *); (generalize vx.heap.size = jz at *)
        refine hK.out _ _ ?_ (fun hHeld => ?_)
        · first | exact SK.out _ XB | exact SK.out _ (Below.drew (Below.refl _ _)) | exact SK.out _ XF
        clear hK K
        (try simp only [Act.put, zSb, zS0, zS1])
        refine wpAnyH_ready (rs := [4]) (by kernel_rfl) (by simp) ?_
        refine (AllReadyH.cons (by rw [List.getElem?_toArray]; rfl) (fun K hK => ?_) AllReadyH.nil)
        go_simp
        refine (CIV vy).mono ?_; rintro ee vx ⟨rfl, hbl⟩; rw [hiv]; (replace XB := XB.trans (hbl.mono XB.size)); (replace Z := Z.below hbl); (clear hbl)
        (try go_wp2_with fail)
        refine hK.out _ _ ?_ (fun hHeld => ?_)
        · first | exact SK.out _ XB | exact SK.out _ (Below.drew (Below.refl _ _)) | exact SK.out _ XF
        clear hK K
        (try simp only [Act.put, zSb, zS0, zS1])
        refine wpAnyH_ready (rs := [5]) (by kernel_rfl) (by simp) ?_
        refine (AllReadyH.cons (by rw [List.getElem?_toArray]; rfl) (fun K hK => ?_) AllReadyH.nil)
        go_simp
        refine (CW vx (B.trans (XB.mono B.size))).mono ?_; rintro ee vs ⟨rfl, hbl⟩; (have hl0 : v0.heap.size ≤ vx.heap.size := XB.size); (have hlu : vx.heap.size ≤ vs.heap.size := hbl.size); (replace XB := XB.trans (hbl.mono XB.size)); (have hjl : jz < vx.heap.size := Z.1); (replace Z := Z.below hbl); (clear hbl); (have hRW := zWk_size); (have hst := Bo.store (P := Tryz.prog) (b := 0) zWk.toList 0 0 Z rfl (by simp [hRW]) zWk_one); (have XF := putA_below (k := jz) zWk.toList v0 vs 0 XB hzv); (have ZF := Z.putW (U := zWk) hRW); (have hsz := putA_size jz zWk.toList vs 0); (generalize putA vs jz 0 zWk.toList = vf at *)
        (try go_wp2_with fail)
        refine hK.out _ _ ?_ (fun hHeld => ?_)
        · first | exact SK.out _ XB | exact SK.out _ (Below.drew (Below.refl _ _)) | exact SK.out _ XF
        clear hK K
        (try simp only [Act.put, zSb, zS0, zS1])
        refine zTk 6 ?_
        (try simp only [Act.put, zSb, zS0, zS1])
        refine zTk 7 ?_
        (try simp only [Act.put, zSb, zS0, zS1])
        refine zTk 8 ?_
        (try simp only [Act.put, zSb, zS0, zS1])
        refine wpAnyH_ready (rs := [10]) (by kernel_rfl) (by simp) ?_
        refine (AllReadyH.cons (by rw [List.getElem?_toArray]; rfl) (fun K hK => ?_) AllReadyH.nil)
        go_simp
        refine hK.out _ _ ?_ (fun hHeld => ?_)
        · first | exact SK.out _ XB | exact SK.out _ (Below.drew (Below.refl _ _)) | exact SK.out _ XF
        clear hK K
        (try simp only [Act.put, zSb, zS0, zS1])
        refine zTk 11 ?_
        (try simp only [Act.put, zSb, zS0, zS1])
        refine wpAnyH_done (by kernel_rfl) ?_ _
        go_wp2_with (rw [hst])
        go_meet
        case rel => exact ⟨jz, rfl, rfl, ZF, hzv, XF⟩
    case rest =>
    have gKC : w.heap.size < v0.heap.size := C.1
    have gKN : w.heap.size + 1 < v0.heap.size := N.1
    have gKI : w.heap.size + 2 < v0.heap.size := I.1
    have gKR : w.heap.size + 3 < v0.heap.size := R.1
    obtain ⟨kKW, rfl, rfl, KW, hjK, hb⟩ := hcut
    clear SK CW CIV
    generalize wc = v1 at *
    have zz : v0.heap.size ≤ v1.heap.size := hb.size
    replace B := B.trans (hb.mono B.size)
    replace C := C.below hb
    replace N := N.below hb
    replace I := I.below hb
    replace R := R.below hb
    clear hb
    go_wp2_with fail
    refine (wkNode zY (zX 0 0 0 0 0 0) 0 none 0 none 0 none 0 none 0 kKW v1 KW).mono ?_
    rintro e v2 ⟨rfl, hb⟩
    replace B := B.trans (hb.mono B.size)
    replace C := C.below hb
    replace N := N.below hb
    replace I := I.below hb
    replace R := R.below hb
    replace KW := KW.below hb
    clear hb
    have hU : (ndV (zX 0 0 0 0 0 0) none 0 none 0 none 0).size = 16 := rfl
    have hUl : 0 + (ndV (zX 0 0 0 0 0 0) none 0 none 0 none 0).toList.length ≤ 16 := by simp [hU]
    have hst := Bo.store (P := Tryz.prog) (b := 0) ((ndV (zX 0 0 0 0 0 0) none 0 none 0 none 0).toList) 0 0 R rfl hUl (ndV_one _ _ _ _ _ _ _)
    have hb : Btw (w.heap.size + 3) (w.heap.size + 3 + 1) v2 _ := putA_btw ((ndV (zX 0 0 0 0 0 0) none 0 none 0 none 0).toList) v2 0 (w.heap.size + 3)
    have B1 := putA_below (k := w.heap.size + 3) ((ndV (zX 0 0 0 0 0 0) none 0 none 0 none 0).toList) w v2 0 B (by omega)
    have N1 := R.putW (U := (ndV (zX 0 0 0 0 0 0) none 0 none 0 none 0)) hU
    go_wp2_with (rw [hst])
    clear hst  R B
    replace C := C.btw hb (by omega)
    replace N := N.btw hb (by omega)
    replace I := I.btw hb (by omega)
    replace KW := KW.btw hb (by omega)
    clear hb
    generalize putA v2 (w.heap.size + 3) 0 ((ndV (zX 0 0 0 0 0 0) none 0 none 0 none 0).toList) = v3 at *
    have B := B1
    have R := N1
    clear B1 N1
    have hL0 := R.load (P := Tryz.prog) hU
    exact bodyPost_ret (v := .tuple #[.agg (ndV (zX 0 0 0 0 0 0) none 0 none 0 none 0), .int .i64 1]) (by simp [results, Tryz.results21, go_sem]; rw [hL0]; rfl) rfl ⟨_, rfl, zX_own 0 0 0 0 0 0 _ _ _, B⟩
  · have hs1 : staI y x ct ≠ 1 := by rw [hst0]; decide
    rw [hst0] at hfx
    have hF : fixX y x ct ia ib = (x, 2) := by unfold fixX; simp only [hfx, Int.reduceBEq]
    rw [hF]
    clear hF hfx
    have CIV := fun v => ok_any ia ib v
    have hC := HC.size
    have hN := HN.size
    obtain ⟨p, d, hpd, hm, hr⟩ := id HC
    have CW := fun (v : World) (h : Below w.heap.size w v) => workOn_ok AC AN y x ct p d v (HC.below h) (HN.below h) hwf hpd hok hs1
    clear HC HN hwf hm hr hpd
    have A0 := Below.nw w (.cells AC 54)
    have A1 := Below.nw (w.alloc (.cells AC 54)) (.cells AN 66)
    have A2 := Below.nw (((w.alloc (.cells AC 54))).alloc (.cells AN 66)) (.cells #[.int .i64 ia, .int .i64 ib] 46)
    have A3 := Below.nw (((((w.alloc (.cells AC 54))).alloc (.cells AN 66))).alloc (.cells #[.int .i64 ia, .int .i64 ib] 46)) (.cells #[.int .i64 0, .int .i64 0, .int .i64 0, .int .i64 0, .bool false, .int .i64 0, .int .i64 0, .int .i64 0, .int .i64 0, .int .i64 0, .slice none 0 0, .slice none 0 0, .bool false, .int .i64 0, .slice none 0 0, .int .i64 0] 66)
    have C := (((Bo.new w AC 54).below A1).below A2).below A3
    have N := ((Bo.new (w.alloc (.cells AC 54)) AN 66).below A2).below A3
    have I := (Bo.new (((w.alloc (.cells AC 54))).alloc (.cells AN 66)) #[.int .i64 ia, .int .i64 ib] 46).below A3
    have R := Bo.new (((((w.alloc (.cells AC 54))).alloc (.cells AN 66))).alloc (.cells #[.int .i64 ia, .int .i64 ib] 46)) #[.int .i64 0, .int .i64 0, .int .i64 0, .int .i64 0, .bool false, .int .i64 0, .int .i64 0, .int .i64 0, .int .i64 0, .int .i64 0, .slice none 0 0, .slice none 0 0, .bool false, .int .i64 0, .slice none 0 0, .int .i64 0] 66
    have B := A0
    replace B := B.trans (A1.mono B.size)
    replace B := B.trans (A2.mono B.size)
    replace B := B.trans (A3.mono B.size)
    simp only [World.size_alloc] at N I R
    clear A0 A1 A2 A3
    go_enter Tryz.func21, Tryz.ntmps21
    go_upto_region 1 with fail
    generalize ((((((w.alloc (.cells AC 54))).alloc (.cells AN 66))).alloc (.cells #[.int .i64 ia, .int .i64 ib] 46))).alloc (.cells #[.int .i64 0, .int .i64 0, .int .i64 0, .int .i64 0, .bool false, .int .i64 0, .int .i64 0, .int .i64 0, .int .i64 0, .int .i64 0, .slice none 0 0, .slice none 0 0, .bool false, .int .i64 0, .slice none 0 0, .int .i64 0] 66) = v0 at *
    have SK : Hid (∀ w', Below v0.heap.size v0 w' → (fun w' => (loadCells ⟨w.heap.size, 0, none⟩ 11).run Tryz.prog w' = .ok AC w' ∧ (loadCells ⟨w.heap.size + 1, 0, none⟩ 16).run Tryz.prog w' = .ok AN w' ∧ (loadCells ⟨w.heap.size + 2, 0, none⟩ 2).run Tryz.prog w' = .ok #[.int .i64 ia, .int .i64 ib] w') w') := fun w' hw => ⟨(C.below hw).load hC, (N.below hw).load hN, (I.below hw).load (show (#[.int .i64 ia, .int .i64 ib] : Array Value).size = 2 from rfl)⟩
    go_cut [10, 11] (fun s10 s11 wx => ∃ (j l u : Nat) (R : Array Value), s10 = .pointer (some ⟨j, 0, none⟩) ∧ s11 = .int .i64 2 ∧ Bo wx j R ∧ WkO wx l u R y x ct p d ∧ v0.heap.size ≤ l ∧ v0.heap.size ≤ j ∧ u ≤ wx.heap.size ∧ j < wx.heap.size ∧ l ≤ u ∧ (j < l ∨ u ≤ j) ∧ Below v0.heap.size v0 wx)
    case first => as_aux_lemma =>
      refine wp_region_held_drew (S := (fun w' => (loadCells ⟨w.heap.size, 0, none⟩ 11).run Tryz.prog w' = .ok AC w' ∧ (loadCells ⟨w.heap.size + 1, 0, none⟩ 16).run Tryz.prog w' = .ok AN w' ∧ (loadCells ⟨w.heap.size + 2, 0, none⟩ 2).run Tryz.prog w' = .ok #[.int .i64 ia, .int .i64 ib] w')) (by kernel_rfl) ?_ (fun hHeld => ?_)
      · first | exact SK.out _ XB | exact SK.out _ (Below.drew (Below.refl _ _)) | exact SK.out _ XF
      have XB : Below v0.heap.size v0 v0.drew := Below.drew (Below.refl _ _)
      generalize v0.drew = vx at *
      refine zTk 0 ?_
      (try simp only [Act.put, zSb, zS0, zS1])
      refine zTk 1 ?_
      (try simp only [Act.put, zSb, zS0, zS1])
      refine zTk 2 ?_
      (try simp only [Act.put, zSb, zS0, zS1])
      refine zTk 3 ?_
      (try simp only [Act.put, zSb, zS0, zS1])
      refine wpAnyH_ready (rs := [4, 9]) (by kernel_rfl) (by simp) ?_
      refine (AllReadyH.cons (by rw [List.getElem?_toArray]; rfl) (fun K hK => ?_) (AllReadyH.cons (by rw [List.getElem?_toArray]; rfl) (fun K hK => ?_) AllReadyH.nil))
      · go_simp
        refine (CIV vx).mono ?_; rintro ee vx ⟨rfl, hbl⟩; rw [hiv]; (replace XB := XB.trans (hbl.mono XB.size)); (clear hbl)
        (try go_wp2_with fail)
        refine hK.out _ _ ?_ (fun hHeld => ?_)
        · first | exact SK.out _ XB | exact SK.out _ (Below.drew (Below.refl _ _)) | exact SK.out _ XF
        clear hK K
        (try simp only [Act.put, zSb, zS0, zS1])
        refine wpAnyH_ready (rs := [5, 9]) (by kernel_rfl) (by simp) ?_
        refine (AllReadyH.cons (by rw [List.getElem?_toArray]; rfl) (fun K hK => ?_) (AllReadyH.cons (by rw [List.getElem?_toArray]; rfl) (fun K hK => ?_) AllReadyH.nil))
        · go_simp
          refine (CW vx (B.trans (XB.mono B.size))).mono ?_; rintro ee vs ⟨RW, rfl, OW, hbl⟩; (have hl0 : v0.heap.size ≤ vx.heap.size := XB.size); (have hlu : vx.heap.size ≤ vs.heap.size := hbl.size); (replace XB := XB.trans (hbl.mono XB.size)); (clear hbl)
          (try go_wp2_with fail)
          refine hK.out _ _ ?_ (fun hHeld => ?_)
          · first | exact SK.out _ XB | exact SK.out _ (Below.drew (Below.refl _ _)) | exact SK.out _ XF
          clear hK K
          (try simp only [Act.put, zSb, zS0, zS1])
          refine zTk 6 ?_
          (try simp only [Act.put, zSb, zS0, zS1])
          refine zTk 7 ?_
          (try simp only [Act.put, zSb, zS0, zS1])
          refine zTk 8 ?_
          (try simp only [Act.put, zSb, zS0, zS1])
          refine wpAnyH_ready (rs := [9]) (by kernel_rfl) (by simp) ?_
          refine (AllReadyH.cons (by rw [List.getElem?_toArray]; rfl) (fun K hK => ?_) AllReadyH.nil)
          go_simp
          (have Z := Bo.new vs (#[.int .i64 0, .int .i64 0, .slice none 0 0, .bool false, .int .i64 0, .int .i64 0, .int .i64 0, .int .i64 0, .int .i64 0, .int .i64 0, .int .i64 0, .int .i64 0, .int .i64 0, .int .i64 0, .int .i64 0, .slice none 0 0, .int .i64 0, .int .i64 0, .int .i64 0, .int .i64 0, .int .i64 0, .bool false, .int .i64 0, .int .i64 0, .int .i64 0, .slice none 0 0, .slice none 0 0, .int .i64 0]) 108); (have NL := Below.nw vs (.cells (#[.int .i64 0, .int .i64 0, .slice none 0 0, .bool false, .int .i64 0, .int .i64 0, .int .i64 0, .int .i64 0, .int .i64 0, .int .i64 0, .int .i64 0, .int .i64 0, .int .i64 0, .int .i64 0, .int .i64 0, .slice none 0 0, .int .i64 0, .int .i64 0, .int .i64 0, .int .i64 0, .int .i64 0, .bool false, .int .i64 0, .int .i64 0, .int .i64 0, .slice none 0 0, .slice none 0 0, .int .i64 0]) 108)); (have hzv : v0.heap.size ≤ vs.heap.size := XB.size); (replace XB := XB.trans (NL.mono XB.size)); (replace OW := OW.below NL); (clear NL); (generalize vs.alloc (.cells (#[.int .i64 0, .int .i64 0, .slice none 0 0, .bool false, .int .i64 0, .int .i64 0, .int .i64 0, .int .i64 0, .int .i64 0, .int .i64 0, .int .i64 0, .int .i64 0, .int .i64 0, .int .i64 0, .int .i64 0, .slice none 0 0, .int .i64 0, .int .i64 0, .int .i64 0, .int .i64 0, .int .i64 0, .bool false, .int .i64 0, .int .i64 0, .int .i64 0, .slice none 0 0, .slice none 0 0, .int .i64 0]) 108) = vy at *); (generalize vs.heap.size = jz at *); (have hRW := OW.size); (have hst := Bo.store (P := Tryz.prog) (b := 0) RW.toList 0 0 Z rfl (by simp [hRW]) OW.one); (have OF := OW.btw (putA_btw RW.toList vy 0 jz) (.inl (Nat.le_refl _))); (have XF := putA_below (k := jz) RW.toList v0 vy 0 XB hzv); (have ZF := Z.putW (U := RW) hRW); (have hsz := putA_size jz RW.toList vy 0); (generalize putA vy jz 0 RW.toList = vf at *)
          refine hK.out _ _ ?_ (fun hHeld => ?_)
          · first | exact SK.out _ XB | exact SK.out _ (Below.drew (Below.refl _ _)) | exact SK.out _ XF
          clear hK K
          (try simp only [Act.put, zSb, zS0, zS1])
          refine wpAnyH_ready (rs := [10]) (by kernel_rfl) (by simp) ?_
          refine (AllReadyH.cons (by rw [List.getElem?_toArray]; rfl) (fun K hK => ?_) AllReadyH.nil)
          go_simp
          refine hK.out _ _ ?_ (fun hHeld => ?_)
          · first | exact SK.out _ XB | exact SK.out _ (Below.drew (Below.refl _ _)) | exact SK.out _ XF
          clear hK K
          (try simp only [Act.put, zSb, zS0, zS1])
          refine zTk 11 ?_
          (try simp only [Act.put, zSb, zS0, zS1])
          refine wpAnyH_done (by kernel_rfl) ?_ _
          go_wp2_with (rw [hst])
          go_meet
          case rel => exact ⟨jz, _, _, RW, rfl, rfl, ZF, OF, hl0, hzv, by first | exact Nat.le_of_eq hsz.symm | (rw [hsz]; exact Nat.le_of_lt Z.1), by rw [hsz]; exact Z.1, hlu, .inr (Nat.le_refl _), XF⟩
        · go_simp
          (have Z := Bo.new vx (#[.int .i64 0, .int .i64 0, .slice none 0 0, .bool false, .int .i64 0, .int .i64 0, .int .i64 0, .int .i64 0, .int .i64 0, .int .i64 0, .int .i64 0, .int .i64 0, .int .i64 0, .int .i64 0, .int .i64 0, .slice none 0 0, .int .i64 0, .int .i64 0, .int .i64 0, .int .i64 0, .int .i64 0, .bool false, .int .i64 0, .int .i64 0, .int .i64 0, .slice none 0 0, .slice none 0 0, .int .i64 0]) 108); (have NL := Below.nw vx (.cells (#[.int .i64 0, .int .i64 0, .slice none 0 0, .bool false, .int .i64 0, .int .i64 0, .int .i64 0, .int .i64 0, .int .i64 0, .int .i64 0, .int .i64 0, .int .i64 0, .int .i64 0, .int .i64 0, .int .i64 0, .slice none 0 0, .int .i64 0, .int .i64 0, .int .i64 0, .int .i64 0, .int .i64 0, .bool false, .int .i64 0, .int .i64 0, .int .i64 0, .slice none 0 0, .slice none 0 0, .int .i64 0]) 108)); (have hzv : v0.heap.size ≤ vx.heap.size := XB.size); (replace XB := XB.trans (NL.mono XB.size)); (clear NL); (generalize vx.alloc (.cells (#[.int .i64 0, .int .i64 0, .slice none 0 0, .bool false, .int .i64 0, .int .i64 0, .int .i64 0, .int .i64 0, .int .i64 0, .int .i64 0, .int .i64 0, .int .i64 0, .int .i64 0, .int .i64 0, .int .i64 0, .slice none 0 0, .int .i64 0, .int .i64 0, .int .i64 0, .int .i64 0, .int .i64 0, .bool false, .int .i64 0, .int .i64 0, .int .i64 0, .slice none 0 0, .slice none 0 0, .int .i64 0]) 108) = vy at *); (generalize vx.heap.size = jz at *)
          refine hK.out _ _ ?_ (fun hHeld => ?_)
          · first | exact SK.out _ XB | exact SK.out _ (Below.drew (Below.refl _ _)) | exact SK.out _ XF
          clear hK K
          (try simp only [Act.put, zSb, zS0, zS1])
          refine wpAnyH_ready (rs := [5]) (by kernel_rfl) (by simp) ?_
          refine (AllReadyH.cons (by rw [List.getElem?_toArray]; rfl) (fun K hK => ?_) AllReadyH.nil)
          go_simp
          refine (CW vy (B.trans (XB.mono B.size))).mono ?_; rintro ee vs ⟨RW, rfl, OW, hbl⟩; (have hl0 : v0.heap.size ≤ vy.heap.size := XB.size); (have hlu : vy.heap.size ≤ vs.heap.size := hbl.size); (replace XB := XB.trans (hbl.mono XB.size)); (have hjl : jz < vy.heap.size := Z.1); (replace Z := Z.below hbl); (clear hbl); (have hRW := OW.size); (have hst := Bo.store (P := Tryz.prog) (b := 0) RW.toList 0 0 Z rfl (by simp [hRW]) OW.one); (have OF := OW.btw (putA_btw RW.toList vs 0 jz) (.inr hjl)); (have XF := putA_below (k := jz) RW.toList v0 vs 0 XB hzv); (have ZF := Z.putW (U := RW) hRW); (have hsz := putA_size jz RW.toList vs 0); (generalize putA vs jz 0 RW.toList = vf at *)
          (try go_wp2_with fail)
          refine hK.out _ _ ?_ (fun hHeld => ?_)
          · first | exact SK.out _ XB | exact SK.out _ (Below.drew (Below.refl _ _)) | exact SK.out _ XF
          clear hK K
          (try simp only [Act.put, zSb, zS0, zS1])
          refine zTk 6 ?_
          (try simp only [Act.put, zSb, zS0, zS1])
          refine zTk 7 ?_
          (try simp only [Act.put, zSb, zS0, zS1])
          refine zTk 8 ?_
          (try simp only [Act.put, zSb, zS0, zS1])
          refine wpAnyH_ready (rs := [10]) (by kernel_rfl) (by simp) ?_
          refine (AllReadyH.cons (by rw [List.getElem?_toArray]; rfl) (fun K hK => ?_) AllReadyH.nil)
          go_simp
          refine hK.out _ _ ?_ (fun hHeld => ?_)
          · first | exact SK.out _ XB | exact SK.out _ (Below.drew (Below.refl _ _)) | exact SK.out _ XF
          clear hK K
          (try simp only [Act.put, zSb, zS0, zS1])
          refine zTk 11 ?_
          (try simp only [Act.put, zSb, zS0, zS1])
          refine wpAnyH_done (by kernel_rfl) ?_ _
          go_wp2_with (rw [hst])
          go_meet
          case rel => exact ⟨jz, _, _, RW, rfl, rfl, ZF, OF, hl0, hzv, by first | exact Nat.le_of_eq hsz.symm | (rw [hsz]; exact Nat.le_of_lt Z.1), by rw [hsz]; exact Z.1, hlu, .inl hjl, XF⟩
      · go_simp
        (have Z := Bo.new vx (#[.int .i64 0, .int .i64 0, .slice none 0 0, .bool false, .int .i64 0, .int .i64 0, .int .i64 0, .int .i64 0, .int .i64 0, .int .i64 0, .int .i64 0, .int .i64 0, .int .i64 0, .int .i64 0, .int .i64 0, .slice none 0 0, .int .i64 0, .int .i64 0, .int .i64 0, .int .i64 0, .int .i64 0, .bool false, .int .i64 0, .int .i64 0, .int .i64 0, .slice none 0 0, .slice none 0 0, .int .i64 0]) 108); (have NL := Below.nw vx (.cells (#[.int .i64 0, .int .i64 0, .slice none 0 0, .bool false, .int .i64 0, .int .i64 0, .int .i64 0, .int .i64 0, .int .i64 0, .int .i64 0, .int .i64 0, .int .i64 0, .int .i64 0, .int .i64 0, .int .i64 0, .slice none 0 0, .int .i64 0, .int .i64 0, .int .i64 0, .int .i64 0, .int .i64 0, .bool false, .int .i64 0, .int .i64 0, .int .i64 0, .slice none 0 0, .slice none 0 0, .int .i64 0]) 108)); (have hzv : v0.heap.size ≤ vx.heap.size := XB.size); (replace XB := XB.trans (NL.mono XB.size)); (clear NL); (generalize vx.alloc (.cells (#[.int .i64 0, .int .i64 0, .slice none 0 0, .bool false, .int .i64 0, .int .i64 0, .int .i64 0, .int .i64 0, .int .i64 0, .int .i64 0, .int .i64 0, .int .i64 0, .int .i64 0, .int .i64 0, .int .i64 0, .slice none 0 0, .int .i64 0, .int .i64 0, .int .i64 0, .int .i64 0, .int .i64 0, .bool false, .int .i64 0, .int .i64 0, .int .i64 0, .slice none 0 0, .slice none 0 0, .int .i64 0]) 108) = vy at *); (generalize vx.heap.size = jz at *)
        refine hK.out _ _ ?_ (fun hHeld => ?_)
        · first | exact SK.out _ XB | exact SK.out _ (Below.drew (Below.refl _ _)) | exact SK.out _ XF
        clear hK K
        (try simp only [Act.put, zSb, zS0, zS1])
        refine wpAnyH_ready (rs := [4]) (by kernel_rfl) (by simp) ?_
        refine (AllReadyH.cons (by rw [List.getElem?_toArray]; rfl) (fun K hK => ?_) AllReadyH.nil)
        go_simp
        refine (CIV vy).mono ?_; rintro ee vx ⟨rfl, hbl⟩; rw [hiv]; (replace XB := XB.trans (hbl.mono XB.size)); (replace Z := Z.below hbl); (clear hbl)
        (try go_wp2_with fail)
        refine hK.out _ _ ?_ (fun hHeld => ?_)
        · first | exact SK.out _ XB | exact SK.out _ (Below.drew (Below.refl _ _)) | exact SK.out _ XF
        clear hK K
        (try simp only [Act.put, zSb, zS0, zS1])
        refine wpAnyH_ready (rs := [5]) (by kernel_rfl) (by simp) ?_
        refine (AllReadyH.cons (by rw [List.getElem?_toArray]; rfl) (fun K hK => ?_) AllReadyH.nil)
        go_simp
        refine (CW vx (B.trans (XB.mono B.size))).mono ?_; rintro ee vs ⟨RW, rfl, OW, hbl⟩; (have hl0 : v0.heap.size ≤ vx.heap.size := XB.size); (have hlu : vx.heap.size ≤ vs.heap.size := hbl.size); (replace XB := XB.trans (hbl.mono XB.size)); (have hjl : jz < vx.heap.size := Z.1); (replace Z := Z.below hbl); (clear hbl); (have hRW := OW.size); (have hst := Bo.store (P := Tryz.prog) (b := 0) RW.toList 0 0 Z rfl (by simp [hRW]) OW.one); (have OF := OW.btw (putA_btw RW.toList vs 0 jz) (.inr hjl)); (have XF := putA_below (k := jz) RW.toList v0 vs 0 XB hzv); (have ZF := Z.putW (U := RW) hRW); (have hsz := putA_size jz RW.toList vs 0); (generalize putA vs jz 0 RW.toList = vf at *)
        (try go_wp2_with fail)
        refine hK.out _ _ ?_ (fun hHeld => ?_)
        · first | exact SK.out _ XB | exact SK.out _ (Below.drew (Below.refl _ _)) | exact SK.out _ XF
        clear hK K
        (try simp only [Act.put, zSb, zS0, zS1])
        refine zTk 6 ?_
        (try simp only [Act.put, zSb, zS0, zS1])
        refine zTk 7 ?_
        (try simp only [Act.put, zSb, zS0, zS1])
        refine zTk 8 ?_
        (try simp only [Act.put, zSb, zS0, zS1])
        refine wpAnyH_ready (rs := [10]) (by kernel_rfl) (by simp) ?_
        refine (AllReadyH.cons (by rw [List.getElem?_toArray]; rfl) (fun K hK => ?_) AllReadyH.nil)
        go_simp
        refine hK.out _ _ ?_ (fun hHeld => ?_)
        · first | exact SK.out _ XB | exact SK.out _ (Below.drew (Below.refl _ _)) | exact SK.out _ XF
        clear hK K
        (try simp only [Act.put, zSb, zS0, zS1])
        refine zTk 11 ?_
        (try simp only [Act.put, zSb, zS0, zS1])
        refine wpAnyH_done (by kernel_rfl) ?_ _
        go_wp2_with (rw [hst])
        go_meet
        case rel => exact ⟨jz, _, _, RW, rfl, rfl, ZF, OF, hl0, hzv, by first | exact Nat.le_of_eq hsz.symm | (rw [hsz]; exact Nat.le_of_lt Z.1), by rw [hsz]; exact Z.1, hlu, .inl hjl, XF⟩
    case rest =>
    have gKC : w.heap.size < v0.heap.size := C.1
    have gKN : w.heap.size + 1 < v0.heap.size := N.1
    have gKI : w.heap.size + 2 < v0.heap.size := I.1
    have gKR : w.heap.size + 3 < v0.heap.size := R.1
    obtain ⟨kKW, lk, uk, U, rfl, rfl, KW, OU, hlk1, hjK, huk, hjk2, hlk3, hlk4, hb⟩ := hcut
    clear SK CW CIV
    generalize wc = v1 at *
    have zz : v0.heap.size ≤ v1.heap.size := hb.size
    replace B := B.trans (hb.mono B.size)
    replace C := C.below hb
    replace N := N.below hb
    replace I := I.below hb
    replace R := R.below hb
    clear hb
    obtain ⟨aa, ac, pa, pc, ha, hc, rfl, hbn, P1, P2, P3⟩ := OU
    (try rw [hst0])
    go_wp2_with fail
    refine (wkNode y x ct p d aa ac pa pc ha hc kKW v1 KW).mono ?_
    rintro e v2 ⟨rfl, hb⟩
    have zv2 : v1.heap.size ≤ v2.heap.size := hb.size
    replace B := B.trans (hb.mono B.size)
    replace C := C.below hb
    replace N := N.below hb
    replace I := I.below hb
    replace R := R.below hb
    replace KW := KW.below hb
    replace P1 := P1.below hb
    replace P2 := P2.below hb
    replace P3 := P3.below hb
    clear hb
    have hU : (ndV x aa ac pa pc ha hc).size = 16 := rfl
    have hUl : 0 + (ndV x aa ac pa pc ha hc).toList.length ≤ 16 := by simp [hU]
    have hst := Bo.store (P := Tryz.prog) (b := 0) ((ndV x aa ac pa pc ha hc).toList) 0 0 R rfl hUl (ndV_one _ _ _ _ _ _ _)
    have hb : Btw (w.heap.size + 3) (w.heap.size + 3 + 1) v2 _ := putA_btw ((ndV x aa ac pa pc ha hc).toList) v2 0 (w.heap.size + 3)
    have B1 := putA_below (k := w.heap.size + 3) ((ndV x aa ac pa pc ha hc).toList) w v2 0 B (by omega)
    have N1 := R.putW (U := (ndV x aa ac pa pc ha hc)) hU
    go_wp2_with (rw [hst])
    clear hst  R B
    replace C := C.btw hb (by omega)
    replace N := N.btw hb (by omega)
    replace I := I.btw hb (by omega)
    replace KW := KW.btw hb (by omega)
    replace P1 := P1.btw hb (by omega)
    replace P2 := P2.btw hb (by omega)
    replace P3 := P3.btw hb (by omega)
    have zv3 := hb.2.2.2.1
    clear hb
    generalize putA v2 (w.heap.size + 3) 0 ((ndV x aa ac pa pc ha hc).toList) = v3 at *
    have B := B1
    have R := N1
    clear B1 N1
    have hL0 := R.load (P := Tryz.prog) hU
    exact bodyPost_ret (v := .tuple #[.agg (ndV x aa ac pa pc ha hc), .int .i64 2]) (by simp [results, Tryz.results21, go_sem]; rw [hL0]; rfl) rfl ⟨_, rfl, ⟨aa, ac, pa, pc, ha, hc, rfl, hbn, P1.low (by omega), P2.low (by omega), P3.low (by omega)⟩, B⟩
  · have hs1 : staI y x ct ≠ 1 := by rw [hst0]; decide
    rw [hst0] at hfx
    rw [fix_pf hfx]
    clear hfx
    have CIV := fun v => ok_any ia ib v
    have hC := HC.size
    have hN := HN.size
    obtain ⟨p, d, hpd, hm, hr⟩ := id HC
    have CW := fun (v : World) (h : Below w.heap.size w v) => workOn_ok AC AN y x ct p d v (HC.below h) (HN.below h) hwf hpd hok hs1
    clear HC HN hwf hm hr hpd
    have A0 := Below.nw w (.cells AC 54)
    have A1 := Below.nw (w.alloc (.cells AC 54)) (.cells AN 66)
    have A2 := Below.nw (((w.alloc (.cells AC 54))).alloc (.cells AN 66)) (.cells #[.int .i64 ia, .int .i64 ib] 46)
    have A3 := Below.nw (((((w.alloc (.cells AC 54))).alloc (.cells AN 66))).alloc (.cells #[.int .i64 ia, .int .i64 ib] 46)) (.cells #[.int .i64 0, .int .i64 0, .int .i64 0, .int .i64 0, .bool false, .int .i64 0, .int .i64 0, .int .i64 0, .int .i64 0, .int .i64 0, .slice none 0 0, .slice none 0 0, .bool false, .int .i64 0, .slice none 0 0, .int .i64 0] 66)
    have C := (((Bo.new w AC 54).below A1).below A2).below A3
    have N := ((Bo.new (w.alloc (.cells AC 54)) AN 66).below A2).below A3
    have I := (Bo.new (((w.alloc (.cells AC 54))).alloc (.cells AN 66)) #[.int .i64 ia, .int .i64 ib] 46).below A3
    have R := Bo.new (((((w.alloc (.cells AC 54))).alloc (.cells AN 66))).alloc (.cells #[.int .i64 ia, .int .i64 ib] 46)) #[.int .i64 0, .int .i64 0, .int .i64 0, .int .i64 0, .bool false, .int .i64 0, .int .i64 0, .int .i64 0, .int .i64 0, .int .i64 0, .slice none 0 0, .slice none 0 0, .bool false, .int .i64 0, .slice none 0 0, .int .i64 0] 66
    have B := A0
    replace B := B.trans (A1.mono B.size)
    replace B := B.trans (A2.mono B.size)
    replace B := B.trans (A3.mono B.size)
    simp only [World.size_alloc] at N I R
    clear A0 A1 A2 A3
    go_enter Tryz.func21, Tryz.ntmps21
    go_upto_region 1 with fail
    generalize ((((((w.alloc (.cells AC 54))).alloc (.cells AN 66))).alloc (.cells #[.int .i64 ia, .int .i64 ib] 46))).alloc (.cells #[.int .i64 0, .int .i64 0, .int .i64 0, .int .i64 0, .bool false, .int .i64 0, .int .i64 0, .int .i64 0, .int .i64 0, .int .i64 0, .slice none 0 0, .slice none 0 0, .bool false, .int .i64 0, .slice none 0 0, .int .i64 0] 66) = v0 at *
    have SK : Hid (∀ w', Below v0.heap.size v0 w' → (fun w' => (loadCells ⟨w.heap.size, 0, none⟩ 11).run Tryz.prog w' = .ok AC w' ∧ (loadCells ⟨w.heap.size + 1, 0, none⟩ 16).run Tryz.prog w' = .ok AN w' ∧ (loadCells ⟨w.heap.size + 2, 0, none⟩ 2).run Tryz.prog w' = .ok #[.int .i64 ia, .int .i64 ib] w') w') := fun w' hw => ⟨(C.below hw).load hC, (N.below hw).load hN, (I.below hw).load (show (#[.int .i64 ia, .int .i64 ib] : Array Value).size = 2 from rfl)⟩
    go_cut [10, 11] (fun s10 s11 wx => ∃ (j l u : Nat) (R : Array Value), s10 = .pointer (some ⟨j, 0, none⟩) ∧ s11 = .int .i64 0 ∧ Bo wx j R ∧ WkO wx l u R y x ct p d ∧ v0.heap.size ≤ l ∧ v0.heap.size ≤ j ∧ u ≤ wx.heap.size ∧ j < wx.heap.size ∧ l ≤ u ∧ (j < l ∨ u ≤ j) ∧ Below v0.heap.size v0 wx)
    case first => as_aux_lemma =>
      refine wp_region_held_drew (S := (fun w' => (loadCells ⟨w.heap.size, 0, none⟩ 11).run Tryz.prog w' = .ok AC w' ∧ (loadCells ⟨w.heap.size + 1, 0, none⟩ 16).run Tryz.prog w' = .ok AN w' ∧ (loadCells ⟨w.heap.size + 2, 0, none⟩ 2).run Tryz.prog w' = .ok #[.int .i64 ia, .int .i64 ib] w')) (by kernel_rfl) ?_ (fun hHeld => ?_)
      · first | exact SK.out _ XB | exact SK.out _ (Below.drew (Below.refl _ _)) | exact SK.out _ XF
      have XB : Below v0.heap.size v0 v0.drew := Below.drew (Below.refl _ _)
      generalize v0.drew = vx at *
      refine zTk 0 ?_
      (try simp only [Act.put, zSb, zS0, zS1])
      refine zTk 1 ?_
      (try simp only [Act.put, zSb, zS0, zS1])
      refine zTk 2 ?_
      (try simp only [Act.put, zSb, zS0, zS1])
      refine zTk 3 ?_
      (try simp only [Act.put, zSb, zS0, zS1])
      refine wpAnyH_ready (rs := [4, 9]) (by kernel_rfl) (by simp) ?_
      refine (AllReadyH.cons (by rw [List.getElem?_toArray]; rfl) (fun K hK => ?_) (AllReadyH.cons (by rw [List.getElem?_toArray]; rfl) (fun K hK => ?_) AllReadyH.nil))
      · go_simp
        refine (CIV vx).mono ?_; rintro ee vx ⟨rfl, hbl⟩; rw [hiv]; (replace XB := XB.trans (hbl.mono XB.size)); (clear hbl)
        (try go_wp2_with fail)
        refine hK.out _ _ ?_ (fun hHeld => ?_)
        · first | exact SK.out _ XB | exact SK.out _ (Below.drew (Below.refl _ _)) | exact SK.out _ XF
        clear hK K
        (try simp only [Act.put, zSb, zS0, zS1])
        refine wpAnyH_ready (rs := [5, 9]) (by kernel_rfl) (by simp) ?_
        refine (AllReadyH.cons (by rw [List.getElem?_toArray]; rfl) (fun K hK => ?_) (AllReadyH.cons (by rw [List.getElem?_toArray]; rfl) (fun K hK => ?_) AllReadyH.nil))
        · go_simp
          refine (CW vx (B.trans (XB.mono B.size))).mono ?_; rintro ee vs ⟨RW, rfl, OW, hbl⟩; (have hl0 : v0.heap.size ≤ vx.heap.size := XB.size); (have hlu : vx.heap.size ≤ vs.heap.size := hbl.size); (replace XB := XB.trans (hbl.mono XB.size)); (clear hbl)
          (try go_wp2_with fail)
          refine hK.out _ _ ?_ (fun hHeld => ?_)
          · first | exact SK.out _ XB | exact SK.out _ (Below.drew (Below.refl _ _)) | exact SK.out _ XF
          clear hK K
          (try simp only [Act.put, zSb, zS0, zS1])
          refine zTk 6 ?_
          (try simp only [Act.put, zSb, zS0, zS1])
          refine zTk 7 ?_
          (try simp only [Act.put, zSb, zS0, zS1])
          refine zTk 8 ?_
          (try simp only [Act.put, zSb, zS0, zS1])
          refine wpAnyH_ready (rs := [9]) (by kernel_rfl) (by simp) ?_
          refine (AllReadyH.cons (by rw [List.getElem?_toArray]; rfl) (fun K hK => ?_) AllReadyH.nil)
          go_simp
          (have Z := Bo.new vs (#[.int .i64 0, .int .i64 0, .slice none 0 0, .bool false, .int .i64 0, .int .i64 0, .int .i64 0, .int .i64 0, .int .i64 0, .int .i64 0, .int .i64 0, .int .i64 0, .int .i64 0, .int .i64 0, .int .i64 0, .slice none 0 0, .int .i64 0, .int .i64 0, .int .i64 0, .int .i64 0, .int .i64 0, .bool false, .int .i64 0, .int .i64 0, .int .i64 0, .slice none 0 0, .slice none 0 0, .int .i64 0]) 108); (have NL := Below.nw vs (.cells (#[.int .i64 0, .int .i64 0, .slice none 0 0, .bool false, .int .i64 0, .int .i64 0, .int .i64 0, .int .i64 0, .int .i64 0, .int .i64 0, .int .i64 0, .int .i64 0, .int .i64 0, .int .i64 0, .int .i64 0, .slice none 0 0, .int .i64 0, .int .i64 0, .int .i64 0, .int .i64 0, .int .i64 0, .bool false, .int .i64 0, .int .i64 0, .int .i64 0, .slice none 0 0, .slice none 0 0, .int .i64 0]) 108)); (have hzv : v0.heap.size ≤ vs.heap.size := XB.size); (replace XB := XB.trans (NL.mono XB.size)); (replace OW := OW.below NL); (clear NL); (generalize vs.alloc (.cells (#[.int .i64 0, .int .i64 0, .slice none 0 0, .bool false, .int .i64 0, .int .i64 0, .int .i64 0, .int .i64 0, .int .i64 0, .int .i64 0, .int .i64 0, .int .i64 0, .int .i64 0, .int .i64 0, .int .i64 0, .slice none 0 0, .int .i64 0, .int .i64 0, .int .i64 0, .int .i64 0, .int .i64 0, .bool false, .int .i64 0, .int .i64 0, .int .i64 0, .slice none 0 0, .slice none 0 0, .int .i64 0]) 108) = vy at *); (generalize vs.heap.size = jz at *); (have hRW := OW.size); (have hst := Bo.store (P := Tryz.prog) (b := 0) RW.toList 0 0 Z rfl (by simp [hRW]) OW.one); (have OF := OW.btw (putA_btw RW.toList vy 0 jz) (.inl (Nat.le_refl _))); (have XF := putA_below (k := jz) RW.toList v0 vy 0 XB hzv); (have ZF := Z.putW (U := RW) hRW); (have hsz := putA_size jz RW.toList vy 0); (generalize putA vy jz 0 RW.toList = vf at *)
          refine hK.out _ _ ?_ (fun hHeld => ?_)
          · first | exact SK.out _ XB | exact SK.out _ (Below.drew (Below.refl _ _)) | exact SK.out _ XF
          clear hK K
          (try simp only [Act.put, zSb, zS0, zS1])
          refine wpAnyH_ready (rs := [10]) (by kernel_rfl) (by simp) ?_
          refine (AllReadyH.cons (by rw [List.getElem?_toArray]; rfl) (fun K hK => ?_) AllReadyH.nil)
          go_simp
          refine hK.out _ _ ?_ (fun hHeld => ?_)
          · first | exact SK.out _ XB | exact SK.out _ (Below.drew (Below.refl _ _)) | exact SK.out _ XF
          clear hK K
          (try simp only [Act.put, zSb, zS0, zS1])
          refine zTk 11 ?_
          (try simp only [Act.put, zSb, zS0, zS1])
          refine wpAnyH_done (by kernel_rfl) ?_ _
          go_wp2_with (rw [hst])
          go_meet
          case rel => exact ⟨jz, _, _, RW, rfl, rfl, ZF, OF, hl0, hzv, by first | exact Nat.le_of_eq hsz.symm | (rw [hsz]; exact Nat.le_of_lt Z.1), by rw [hsz]; exact Z.1, hlu, .inr (Nat.le_refl _), XF⟩
        · go_simp
          (have Z := Bo.new vx (#[.int .i64 0, .int .i64 0, .slice none 0 0, .bool false, .int .i64 0, .int .i64 0, .int .i64 0, .int .i64 0, .int .i64 0, .int .i64 0, .int .i64 0, .int .i64 0, .int .i64 0, .int .i64 0, .int .i64 0, .slice none 0 0, .int .i64 0, .int .i64 0, .int .i64 0, .int .i64 0, .int .i64 0, .bool false, .int .i64 0, .int .i64 0, .int .i64 0, .slice none 0 0, .slice none 0 0, .int .i64 0]) 108); (have NL := Below.nw vx (.cells (#[.int .i64 0, .int .i64 0, .slice none 0 0, .bool false, .int .i64 0, .int .i64 0, .int .i64 0, .int .i64 0, .int .i64 0, .int .i64 0, .int .i64 0, .int .i64 0, .int .i64 0, .int .i64 0, .int .i64 0, .slice none 0 0, .int .i64 0, .int .i64 0, .int .i64 0, .int .i64 0, .int .i64 0, .bool false, .int .i64 0, .int .i64 0, .int .i64 0, .slice none 0 0, .slice none 0 0, .int .i64 0]) 108)); (have hzv : v0.heap.size ≤ vx.heap.size := XB.size); (replace XB := XB.trans (NL.mono XB.size)); (clear NL); (generalize vx.alloc (.cells (#[.int .i64 0, .int .i64 0, .slice none 0 0, .bool false, .int .i64 0, .int .i64 0, .int .i64 0, .int .i64 0, .int .i64 0, .int .i64 0, .int .i64 0, .int .i64 0, .int .i64 0, .int .i64 0, .int .i64 0, .slice none 0 0, .int .i64 0, .int .i64 0, .int .i64 0, .int .i64 0, .int .i64 0, .bool false, .int .i64 0, .int .i64 0, .int .i64 0, .slice none 0 0, .slice none 0 0, .int .i64 0]) 108) = vy at *); (generalize vx.heap.size = jz at *)
          refine hK.out _ _ ?_ (fun hHeld => ?_)
          · first | exact SK.out _ XB | exact SK.out _ (Below.drew (Below.refl _ _)) | exact SK.out _ XF
          clear hK K
          (try simp only [Act.put, zSb, zS0, zS1])
          refine wpAnyH_ready (rs := [5]) (by kernel_rfl) (by simp) ?_
          refine (AllReadyH.cons (by rw [List.getElem?_toArray]; rfl) (fun K hK => ?_) AllReadyH.nil)
          go_simp
          refine (CW vy (B.trans (XB.mono B.size))).mono ?_; rintro ee vs ⟨RW, rfl, OW, hbl⟩; (have hl0 : v0.heap.size ≤ vy.heap.size := XB.size); (have hlu : vy.heap.size ≤ vs.heap.size := hbl.size); (replace XB := XB.trans (hbl.mono XB.size)); (have hjl : jz < vy.heap.size := Z.1); (replace Z := Z.below hbl); (clear hbl); (have hRW := OW.size); (have hst := Bo.store (P := Tryz.prog) (b := 0) RW.toList 0 0 Z rfl (by simp [hRW]) OW.one); (have OF := OW.btw (putA_btw RW.toList vs 0 jz) (.inr hjl)); (have XF := putA_below (k := jz) RW.toList v0 vs 0 XB hzv); (have ZF := Z.putW (U := RW) hRW); (have hsz := putA_size jz RW.toList vs 0); (generalize putA vs jz 0 RW.toList = vf at *)
          (try go_wp2_with fail)
          refine hK.out _ _ ?_ (fun hHeld => ?_)
          · first | exact SK.out _ XB | exact SK.out _ (Below.drew (Below.refl _ _)) | exact SK.out _ XF
          clear hK K
          (try simp only [Act.put, zSb, zS0, zS1])
          refine zTk 6 ?_
          (try simp only [Act.put, zSb, zS0, zS1])
          refine zTk 7 ?_
          (try simp only [Act.put, zSb, zS0, zS1])
          refine zTk 8 ?_
          (try simp only [Act.put, zSb, zS0, zS1])
          refine wpAnyH_ready (rs := [10]) (by kernel_rfl) (by simp) ?_
          refine (AllReadyH.cons (by rw [List.getElem?_toArray]; rfl) (fun K hK => ?_) AllReadyH.nil)
          go_simp
          refine hK.out _ _ ?_ (fun hHeld => ?_)
          · first | exact SK.out _ XB | exact SK.out _ (Below.drew (Below.refl _ _)) | exact SK.out _ XF
          clear hK K
          (try simp only [Act.put, zSb, zS0, zS1])
          refine zTk 11 ?_
          (try simp only [Act.put, zSb, zS0, zS1])
          refine wpAnyH_done (by kernel_rfl) ?_ _
          go_wp2_with (rw [hst])
          go_meet
          case rel => exact ⟨jz, _, _, RW, rfl, rfl, ZF, OF, hl0, hzv, by first | exact Nat.le_of_eq hsz.symm | (rw [hsz]; exact Nat.le_of_lt Z.1), by rw [hsz]; exact Z.1, hlu, .inl hjl, XF⟩
      · go_simp
        (have Z := Bo.new vx (#[.int .i64 0, .int .i64 0, .slice none 0 0, .bool false, .int .i64 0, .int .i64 0, .int .i64 0, .int .i64 0, .int .i64 0, .int .i64 0, .int .i64 0, .int .i64 0, .int .i64 0, .int .i64 0, .int .i64 0, .slice none 0 0, .int .i64 0, .int .i64 0, .int .i64 0, .int .i64 0, .int .i64 0, .bool false, .int .i64 0, .int .i64 0, .int .i64 0, .slice none 0 0, .slice none 0 0, .int .i64 0]) 108); (have NL := Below.nw vx (.cells (#[.int .i64 0, .int .i64 0, .slice none 0 0, .bool false, .int .i64 0, .int .i64 0, .int .i64 0, .int .i64 0, .int .i64 0, .int .i64 0, .int .i64 0, .int .i64 0, .int .i64 0, .int .i64 0, .int .i64 0, .slice none 0 0, .int .i64 0, .int .i64 0, .int .i64 0, .int .i64 0, .int .i64 0, .bool false, .int .i64 0, .int .i64 0, .int .i64 0, .slice none 0 0, .slice none 0 0, .int .i64 0]) 108)); (have hzv : v0.heap.size ≤ vx.heap.size := XB.size); (replace XB := XB.trans (NL.mono XB.size)); (clear NL); (generalize vx.alloc (.cells (#[.int .i64 0, .int .i64 0, .slice none 0 0, .bool false, .int .i64 0, .int .i64 0, .int .i64 0, .int .i64 0, .int .i64 0, .int .i64 0, .int .i64 0, .int .i64 0, .int .i64 0, .int .i64 0, .int .i64 0, .slice none 0 0, .int .i64 0, .int .i64 0, .int .i64 0, .int .i64 0, .int .i64 0, .bool false, .int .i64 0, .int .i64 0, .int .i64 0, .slice none 0 0, .slice none 0 0, .int .i64 0]) 108) = vy at *); (generalize vx.heap.size = jz at *)
        refine hK.out _ _ ?_ (fun hHeld => ?_)
        · first | exact SK.out _ XB | exact SK.out _ (Below.drew (Below.refl _ _)) | exact SK.out _ XF
        clear hK K
        (try simp only [Act.put, zSb, zS0, zS1])
        refine wpAnyH_ready (rs := [4]) (by kernel_rfl) (by simp) ?_
        refine (AllReadyH.cons (by rw [List.getElem?_toArray]; rfl) (fun K hK => ?_) AllReadyH.nil)
        go_simp
        refine (CIV vy).mono ?_; rintro ee vx ⟨rfl, hbl⟩; rw [hiv]; (replace XB := XB.trans (hbl.mono XB.size)); (replace Z := Z.below hbl); (clear hbl)
        (try go_wp2_with fail)
        refine hK.out _ _ ?_ (fun hHeld => ?_)
        · first | exact SK.out _ XB | exact SK.out _ (Below.drew (Below.refl _ _)) | exact SK.out _ XF
        clear hK K
        (try simp only [Act.put, zSb, zS0, zS1])
        refine wpAnyH_ready (rs := [5]) (by kernel_rfl) (by simp) ?_
        refine (AllReadyH.cons (by rw [List.getElem?_toArray]; rfl) (fun K hK => ?_) AllReadyH.nil)
        go_simp
        refine (CW vx (B.trans (XB.mono B.size))).mono ?_; rintro ee vs ⟨RW, rfl, OW, hbl⟩; (have hl0 : v0.heap.size ≤ vx.heap.size := XB.size); (have hlu : vx.heap.size ≤ vs.heap.size := hbl.size); (replace XB := XB.trans (hbl.mono XB.size)); (have hjl : jz < vx.heap.size := Z.1); (replace Z := Z.below hbl); (clear hbl); (have hRW := OW.size); (have hst := Bo.store (P := Tryz.prog) (b := 0) RW.toList 0 0 Z rfl (by simp [hRW]) OW.one); (have OF := OW.btw (putA_btw RW.toList vs 0 jz) (.inr hjl)); (have XF := putA_below (k := jz) RW.toList v0 vs 0 XB hzv); (have ZF := Z.putW (U := RW) hRW); (have hsz := putA_size jz RW.toList vs 0); (generalize putA vs jz 0 RW.toList = vf at *)
        (try go_wp2_with fail)
        refine hK.out _ _ ?_ (fun hHeld => ?_)
        · first | exact SK.out _ XB | exact SK.out _ (Below.drew (Below.refl _ _)) | exact SK.out _ XF
        clear hK K
        (try simp only [Act.put, zSb, zS0, zS1])
        refine zTk 6 ?_
        (try simp only [Act.put, zSb, zS0, zS1])
        refine zTk 7 ?_
        (try simp only [Act.put, zSb, zS0, zS1])
        refine zTk 8 ?_
        (try simp only [Act.put, zSb, zS0, zS1])
        refine wpAnyH_ready (rs := [10]) (by kernel_rfl) (by simp) ?_
        refine (AllReadyH.cons (by rw [List.getElem?_toArray]; rfl) (fun K hK => ?_) AllReadyH.nil)
        go_simp
        refine hK.out _ _ ?_ (fun hHeld => ?_)
        · first | exact SK.out _ XB | exact SK.out _ (Below.drew (Below.refl _ _)) | exact SK.out _ XF
        clear hK K
        (try simp only [Act.put, zSb, zS0, zS1])
        refine zTk 11 ?_
        (try simp only [Act.put, zSb, zS0, zS1])
        refine wpAnyH_done (by kernel_rfl) ?_ _
        go_wp2_with (rw [hst])
        go_meet
        case rel => exact ⟨jz, _, _, RW, rfl, rfl, ZF, OF, hl0, hzv, by first | exact Nat.le_of_eq hsz.symm | (rw [hsz]; exact Nat.le_of_lt Z.1), by rw [hsz]; exact Z.1, hlu, .inl hjl, XF⟩
    case rest =>
    have gKC : w.heap.size < v0.heap.size := C.1
    have gKN : w.heap.size + 1 < v0.heap.size := N.1
    have gKI : w.heap.size + 2 < v0.heap.size := I.1
    have gKR : w.heap.size + 3 < v0.heap.size := R.1
    obtain ⟨kKW, lk, uk, U, rfl, rfl, KW, OU, hlk1, hjK, huk, hjk2, hlk3, hlk4, hb⟩ := hcut
    clear SK CW CIV
    generalize wc = v1 at *
    have zz : v0.heap.size ≤ v1.heap.size := hb.size
    replace B := B.trans (hb.mono B.size)
    replace C := C.below hb
    replace N := N.below hb
    replace I := I.below hb
    replace R := R.below hb
    clear hb
    obtain ⟨aa, ac, pa, pc, ha, hc, rfl, hbn, P1, P2, P3⟩ := OU
    (try rw [hst0])
    have hL0 := I.load (P := Tryz.prog) (show (#[.int .i64 ia, .int .i64 ib] : Array Value).size = 2 from rfl)
    go_wp2_with (rw [hL0])
    refine (wkFix y x ct p d aa ac pa pc ha hc kKW ia ib v1 KW).mono ?_
    rintro e v2 ⟨rfl, N1, hb⟩
    clear hL0
    replace B := B.trans ((hb.belowL (Nat.le_of_lt KW.1)).mono (show w.heap.size ≤ kKW by omega))
    replace C := C.btw hb (by omega)
    replace N := N.btw hb (by omega)
    replace I := I.btw hb (by omega)
    replace R := R.btw hb (by omega)
    replace P1 := P1.btw hb (by omega)
    replace P2 := P2.btw hb (by omega)
    replace P3 := P3.btw hb (by omega)
    have zv2 := hb.2.2.2.1
    clear hb KW
    have KW := N1
    clear N1
    go_wp2_with fail
    refine (wkNode y (pfX y x ct ia ib) ct p d aa ac pa pc ha hc kKW v2 KW).mono ?_
    rintro e v3 ⟨rfl, hb⟩
    have zv3 : v2.heap.size ≤ v3.heap.size := hb.size
    replace B := B.trans (hb.mono B.size)
    replace C := C.below hb
    replace N := N.below hb
    replace I := I.below hb
    replace R := R.below hb
    replace KW := KW.below hb
    replace P1 := P1.below hb
    replace P2 := P2.below hb
    replace P3 := P3.below hb
    clear hb
    have hU : (ndV (pfX y x ct ia ib) aa ac pa pc ha hc).size = 16 := rfl
    have hUl : 0 + (ndV (pfX y x ct ia ib) aa ac pa pc ha hc).toList.length ≤ 16 := by simp [hU]
    have hst := Bo.store (P := Tryz.prog) (b := 0) ((ndV (pfX y x ct ia ib) aa ac pa pc ha hc).toList) 0 0 R rfl hUl (ndV_one _ _ _ _ _ _ _)
    have hb : Btw (w.heap.size + 3) (w.heap.size + 3 + 1) v3 _ := putA_btw ((ndV (pfX y x ct ia ib) aa ac pa pc ha hc).toList) v3 0 (w.heap.size + 3)
    have B1 := putA_below (k := w.heap.size + 3) ((ndV (pfX y x ct ia ib) aa ac pa pc ha hc).toList) w v3 0 B (by omega)
    have N1 := R.putW (U := (ndV (pfX y x ct ia ib) aa ac pa pc ha hc)) hU
    go_wp2_with (rw [hst])
    clear hst  R B
    replace C := C.btw hb (by omega)
    replace N := N.btw hb (by omega)
    replace I := I.btw hb (by omega)
    replace KW := KW.btw hb (by omega)
    replace P1 := P1.btw hb (by omega)
    replace P2 := P2.btw hb (by omega)
    replace P3 := P3.btw hb (by omega)
    have zv4 := hb.2.2.2.1
    clear hb
    generalize putA v3 (w.heap.size + 3) 0 ((ndV (pfX y x ct ia ib) aa ac pa pc ha hc).toList) = v4 at *
    have B := B1
    have R := N1
    clear B1 N1
    have hL0 := R.load (P := Tryz.prog) hU
    exact bodyPost_ret (v := .tuple #[.agg (ndV (pfX y x ct ia ib) aa ac pa pc ha hc), .int .i64 (pfC y x ct ia ib)]) (by simp [results, Tryz.results21, go_sem]; rw [hL0]; rfl) rfl ⟨_, rfl, pf_own hbn (P1.low (by omega)) (P2.low (by omega)) (P3.low (by omega)), B⟩
end Go.Proofs.YtfhappkeipcemaaGreat
namespace Go.Proofs.YtfhappkeipcemaaGreat
open Go.RowKit
set_option linter.unusedVariables false
theorem walkNodeFix (AC : Array Value) (y : CfX) (AN : Array Value) (x : NdX) (ct : Int) (ia ib : Int) (w : World) (HC : CfW w AC y) (HN : NdW w AN x) (hwf : wfX x) (hc : (Lit.int .i64 ct).wf = true) (ha : (Lit.int .i64 ia).wf = true) (hb : (Lit.int .i64 ib).wf = true) :
    Calls Tryz.prog 4 #[.agg AC, .agg AN, .int .i64 ct, .agg #[.int .i64 ia, .int .i64 ib]] w fun e w' => e = .returned (.bool true) ∧ Below w.heap.size w w' :=
  lawNodeFix (fixX) (fun AC AN y x ct ia ib w h h' _ => specFixX AC AN y x ct ia ib w h h') (fun AC AN y x ct ia ib w h h' hw => implFixX AC AN y x ct ia ib w h h' hw) AC AN y x ct ia ib w HC HN hwf
end Go.Proofs.YtfhappkeipcemaaGreat
