/- The walk of the exact law of NodeFuse (specification and program told  -/
import Derived.Test.YtikbjljkakabdaaGreatMB0
import Derived.Test.YtikbjljkakabdaaGreatMB24
namespace Go.Proofs.YtikbjljkakabdaaGreat
open Go.RowKit
set_option linter.unusedVariables false
set_option maxRecDepth 100000
set_option maxHeartbeats 16000000
def dU (f : Nat) (F : CfX → NdX → Int → NdX × Int) : Prop := ∀ (AC AN : Array Value) (y : CfX) (x : NdX) (ct : Int) (w : World), CfS w AC y → NdS w AN x → wfX x →
 Calls Tryz.prog f #[.agg AC, .agg AN, .int .i64 ct] w fun e w' => ∃ R, e = .returned (.tuple #[.agg R, .int .i64 ((F y x ct).2)]) ∧ NdO w' w.heap.size w'.heap.size R (F y x ct).1 ∧ Below w.heap.size w w'
attribute [-go_sem] loadCells storeCells in
theorem kS (F : CfX → NdX → Int → NdX × Int) (TS : dU 19 F) (TI : dU 20 F) (AC AN : Array Value) (y : CfX) (x : NdX) (ct : Int) (w : World) (HC : CfW w AC y) (HN : NdW w AN x) (hwf : wfX x) :
 Calls Tryz.prog 4 #[.agg AC, .agg AN, .int .i64 ct] w fun e w' => e = .returned (.bool true) ∧ Below w.heap.size w w' := by
 have A0 := Below.nw w (.cells AC 28)
 have A1 := Below.nw (w.alloc (.cells AC 28)) (.cells AN 43)
 have C := (Bo.new w AC 28).below A1
 have N := Bo.new (w.alloc (.cells AC 28)) AN 43
 have B := A0.trans (A1.mono A0.size)
 simp only [World.size_alloc] at N
 clear A0 A1
 have hC := HC.size
 have hN := HN.size
 have HSC : Hid (CfW w AC y) := HC
 have HSN : Hid (NdW w AN x) := HN
 clear HC HN
 have CS := fun (v : World) (RC RN : Array Value) (h : CfS v RC y) (h' : NdS v RN x) => TS RC RN y x ct v h h' hwf
 have CP := fun (v : World) (RC RN : Array Value) (h : CfS v RC y) (h' : NdS v RN x) => TI RC RN y x ct v h h' hwf
 clear TS TI
 generalize F y x ct = Y at *
 obtain ⟨x1, cd⟩ := Y
 simp only at CS CP
 have hqcd : (cd != cd) = false := by simp
 go_enter Tryz.func4, Tryz.ntmps4
 go_upto_region 2 with fail
 generalize (w.alloc (.cells AC 28)).alloc (.cells AN 43) = v0 at *
 have hL := C.load (P := Tryz.prog) hC
 go_wp2_with (rw [hL])
 refine (sJ AC y 1048576 v0 (HSC.out.below B) (by decide) (by decide)).mono ?_
 rintro e v1 ⟨Z, rfl, hZ, hb⟩
 clear hL
 replace B := B.trans (hb.mono B.size)
 replace C := C.below hb
 replace N := N.below hb
 clear hb
 by_cases hz : Z < 0
 ·clear CS CP hZ
  go_wp2_with fail
  go_ret
  exact ⟨rfl, B⟩
 obtain ⟨hcs, hZ1⟩ := hZ (by omega)
 clear hZ
 have hL := N.load (P := Tryz.prog) hN
 go_wp2_with (rw [hL])
 refine (ru AN x Z v1 (HSN.out.below B) (by omega) hZ1).mono ?_
 rintro e v2 ⟨Z2, rfl, hZ, hb⟩
 clear hL
 replace B := B.trans (hb.mono B.size)
 replace C := C.below hb
 replace N := N.below hb
 clear hb
 by_cases hz2 : Z2 < 0
 ·clear CS CP hZ
  go_wp2_with fail
  go_ret
  exact ⟨rfl, B⟩
 obtain ⟨hsh, -⟩ := hZ (by omega)
 clear hZ hZ1
 have CTC := fun (v : World) (h : Below w.heap.size w v) => sL AC y v (HSC.out.below h) hcs
 have CTN := fun (v : World) (h : Below w.heap.size w v) => rx AN x v (HSN.out.below h) hsh
 have hw2 : w.heap.size + 1 < v2.heap.size := N.1
 go_upto_region 8 with fail
 have SK : Hid (∀ w', Below v2.heap.size v2 w' → (fun w' => (loadCells ⟨w.heap.size, 0, none⟩ 11).run Tryz.prog w' = .ok AC w' ∧ (loadCells ⟨w.heap.size + 1, 0, none⟩ 16).run Tryz.prog w' = .ok AN w') w') := fun w' hw => ⟨(C.below hw).load hC, (N.below hw).load hN⟩
 go_cut [8, 9] (fun s8 s9 wx => ∃ (j l u : Nat) (R : Array Value), s8 = .pointer (some ⟨j, 0, none⟩) ∧ s9 = .int .i64 cd ∧ Bo wx j R ∧ NdO wx l u R x1 ∧ v2.heap.size ≤ l ∧ v2.heap.size ≤ j ∧ u ≤ wx.heap.size ∧ j < wx.heap.size ∧ l ≤ u ∧ (j < l ∨ u ≤ j) ∧ Below v2.heap.size v2 wx)
 case first => as_aux_lemma =>
  refine wp_region_held_drew (S := (fun w' => (loadCells ⟨w.heap.size, 0, none⟩ 11).run Tryz.prog w' = .ok AC w' ∧ (loadCells ⟨w.heap.size + 1, 0, none⟩ 16).run Tryz.prog w' = .ok AN w')) (by kernel_rfl) ?_ (fun hHeld => ?_)
  ·first | exact SK.out _ XB | exact SK.out _ zD | exact SK.out _ XF
  have XB : Below v2.heap.size v2 v2.drew := Below.drew (Below.refl _ _)
  generalize v2.drew = vx at *
  refine zTk 0 ?_
  refine zTk 2 ?_
  refine zTk 4 ?_
  refine wpAnyH_ready (rs := [1, 9]) (by kernel_rfl) (by simp) ?_
  refine (zCc (fun K hK => ?_) (zR fun K hK => ?_))
  ·go_simp
   refine (CTC vx (B.trans (XB.mono B.size))).mono ?_; rintro ee vx ⟨RC, rfl, OC, hbl⟩; (replace XB := XB.trans (hbl.mono XB.size)); (clear hbl)
   (try go_wp2_with fail)
   refine hK.out _ _ ?_ (fun hHeld => ?_)
   ·first | exact SK.out _ XB | exact SK.out _ zD | exact SK.out _ XF
   clear hK K
   (try simp only [zA])
   refine wpAnyH_ready (rs := [3, 9]) (by kernel_rfl) (by simp) ?_
   refine (zCc (fun K hK => ?_) (zR fun K hK => ?_))
   ·go_simp
    refine (CTN vx (B.trans (XB.mono B.size))).mono ?_; rintro ee vx ⟨RN, rfl, ON, hbl⟩; (replace XB := XB.trans (hbl.mono XB.size)); (replace OC := OC.below hbl); (clear hbl)
    (try go_wp2_with fail)
    refine hK.out _ _ ?_ (fun hHeld => ?_)
    ·first | exact SK.out _ XB | exact SK.out _ zD | exact SK.out _ XF
    clear hK K
    (try simp only [zA])
    refine wpAnyH_ready (rs := [5, 9]) (by kernel_rfl) (by simp) ?_
    refine (zCc (fun K hK => ?_) (zR fun K hK => ?_))
    ·go_simp
     refine (CS vx RC RN OC.src ON.src).mono ?_; rintro ee vs ⟨RW, rfl, OW, hbl⟩; (have hl0 : v2.heap.size ≤ vx.heap.size := XB.size); (have hlu : vx.heap.size ≤ vs.heap.size := hbl.size); (replace XB := XB.trans (hbl.mono XB.size)); (clear hbl)
     (try go_wp2_with fail)
     refine hK.out _ _ ?_ (fun hHeld => ?_)
     ·first | exact SK.out _ XB | exact SK.out _ zD | exact SK.out _ XF
     clear hK K
     (try simp only [zA])
     refine zT2 6 ?_
     refine zTk 8 ?_
     refine zQ 9 fun K hK => ?_
     go_simp
     (have Z := Bo.new vs (#[.int .i64 0, .int .i64 0, .int .i64 0, .int .i64 0, .bool false, .int .i64 0, .int .i64 0, .int .i64 0, .int .i64 0, .int .i64 0, .slice none 0 0, .slice none 0 0, .bool false, .int .i64 0, .slice none 0 0, .int .i64 0]) 57); (have NL := Below.nw vs (.cells (#[.int .i64 0, .int .i64 0, .int .i64 0, .int .i64 0, .bool false, .int .i64 0, .int .i64 0, .int .i64 0, .int .i64 0, .int .i64 0, .slice none 0 0, .slice none 0 0, .bool false, .int .i64 0, .slice none 0 0, .int .i64 0]) 57)); (have hzv : v2.heap.size ≤ vs.heap.size := XB.size); (replace XB := XB.trans (NL.mono XB.size)); (replace OW := OW.below NL); (clear NL); (generalize vs.alloc (.cells (#[.int .i64 0, .int .i64 0, .int .i64 0, .int .i64 0, .bool false, .int .i64 0, .int .i64 0, .int .i64 0, .int .i64 0, .int .i64 0, .slice none 0 0, .slice none 0 0, .bool false, .int .i64 0, .slice none 0 0, .int .i64 0]) 57) = vy at *); (generalize vs.heap.size = jz at *); (have hRW := OW.size); (have hst := Bo.store (P := Tryz.prog) (b := 0) RW.toList 0 0 Z rfl (by simp [hRW]) OW.one); (have XF := an (k := jz) RW.toList v2 vy 0 XB hzv); (have ZF := Z.putW (U := RW) hRW); (have OF := OW.btw (ay RW.toList vy 0 jz) (.inl (Nat.le_refl _))); (have hsz := bE jz RW.toList vy 0)
     refine hK.out _ _ ?_ (fun hHeld => ?_)
     ·first | exact SK.out _ XB | exact SK.out _ zD | exact SK.out _ XF
     clear hK K
     (try simp only [zA])
     refine zQ 10 fun K hK => ?_
     go_simp
     refine hK.out _ _ ?_ (fun hHeld => ?_)
     ·first | exact SK.out _ XB | exact SK.out _ zD | exact SK.out _ XF
     clear hK K
     (try simp only [zA])
     refine zTk 11 ?_
     refine wpAnyH_done (by kernel_rfl) ?_ _
     go_wp2_with (rw [hst])
     go_meet
     case rel => exact ⟨jz, _, _, RW, rfl, rfl, ZF, OF, hl0, hzv, by first | exact Nat.le_of_eq hsz.symm | (rw [hsz]; exact Nat.le_of_lt Z.1), by rw [hsz]; exact Z.1, hlu, .inr (Nat.le_refl _), XF⟩
    ·go_simp
     (have Z := Bo.new vx (#[.int .i64 0, .int .i64 0, .int .i64 0, .int .i64 0, .bool false, .int .i64 0, .int .i64 0, .int .i64 0, .int .i64 0, .int .i64 0, .slice none 0 0, .slice none 0 0, .bool false, .int .i64 0, .slice none 0 0, .int .i64 0]) 57); (have NL := Below.nw vx (.cells (#[.int .i64 0, .int .i64 0, .int .i64 0, .int .i64 0, .bool false, .int .i64 0, .int .i64 0, .int .i64 0, .int .i64 0, .int .i64 0, .slice none 0 0, .slice none 0 0, .bool false, .int .i64 0, .slice none 0 0, .int .i64 0]) 57)); (have hzv : v2.heap.size ≤ vx.heap.size := XB.size); (replace XB := XB.trans (NL.mono XB.size)); (replace OC := OC.below NL); (replace ON := ON.below NL); (clear NL); (generalize vx.alloc (.cells (#[.int .i64 0, .int .i64 0, .int .i64 0, .int .i64 0, .bool false, .int .i64 0, .int .i64 0, .int .i64 0, .int .i64 0, .int .i64 0, .slice none 0 0, .slice none 0 0, .bool false, .int .i64 0, .slice none 0 0, .int .i64 0]) 57) = vy at *); (generalize vx.heap.size = jz at *)
     refine hK.out _ _ ?_ (fun hHeld => ?_)
     ·first | exact SK.out _ XB | exact SK.out _ zD | exact SK.out _ XF
     clear hK K
     (try simp only [zA])
     refine zQ 5 fun K hK => ?_
     go_simp
     refine (CS vy RC RN OC.src ON.src).mono ?_; rintro ee vs ⟨RW, rfl, OW, hbl⟩; (have hl0 : v2.heap.size ≤ vy.heap.size := XB.size); (have hlu : vy.heap.size ≤ vs.heap.size := hbl.size); (replace XB := XB.trans (hbl.mono XB.size)); (have hjl : jz < vy.heap.size := Z.1); (replace Z := Z.below hbl); (clear hbl); (have hRW := OW.size); (have hst := Bo.store (P := Tryz.prog) (b := 0) RW.toList 0 0 Z rfl (by simp [hRW]) OW.one); (have XF := an (k := jz) RW.toList v2 vs 0 XB hzv); (have ZF := Z.putW (U := RW) hRW); (have OF := OW.btw (ay RW.toList vs 0 jz) (.inr hjl)); (have hsz := bE jz RW.toList vs 0)
     (try go_wp2_with fail)
     refine hK.out _ _ ?_ (fun hHeld => ?_)
     ·first | exact SK.out _ XB | exact SK.out _ zD | exact SK.out _ XF
     clear hK K
     (try simp only [zA])
     refine zT2 6 ?_
     refine zTk 8 ?_
     refine zQ 10 fun K hK => ?_
     go_simp
     refine hK.out _ _ ?_ (fun hHeld => ?_)
     ·first | exact SK.out _ XB | exact SK.out _ zD | exact SK.out _ XF
     clear hK K
     (try simp only [zA])
     refine zTk 11 ?_
     refine wpAnyH_done (by kernel_rfl) ?_ _
     go_wp2_with (rw [hst])
     go_meet
     case rel => exact ⟨jz, _, _, RW, rfl, rfl, ZF, OF, hl0, hzv, by first | exact Nat.le_of_eq hsz.symm | (rw [hsz]; exact Nat.le_of_lt Z.1), by rw [hsz]; exact Z.1, hlu, .inl hjl, XF⟩
   ·go_simp
    (have Z := Bo.new vx (#[.int .i64 0, .int .i64 0, .int .i64 0, .int .i64 0, .bool false, .int .i64 0, .int .i64 0, .int .i64 0, .int .i64 0, .int .i64 0, .slice none 0 0, .slice none 0 0, .bool false, .int .i64 0, .slice none 0 0, .int .i64 0]) 57); (have NL := Below.nw vx (.cells (#[.int .i64 0, .int .i64 0, .int .i64 0, .int .i64 0, .bool false, .int .i64 0, .int .i64 0, .int .i64 0, .int .i64 0, .int .i64 0, .slice none 0 0, .slice none 0 0, .bool false, .int .i64 0, .slice none 0 0, .int .i64 0]) 57)); (have hzv : v2.heap.size ≤ vx.heap.size := XB.size); (replace XB := XB.trans (NL.mono XB.size)); (replace OC := OC.below NL); (clear NL); (generalize vx.alloc (.cells (#[.int .i64 0, .int .i64 0, .int .i64 0, .int .i64 0, .bool false, .int .i64 0, .int .i64 0, .int .i64 0, .int .i64 0, .int .i64 0, .slice none 0 0, .slice none 0 0, .bool false, .int .i64 0, .slice none 0 0, .int .i64 0]) 57) = vy at *); (generalize vx.heap.size = jz at *)
    refine hK.out _ _ ?_ (fun hHeld => ?_)
    ·first | exact SK.out _ XB | exact SK.out _ zD | exact SK.out _ XF
    clear hK K
    (try simp only [zA])
    refine zQ 3 fun K hK => ?_
    go_simp
    refine (CTN vy (B.trans (XB.mono B.size))).mono ?_; rintro ee vx ⟨RN, rfl, ON, hbl⟩; (replace XB := XB.trans (hbl.mono XB.size)); (replace OC := OC.below hbl); (replace Z := Z.below hbl); (clear hbl)
    (try go_wp2_with fail)
    refine hK.out _ _ ?_ (fun hHeld => ?_)
    ·first | exact SK.out _ XB | exact SK.out _ zD | exact SK.out _ XF
    clear hK K
    (try simp only [zA])
    refine zQ 5 fun K hK => ?_
    go_simp
    refine (CS vx RC RN OC.src ON.src).mono ?_; rintro ee vs ⟨RW, rfl, OW, hbl⟩; (have hl0 : v2.heap.size ≤ vx.heap.size := XB.size); (have hlu : vx.heap.size ≤ vs.heap.size := hbl.size); (replace XB := XB.trans (hbl.mono XB.size)); (have hjl : jz < vx.heap.size := Z.1); (replace Z := Z.below hbl); (clear hbl); (have hRW := OW.size); (have hst := Bo.store (P := Tryz.prog) (b := 0) RW.toList 0 0 Z rfl (by simp [hRW]) OW.one); (have XF := an (k := jz) RW.toList v2 vs 0 XB hzv); (have ZF := Z.putW (U := RW) hRW); (have OF := OW.btw (ay RW.toList vs 0 jz) (.inr hjl)); (have hsz := bE jz RW.toList vs 0)
    (try go_wp2_with fail)
    refine hK.out _ _ ?_ (fun hHeld => ?_)
    ·first | exact SK.out _ XB | exact SK.out _ zD | exact SK.out _ XF
    clear hK K
    (try simp only [zA])
    refine zT2 6 ?_
    refine zTk 8 ?_
    refine zQ 10 fun K hK => ?_
    go_simp
    refine hK.out _ _ ?_ (fun hHeld => ?_)
    ·first | exact SK.out _ XB | exact SK.out _ zD | exact SK.out _ XF
    clear hK K
    (try simp only [zA])
    refine zTk 11 ?_
    refine wpAnyH_done (by kernel_rfl) ?_ _
    go_wp2_with (rw [hst])
    go_meet
    case rel => exact ⟨jz, _, _, RW, rfl, rfl, ZF, OF, hl0, hzv, by first | exact Nat.le_of_eq hsz.symm | (rw [hsz]; exact Nat.le_of_lt Z.1), by rw [hsz]; exact Z.1, hlu, .inl hjl, XF⟩
  ·go_simp
   (have Z := Bo.new vx (#[.int .i64 0, .int .i64 0, .int .i64 0, .int .i64 0, .bool false, .int .i64 0, .int .i64 0, .int .i64 0, .int .i64 0, .int .i64 0, .slice none 0 0, .slice none 0 0, .bool false, .int .i64 0, .slice none 0 0, .int .i64 0]) 57); (have NL := Below.nw vx (.cells (#[.int .i64 0, .int .i64 0, .int .i64 0, .int .i64 0, .bool false, .int .i64 0, .int .i64 0, .int .i64 0, .int .i64 0, .int .i64 0, .slice none 0 0, .slice none 0 0, .bool false, .int .i64 0, .slice none 0 0, .int .i64 0]) 57)); (have hzv : v2.heap.size ≤ vx.heap.size := XB.size); (replace XB := XB.trans (NL.mono XB.size)); (clear NL); (generalize vx.alloc (.cells (#[.int .i64 0, .int .i64 0, .int .i64 0, .int .i64 0, .bool false, .int .i64 0, .int .i64 0, .int .i64 0, .int .i64 0, .int .i64 0, .slice none 0 0, .slice none 0 0, .bool false, .int .i64 0, .slice none 0 0, .int .i64 0]) 57) = vy at *); (generalize vx.heap.size = jz at *)
   refine hK.out _ _ ?_ (fun hHeld => ?_)
   ·first | exact SK.out _ XB | exact SK.out _ zD | exact SK.out _ XF
   clear hK K
   (try simp only [zA])
   refine zQ 1 fun K hK => ?_
   go_simp
   refine (CTC vy (B.trans (XB.mono B.size))).mono ?_; rintro ee vx ⟨RC, rfl, OC, hbl⟩; (replace XB := XB.trans (hbl.mono XB.size)); (replace Z := Z.below hbl); (clear hbl)
   (try go_wp2_with fail)
   refine hK.out _ _ ?_ (fun hHeld => ?_)
   ·first | exact SK.out _ XB | exact SK.out _ zD | exact SK.out _ XF
   clear hK K
   (try simp only [zA])
   refine zQ 3 fun K hK => ?_
   go_simp
   refine (CTN vx (B.trans (XB.mono B.size))).mono ?_; rintro ee vx ⟨RN, rfl, ON, hbl⟩; (replace XB := XB.trans (hbl.mono XB.size)); (replace OC := OC.below hbl); (replace Z := Z.below hbl); (clear hbl)
   (try go_wp2_with fail)
   refine hK.out _ _ ?_ (fun hHeld => ?_)
   ·first | exact SK.out _ XB | exact SK.out _ zD | exact SK.out _ XF
   clear hK K
   (try simp only [zA])
   refine zQ 5 fun K hK => ?_
   go_simp
   refine (CS vx RC RN OC.src ON.src).mono ?_; rintro ee vs ⟨RW, rfl, OW, hbl⟩; (have hl0 : v2.heap.size ≤ vx.heap.size := XB.size); (have hlu : vx.heap.size ≤ vs.heap.size := hbl.size); (replace XB := XB.trans (hbl.mono XB.size)); (have hjl : jz < vx.heap.size := Z.1); (replace Z := Z.below hbl); (clear hbl); (have hRW := OW.size); (have hst := Bo.store (P := Tryz.prog) (b := 0) RW.toList 0 0 Z rfl (by simp [hRW]) OW.one); (have XF := an (k := jz) RW.toList v2 vs 0 XB hzv); (have ZF := Z.putW (U := RW) hRW); (have OF := OW.btw (ay RW.toList vs 0 jz) (.inr hjl)); (have hsz := bE jz RW.toList vs 0)
   (try go_wp2_with fail)
   refine hK.out _ _ ?_ (fun hHeld => ?_)
   ·first | exact SK.out _ XB | exact SK.out _ zD | exact SK.out _ XF
   clear hK K
   (try simp only [zA])
   refine zT2 6 ?_
   refine zTk 8 ?_
   refine zQ 10 fun K hK => ?_
   go_simp
   refine hK.out _ _ ?_ (fun hHeld => ?_)
   ·first | exact SK.out _ XB | exact SK.out _ zD | exact SK.out _ XF
   clear hK K
   (try simp only [zA])
   refine zTk 11 ?_
   refine wpAnyH_done (by kernel_rfl) ?_ _
   go_wp2_with (rw [hst])
   go_meet
   case rel => exact ⟨jz, _, _, RW, rfl, rfl, ZF, OF, hl0, hzv, by first | exact Nat.le_of_eq hsz.symm | (rw [hsz]; exact Nat.le_of_lt Z.1), by rw [hsz]; exact Z.1, hlu, .inl hjl, XF⟩
 case rest =>
  obtain ⟨kW, lw, uw, RW, rfl, rfl, W, OW, hlw1, hkW1, huw1, hkW2, hlw3, hlw4, hb⟩ := hcut
  clear SK
  generalize wc = v3 at *
  replace B := B.trans (hb.mono B.size)
  replace C := C.below hb
  replace N := N.below hb
  clear hb
  have hRW := OW.size
  have hL := C.load (P := Tryz.prog) hC
  have z3 : v3.heap.size ≤ v3.heap.size := Nat.le_refl _
  go_wp2_with (rw [hL])
  refine (CTC _ B).mono ?_
  rintro e v4 ⟨RX, rfl, OX, hb⟩
  clear hL z3
  have hxx : v3.heap.size ≤ v4.heap.size := hb.size
  replace B := B.trans (hb.mono B.size)
  replace C := C.below hb
  replace N := N.below hb
  replace W := W.below hb
  replace OW := OW.below hb
  clear hb
  generalize v3.heap.size = lx at *
  have hRX := OX.size
  have hst := bg (P := Tryz.prog) v4 (#[.int .i64 0, .int .i64 0, .int .i64 0, .int .i64 0, .int .i64 0, .int .i64 0, .int .i64 0, .int .i64 0, .int .i64 0, .int .i64 0, .slice none 0 0]) RX 66 (by rw [hRX]; rfl) OX.one
  have hb := Below.nw v4 (.cells RX 66)
  have X := Bo.new v4 RX 66
  go_upto_region 10 with (rw [hst])
  clear hst
  replace B := B.trans (hb.mono B.size)
  replace C := C.below hb
  replace N := N.below hb
  replace W := W.below hb
  replace OW := OW.below hb
  replace OX := OX.below hb
  clear hb
  generalize v4.alloc (.cells RX 66) = v5 at *
  generalize v4.heap.size = kX at *
  have hxm : kX < v5.heap.size := X.1
  have hL := N.load (P := Tryz.prog) hN
  go_wp2_with (rw [hL])
  refine (CTN _ B).mono ?_
  rintro e v6 ⟨RM, rfl, OM, hb⟩
  clear hL
  have hmm : v5.heap.size ≤ v6.heap.size := hb.size
  replace B := B.trans (hb.mono B.size)
  replace C := C.below hb
  replace N := N.below hb
  replace W := W.below hb
  replace OW := OW.below hb
  replace OX := OX.below hb
  replace X := X.below hb
  clear hb
  generalize v5.heap.size = lm at *
  have hRM := OM.size
  have hst := bg (P := Tryz.prog) v6 (#[.int .i64 0, .int .i64 0, .int .i64 0, .int .i64 0, .bool false, .int .i64 0, .int .i64 0, .int .i64 0, .int .i64 0, .int .i64 0, .slice none 0 0, .slice none 0 0, .bool false, .int .i64 0, .slice none 0 0, .int .i64 0]) RM 57 (by rw [hRM]; rfl) OM.one
  have hb := Below.nw v6 (.cells RM 57)
  have M := Bo.new v6 RM 57
  go_upto_region 11 with (rw [hst])
  clear hst
  replace B := B.trans (hb.mono B.size)
  replace C := C.below hb
  replace N := N.below hb
  replace W := W.below hb
  replace OW := OW.below hb
  replace OX := OX.below hb
  replace X := X.below hb
  replace OM := OM.below hb
  clear hb
  generalize v6.alloc (.cells RM 57) = v7 at *
  generalize v6.heap.size = kM at *
  have hmg : kM < v7.heap.size := M.1
  have hL := X.load (P := Tryz.prog) hRX
  have hL2 := M.load (P := Tryz.prog) hRM
  go_wp2_with (first | rw [hL] | rw [hL2])
  refine (CP _ RX RM OX.src OM.src).mono ?_
  rintro e v8 ⟨RG, rfl, OG, hb⟩
  clear hL hL2
  have hgg : v7.heap.size ≤ v8.heap.size := hb.size
  replace B := B.trans (hb.mono B.size)
  replace C := C.below hb
  replace N := N.below hb
  replace W := W.below hb
  replace OW := OW.below hb
  replace OX := OX.below hb
  replace X := X.below hb
  replace OM := OM.below hb
  replace M := M.below hb
  clear hb
  generalize v7.heap.size = lg at *
  have hRG := OG.size
  have hst := bg (P := Tryz.prog) v8 (#[.int .i64 0, .int .i64 0, .int .i64 0, .int .i64 0, .bool false, .int .i64 0, .int .i64 0, .int .i64 0, .int .i64 0, .int .i64 0, .slice none 0 0, .slice none 0 0, .bool false, .int .i64 0, .slice none 0 0, .int .i64 0]) RG 57 (by rw [hRG]; rfl) OG.one
  have hb := Below.nw v8 (.cells RG 57)
  have G := Bo.new v8 RG 57
  go_upto_region 12 with (rw [hst])
  clear hst
  replace B := B.trans (hb.mono B.size)
  replace C := C.below hb
  replace N := N.below hb
  replace W := W.below hb
  replace OW := OW.below hb
  replace OX := OX.below hb
  replace X := X.below hb
  replace OM := OM.below hb
  replace M := M.below hb
  replace OG := OG.below hb
  clear hb
  generalize v8.alloc (.cells RG 57) = v9 at *
  generalize v8.heap.size = kG at *
  have hug : kG ≤ kG := Nat.le_refl _
  have hL := G.load (P := Tryz.prog) hRG
  have hL2 := W.load (P := Tryz.prog) hRW
  go_wp2_with (first | rw [hL] | rw [hL2])
  refine (fo RG RW x1 v9 OG.src OW.src).mono ?_
  rintro e va ⟨rfl, hb⟩
  clear hL hL2
  replace B := B.trans (hb.mono B.size)
  replace C := C.below hb
  replace N := N.below hb
  replace W := W.below hb
  replace OW := OW.below hb
  replace OX := OX.below hb
  replace X := X.below hb
  replace OM := OM.below hb
  replace M := M.below hb
  replace OG := OG.below hb
  replace G := G.below hb
  clear hb
  go_upto_region 14 with fail
  have SK : Hid (∀ w', Below va.heap.size va w' → (fun w' => (loadCells ⟨kX, 0, none⟩ 11).run Tryz.prog w' = .ok RX w' ∧ (loadCells ⟨w.heap.size, 0, none⟩ 11).run Tryz.prog w' = .ok AC w') w') := fun w' hw => ⟨(X.below hw).load hRX, (C.below hw).load hC⟩
  refine wp_region_held_drew (S := (fun w' => (loadCells ⟨kX, 0, none⟩ 11).run Tryz.prog w' = .ok RX w' ∧ (loadCells ⟨w.heap.size, 0, none⟩ 11).run Tryz.prog w' = .ok AC w')) (by kernel_rfl) ?_ (fun hHeld => ?_)
  ·first | exact SK.out _ XB | exact SK.out _ zD
  have XB : Below va.heap.size va va.drew := Below.drew (Below.refl _ _)
  generalize va.drew = vx at *
  refine zT2 0 ?_
  refine zQ 2 fun K hK => ?_
  go_simp
  refine (CTC vx (B.trans (XB.mono B.size))).mono ?_; rintro ee vy ⟨RY, rfl, OY, hbl⟩; (replace XB := XB.trans (hbl.mono XB.size)); (clear hbl); (generalize hvv : vy = vx at *); (clear hvv)
  (try go_wp2_with fail)
  refine hK.out _ _ ?_ (fun hHeld => ?_)
  ·first | exact SK.out _ XB | exact SK.out _ zD
  clear hK K
  (try simp only [zA])
  refine zQ 3 fun K hK => ?_
  go_simp
  refine (r9 RX RY _ vx (OX.below XB).src OY.src).mono ?_; rintro ee vx ⟨rfl, hbl⟩; (replace XB := XB.trans (hbl.mono XB.size)); (clear hbl OY)
  (try go_wp2_with fail)
  refine hK.out _ _ ?_ (fun hHeld => ?_)
  ·first | exact SK.out _ XB | exact SK.out _ zD
  clear hK K
  (try simp only [zA])
  refine zTk 4 ?_
  refine wpAnyH_done (by kernel_rfl) ?_ _
  have hb := XB
  clear XB SK
  replace B := B.trans (hb.mono B.size)
  replace C := C.below hb
  replace N := N.below hb
  replace W := W.below hb
  replace OW := OW.below hb
  replace OX := OX.below hb
  replace X := X.below hb
  replace OM := OM.below hb
  replace M := M.below hb
  replace OG := OG.below hb
  replace G := G.below hb
  clear hb
  generalize vx = vb at *
  go_upto_region 16 with fail
  have SK : Hid (∀ w', Below vb.heap.size vb w' → (fun w' => (loadCells ⟨kM, 0, none⟩ 16).run Tryz.prog w' = .ok RM w' ∧ (loadCells ⟨w.heap.size + 1, 0, none⟩ 16).run Tryz.prog w' = .ok AN w') w') := fun w' hw => ⟨(M.below hw).load hRM, (N.below hw).load hN⟩
  refine wp_region_held_drew (S := (fun w' => (loadCells ⟨kM, 0, none⟩ 16).run Tryz.prog w' = .ok RM w' ∧ (loadCells ⟨w.heap.size + 1, 0, none⟩ 16).run Tryz.prog w' = .ok AN w')) (by kernel_rfl) ?_ (fun hHeld => ?_)
  ·first | exact SK.out _ XB | exact SK.out _ zD
  have XB : Below vb.heap.size vb vb.drew := Below.drew (Below.refl _ _)
  generalize vb.drew = vx at *
  refine zT2 0 ?_
  refine zQ 2 fun K hK => ?_
  go_simp
  refine (CTN vx (B.trans (XB.mono B.size))).mono ?_; rintro ee vy ⟨RY, rfl, OY, hbl⟩; (replace XB := XB.trans (hbl.mono XB.size)); (clear hbl); (generalize hvv : vy = vx at *); (clear hvv)
  (try go_wp2_with fail)
  refine hK.out _ _ ?_ (fun hHeld => ?_)
  ·first | exact SK.out _ XB | exact SK.out _ zD
  clear hK K
  (try simp only [zA])
  refine zQ 3 fun K hK => ?_
  go_simp
  refine (fo RM RY _ vx (OM.below XB).src OY.src).mono ?_; rintro ee vx ⟨rfl, hbl⟩; (replace XB := XB.trans (hbl.mono XB.size)); (clear hbl OY)
  (try go_wp2_with fail)
  refine hK.out _ _ ?_ (fun hHeld => ?_)
  ·first | exact SK.out _ XB | exact SK.out _ zD
  clear hK K
  (try simp only [zA])
  refine zTk 4 ?_
  refine wpAnyH_done (by kernel_rfl) ?_ _
  have hb := XB
  clear XB SK
  replace B := B.trans (hb.mono B.size)
  replace C := C.below hb
  replace N := N.below hb
  replace W := W.below hb
  replace OW := OW.below hb
  replace OX := OX.below hb
  replace X := X.below hb
  replace OM := OM.below hb
  replace M := M.below hb
  replace OG := OG.below hb
  replace G := G.below hb
  clear hb
  generalize vx = vc at *
  have hvc : kG < vc.heap.size := G.1
  have hL := X.load (P := Tryz.prog) hRX
  go_wp2_with (rw [hL])
  refine (qm RX y 1 lx kX vc OX (by decide) (by decide)).mono ?_
  rintro e vd ⟨rfl, hym, hb⟩
  clear hL
  have hlo : w.heap.size ≤ lx := by omega
  replace B := B.trans ((hb.belowL (by omega)).mono hlo)
  clear hlo
  replace C := C.btw hb (by omega)
  replace N := N.btw hb (by omega)
  replace W := W.btw hb (by omega)
  replace OW := OW.btw hb (by omega)
  replace M := M.btw hb (by omega)
  replace OM := OM.btw hb (by omega)
  replace G := G.btw hb (by omega)
  replace OG := OG.btw hb (by omega)
  clear hb X OX
  have hvd : kG < vd.heap.size := G.1
  have hL := M.load (P := Tryz.prog) hRM
  go_wp2_with (rw [hL])
  refine (iw RM x (1 + (y.m : Int) * 2) lm kM vd OM (by omega) (by omega)).mono ?_
  rintro e ve ⟨rfl, -, hb⟩
  clear hL
  have hlo : w.heap.size ≤ lm := by omega
  replace B := B.trans ((hb.belowL (by omega)).mono hlo)
  clear hlo
  replace C := C.btw hb (by omega)
  replace N := N.btw hb (by omega)
  replace W := W.btw hb (by omega)
  replace OW := OW.btw hb (by omega)
  replace G := G.btw hb (by omega)
  replace OG := OG.btw hb (by omega)
  clear hb M OM
  have hk : ¬ (mkN x (1 + (y.m : Int) * 2) < 0) := by unfold mkN; omega
  have hL := G.load (P := Tryz.prog) hRG
  have hL2 := W.load (P := Tryz.prog) hRW
  go_wp2_with (first | rw [hL] | rw [hL2])
  refine (fo RG RW x1 ve OG.src OW.src).mono ?_
  rintro e vf ⟨rfl, hb⟩
  clear hL hL2
  replace B := B.trans (hb.mono B.size)
  replace C := C.below hb
  replace N := N.below hb
  replace W := W.below hb
  replace OW := OW.below hb
  replace OG := OG.below hb
  replace G := G.below hb
  clear hb
  have hvf : kG < vf.heap.size := G.1
  have hL := G.load (P := Tryz.prog) hRG
  go_wp2_with (rw [hL])
  refine (iw RG x1 1 lg kG vf OG (by decide) (by decide)).mono ?_
  rintro e vg ⟨rfl, MG, hb⟩
  clear hL
  have hlo : w.heap.size ≤ lg := by omega
  replace B := B.trans ((hb.belowL (by omega)).mono hlo)
  clear hlo
  replace C := C.btw hb (by omega)
  replace N := N.btw hb (by omega)
  replace W := W.btw hb (by omega)
  replace OW := OW.btw hb (by omega)
  replace G := G.btw hb (by omega)
  clear hb OG
  have hk1 : ¬ (mkN x1 1 < 0) := by unfold mkN; omega
  have hkk : (mkN x1 1 != mkN x1 1) = false := by simp
  have hL := G.load (P := Tryz.prog) hRG
  go_wp2_with (rw [hL])
  refine (ip RG x1 1 vg MG (by decide) (by decide)).mono ?_
  rintro e vh ⟨rfl, hb⟩
  clear hL
  replace B := B.trans (hb.mono B.size)
  replace C := C.below hb
  replace N := N.below hb
  replace W := W.below hb
  replace OW := OW.below hb
  replace G := G.below hb
  replace MG := MG.below hb
  clear hb
  go_upto_region 31 with fail
  have SK : Hid (∀ w', Below vh.heap.size vh w' → (fun w' => (loadCells ⟨w.heap.size, 0, none⟩ 11).run Tryz.prog w' = .ok AC w' ∧ (loadCells ⟨w.heap.size + 1, 0, none⟩ 16).run Tryz.prog w' = .ok AN w') w') := fun w' hw => ⟨(C.below hw).load hC, (N.below hw).load hN⟩
  go_cut [17, 18] (fun s17 s18 wx => ∃ (j l u : Nat) (R : Array Value), s17 = .pointer (some ⟨j, 0, none⟩) ∧ s18 = .int .i64 cd ∧ Bo wx j R ∧ NdO wx l u R x1 ∧ vh.heap.size ≤ l ∧ vh.heap.size ≤ j ∧ u ≤ wx.heap.size ∧ j < wx.heap.size ∧ l ≤ u ∧ (j < l ∨ u ≤ j) ∧ Below vh.heap.size vh wx)
  case first => as_aux_lemma =>
   refine wp_region_held_drew (S := (fun w' => (loadCells ⟨w.heap.size, 0, none⟩ 11).run Tryz.prog w' = .ok AC w' ∧ (loadCells ⟨w.heap.size + 1, 0, none⟩ 16).run Tryz.prog w' = .ok AN w')) (by kernel_rfl) ?_ (fun hHeld => ?_)
   ·first | exact SK.out _ XB | exact SK.out _ zD | exact SK.out _ XF
   have XB : Below vh.heap.size vh vh.drew := Below.drew (Below.refl _ _)
   generalize vh.drew = vx at *
   refine zTk 0 ?_
   refine zTk 2 ?_
   refine zTk 4 ?_
   refine wpAnyH_ready (rs := [1, 9]) (by kernel_rfl) (by simp) ?_
   refine (zCc (fun K hK => ?_) (zR fun K hK => ?_))
   ·go_simp
    refine (CTC vx (B.trans (XB.mono B.size))).mono ?_; rintro ee vx ⟨RC, rfl, OC, hbl⟩; (replace XB := XB.trans (hbl.mono XB.size)); (clear hbl)
    (try go_wp2_with fail)
    refine hK.out _ _ ?_ (fun hHeld => ?_)
    ·first | exact SK.out _ XB | exact SK.out _ zD | exact SK.out _ XF
    clear hK K
    (try simp only [zA])
    refine wpAnyH_ready (rs := [3, 9]) (by kernel_rfl) (by simp) ?_
    refine (zCc (fun K hK => ?_) (zR fun K hK => ?_))
    ·go_simp
     refine (CTN vx (B.trans (XB.mono B.size))).mono ?_; rintro ee vx ⟨RN, rfl, ON, hbl⟩; (replace XB := XB.trans (hbl.mono XB.size)); (replace OC := OC.below hbl); (clear hbl)
     (try go_wp2_with fail)
     refine hK.out _ _ ?_ (fun hHeld => ?_)
     ·first | exact SK.out _ XB | exact SK.out _ zD | exact SK.out _ XF
     clear hK K
     (try simp only [zA])
     refine wpAnyH_ready (rs := [5, 9]) (by kernel_rfl) (by simp) ?_
     refine (zCc (fun K hK => ?_) (zR fun K hK => ?_))
     ·go_simp
      refine (CP vx RC RN OC.src ON.src).mono ?_; rintro ee vs ⟨RW, rfl, OW, hbl⟩; (have hl0 : vh.heap.size ≤ vx.heap.size := XB.size); (have hlu : vx.heap.size ≤ vs.heap.size := hbl.size); (replace XB := XB.trans (hbl.mono XB.size)); (clear hbl)
      (try go_wp2_with fail)
      refine hK.out _ _ ?_ (fun hHeld => ?_)
      ·first | exact SK.out _ XB | exact SK.out _ zD | exact SK.out _ XF
      clear hK K
      (try simp only [zA])
      refine zT2 6 ?_
      refine zTk 8 ?_
      refine zQ 9 fun K hK => ?_
      go_simp
      (have Z := Bo.new vs (#[.int .i64 0, .int .i64 0, .int .i64 0, .int .i64 0, .bool false, .int .i64 0, .int .i64 0, .int .i64 0, .int .i64 0, .int .i64 0, .slice none 0 0, .slice none 0 0, .bool false, .int .i64 0, .slice none 0 0, .int .i64 0]) 57); (have NL := Below.nw vs (.cells (#[.int .i64 0, .int .i64 0, .int .i64 0, .int .i64 0, .bool false, .int .i64 0, .int .i64 0, .int .i64 0, .int .i64 0, .int .i64 0, .slice none 0 0, .slice none 0 0, .bool false, .int .i64 0, .slice none 0 0, .int .i64 0]) 57)); (have hzv : vh.heap.size ≤ vs.heap.size := XB.size); (replace XB := XB.trans (NL.mono XB.size)); (replace OW := OW.below NL); (clear NL); (generalize vs.alloc (.cells (#[.int .i64 0, .int .i64 0, .int .i64 0, .int .i64 0, .bool false, .int .i64 0, .int .i64 0, .int .i64 0, .int .i64 0, .int .i64 0, .slice none 0 0, .slice none 0 0, .bool false, .int .i64 0, .slice none 0 0, .int .i64 0]) 57) = vy at *); (generalize vs.heap.size = jz at *); (have hRW := OW.size); (have hst := Bo.store (P := Tryz.prog) (b := 0) RW.toList 0 0 Z rfl (by simp [hRW]) OW.one); (have XF := an (k := jz) RW.toList vh vy 0 XB hzv); (have ZF := Z.putW (U := RW) hRW); (have OF := OW.btw (ay RW.toList vy 0 jz) (.inl (Nat.le_refl _))); (have hsz := bE jz RW.toList vy 0)
      refine hK.out _ _ ?_ (fun hHeld => ?_)
      ·first | exact SK.out _ XB | exact SK.out _ zD | exact SK.out _ XF
      clear hK K
      (try simp only [zA])
      refine zQ 10 fun K hK => ?_
      go_simp
      refine hK.out _ _ ?_ (fun hHeld => ?_)
      ·first | exact SK.out _ XB | exact SK.out _ zD | exact SK.out _ XF
      clear hK K
      (try simp only [zA])
      refine zTk 11 ?_
      refine wpAnyH_done (by kernel_rfl) ?_ _
      go_wp2_with (rw [hst])
      go_meet
      case rel => exact ⟨jz, _, _, RW, rfl, rfl, ZF, OF, hl0, hzv, by first | exact Nat.le_of_eq hsz.symm | (rw [hsz]; exact Nat.le_of_lt Z.1), by rw [hsz]; exact Z.1, hlu, .inr (Nat.le_refl _), XF⟩
     ·go_simp
      (have Z := Bo.new vx (#[.int .i64 0, .int .i64 0, .int .i64 0, .int .i64 0, .bool false, .int .i64 0, .int .i64 0, .int .i64 0, .int .i64 0, .int .i64 0, .slice none 0 0, .slice none 0 0, .bool false, .int .i64 0, .slice none 0 0, .int .i64 0]) 57); (have NL := Below.nw vx (.cells (#[.int .i64 0, .int .i64 0, .int .i64 0, .int .i64 0, .bool false, .int .i64 0, .int .i64 0, .int .i64 0, .int .i64 0, .int .i64 0, .slice none 0 0, .slice none 0 0, .bool false, .int .i64 0, .slice none 0 0, .int .i64 0]) 57)); (have hzv : vh.heap.size ≤ vx.heap.size := XB.size); (replace XB := XB.trans (NL.mono XB.size)); (replace OC := OC.below NL); (replace ON := ON.below NL); (clear NL); (generalize vx.alloc (.cells (#[.int .i64 0, .int .i64 0, .int .i64 0, .int .i64 0, .bool false, .int .i64 0, .int .i64 0, .int .i64 0, .int .i64 0, .int .i64 0, .slice none 0 0, .slice none 0 0, .bool false, .int .i64 0, .slice none 0 0, .int .i64 0]) 57) = vy at *); (generalize vx.heap.size = jz at *)
      refine hK.out _ _ ?_ (fun hHeld => ?_)
      ·first | exact SK.out _ XB | exact SK.out _ zD | exact SK.out _ XF
      clear hK K
      (try simp only [zA])
      refine zQ 5 fun K hK => ?_
      go_simp
      refine (CP vy RC RN OC.src ON.src).mono ?_; rintro ee vs ⟨RW, rfl, OW, hbl⟩; (have hl0 : vh.heap.size ≤ vy.heap.size := XB.size); (have hlu : vy.heap.size ≤ vs.heap.size := hbl.size); (replace XB := XB.trans (hbl.mono XB.size)); (have hjl : jz < vy.heap.size := Z.1); (replace Z := Z.below hbl); (clear hbl); (have hRW := OW.size); (have hst := Bo.store (P := Tryz.prog) (b := 0) RW.toList 0 0 Z rfl (by simp [hRW]) OW.one); (have XF := an (k := jz) RW.toList vh vs 0 XB hzv); (have ZF := Z.putW (U := RW) hRW); (have OF := OW.btw (ay RW.toList vs 0 jz) (.inr hjl)); (have hsz := bE jz RW.toList vs 0)
      (try go_wp2_with fail)
      refine hK.out _ _ ?_ (fun hHeld => ?_)
      ·first | exact SK.out _ XB | exact SK.out _ zD | exact SK.out _ XF
      clear hK K
      (try simp only [zA])
      refine zT2 6 ?_
      refine zTk 8 ?_
      refine zQ 10 fun K hK => ?_
      go_simp
      refine hK.out _ _ ?_ (fun hHeld => ?_)
      ·first | exact SK.out _ XB | exact SK.out _ zD | exact SK.out _ XF
      clear hK K
      (try simp only [zA])
      refine zTk 11 ?_
      refine wpAnyH_done (by kernel_rfl) ?_ _
      go_wp2_with (rw [hst])
      go_meet
      case rel => exact ⟨jz, _, _, RW, rfl, rfl, ZF, OF, hl0, hzv, by first | exact Nat.le_of_eq hsz.symm | (rw [hsz]; exact Nat.le_of_lt Z.1), by rw [hsz]; exact Z.1, hlu, .inl hjl, XF⟩
    ·go_simp
     (have Z := Bo.new vx (#[.int .i64 0, .int .i64 0, .int .i64 0, .int .i64 0, .bool false, .int .i64 0, .int .i64 0, .int .i64 0, .int .i64 0, .int .i64 0, .slice none 0 0, .slice none 0 0, .bool false, .int .i64 0, .slice none 0 0, .int .i64 0]) 57); (have NL := Below.nw vx (.cells (#[.int .i64 0, .int .i64 0, .int .i64 0, .int .i64 0, .bool false, .int .i64 0, .int .i64 0, .int .i64 0, .int .i64 0, .int .i64 0, .slice none 0 0, .slice none 0 0, .bool false, .int .i64 0, .slice none 0 0, .int .i64 0]) 57)); (have hzv : vh.heap.size ≤ vx.heap.size := XB.size); (replace XB := XB.trans (NL.mono XB.size)); (replace OC := OC.below NL); (clear NL); (generalize vx.alloc (.cells (#[.int .i64 0, .int .i64 0, .int .i64 0, .int .i64 0, .bool false, .int .i64 0, .int .i64 0, .int .i64 0, .int .i64 0, .int .i64 0, .slice none 0 0, .slice none 0 0, .bool false, .int .i64 0, .slice none 0 0, .int .i64 0]) 57) = vy at *); (generalize vx.heap.size = jz at *)
     refine hK.out _ _ ?_ (fun hHeld => ?_)
     ·first | exact SK.out _ XB | exact SK.out _ zD | exact SK.out _ XF
     clear hK K
     (try simp only [zA])
     refine zQ 3 fun K hK => ?_
     go_simp
     refine (CTN vy (B.trans (XB.mono B.size))).mono ?_; rintro ee vx ⟨RN, rfl, ON, hbl⟩; (replace XB := XB.trans (hbl.mono XB.size)); (replace OC := OC.below hbl); (replace Z := Z.below hbl); (clear hbl)
     (try go_wp2_with fail)
     refine hK.out _ _ ?_ (fun hHeld => ?_)
     ·first | exact SK.out _ XB | exact SK.out _ zD | exact SK.out _ XF
     clear hK K
     (try simp only [zA])
     refine zQ 5 fun K hK => ?_
     go_simp
     refine (CP vx RC RN OC.src ON.src).mono ?_; rintro ee vs ⟨RW, rfl, OW, hbl⟩; (have hl0 : vh.heap.size ≤ vx.heap.size := XB.size); (have hlu : vx.heap.size ≤ vs.heap.size := hbl.size); (replace XB := XB.trans (hbl.mono XB.size)); (have hjl : jz < vx.heap.size := Z.1); (replace Z := Z.below hbl); (clear hbl); (have hRW := OW.size); (have hst := Bo.store (P := Tryz.prog) (b := 0) RW.toList 0 0 Z rfl (by simp [hRW]) OW.one); (have XF := an (k := jz) RW.toList vh vs 0 XB hzv); (have ZF := Z.putW (U := RW) hRW); (have OF := OW.btw (ay RW.toList vs 0 jz) (.inr hjl)); (have hsz := bE jz RW.toList vs 0)
     (try go_wp2_with fail)
     refine hK.out _ _ ?_ (fun hHeld => ?_)
     ·first | exact SK.out _ XB | exact SK.out _ zD | exact SK.out _ XF
     clear hK K
     (try simp only [zA])
     refine zT2 6 ?_
     refine zTk 8 ?_
     refine zQ 10 fun K hK => ?_
     go_simp
     refine hK.out _ _ ?_ (fun hHeld => ?_)
     ·first | exact SK.out _ XB | exact SK.out _ zD | exact SK.out _ XF
     clear hK K
     (try simp only [zA])
     refine zTk 11 ?_
     refine wpAnyH_done (by kernel_rfl) ?_ _
     go_wp2_with (rw [hst])
     go_meet
     case rel => exact ⟨jz, _, _, RW, rfl, rfl, ZF, OF, hl0, hzv, by first | exact Nat.le_of_eq hsz.symm | (rw [hsz]; exact Nat.le_of_lt Z.1), by rw [hsz]; exact Z.1, hlu, .inl hjl, XF⟩
   ·go_simp
    (have Z := Bo.new vx (#[.int .i64 0, .int .i64 0, .int .i64 0, .int .i64 0, .bool false, .int .i64 0, .int .i64 0, .int .i64 0, .int .i64 0, .int .i64 0, .slice none 0 0, .slice none 0 0, .bool false, .int .i64 0, .slice none 0 0, .int .i64 0]) 57); (have NL := Below.nw vx (.cells (#[.int .i64 0, .int .i64 0, .int .i64 0, .int .i64 0, .bool false, .int .i64 0, .int .i64 0, .int .i64 0, .int .i64 0, .int .i64 0, .slice none 0 0, .slice none 0 0, .bool false, .int .i64 0, .slice none 0 0, .int .i64 0]) 57)); (have hzv : vh.heap.size ≤ vx.heap.size := XB.size); (replace XB := XB.trans (NL.mono XB.size)); (clear NL); (generalize vx.alloc (.cells (#[.int .i64 0, .int .i64 0, .int .i64 0, .int .i64 0, .bool false, .int .i64 0, .int .i64 0, .int .i64 0, .int .i64 0, .int .i64 0, .slice none 0 0, .slice none 0 0, .bool false, .int .i64 0, .slice none 0 0, .int .i64 0]) 57) = vy at *); (generalize vx.heap.size = jz at *)
    refine hK.out _ _ ?_ (fun hHeld => ?_)
    ·first | exact SK.out _ XB | exact SK.out _ zD | exact SK.out _ XF
    clear hK K
    (try simp only [zA])
    refine zQ 1 fun K hK => ?_
    go_simp
    refine (CTC vy (B.trans (XB.mono B.size))).mono ?_; rintro ee vx ⟨RC, rfl, OC, hbl⟩; (replace XB := XB.trans (hbl.mono XB.size)); (replace Z := Z.below hbl); (clear hbl)
    (try go_wp2_with fail)
    refine hK.out _ _ ?_ (fun hHeld => ?_)
    ·first | exact SK.out _ XB | exact SK.out _ zD | exact SK.out _ XF
    clear hK K
    (try simp only [zA])
    refine zQ 3 fun K hK => ?_
    go_simp
    refine (CTN vx (B.trans (XB.mono B.size))).mono ?_; rintro ee vx ⟨RN, rfl, ON, hbl⟩; (replace XB := XB.trans (hbl.mono XB.size)); (replace OC := OC.below hbl); (replace Z := Z.below hbl); (clear hbl)
    (try go_wp2_with fail)
    refine hK.out _ _ ?_ (fun hHeld => ?_)
    ·first | exact SK.out _ XB | exact SK.out _ zD | exact SK.out _ XF
    clear hK K
    (try simp only [zA])
    refine zQ 5 fun K hK => ?_
    go_simp
    refine (CP vx RC RN OC.src ON.src).mono ?_; rintro ee vs ⟨RW, rfl, OW, hbl⟩; (have hl0 : vh.heap.size ≤ vx.heap.size := XB.size); (have hlu : vx.heap.size ≤ vs.heap.size := hbl.size); (replace XB := XB.trans (hbl.mono XB.size)); (have hjl : jz < vx.heap.size := Z.1); (replace Z := Z.below hbl); (clear hbl); (have hRW := OW.size); (have hst := Bo.store (P := Tryz.prog) (b := 0) RW.toList 0 0 Z rfl (by simp [hRW]) OW.one); (have XF := an (k := jz) RW.toList vh vs 0 XB hzv); (have ZF := Z.putW (U := RW) hRW); (have OF := OW.btw (ay RW.toList vs 0 jz) (.inr hjl)); (have hsz := bE jz RW.toList vs 0)
    (try go_wp2_with fail)
    refine hK.out _ _ ?_ (fun hHeld => ?_)
    ·first | exact SK.out _ XB | exact SK.out _ zD | exact SK.out _ XF
    clear hK K
    (try simp only [zA])
    refine zT2 6 ?_
    refine zTk 8 ?_
    refine zQ 10 fun K hK => ?_
    go_simp
    refine hK.out _ _ ?_ (fun hHeld => ?_)
    ·first | exact SK.out _ XB | exact SK.out _ zD | exact SK.out _ XF
    clear hK K
    (try simp only [zA])
    refine zTk 11 ?_
    refine wpAnyH_done (by kernel_rfl) ?_ _
    go_wp2_with (rw [hst])
    go_meet
    case rel => exact ⟨jz, _, _, RW, rfl, rfl, ZF, OF, hl0, hzv, by first | exact Nat.le_of_eq hsz.symm | (rw [hsz]; exact Nat.le_of_lt Z.1), by rw [hsz]; exact Z.1, hlu, .inl hjl, XF⟩
  case rest =>
   obtain ⟨kH, lh, uh, RH, rfl, rfl, H, OH, hlh1, hkH1, huh1, hkH2, hlh3, hlh4, hb⟩ := hcut
   clear SK
   generalize wc = vi at *
   replace B := B.trans (hb.mono B.size)
   replace C := C.below hb
   replace N := N.below hb
   replace W := W.below hb
   replace OW := OW.below hb
   replace G := G.below hb
   replace MG := MG.below hb
   clear hb
   have hRH := OH.size
   have hL := H.load (P := Tryz.prog) hRH
   have hL2 := W.load (P := Tryz.prog) hRW
   go_wp2_with (first | rw [hL] | rw [hL2])
   refine (fo RH RW x1 vi OH.src OW.src).mono ?_
   rintro e vj ⟨rfl, hb⟩
   clear hL hL2
   replace B := B.trans (hb.mono B.size)
   replace C := C.below hb
   replace N := N.below hb
   replace W := W.below hb
   replace OW := OW.below hb
   replace G := G.below hb
   replace MG := MG.below hb
   replace H := H.below hb
   replace OH := OH.below hb
   clear hb
   have hL := G.load (P := Tryz.prog) hRG
   go_wp2_with (rw [hL])
   refine (ip RG x1 1 vj MG (by decide) (by decide)).mono ?_
   rintro e vk ⟨rfl, hb⟩
   clear hL
   replace B := B.trans (hb.mono B.size)
   replace C := C.below hb
   replace N := N.below hb
   replace W := W.below hb
   replace OW := OW.below hb
   replace G := G.below hb
   replace MG := MG.below hb
   replace H := H.below hb
   replace OH := OH.below hb
   clear hb
   go_wp2_with fail
   go_ret
   exact ⟨rfl, B⟩
end Go.Proofs.YtikbjljkakabdaaGreat
