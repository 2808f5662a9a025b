/- The walk of the exact law of NodeAsk (specification and program told as hypotheses). -/
import Derived.Test.YtgempaoamamaeaaGreatM0
import Derived.Test.YtgempaoamamaeaaGreatM28
import Derived.Test.YtgempaoamamaeaaGreatM29
import Derived.Test.YtgempaoamamaeaaGreatM52
namespace Go.Proofs.YtgempaoamamaeaaGreat
open Go.RowKit
set_option linter.unusedVariables false
def NodeAskTold (f : Nat) (F : CfX → NdX → Int → Int → NdX × (Int × Int × Int × Int × Int × Int × Int × ByteArray) × Int) : Prop := ∀ (AC AN : Array Value) (y : CfX) (x : NdX) (ct xt : Int) (w : World), CfS w AC y → NdS w AN x → wfX x →
    Calls Tryz.prog f #[.agg AC, .agg AN, .int .i64 ct, .int .i64 xt] w fun e w' => ∃ R, e = .returned (.tuple #[.agg R, .agg #[.int .i64 ((F y x ct xt).2.1.1), .int .i64 ((F y x ct xt).2.1.2.1), .int .i64 ((F y x ct xt).2.1.2.2.1), .int .i64 ((F y x ct xt).2.1.2.2.2.1), .int .i64 ((F y x ct xt).2.1.2.2.2.2.1), .int .i64 ((F y x ct xt).2.1.2.2.2.2.2.1), .int .i64 ((F y x ct xt).2.1.2.2.2.2.2.2.1), .string ((F y x ct xt).2.1.2.2.2.2.2.2.2)], .int .i64 (F y x ct xt).2.2]) ∧ NdO w' w.heap.size w'.heap.size R (F y x ct xt).1 ∧ Below w.heap.size w w'
theorem tl_A {G F : Array Value → World → Prop} {R : Prop} (h1 : (∀ a0 vx, F a0 vx → G a0 vx) → R) (h2 : ∀ a0 vx, F a0 vx → G a0 vx) : R := h1 h2
theorem tl_n {G F : Nat → World → Prop} {R : Prop} (h1 : (∀ a0 vx, F a0 vx → G a0 vx) → R) (h2 : ∀ a0 vx, F a0 vx → G a0 vx) : R := h1 h2
theorem tl_AA {G F : Array Value → Array Value → World → Prop} {R : Prop} (h1 : (∀ a0 a1 vx, F a0 a1 vx → G a0 a1 vx) → R) (h2 : ∀ a0 a1 vx, F a0 a1 vx → G a0 a1 vx) : R := h1 h2
theorem tl_nA {G F : Nat → Array Value → World → Prop} {R : Prop} (h1 : (∀ a0 a1 vx, F a0 a1 vx → G a0 a1 vx) → R) (h2 : ∀ a0 a1 vx, F a0 a1 vx → G a0 a1 vx) : R := h1 h2
theorem tl_nn {G F : Nat → Nat → World → Prop} {R : Prop} (h1 : (∀ a0 a1 vx, F a0 a1 vx → G a0 a1 vx) → R) (h2 : ∀ a0 a1 vx, F a0 a1 vx → G a0 a1 vx) : R := h1 h2
theorem tl_AAAnn {G F : Array Value → Array Value → Array Value → Nat → Nat → World → Prop} {R : Prop} (h1 : (∀ a0 a1 a2 a3 a4 vx, F a0 a1 a2 a3 a4 vx → G a0 a1 a2 a3 a4 vx) → R) (h2 : ∀ a0 a1 a2 a3 a4 vx, F a0 a1 a2 a3 a4 vx → G a0 a1 a2 a3 a4 vx) : R := h1 h2
theorem tl_nAA {G F : Nat → Array Value → Array Value → World → Prop} {R : Prop} (h1 : (∀ a0 a1 a2 vx, F a0 a1 a2 vx → G a0 a1 a2 vx) → R) (h2 : ∀ a0 a1 a2 vx, F a0 a1 a2 vx → G a0 a1 a2 vx) : R := h1 h2
theorem tl_nnA {G F : Nat → Nat → Array Value → World → Prop} {R : Prop} (h1 : (∀ a0 a1 a2 vx, F a0 a1 a2 vx → G a0 a1 a2 vx) → R) (h2 : ∀ a0 a1 a2 vx, F a0 a1 a2 vx → G a0 a1 a2 vx) : R := h1 h2
theorem tl_nAAAnn {G F : Nat → Array Value → Array Value → Array Value → Nat → Nat → World → Prop} {R : Prop} (h1 : (∀ a0 a1 a2 a3 a4 a5 vx, F a0 a1 a2 a3 a4 a5 vx → G a0 a1 a2 a3 a4 a5 vx) → R) (h2 : ∀ a0 a1 a2 a3 a4 a5 vx, F a0 a1 a2 a3 a4 a5 vx → G a0 a1 a2 a3 a4 a5 vx) : R := h1 h2
theorem tl_nnAA {G F : Nat → Nat → Array Value → Array Value → World → Prop} {R : Prop} (h1 : (∀ a0 a1 a2 a3 vx, F a0 a1 a2 a3 vx → G a0 a1 a2 a3 vx) → R) (h2 : ∀ a0 a1 a2 a3 vx, F a0 a1 a2 a3 vx → G a0 a1 a2 a3 vx) : R := h1 h2
theorem tl_nnAAAnn {G F : Nat → Nat → Array Value → Array Value → Array Value → Nat → Nat → World → Prop} {R : Prop} (h1 : (∀ a0 a1 a2 a3 a4 a5 a6 vx, F a0 a1 a2 a3 a4 a5 a6 vx → G a0 a1 a2 a3 a4 a5 a6 vx) → R) (h2 : ∀ a0 a1 a2 a3 a4 a5 a6 vx, F a0 a1 a2 a3 a4 a5 a6 vx → G a0 a1 a2 a3 a4 a5 a6 vx) : R := h1 h2
attribute [-go_sem] loadCells storeCells in
set_option maxRecDepth 100000 in
set_option maxHeartbeats 16000000 in
theorem lawNodeAsk (F : CfX → NdX → Int → Int → NdX × (Int × Int × Int × Int × Int × Int × Int × ByteArray) × Int) (TS : NodeAskTold 8 F) (TI : NodeAskTold 11 F) (AC AN : Array Value) (y : CfX) (x : NdX) (ct xt : Int) (w : World) (HC : CfW w AC y) (HN : NdW w AN x) (hwf : wfX x) :
    Calls Tryz.prog 3 #[.agg AC, .agg AN, .int .i64 ct, .int .i64 xt] w fun e w' => e = .returned (.bool true) ∧ Below w.heap.size w w' := by
  have A0 := Below.nw w (.cells AC 28)
  have A1 := Below.nw (w.alloc (.cells AC 28)) (.cells AN 43)
  have C := (Bo.new w AC 28).below A1
  have N := Bo.new (w.alloc (.cells AC 28)) AN 43
  have B := A0.trans (A1.mono A0.size)
  simp only [World.size_alloc] at N
  clear A0 A1
  have hC := HC.size
  have hN := HN.size
  have HSC : Hid (CfW w AC y) := HC
  have HSN : Hid (NdW w AN x) := HN
  clear HC HN
  have CS := fun (v : World) (RC RN : Array Value) (h : CfS v RC y) (h' : NdS v RN x) => TS RC RN y x ct xt v h h' hwf
  have CP := fun (v : World) (RC RN : Array Value) (h : CfS v RC y) (h' : NdS v RN x) => TI RC RN y x ct xt v h h' hwf
  clear TS TI
  generalize F y x ct xt = Y at *
  obtain ⟨x1, ⟨mk, mf, mt, mn, ml, mh, ms, mb⟩, cd⟩ := Y
  simp only at CS CP
  have hqcd : (cd != cd) = false := by simp
  go_enter Tryz.func3, Tryz.ntmps3
  go_upto_region 2 with fail
  generalize (w.alloc (.cells AC 28)).alloc (.cells AN 43) = v0 at *
  have hL := C.load (P := Tryz.prog) hC
  go_wp2_with (rw [hL])
  refine (szCfgW AC y 1048576 v0 (HSC.out.below B) (by decide) (by decide)).mono ?_
  rintro e v1 ⟨Z, rfl, hZ, hb⟩
  clear hL
  replace B := B.trans (hb.mono B.size)
  replace C := C.below hb
  replace N := N.below hb
  clear hb
  by_cases hz : Z < 0
  · clear CS CP hZ
    go_wp2_with fail
    go_ret
    exact ⟨rfl, B⟩
  obtain ⟨hcs, hZ1⟩ := hZ (by omega)
  clear hZ
  have hL := N.load (P := Tryz.prog) hN
  go_wp2_with (rw [hL])
  refine (szNodeW AN x Z v1 (HSN.out.below B) (by omega) hZ1).mono ?_
  rintro e v2 ⟨Z2, rfl, hZ, hb⟩
  clear hL
  replace B := B.trans (hb.mono B.size)
  replace C := C.below hb
  replace N := N.below hb
  clear hb
  by_cases hz2 : Z2 < 0
  · clear CS CP hZ
    go_wp2_with fail
    go_ret
    exact ⟨rfl, B⟩
  obtain ⟨hsh, -⟩ := hZ (by omega)
  clear hZ hZ1
  have CTC := fun (v : World) (h : Below w.heap.size w v) => toCfgW AC y v (HSC.out.below h) hcs
  have CTN := fun (v : World) (h : Below w.heap.size w v) => toNodeW AN x v (HSN.out.below h) hsh
  have hw2 : w.heap.size + 1 < v2.heap.size := N.1
  go_upto_region 8 with fail
  have SK : Hid (∀ w', Below v2.heap.size v2 w' → (fun w' => (loadCells ⟨w.heap.size, 0, none⟩ 11).run Tryz.prog w' = .ok AC w' ∧ (loadCells ⟨w.heap.size + 1, 0, none⟩ 16).run Tryz.prog w' = .ok AN w') w') := fun w' hw => ⟨(C.below hw).load hC, (N.below hw).load hN⟩
  go_cut [10, 11, 12] (fun s10 s11 s12 wx => ∃ (j jm l u : Nat) (R : Array Value), s10 = .pointer (some ⟨j, 0, none⟩) ∧ s11 = .pointer (some ⟨jm, 0, none⟩) ∧ s12 = .int .i64 cd ∧ Bo wx j R ∧ Bo wx jm (#[.int .i64 mk, .int .i64 mf, .int .i64 mt, .int .i64 mn, .int .i64 ml, .int .i64 mh, .int .i64 ms, .string mb]) ∧ NdO wx l u R x1 ∧ v2.heap.size ≤ l ∧ v2.heap.size ≤ j ∧ v2.heap.size ≤ jm ∧ u ≤ wx.heap.size ∧ Below v2.heap.size v2 wx)
  case first => as_aux_lemma =>
    refine wp_region_held_drew (S := (fun w' => (loadCells ⟨w.heap.size, 0, none⟩ 11).run Tryz.prog w' = .ok AC w' ∧ (loadCells ⟨w.heap.size + 1, 0, none⟩ 16).run Tryz.prog w' = .ok AN w')) (by kernel_rfl) ?_ (fun hHeld => ?_)
    · first | exact SK.out _ XB | exact SK.out _ (Below.drew (Below.refl _ _))
    have XB : Below v2.heap.size v2 v2.drew := Below.drew (Below.refl _ _)
    generalize v2.drew = vx at *
    refine zTk 0 ?_
    (try simp only [Act.put, zSb, zS0, zS1])
    refine zTk 2 ?_
    (try simp only [Act.put, zSb, zS0, zS1])
    refine zTk 4 ?_
    (try simp only [Act.put, zSb, zS0, zS1])
    refine zTk 5 ?_
    (try simp only [Act.put, zSb, zS0, zS1])
    apply tl_nnAAAnn (F := (fun (k0 : Nat) (k1 : Nat) (RC : Array Value) (RN : Array Value) (RW : Array Value) (lz : Nat) (uz : Nat) (vx : World) => v2.heap.size ≤ k0 ∧ v2.heap.size ≤ k1 ∧ Bo vx k0 (#[.int .i64 0, .int .i64 0, .int .i64 0, .int .i64 0, .bool false, .int .i64 0, .int .i64 0, .int .i64 0, .int .i64 0, .int .i64 0, .slice none 0 0, .slice none 0 0, .bool false, .int .i64 0, .slice none 0 0, .int .i64 0]) ∧ Bo vx k1 (#[.int .i64 0, .int .i64 0, .int .i64 0, .int .i64 0, .int .i64 0, .int .i64 0, .int .i64 0, .string ⟨#[]⟩]) ∧ k0 ≠ k1 ∧ NdO vx lz uz RW x1 ∧ v2.heap.size ≤ lz ∧ uz ≤ vx.heap.size ∧ (k0 < lz ∨ uz ≤ k0) ∧ (k1 < lz ∨ uz ≤ k1) ∧ Below v2.heap.size v2 vx))
    intro T1_3_6_11_12
    apply tl_nnAA (F := (fun (k0 : Nat) (k1 : Nat) (RC : Array Value) (RN : Array Value) (vx : World) => v2.heap.size ≤ k0 ∧ v2.heap.size ≤ k1 ∧ Bo vx k0 (#[.int .i64 0, .int .i64 0, .int .i64 0, .int .i64 0, .bool false, .int .i64 0, .int .i64 0, .int .i64 0, .int .i64 0, .int .i64 0, .slice none 0 0, .slice none 0 0, .bool false, .int .i64 0, .slice none 0 0, .int .i64 0]) ∧ Bo vx k1 (#[.int .i64 0, .int .i64 0, .int .i64 0, .int .i64 0, .int .i64 0, .int .i64 0, .int .i64 0, .string ⟨#[]⟩]) ∧ k0 ≠ k1 ∧ CfS vx RC y ∧ NdS vx RN x ∧ Below v2.heap.size v2 vx))
    intro T1_3_11_12
    apply tl_nAAAnn (F := (fun (k1 : Nat) (RC : Array Value) (RN : Array Value) (RW : Array Value) (lz : Nat) (uz : Nat) (vx : World) => v2.heap.size ≤ k1 ∧ Bo vx k1 (#[.int .i64 0, .int .i64 0, .int .i64 0, .int .i64 0, .int .i64 0, .int .i64 0, .int .i64 0, .string ⟨#[]⟩]) ∧ NdO vx lz uz RW x1 ∧ v2.heap.size ≤ lz ∧ uz ≤ vx.heap.size ∧ (k1 < lz ∨ uz ≤ k1) ∧ Below v2.heap.size v2 vx))
    intro T1_3_6_12
    apply tl_nAAAnn (F := (fun (k0 : Nat) (RC : Array Value) (RN : Array Value) (RW : Array Value) (lz : Nat) (uz : Nat) (vx : World) => v2.heap.size ≤ k0 ∧ Bo vx k0 (#[.int .i64 0, .int .i64 0, .int .i64 0, .int .i64 0, .bool false, .int .i64 0, .int .i64 0, .int .i64 0, .int .i64 0, .int .i64 0, .slice none 0 0, .slice none 0 0, .bool false, .int .i64 0, .slice none 0 0, .int .i64 0]) ∧ NdO vx lz uz RW x1 ∧ v2.heap.size ≤ lz ∧ uz ≤ vx.heap.size ∧ (k0 < lz ∨ uz ≤ k0) ∧ Below v2.heap.size v2 vx))
    intro T1_3_6_11
    apply tl_nnA (F := (fun (k0 : Nat) (k1 : Nat) (RC : Array Value) (vx : World) => v2.heap.size ≤ k0 ∧ v2.heap.size ≤ k1 ∧ Bo vx k0 (#[.int .i64 0, .int .i64 0, .int .i64 0, .int .i64 0, .bool false, .int .i64 0, .int .i64 0, .int .i64 0, .int .i64 0, .int .i64 0, .slice none 0 0, .slice none 0 0, .bool false, .int .i64 0, .slice none 0 0, .int .i64 0]) ∧ Bo vx k1 (#[.int .i64 0, .int .i64 0, .int .i64 0, .int .i64 0, .int .i64 0, .int .i64 0, .int .i64 0, .string ⟨#[]⟩]) ∧ k0 ≠ k1 ∧ CfS vx RC y ∧ Below v2.heap.size v2 vx))
    intro T1_11_12
    apply tl_nAA (F := (fun (k1 : Nat) (RC : Array Value) (RN : Array Value) (vx : World) => v2.heap.size ≤ k1 ∧ Bo vx k1 (#[.int .i64 0, .int .i64 0, .int .i64 0, .int .i64 0, .int .i64 0, .int .i64 0, .int .i64 0, .string ⟨#[]⟩]) ∧ CfS vx RC y ∧ NdS vx RN x ∧ Below v2.heap.size v2 vx))
    intro T1_3_12
    apply tl_nAA (F := (fun (k0 : Nat) (RC : Array Value) (RN : Array Value) (vx : World) => v2.heap.size ≤ k0 ∧ Bo vx k0 (#[.int .i64 0, .int .i64 0, .int .i64 0, .int .i64 0, .bool false, .int .i64 0, .int .i64 0, .int .i64 0, .int .i64 0, .int .i64 0, .slice none 0 0, .slice none 0 0, .bool false, .int .i64 0, .slice none 0 0, .int .i64 0]) ∧ CfS vx RC y ∧ NdS vx RN x ∧ Below v2.heap.size v2 vx))
    intro T1_3_11
    apply tl_AAAnn (F := (fun (RC : Array Value) (RN : Array Value) (RW : Array Value) (lz : Nat) (uz : Nat) (vx : World) => NdO vx lz uz RW x1 ∧ v2.heap.size ≤ lz ∧ uz ≤ vx.heap.size ∧ Below v2.heap.size v2 vx))
    intro T1_3_6
    apply tl_nn (F := (fun (k0 : Nat) (k1 : Nat) (vx : World) => v2.heap.size ≤ k0 ∧ v2.heap.size ≤ k1 ∧ Bo vx k0 (#[.int .i64 0, .int .i64 0, .int .i64 0, .int .i64 0, .bool false, .int .i64 0, .int .i64 0, .int .i64 0, .int .i64 0, .int .i64 0, .slice none 0 0, .slice none 0 0, .bool false, .int .i64 0, .slice none 0 0, .int .i64 0]) ∧ Bo vx k1 (#[.int .i64 0, .int .i64 0, .int .i64 0, .int .i64 0, .int .i64 0, .int .i64 0, .int .i64 0, .string ⟨#[]⟩]) ∧ k0 ≠ k1 ∧ Below v2.heap.size v2 vx))
    intro T11_12
    apply tl_nA (F := (fun (k1 : Nat) (RC : Array Value) (vx : World) => v2.heap.size ≤ k1 ∧ Bo vx k1 (#[.int .i64 0, .int .i64 0, .int .i64 0, .int .i64 0, .int .i64 0, .int .i64 0, .int .i64 0, .string ⟨#[]⟩]) ∧ CfS vx RC y ∧ Below v2.heap.size v2 vx))
    intro T1_12
    apply tl_nA (F := (fun (k0 : Nat) (RC : Array Value) (vx : World) => v2.heap.size ≤ k0 ∧ Bo vx k0 (#[.int .i64 0, .int .i64 0, .int .i64 0, .int .i64 0, .bool false, .int .i64 0, .int .i64 0, .int .i64 0, .int .i64 0, .int .i64 0, .slice none 0 0, .slice none 0 0, .bool false, .int .i64 0, .slice none 0 0, .int .i64 0]) ∧ CfS vx RC y ∧ Below v2.heap.size v2 vx))
    intro T1_11
    apply tl_AA (F := (fun (RC : Array Value) (RN : Array Value) (vx : World) => CfS vx RC y ∧ NdS vx RN x ∧ Below v2.heap.size v2 vx))
    intro T1_3
    apply tl_n (F := (fun (k1 : Nat) (vx : World) => v2.heap.size ≤ k1 ∧ Bo vx k1 (#[.int .i64 0, .int .i64 0, .int .i64 0, .int .i64 0, .int .i64 0, .int .i64 0, .int .i64 0, .string ⟨#[]⟩]) ∧ Below v2.heap.size v2 vx))
    intro T12
    apply tl_n (F := (fun (k0 : Nat) (vx : World) => v2.heap.size ≤ k0 ∧ Bo vx k0 (#[.int .i64 0, .int .i64 0, .int .i64 0, .int .i64 0, .bool false, .int .i64 0, .int .i64 0, .int .i64 0, .int .i64 0, .int .i64 0, .slice none 0 0, .slice none 0 0, .bool false, .int .i64 0, .slice none 0 0, .int .i64 0]) ∧ Below v2.heap.size v2 vx))
    intro T11
    apply tl_A (F := (fun (RC : Array Value) (vx : World) => CfS vx RC y ∧ Below v2.heap.size v2 vx))
    intro T1
    refine wpAnyH_ready (rs := [1, 11, 12]) (by kernel_rfl) (by simp) ?_
    refine (AllReadyH.cons (by rw [List.getElem?_toArray]; rfl) (fun K hK => ?_) (AllReadyH.cons (by rw [List.getElem?_toArray]; rfl) (fun K hK => ?_) (AllReadyH.cons (by rw [List.getElem?_toArray]; rfl) (fun K hK => ?_) AllReadyH.nil)))
    · go_simp
      refine (CTC vx (B.trans (XB.mono B.size))).mono ?_; rintro ee vy ⟨RC, rfl, OC0, hbl⟩; (have OC := OC0.src); (replace XB := XB.trans (hbl.mono XB.size)); (clear hbl OC0)
      (try go_wp2_with fail)
      refine hK.out _ _ ?_ (fun hHeld => ?_)
      · first | exact SK.out _ XB | exact SK.out _ (Below.drew (Below.refl _ _))
      clear hK K
      (try simp only [Act.put, zSb, zS0, zS1])
      exact T1 RC _ ⟨OC, XB⟩
    · go_simp
      (have K0 := Bo.new vx (#[.int .i64 0, .int .i64 0, .int .i64 0, .int .i64 0, .bool false, .int .i64 0, .int .i64 0, .int .i64 0, .int .i64 0, .int .i64 0, .slice none 0 0, .slice none 0 0, .bool false, .int .i64 0, .slice none 0 0, .int .i64 0]) 57); (have NL := Below.nw vx (.cells (#[.int .i64 0, .int .i64 0, .int .i64 0, .int .i64 0, .bool false, .int .i64 0, .int .i64 0, .int .i64 0, .int .i64 0, .int .i64 0, .slice none 0 0, .slice none 0 0, .bool false, .int .i64 0, .slice none 0 0, .int .i64 0]) 57)); (have hk0 : v2.heap.size ≤ vx.heap.size := XB.size); (replace XB := XB.trans (NL.mono XB.size)); (clear NL); (generalize vx.alloc (.cells (#[.int .i64 0, .int .i64 0, .int .i64 0, .int .i64 0, .bool false, .int .i64 0, .int .i64 0, .int .i64 0, .int .i64 0, .int .i64 0, .slice none 0 0, .slice none 0 0, .bool false, .int .i64 0, .slice none 0 0, .int .i64 0]) 57) = vy at *); (generalize vx.heap.size = k0 at *)
      refine hK.out _ _ ?_ (fun hHeld => ?_)
      · first | exact SK.out _ XB | exact SK.out _ (Below.drew (Below.refl _ _))
      clear hK K
      (try simp only [Act.put, zSb, zS0, zS1])
      exact T11 k0 _ ⟨hk0, K0, XB⟩
    · go_simp
      (have K1 := Bo.new vx (#[.int .i64 0, .int .i64 0, .int .i64 0, .int .i64 0, .int .i64 0, .int .i64 0, .int .i64 0, .string ⟨#[]⟩]) 59); (have NL := Below.nw vx (.cells (#[.int .i64 0, .int .i64 0, .int .i64 0, .int .i64 0, .int .i64 0, .int .i64 0, .int .i64 0, .string ⟨#[]⟩]) 59)); (have hk1 : v2.heap.size ≤ vx.heap.size := XB.size); (replace XB := XB.trans (NL.mono XB.size)); (clear NL); (generalize vx.alloc (.cells (#[.int .i64 0, .int .i64 0, .int .i64 0, .int .i64 0, .int .i64 0, .int .i64 0, .int .i64 0, .string ⟨#[]⟩]) 59) = vy at *); (generalize vx.heap.size = k1 at *)
      refine hK.out _ _ ?_ (fun hHeld => ?_)
      · first | exact SK.out _ XB | exact SK.out _ (Below.drew (Below.refl _ _))
      clear hK K
      (try simp only [Act.put, zSb, zS0, zS1])
      exact T12 k1 _ ⟨hk1, K1, XB⟩
    intro RC vx
    first | (intro hF; obtain ⟨OC, XB⟩ := hF; have hHeld : ((fun w' => (loadCells ⟨w.heap.size, 0, none⟩ 11).run Tryz.prog w' = .ok AC w' ∧ (loadCells ⟨w.heap.size + 1, 0, none⟩ 16).run Tryz.prog w' = .ok AN w')) vx := SK.out _ XB) | (intro OC XB; have hHeld : ((fun w' => (loadCells ⟨w.heap.size, 0, none⟩ 11).run Tryz.prog w' = .ok AC w' ∧ (loadCells ⟨w.heap.size + 1, 0, none⟩ 16).run Tryz.prog w' = .ok AN w')) vx := SK.out _ XB)
    refine wpAnyH_ready (rs := [3, 11, 12]) (by kernel_rfl) (by simp) ?_
    refine (AllReadyH.cons (by rw [List.getElem?_toArray]; rfl) (fun K hK => ?_) (AllReadyH.cons (by rw [List.getElem?_toArray]; rfl) (fun K hK => ?_) (AllReadyH.cons (by rw [List.getElem?_toArray]; rfl) (fun K hK => ?_) AllReadyH.nil)))
    · go_simp
      refine (CTN vx (B.trans (XB.mono B.size))).mono ?_; rintro ee vy ⟨RN, rfl, ON0, hbl⟩; (have ON := ON0.src); (replace XB := XB.trans (hbl.mono XB.size)); (replace OC := OC.below hbl); (clear hbl ON0)
      (try go_wp2_with fail)
      refine hK.out _ _ ?_ (fun hHeld => ?_)
      · first | exact SK.out _ XB | exact SK.out _ (Below.drew (Below.refl _ _))
      clear hK K
      (try simp only [Act.put, zSb, zS0, zS1])
      exact T1_3 RC RN _ ⟨OC, ON, XB⟩
    · go_simp
      (have K0 := Bo.new vx (#[.int .i64 0, .int .i64 0, .int .i64 0, .int .i64 0, .bool false, .int .i64 0, .int .i64 0, .int .i64 0, .int .i64 0, .int .i64 0, .slice none 0 0, .slice none 0 0, .bool false, .int .i64 0, .slice none 0 0, .int .i64 0]) 57); (have NL := Below.nw vx (.cells (#[.int .i64 0, .int .i64 0, .int .i64 0, .int .i64 0, .bool false, .int .i64 0, .int .i64 0, .int .i64 0, .int .i64 0, .int .i64 0, .slice none 0 0, .slice none 0 0, .bool false, .int .i64 0, .slice none 0 0, .int .i64 0]) 57)); (have hk0 : v2.heap.size ≤ vx.heap.size := XB.size); (replace XB := XB.trans (NL.mono XB.size)); (replace OC := OC.below NL); (clear NL); (generalize vx.alloc (.cells (#[.int .i64 0, .int .i64 0, .int .i64 0, .int .i64 0, .bool false, .int .i64 0, .int .i64 0, .int .i64 0, .int .i64 0, .int .i64 0, .slice none 0 0, .slice none 0 0, .bool false, .int .i64 0, .slice none 0 0, .int .i64 0]) 57) = vy at *); (generalize vx.heap.size = k0 at *)
      refine hK.out _ _ ?_ (fun hHeld => ?_)
      · first | exact SK.out _ XB | exact SK.out _ (Below.drew (Below.refl _ _))
      clear hK K
      (try simp only [Act.put, zSb, zS0, zS1])
      exact T1_11 k0 RC _ ⟨hk0, K0, OC, XB⟩
    · go_simp
      (have K1 := Bo.new vx (#[.int .i64 0, .int .i64 0, .int .i64 0, .int .i64 0, .int .i64 0, .int .i64 0, .int .i64 0, .string ⟨#[]⟩]) 59); (have NL := Below.nw vx (.cells (#[.int .i64 0, .int .i64 0, .int .i64 0, .int .i64 0, .int .i64 0, .int .i64 0, .int .i64 0, .string ⟨#[]⟩]) 59)); (have hk1 : v2.heap.size ≤ vx.heap.size := XB.size); (replace XB := XB.trans (NL.mono XB.size)); (replace OC := OC.below NL); (clear NL); (generalize vx.alloc (.cells (#[.int .i64 0, .int .i64 0, .int .i64 0, .int .i64 0, .int .i64 0, .int .i64 0, .int .i64 0, .string ⟨#[]⟩]) 59) = vy at *); (generalize vx.heap.size = k1 at *)
      refine hK.out _ _ ?_ (fun hHeld => ?_)
      · first | exact SK.out _ XB | exact SK.out _ (Below.drew (Below.refl _ _))
      clear hK K
      (try simp only [Act.put, zSb, zS0, zS1])
      exact T1_12 k1 RC _ ⟨hk1, K1, OC, XB⟩
    intro k0 vx
    first | (intro hF; obtain ⟨hk0, K0, XB⟩ := hF; have hHeld : ((fun w' => (loadCells ⟨w.heap.size, 0, none⟩ 11).run Tryz.prog w' = .ok AC w' ∧ (loadCells ⟨w.heap.size + 1, 0, none⟩ 16).run Tryz.prog w' = .ok AN w')) vx := SK.out _ XB) | (intro hk0 K0 XB; have hHeld : ((fun w' => (loadCells ⟨w.heap.size, 0, none⟩ 11).run Tryz.prog w' = .ok AC w' ∧ (loadCells ⟨w.heap.size + 1, 0, none⟩ 16).run Tryz.prog w' = .ok AN w')) vx := SK.out _ XB)
    refine wpAnyH_ready (rs := [1, 12]) (by kernel_rfl) (by simp) ?_
    refine (AllReadyH.cons (by rw [List.getElem?_toArray]; rfl) (fun K hK => ?_) (AllReadyH.cons (by rw [List.getElem?_toArray]; rfl) (fun K hK => ?_) AllReadyH.nil))
    · go_simp
      refine (CTC vx (B.trans (XB.mono B.size))).mono ?_; rintro ee vy ⟨RC, rfl, OC0, hbl⟩; (have OC := OC0.src); (replace XB := XB.trans (hbl.mono XB.size)); (replace K0 := K0.below hbl); (clear hbl OC0)
      (try go_wp2_with fail)
      refine hK.out _ _ ?_ (fun hHeld => ?_)
      · first | exact SK.out _ XB | exact SK.out _ (Below.drew (Below.refl _ _))
      clear hK K
      (try simp only [Act.put, zSb, zS0, zS1])
      exact T1_11 k0 RC _ ⟨hk0, K0, OC, XB⟩
    · go_simp
      (have K1 := Bo.new vx (#[.int .i64 0, .int .i64 0, .int .i64 0, .int .i64 0, .int .i64 0, .int .i64 0, .int .i64 0, .string ⟨#[]⟩]) 59); (have NL := Below.nw vx (.cells (#[.int .i64 0, .int .i64 0, .int .i64 0, .int .i64 0, .int .i64 0, .int .i64 0, .int .i64 0, .string ⟨#[]⟩]) 59)); (have hk1 : v2.heap.size ≤ vx.heap.size := XB.size); (have y0 : k0 < vx.heap.size := K0.1); (replace K0 := K0.below NL); (replace XB := XB.trans (NL.mono XB.size)); (clear NL); (generalize vx.alloc (.cells (#[.int .i64 0, .int .i64 0, .int .i64 0, .int .i64 0, .int .i64 0, .int .i64 0, .int .i64 0, .string ⟨#[]⟩]) 59) = vy at *); (generalize vx.heap.size = k1 at *); (have d01 : k0 ≠ k1 := by omega)
      refine hK.out _ _ ?_ (fun hHeld => ?_)
      · first | exact SK.out _ XB | exact SK.out _ (Below.drew (Below.refl _ _))
      clear hK K
      (try simp only [Act.put, zSb, zS0, zS1])
      exact T11_12 k0 k1 _ ⟨hk0, hk1, K0, K1, d01, XB⟩
    intro k1 vx
    first | (intro hF; obtain ⟨hk1, K1, XB⟩ := hF; have hHeld : ((fun w' => (loadCells ⟨w.heap.size, 0, none⟩ 11).run Tryz.prog w' = .ok AC w' ∧ (loadCells ⟨w.heap.size + 1, 0, none⟩ 16).run Tryz.prog w' = .ok AN w')) vx := SK.out _ XB) | (intro hk1 K1 XB; have hHeld : ((fun w' => (loadCells ⟨w.heap.size, 0, none⟩ 11).run Tryz.prog w' = .ok AC w' ∧ (loadCells ⟨w.heap.size + 1, 0, none⟩ 16).run Tryz.prog w' = .ok AN w')) vx := SK.out _ XB)
    refine wpAnyH_ready (rs := [1, 11]) (by kernel_rfl) (by simp) ?_
    refine (AllReadyH.cons (by rw [List.getElem?_toArray]; rfl) (fun K hK => ?_) (AllReadyH.cons (by rw [List.getElem?_toArray]; rfl) (fun K hK => ?_) AllReadyH.nil))
    · go_simp
      refine (CTC vx (B.trans (XB.mono B.size))).mono ?_; rintro ee vy ⟨RC, rfl, OC0, hbl⟩; (have OC := OC0.src); (replace XB := XB.trans (hbl.mono XB.size)); (replace K1 := K1.below hbl); (clear hbl OC0)
      (try go_wp2_with fail)
      refine hK.out _ _ ?_ (fun hHeld => ?_)
      · first | exact SK.out _ XB | exact SK.out _ (Below.drew (Below.refl _ _))
      clear hK K
      (try simp only [Act.put, zSb, zS0, zS1])
      exact T1_12 k1 RC _ ⟨hk1, K1, OC, XB⟩
    · go_simp
      (have K0 := Bo.new vx (#[.int .i64 0, .int .i64 0, .int .i64 0, .int .i64 0, .bool false, .int .i64 0, .int .i64 0, .int .i64 0, .int .i64 0, .int .i64 0, .slice none 0 0, .slice none 0 0, .bool false, .int .i64 0, .slice none 0 0, .int .i64 0]) 57); (have NL := Below.nw vx (.cells (#[.int .i64 0, .int .i64 0, .int .i64 0, .int .i64 0, .bool false, .int .i64 0, .int .i64 0, .int .i64 0, .int .i64 0, .int .i64 0, .slice none 0 0, .slice none 0 0, .bool false, .int .i64 0, .slice none 0 0, .int .i64 0]) 57)); (have hk0 : v2.heap.size ≤ vx.heap.size := XB.size); (have y1 : k1 < vx.heap.size := K1.1); (replace K1 := K1.below NL); (replace XB := XB.trans (NL.mono XB.size)); (clear NL); (generalize vx.alloc (.cells (#[.int .i64 0, .int .i64 0, .int .i64 0, .int .i64 0, .bool false, .int .i64 0, .int .i64 0, .int .i64 0, .int .i64 0, .int .i64 0, .slice none 0 0, .slice none 0 0, .bool false, .int .i64 0, .slice none 0 0, .int .i64 0]) 57) = vy at *); (generalize vx.heap.size = k0 at *); (have d01 : k0 ≠ k1 := by omega)
      refine hK.out _ _ ?_ (fun hHeld => ?_)
      · first | exact SK.out _ XB | exact SK.out _ (Below.drew (Below.refl _ _))
      clear hK K
      (try simp only [Act.put, zSb, zS0, zS1])
      exact T11_12 k0 k1 _ ⟨hk0, hk1, K0, K1, d01, XB⟩
    intro RC RN vx
    first | (intro hF; obtain ⟨OC, ON, XB⟩ := hF; have hHeld : ((fun w' => (loadCells ⟨w.heap.size, 0, none⟩ 11).run Tryz.prog w' = .ok AC w' ∧ (loadCells ⟨w.heap.size + 1, 0, none⟩ 16).run Tryz.prog w' = .ok AN w')) vx := SK.out _ XB) | (intro OC ON XB; have hHeld : ((fun w' => (loadCells ⟨w.heap.size, 0, none⟩ 11).run Tryz.prog w' = .ok AC w' ∧ (loadCells ⟨w.heap.size + 1, 0, none⟩ 16).run Tryz.prog w' = .ok AN w')) vx := SK.out _ XB)
    refine wpAnyH_ready (rs := [6, 11, 12]) (by kernel_rfl) (by simp) ?_
    refine (AllReadyH.cons (by rw [List.getElem?_toArray]; rfl) (fun K hK => ?_) (AllReadyH.cons (by rw [List.getElem?_toArray]; rfl) (fun K hK => ?_) (AllReadyH.cons (by rw [List.getElem?_toArray]; rfl) (fun K hK => ?_) AllReadyH.nil)))
    · go_simp
      (have hlz : v2.heap.size ≤ vx.heap.size := XB.size); refine (CS vx RC RN OC ON).mono ?_; rintro ee vy ⟨RW, rfl, OW, hbl⟩; (replace XB := XB.trans (hbl.mono XB.size)); (have huz : vy.heap.size ≤ vy.heap.size := Nat.le_refl _); (clear hbl OC ON); (generalize hlz0 : vx.heap.size = lz at *); (generalize huz0 : vy.heap.size = uz at *); (replace huz : uz ≤ vy.heap.size := Nat.le_of_eq huz0.symm); (clear hlz0 huz0)
      (try go_wp2_with fail)
      refine hK.out _ _ ?_ (fun hHeld => ?_)
      · first | exact SK.out _ XB | exact SK.out _ (Below.drew (Below.refl _ _))
      clear hK K
      (try simp only [Act.put, zSb, zS0, zS1])
      refine zTk 7 ?_
      (try simp only [Act.put, zSb, zS0, zS1])
      refine zTk 8 ?_
      (try simp only [Act.put, zSb, zS0, zS1])
      refine zTk 9 ?_
      (try simp only [Act.put, zSb, zS0, zS1])
      refine zTk 10 ?_
      (try simp only [Act.put, zSb, zS0, zS1])
      exact T1_3_6 RC RN RW lz uz _ ⟨OW, hlz, huz, XB⟩
    · go_simp
      (have K0 := Bo.new vx (#[.int .i64 0, .int .i64 0, .int .i64 0, .int .i64 0, .bool false, .int .i64 0, .int .i64 0, .int .i64 0, .int .i64 0, .int .i64 0, .slice none 0 0, .slice none 0 0, .bool false, .int .i64 0, .slice none 0 0, .int .i64 0]) 57); (have NL := Below.nw vx (.cells (#[.int .i64 0, .int .i64 0, .int .i64 0, .int .i64 0, .bool false, .int .i64 0, .int .i64 0, .int .i64 0, .int .i64 0, .int .i64 0, .slice none 0 0, .slice none 0 0, .bool false, .int .i64 0, .slice none 0 0, .int .i64 0]) 57)); (have hk0 : v2.heap.size ≤ vx.heap.size := XB.size); (replace XB := XB.trans (NL.mono XB.size)); (replace OC := OC.below NL); (replace ON := ON.below NL); (clear NL); (generalize vx.alloc (.cells (#[.int .i64 0, .int .i64 0, .int .i64 0, .int .i64 0, .bool false, .int .i64 0, .int .i64 0, .int .i64 0, .int .i64 0, .int .i64 0, .slice none 0 0, .slice none 0 0, .bool false, .int .i64 0, .slice none 0 0, .int .i64 0]) 57) = vy at *); (generalize vx.heap.size = k0 at *)
      refine hK.out _ _ ?_ (fun hHeld => ?_)
      · first | exact SK.out _ XB | exact SK.out _ (Below.drew (Below.refl _ _))
      clear hK K
      (try simp only [Act.put, zSb, zS0, zS1])
      exact T1_3_11 k0 RC RN _ ⟨hk0, K0, OC, ON, XB⟩
    · go_simp
      (have K1 := Bo.new vx (#[.int .i64 0, .int .i64 0, .int .i64 0, .int .i64 0, .int .i64 0, .int .i64 0, .int .i64 0, .string ⟨#[]⟩]) 59); (have NL := Below.nw vx (.cells (#[.int .i64 0, .int .i64 0, .int .i64 0, .int .i64 0, .int .i64 0, .int .i64 0, .int .i64 0, .string ⟨#[]⟩]) 59)); (have hk1 : v2.heap.size ≤ vx.heap.size := XB.size); (replace XB := XB.trans (NL.mono XB.size)); (replace OC := OC.below NL); (replace ON := ON.below NL); (clear NL); (generalize vx.alloc (.cells (#[.int .i64 0, .int .i64 0, .int .i64 0, .int .i64 0, .int .i64 0, .int .i64 0, .int .i64 0, .string ⟨#[]⟩]) 59) = vy at *); (generalize vx.heap.size = k1 at *)
      refine hK.out _ _ ?_ (fun hHeld => ?_)
      · first | exact SK.out _ XB | exact SK.out _ (Below.drew (Below.refl _ _))
      clear hK K
      (try simp only [Act.put, zSb, zS0, zS1])
      exact T1_3_12 k1 RC RN _ ⟨hk1, K1, OC, ON, XB⟩
    intro k0 RC vx
    first | (intro hF; obtain ⟨hk0, K0, OC, XB⟩ := hF; have hHeld : ((fun w' => (loadCells ⟨w.heap.size, 0, none⟩ 11).run Tryz.prog w' = .ok AC w' ∧ (loadCells ⟨w.heap.size + 1, 0, none⟩ 16).run Tryz.prog w' = .ok AN w')) vx := SK.out _ XB) | (intro hk0 K0 OC XB; have hHeld : ((fun w' => (loadCells ⟨w.heap.size, 0, none⟩ 11).run Tryz.prog w' = .ok AC w' ∧ (loadCells ⟨w.heap.size + 1, 0, none⟩ 16).run Tryz.prog w' = .ok AN w')) vx := SK.out _ XB)
    refine wpAnyH_ready (rs := [3, 12]) (by kernel_rfl) (by simp) ?_
    refine (AllReadyH.cons (by rw [List.getElem?_toArray]; rfl) (fun K hK => ?_) (AllReadyH.cons (by rw [List.getElem?_toArray]; rfl) (fun K hK => ?_) AllReadyH.nil))
    · go_simp
      refine (CTN vx (B.trans (XB.mono B.size))).mono ?_; rintro ee vy ⟨RN, rfl, ON0, hbl⟩; (have ON := ON0.src); (replace XB := XB.trans (hbl.mono XB.size)); (replace OC := OC.below hbl); (replace K0 := K0.below hbl); (clear hbl ON0)
      (try go_wp2_with fail)
      refine hK.out _ _ ?_ (fun hHeld => ?_)
      · first | exact SK.out _ XB | exact SK.out _ (Below.drew (Below.refl _ _))
      clear hK K
      (try simp only [Act.put, zSb, zS0, zS1])
      exact T1_3_11 k0 RC RN _ ⟨hk0, K0, OC, ON, XB⟩
    · go_simp
      (have K1 := Bo.new vx (#[.int .i64 0, .int .i64 0, .int .i64 0, .int .i64 0, .int .i64 0, .int .i64 0, .int .i64 0, .string ⟨#[]⟩]) 59); (have NL := Below.nw vx (.cells (#[.int .i64 0, .int .i64 0, .int .i64 0, .int .i64 0, .int .i64 0, .int .i64 0, .int .i64 0, .string ⟨#[]⟩]) 59)); (have hk1 : v2.heap.size ≤ vx.heap.size := XB.size); (have y0 : k0 < vx.heap.size := K0.1); (replace K0 := K0.below NL); (replace XB := XB.trans (NL.mono XB.size)); (replace OC := OC.below NL); (clear NL); (generalize vx.alloc (.cells (#[.int .i64 0, .int .i64 0, .int .i64 0, .int .i64 0, .int .i64 0, .int .i64 0, .int .i64 0, .string ⟨#[]⟩]) 59) = vy at *); (generalize vx.heap.size = k1 at *); (have d01 : k0 ≠ k1 := by omega)
      refine hK.out _ _ ?_ (fun hHeld => ?_)
      · first | exact SK.out _ XB | exact SK.out _ (Below.drew (Below.refl _ _))
      clear hK K
      (try simp only [Act.put, zSb, zS0, zS1])
      exact T1_11_12 k0 k1 RC _ ⟨hk0, hk1, K0, K1, d01, OC, XB⟩
    intro k1 RC vx
    first | (intro hF; obtain ⟨hk1, K1, OC, XB⟩ := hF; have hHeld : ((fun w' => (loadCells ⟨w.heap.size, 0, none⟩ 11).run Tryz.prog w' = .ok AC w' ∧ (loadCells ⟨w.heap.size + 1, 0, none⟩ 16).run Tryz.prog w' = .ok AN w')) vx := SK.out _ XB) | (intro hk1 K1 OC XB; have hHeld : ((fun w' => (loadCells ⟨w.heap.size, 0, none⟩ 11).run Tryz.prog w' = .ok AC w' ∧ (loadCells ⟨w.heap.size + 1, 0, none⟩ 16).run Tryz.prog w' = .ok AN w')) vx := SK.out _ XB)
    refine wpAnyH_ready (rs := [3, 11]) (by kernel_rfl) (by simp) ?_
    refine (AllReadyH.cons (by rw [List.getElem?_toArray]; rfl) (fun K hK => ?_) (AllReadyH.cons (by rw [List.getElem?_toArray]; rfl) (fun K hK => ?_) AllReadyH.nil))
    · go_simp
      refine (CTN vx (B.trans (XB.mono B.size))).mono ?_; rintro ee vy ⟨RN, rfl, ON0, hbl⟩; (have ON := ON0.src); (replace XB := XB.trans (hbl.mono XB.size)); (replace OC := OC.below hbl); (replace K1 := K1.below hbl); (clear hbl ON0)
      (try go_wp2_with fail)
      refine hK.out _ _ ?_ (fun hHeld => ?_)
      · first | exact SK.out _ XB | exact SK.out _ (Below.drew (Below.refl _ _))
      clear hK K
      (try simp only [Act.put, zSb, zS0, zS1])
      exact T1_3_12 k1 RC RN _ ⟨hk1, K1, OC, ON, XB⟩
    · go_simp
      (have K0 := Bo.new vx (#[.int .i64 0, .int .i64 0, .int .i64 0, .int .i64 0, .bool false, .int .i64 0, .int .i64 0, .int .i64 0, .int .i64 0, .int .i64 0, .slice none 0 0, .slice none 0 0, .bool false, .int .i64 0, .slice none 0 0, .int .i64 0]) 57); (have NL := Below.nw vx (.cells (#[.int .i64 0, .int .i64 0, .int .i64 0, .int .i64 0, .bool false, .int .i64 0, .int .i64 0, .int .i64 0, .int .i64 0, .int .i64 0, .slice none 0 0, .slice none 0 0, .bool false, .int .i64 0, .slice none 0 0, .int .i64 0]) 57)); (have hk0 : v2.heap.size ≤ vx.heap.size := XB.size); (have y1 : k1 < vx.heap.size := K1.1); (replace K1 := K1.below NL); (replace XB := XB.trans (NL.mono XB.size)); (replace OC := OC.below NL); (clear NL); (generalize vx.alloc (.cells (#[.int .i64 0, .int .i64 0, .int .i64 0, .int .i64 0, .bool false, .int .i64 0, .int .i64 0, .int .i64 0, .int .i64 0, .int .i64 0, .slice none 0 0, .slice none 0 0, .bool false, .int .i64 0, .slice none 0 0, .int .i64 0]) 57) = vy at *); (generalize vx.heap.size = k0 at *); (have d01 : k0 ≠ k1 := by omega)
      refine hK.out _ _ ?_ (fun hHeld => ?_)
      · first | exact SK.out _ XB | exact SK.out _ (Below.drew (Below.refl _ _))
      clear hK K
      (try simp only [Act.put, zSb, zS0, zS1])
      exact T1_11_12 k0 k1 RC _ ⟨hk0, hk1, K0, K1, d01, OC, XB⟩
    intro k0 k1 vx
    first | (intro hF; obtain ⟨hk0, hk1, K0, K1, d01, XB⟩ := hF; have hHeld : ((fun w' => (loadCells ⟨w.heap.size, 0, none⟩ 11).run Tryz.prog w' = .ok AC w' ∧ (loadCells ⟨w.heap.size + 1, 0, none⟩ 16).run Tryz.prog w' = .ok AN w')) vx := SK.out _ XB) | (intro hk0 hk1 K0 K1 d01 XB; have hHeld : ((fun w' => (loadCells ⟨w.heap.size, 0, none⟩ 11).run Tryz.prog w' = .ok AC w' ∧ (loadCells ⟨w.heap.size + 1, 0, none⟩ 16).run Tryz.prog w' = .ok AN w')) vx := SK.out _ XB)
    refine wpAnyH_ready (rs := [1]) (by kernel_rfl) (by simp) ?_
    refine (AllReadyH.cons (by rw [List.getElem?_toArray]; rfl) (fun K hK => ?_) AllReadyH.nil)
    go_simp
    refine (CTC vx (B.trans (XB.mono B.size))).mono ?_; rintro ee vy ⟨RC, rfl, OC0, hbl⟩; (have OC := OC0.src); (replace XB := XB.trans (hbl.mono XB.size)); (replace K0 := K0.below hbl); (replace K1 := K1.below hbl); (clear hbl OC0)
    (try go_wp2_with fail)
    refine hK.out _ _ ?_ (fun hHeld => ?_)
    · first | exact SK.out _ XB | exact SK.out _ (Below.drew (Below.refl _ _))
    clear hK K
    (try simp only [Act.put, zSb, zS0, zS1])
    exact T1_11_12 k0 k1 RC _ ⟨hk0, hk1, K0, K1, d01, OC, XB⟩
    intro RC RN RW lz uz vx
    first | (intro hF; obtain ⟨OW, hlz, huz, XB⟩ := hF; have hHeld : ((fun w' => (loadCells ⟨w.heap.size, 0, none⟩ 11).run Tryz.prog w' = .ok AC w' ∧ (loadCells ⟨w.heap.size + 1, 0, none⟩ 16).run Tryz.prog w' = .ok AN w')) vx := SK.out _ XB) | (intro OW hlz huz XB; have hHeld : ((fun w' => (loadCells ⟨w.heap.size, 0, none⟩ 11).run Tryz.prog w' = .ok AC w' ∧ (loadCells ⟨w.heap.size + 1, 0, none⟩ 16).run Tryz.prog w' = .ok AN w')) vx := SK.out _ XB)
    refine wpAnyH_ready (rs := [11, 12]) (by kernel_rfl) (by simp) ?_
    refine (AllReadyH.cons (by rw [List.getElem?_toArray]; rfl) (fun K hK => ?_) (AllReadyH.cons (by rw [List.getElem?_toArray]; rfl) (fun K hK => ?_) AllReadyH.nil))
    · go_simp
      (have K0 := Bo.new vx (#[.int .i64 0, .int .i64 0, .int .i64 0, .int .i64 0, .bool false, .int .i64 0, .int .i64 0, .int .i64 0, .int .i64 0, .int .i64 0, .slice none 0 0, .slice none 0 0, .bool false, .int .i64 0, .slice none 0 0, .int .i64 0]) 57); (have NL := Below.nw vx (.cells (#[.int .i64 0, .int .i64 0, .int .i64 0, .int .i64 0, .bool false, .int .i64 0, .int .i64 0, .int .i64 0, .int .i64 0, .int .i64 0, .slice none 0 0, .slice none 0 0, .bool false, .int .i64 0, .slice none 0 0, .int .i64 0]) 57)); (have hk0 : v2.heap.size ≤ vx.heap.size := XB.size); (have e0 : vx.heap.size < lz ∨ uz ≤ vx.heap.size := .inr huz); (replace huz : uz ≤ (vx.alloc (.cells (#[.int .i64 0, .int .i64 0, .int .i64 0, .int .i64 0, .bool false, .int .i64 0, .int .i64 0, .int .i64 0, .int .i64 0, .int .i64 0, .slice none 0 0, .slice none 0 0, .bool false, .int .i64 0, .slice none 0 0, .int .i64 0]) 57)).heap.size := Nat.le_trans huz NL.size); (replace XB := XB.trans (NL.mono XB.size)); (replace OW := OW.below NL); (clear NL); (generalize vx.alloc (.cells (#[.int .i64 0, .int .i64 0, .int .i64 0, .int .i64 0, .bool false, .int .i64 0, .int .i64 0, .int .i64 0, .int .i64 0, .int .i64 0, .slice none 0 0, .slice none 0 0, .bool false, .int .i64 0, .slice none 0 0, .int .i64 0]) 57) = vy at *); (generalize vx.heap.size = k0 at *)
      refine hK.out _ _ ?_ (fun hHeld => ?_)
      · first | exact SK.out _ XB | exact SK.out _ (Below.drew (Below.refl _ _))
      clear hK K
      (try simp only [Act.put, zSb, zS0, zS1])
      exact T1_3_6_11 k0 RC RN RW lz uz _ ⟨hk0, K0, OW, hlz, huz, e0, XB⟩
    · go_simp
      (have K1 := Bo.new vx (#[.int .i64 0, .int .i64 0, .int .i64 0, .int .i64 0, .int .i64 0, .int .i64 0, .int .i64 0, .string ⟨#[]⟩]) 59); (have NL := Below.nw vx (.cells (#[.int .i64 0, .int .i64 0, .int .i64 0, .int .i64 0, .int .i64 0, .int .i64 0, .int .i64 0, .string ⟨#[]⟩]) 59)); (have hk1 : v2.heap.size ≤ vx.heap.size := XB.size); (have e1 : vx.heap.size < lz ∨ uz ≤ vx.heap.size := .inr huz); (replace huz : uz ≤ (vx.alloc (.cells (#[.int .i64 0, .int .i64 0, .int .i64 0, .int .i64 0, .int .i64 0, .int .i64 0, .int .i64 0, .string ⟨#[]⟩]) 59)).heap.size := Nat.le_trans huz NL.size); (replace XB := XB.trans (NL.mono XB.size)); (replace OW := OW.below NL); (clear NL); (generalize vx.alloc (.cells (#[.int .i64 0, .int .i64 0, .int .i64 0, .int .i64 0, .int .i64 0, .int .i64 0, .int .i64 0, .string ⟨#[]⟩]) 59) = vy at *); (generalize vx.heap.size = k1 at *)
      refine hK.out _ _ ?_ (fun hHeld => ?_)
      · first | exact SK.out _ XB | exact SK.out _ (Below.drew (Below.refl _ _))
      clear hK K
      (try simp only [Act.put, zSb, zS0, zS1])
      exact T1_3_6_12 k1 RC RN RW lz uz _ ⟨hk1, K1, OW, hlz, huz, e1, XB⟩
    intro k0 RC RN vx
    first | (intro hF; obtain ⟨hk0, K0, OC, ON, XB⟩ := hF; have hHeld : ((fun w' => (loadCells ⟨w.heap.size, 0, none⟩ 11).run Tryz.prog w' = .ok AC w' ∧ (loadCells ⟨w.heap.size + 1, 0, none⟩ 16).run Tryz.prog w' = .ok AN w')) vx := SK.out _ XB) | (intro hk0 K0 OC ON XB; have hHeld : ((fun w' => (loadCells ⟨w.heap.size, 0, none⟩ 11).run Tryz.prog w' = .ok AC w' ∧ (loadCells ⟨w.heap.size + 1, 0, none⟩ 16).run Tryz.prog w' = .ok AN w')) vx := SK.out _ XB)
    refine wpAnyH_ready (rs := [6, 12]) (by kernel_rfl) (by simp) ?_
    refine (AllReadyH.cons (by rw [List.getElem?_toArray]; rfl) (fun K hK => ?_) (AllReadyH.cons (by rw [List.getElem?_toArray]; rfl) (fun K hK => ?_) AllReadyH.nil))
    · go_simp
      (have hlz : v2.heap.size ≤ vx.heap.size := XB.size); (have y0 : k0 < vx.heap.size := K0.1); refine (CS vx RC RN OC ON).mono ?_; rintro ee vy ⟨RW, rfl, OW, hbl⟩; (replace XB := XB.trans (hbl.mono XB.size)); (replace K0 := K0.below hbl); (have huz : vy.heap.size ≤ vy.heap.size := Nat.le_refl _); (have e0 : k0 < vx.heap.size ∨ vy.heap.size ≤ k0 := .inl y0); (clear hbl OC ON y0); (generalize hlz0 : vx.heap.size = lz at *); (generalize huz0 : vy.heap.size = uz at *); (replace huz : uz ≤ vy.heap.size := Nat.le_of_eq huz0.symm); (clear hlz0 huz0)
      (try go_wp2_with fail)
      refine hK.out _ _ ?_ (fun hHeld => ?_)
      · first | exact SK.out _ XB | exact SK.out _ (Below.drew (Below.refl _ _))
      clear hK K
      (try simp only [Act.put, zSb, zS0, zS1])
      refine zTk 7 ?_
      (try simp only [Act.put, zSb, zS0, zS1])
      refine zTk 8 ?_
      (try simp only [Act.put, zSb, zS0, zS1])
      refine zTk 9 ?_
      (try simp only [Act.put, zSb, zS0, zS1])
      refine zTk 10 ?_
      (try simp only [Act.put, zSb, zS0, zS1])
      exact T1_3_6_11 k0 RC RN RW lz uz _ ⟨hk0, K0, OW, hlz, huz, e0, XB⟩
    · go_simp
      (have K1 := Bo.new vx (#[.int .i64 0, .int .i64 0, .int .i64 0, .int .i64 0, .int .i64 0, .int .i64 0, .int .i64 0, .string ⟨#[]⟩]) 59); (have NL := Below.nw vx (.cells (#[.int .i64 0, .int .i64 0, .int .i64 0, .int .i64 0, .int .i64 0, .int .i64 0, .int .i64 0, .string ⟨#[]⟩]) 59)); (have hk1 : v2.heap.size ≤ vx.heap.size := XB.size); (have y0 : k0 < vx.heap.size := K0.1); (replace K0 := K0.below NL); (replace XB := XB.trans (NL.mono XB.size)); (replace OC := OC.below NL); (replace ON := ON.below NL); (clear NL); (generalize vx.alloc (.cells (#[.int .i64 0, .int .i64 0, .int .i64 0, .int .i64 0, .int .i64 0, .int .i64 0, .int .i64 0, .string ⟨#[]⟩]) 59) = vy at *); (generalize vx.heap.size = k1 at *); (have d01 : k0 ≠ k1 := by omega)
      refine hK.out _ _ ?_ (fun hHeld => ?_)
      · first | exact SK.out _ XB | exact SK.out _ (Below.drew (Below.refl _ _))
      clear hK K
      (try simp only [Act.put, zSb, zS0, zS1])
      exact T1_3_11_12 k0 k1 RC RN _ ⟨hk0, hk1, K0, K1, d01, OC, ON, XB⟩
    intro k1 RC RN vx
    first | (intro hF; obtain ⟨hk1, K1, OC, ON, XB⟩ := hF; have hHeld : ((fun w' => (loadCells ⟨w.heap.size, 0, none⟩ 11).run Tryz.prog w' = .ok AC w' ∧ (loadCells ⟨w.heap.size + 1, 0, none⟩ 16).run Tryz.prog w' = .ok AN w')) vx := SK.out _ XB) | (intro hk1 K1 OC ON XB; have hHeld : ((fun w' => (loadCells ⟨w.heap.size, 0, none⟩ 11).run Tryz.prog w' = .ok AC w' ∧ (loadCells ⟨w.heap.size + 1, 0, none⟩ 16).run Tryz.prog w' = .ok AN w')) vx := SK.out _ XB)
    refine wpAnyH_ready (rs := [6, 11]) (by kernel_rfl) (by simp) ?_
    refine (AllReadyH.cons (by rw [List.getElem?_toArray]; rfl) (fun K hK => ?_) (AllReadyH.cons (by rw [List.getElem?_toArray]; rfl) (fun K hK => ?_) AllReadyH.nil))
    · go_simp
      (have hlz : v2.heap.size ≤ vx.heap.size := XB.size); (have y1 : k1 < vx.heap.size := K1.1); refine (CS vx RC RN OC ON).mono ?_; rintro ee vy ⟨RW, rfl, OW, hbl⟩; (replace XB := XB.trans (hbl.mono XB.size)); (replace K1 := K1.below hbl); (have huz : vy.heap.size ≤ vy.heap.size := Nat.le_refl _); (have e1 : k1 < vx.heap.size ∨ vy.heap.size ≤ k1 := .inl y1); (clear hbl OC ON y1); (generalize hlz0 : vx.heap.size = lz at *); (generalize huz0 : vy.heap.size = uz at *); (replace huz : uz ≤ vy.heap.size := Nat.le_of_eq huz0.symm); (clear hlz0 huz0)
      (try go_wp2_with fail)
      refine hK.out _ _ ?_ (fun hHeld => ?_)
      · first | exact SK.out _ XB | exact SK.out _ (Below.drew (Below.refl _ _))
      clear hK K
      (try simp only [Act.put, zSb, zS0, zS1])
      refine zTk 7 ?_
      (try simp only [Act.put, zSb, zS0, zS1])
      refine zTk 8 ?_
      (try simp only [Act.put, zSb, zS0, zS1])
      refine zTk 9 ?_
      (try simp only [Act.put, zSb, zS0, zS1])
      refine zTk 10 ?_
      (try simp only [Act.put, zSb, zS0, zS1])
      exact T1_3_6_12 k1 RC RN RW lz uz _ ⟨hk1, K1, OW, hlz, huz, e1, XB⟩
    · go_simp
      (have K0 := Bo.new vx (#[.int .i64 0, .int .i64 0, .int .i64 0, .int .i64 0, .bool false, .int .i64 0, .int .i64 0, .int .i64 0, .int .i64 0, .int .i64 0, .slice none 0 0, .slice none 0 0, .bool false, .int .i64 0, .slice none 0 0, .int .i64 0]) 57); (have NL := Below.nw vx (.cells (#[.int .i64 0, .int .i64 0, .int .i64 0, .int .i64 0, .bool false, .int .i64 0, .int .i64 0, .int .i64 0, .int .i64 0, .int .i64 0, .slice none 0 0, .slice none 0 0, .bool false, .int .i64 0, .slice none 0 0, .int .i64 0]) 57)); (have hk0 : v2.heap.size ≤ vx.heap.size := XB.size); (have y1 : k1 < vx.heap.size := K1.1); (replace K1 := K1.below NL); (replace XB := XB.trans (NL.mono XB.size)); (replace OC := OC.below NL); (replace ON := ON.below NL); (clear NL); (generalize vx.alloc (.cells (#[.int .i64 0, .int .i64 0, .int .i64 0, .int .i64 0, .bool false, .int .i64 0, .int .i64 0, .int .i64 0, .int .i64 0, .int .i64 0, .slice none 0 0, .slice none 0 0, .bool false, .int .i64 0, .slice none 0 0, .int .i64 0]) 57) = vy at *); (generalize vx.heap.size = k0 at *); (have d01 : k0 ≠ k1 := by omega)
      refine hK.out _ _ ?_ (fun hHeld => ?_)
      · first | exact SK.out _ XB | exact SK.out _ (Below.drew (Below.refl _ _))
      clear hK K
      (try simp only [Act.put, zSb, zS0, zS1])
      exact T1_3_11_12 k0 k1 RC RN _ ⟨hk0, hk1, K0, K1, d01, OC, ON, XB⟩
    intro k0 k1 RC vx
    first | (intro hF; obtain ⟨hk0, hk1, K0, K1, d01, OC, XB⟩ := hF; have hHeld : ((fun w' => (loadCells ⟨w.heap.size, 0, none⟩ 11).run Tryz.prog w' = .ok AC w' ∧ (loadCells ⟨w.heap.size + 1, 0, none⟩ 16).run Tryz.prog w' = .ok AN w')) vx := SK.out _ XB) | (intro hk0 hk1 K0 K1 d01 OC XB; have hHeld : ((fun w' => (loadCells ⟨w.heap.size, 0, none⟩ 11).run Tryz.prog w' = .ok AC w' ∧ (loadCells ⟨w.heap.size + 1, 0, none⟩ 16).run Tryz.prog w' = .ok AN w')) vx := SK.out _ XB)
    refine wpAnyH_ready (rs := [3]) (by kernel_rfl) (by simp) ?_
    refine (AllReadyH.cons (by rw [List.getElem?_toArray]; rfl) (fun K hK => ?_) AllReadyH.nil)
    go_simp
    refine (CTN vx (B.trans (XB.mono B.size))).mono ?_; rintro ee vy ⟨RN, rfl, ON0, hbl⟩; (have ON := ON0.src); (replace XB := XB.trans (hbl.mono XB.size)); (replace OC := OC.below hbl); (replace K0 := K0.below hbl); (replace K1 := K1.below hbl); (clear hbl ON0)
    (try go_wp2_with fail)
    refine hK.out _ _ ?_ (fun hHeld => ?_)
    · first | exact SK.out _ XB | exact SK.out _ (Below.drew (Below.refl _ _))
    clear hK K
    (try simp only [Act.put, zSb, zS0, zS1])
    exact T1_3_11_12 k0 k1 RC RN _ ⟨hk0, hk1, K0, K1, d01, OC, ON, XB⟩
    intro k0 RC RN RW lz uz vx
    first | (intro hF; obtain ⟨hk0, K0, OW, hlz, huz, e0, XB⟩ := hF; have hHeld : ((fun w' => (loadCells ⟨w.heap.size, 0, none⟩ 11).run Tryz.prog w' = .ok AC w' ∧ (loadCells ⟨w.heap.size + 1, 0, none⟩ 16).run Tryz.prog w' = .ok AN w')) vx := SK.out _ XB) | (intro hk0 K0 OW hlz huz e0 XB; have hHeld : ((fun w' => (loadCells ⟨w.heap.size, 0, none⟩ 11).run Tryz.prog w' = .ok AC w' ∧ (loadCells ⟨w.heap.size + 1, 0, none⟩ 16).run Tryz.prog w' = .ok AN w')) vx := SK.out _ XB)
    refine wpAnyH_ready (rs := [12]) (by kernel_rfl) (by simp) ?_
    refine (AllReadyH.cons (by rw [List.getElem?_toArray]; rfl) (fun K hK => ?_) AllReadyH.nil)
    go_simp
    (have K1 := Bo.new vx (#[.int .i64 0, .int .i64 0, .int .i64 0, .int .i64 0, .int .i64 0, .int .i64 0, .int .i64 0, .string ⟨#[]⟩]) 59); (have NL := Below.nw vx (.cells (#[.int .i64 0, .int .i64 0, .int .i64 0, .int .i64 0, .int .i64 0, .int .i64 0, .int .i64 0, .string ⟨#[]⟩]) 59)); (have hk1 : v2.heap.size ≤ vx.heap.size := XB.size); (have y0 : k0 < vx.heap.size := K0.1); (replace K0 := K0.below NL); (have e1 : vx.heap.size < lz ∨ uz ≤ vx.heap.size := .inr huz); (replace huz : uz ≤ (vx.alloc (.cells (#[.int .i64 0, .int .i64 0, .int .i64 0, .int .i64 0, .int .i64 0, .int .i64 0, .int .i64 0, .string ⟨#[]⟩]) 59)).heap.size := Nat.le_trans huz NL.size); (replace XB := XB.trans (NL.mono XB.size)); (replace OW := OW.below NL); (clear NL); (generalize vx.alloc (.cells (#[.int .i64 0, .int .i64 0, .int .i64 0, .int .i64 0, .int .i64 0, .int .i64 0, .int .i64 0, .string ⟨#[]⟩]) 59) = vy at *); (generalize vx.heap.size = k1 at *); (have d01 : k0 ≠ k1 := by omega)
    refine hK.out _ _ ?_ (fun hHeld => ?_)
    · first | exact SK.out _ XB | exact SK.out _ (Below.drew (Below.refl _ _))
    clear hK K
    (try simp only [Act.put, zSb, zS0, zS1])
    exact T1_3_6_11_12 k0 k1 RC RN RW lz uz _ ⟨hk0, hk1, K0, K1, d01, OW, hlz, huz, e0, e1, XB⟩
    intro k1 RC RN RW lz uz vx
    first | (intro hF; obtain ⟨hk1, K1, OW, hlz, huz, e1, XB⟩ := hF; have hHeld : ((fun w' => (loadCells ⟨w.heap.size, 0, none⟩ 11).run Tryz.prog w' = .ok AC w' ∧ (loadCells ⟨w.heap.size + 1, 0, none⟩ 16).run Tryz.prog w' = .ok AN w')) vx := SK.out _ XB) | (intro hk1 K1 OW hlz huz e1 XB; have hHeld : ((fun w' => (loadCells ⟨w.heap.size, 0, none⟩ 11).run Tryz.prog w' = .ok AC w' ∧ (loadCells ⟨w.heap.size + 1, 0, none⟩ 16).run Tryz.prog w' = .ok AN w')) vx := SK.out _ XB)
    refine wpAnyH_ready (rs := [11]) (by kernel_rfl) (by simp) ?_
    refine (AllReadyH.cons (by rw [List.getElem?_toArray]; rfl) (fun K hK => ?_) AllReadyH.nil)
    go_simp
    (have K0 := Bo.new vx (#[.int .i64 0, .int .i64 0, .int .i64 0, .int .i64 0, .bool false, .int .i64 0, .int .i64 0, .int .i64 0, .int .i64 0, .int .i64 0, .slice none 0 0, .slice none 0 0, .bool false, .int .i64 0, .slice none 0 0, .int .i64 0]) 57); (have NL := Below.nw vx (.cells (#[.int .i64 0, .int .i64 0, .int .i64 0, .int .i64 0, .bool false, .int .i64 0, .int .i64 0, .int .i64 0, .int .i64 0, .int .i64 0, .slice none 0 0, .slice none 0 0, .bool false, .int .i64 0, .slice none 0 0, .int .i64 0]) 57)); (have hk0 : v2.heap.size ≤ vx.heap.size := XB.size); (have y1 : k1 < vx.heap.size := K1.1); (replace K1 := K1.below NL); (have e0 : vx.heap.size < lz ∨ uz ≤ vx.heap.size := .inr huz); (replace huz : uz ≤ (vx.alloc (.cells (#[.int .i64 0, .int .i64 0, .int .i64 0, .int .i64 0, .bool false, .int .i64 0, .int .i64 0, .int .i64 0, .int .i64 0, .int .i64 0, .slice none 0 0, .slice none 0 0, .bool false, .int .i64 0, .slice none 0 0, .int .i64 0]) 57)).heap.size := Nat.le_trans huz NL.size); (replace XB := XB.trans (NL.mono XB.size)); (replace OW := OW.below NL); (clear NL); (generalize vx.alloc (.cells (#[.int .i64 0, .int .i64 0, .int .i64 0, .int .i64 0, .bool false, .int .i64 0, .int .i64 0, .int .i64 0, .int .i64 0, .int .i64 0, .slice none 0 0, .slice none 0 0, .bool false, .int .i64 0, .slice none 0 0, .int .i64 0]) 57) = vy at *); (generalize vx.heap.size = k0 at *); (have d01 : k0 ≠ k1 := by omega)
    refine hK.out _ _ ?_ (fun hHeld => ?_)
    · first | exact SK.out _ XB | exact SK.out _ (Below.drew (Below.refl _ _))
    clear hK K
    (try simp only [Act.put, zSb, zS0, zS1])
    exact T1_3_6_11_12 k0 k1 RC RN RW lz uz _ ⟨hk0, hk1, K0, K1, d01, OW, hlz, huz, e0, e1, XB⟩
    intro k0 k1 RC RN vx
    first | (intro hF; obtain ⟨hk0, hk1, K0, K1, d01, OC, ON, XB⟩ := hF; have hHeld : ((fun w' => (loadCells ⟨w.heap.size, 0, none⟩ 11).run Tryz.prog w' = .ok AC w' ∧ (loadCells ⟨w.heap.size + 1, 0, none⟩ 16).run Tryz.prog w' = .ok AN w')) vx := SK.out _ XB) | (intro hk0 hk1 K0 K1 d01 OC ON XB; have hHeld : ((fun w' => (loadCells ⟨w.heap.size, 0, none⟩ 11).run Tryz.prog w' = .ok AC w' ∧ (loadCells ⟨w.heap.size + 1, 0, none⟩ 16).run Tryz.prog w' = .ok AN w')) vx := SK.out _ XB)
    refine wpAnyH_ready (rs := [6]) (by kernel_rfl) (by simp) ?_
    refine (AllReadyH.cons (by rw [List.getElem?_toArray]; rfl) (fun K hK => ?_) AllReadyH.nil)
    go_simp
    (have hlz : v2.heap.size ≤ vx.heap.size := XB.size); (have y0 : k0 < vx.heap.size := K0.1); (have y1 : k1 < vx.heap.size := K1.1); refine (CS vx RC RN OC ON).mono ?_; rintro ee vy ⟨RW, rfl, OW, hbl⟩; (replace XB := XB.trans (hbl.mono XB.size)); (replace K0 := K0.below hbl); (replace K1 := K1.below hbl); (have huz : vy.heap.size ≤ vy.heap.size := Nat.le_refl _); (have e0 : k0 < vx.heap.size ∨ vy.heap.size ≤ k0 := .inl y0); (have e1 : k1 < vx.heap.size ∨ vy.heap.size ≤ k1 := .inl y1); (clear hbl OC ON y0 y1); (generalize hlz0 : vx.heap.size = lz at *); (generalize huz0 : vy.heap.size = uz at *); (replace huz : uz ≤ vy.heap.size := Nat.le_of_eq huz0.symm); (clear hlz0 huz0)
    (try go_wp2_with fail)
    refine hK.out _ _ ?_ (fun hHeld => ?_)
    · first | exact SK.out _ XB | exact SK.out _ (Below.drew (Below.refl _ _))
    clear hK K
    (try simp only [Act.put, zSb, zS0, zS1])
    refine zTk 7 ?_
    (try simp only [Act.put, zSb, zS0, zS1])
    refine zTk 8 ?_
    (try simp only [Act.put, zSb, zS0, zS1])
    refine zTk 9 ?_
    (try simp only [Act.put, zSb, zS0, zS1])
    refine zTk 10 ?_
    (try simp only [Act.put, zSb, zS0, zS1])
    exact T1_3_6_11_12 k0 k1 RC RN RW lz uz _ ⟨hk0, hk1, K0, K1, d01, OW, hlz, huz, e0, e1, XB⟩
    intro k0 k1 RC RN RW lz uz vx
    first | (intro hF; obtain ⟨hk0, hk1, K0, K1, d01, OW, hlz, huz, e0, e1, XB⟩ := hF; have hHeld : ((fun w' => (loadCells ⟨w.heap.size, 0, none⟩ 11).run Tryz.prog w' = .ok AC w' ∧ (loadCells ⟨w.heap.size + 1, 0, none⟩ 16).run Tryz.prog w' = .ok AN w')) vx := SK.out _ XB) | (intro hk0 hk1 K0 K1 d01 OW hlz huz e0 e1 XB; have hHeld : ((fun w' => (loadCells ⟨w.heap.size, 0, none⟩ 11).run Tryz.prog w' = .ok AC w' ∧ (loadCells ⟨w.heap.size + 1, 0, none⟩ 16).run Tryz.prog w' = .ok AN w')) vx := SK.out _ XB)
    (have hRW := OW.size); (have hst := Bo.store (P := Tryz.prog) (b := 0) RW.toList 0 0 K0 rfl (by simp [hRW]) OW.one)
    refine wpAnyH_ready (rs := [13]) (by kernel_rfl) (by simp) ?_
    refine (AllReadyH.cons (by rw [List.getElem?_toArray]; rfl) (fun K hK => ?_) AllReadyH.nil)
    go_simp
    (have hbt := putA_btw RW.toList vx 0 k0); (replace XB := putA_below (k := k0) RW.toList v2 vx 0 XB hk0); (replace K0 := K0.putW (U := RW) hRW); (replace K1 := K1.btw hbt (by omega)); (replace OW := OW.btw hbt (by omega)); (replace huz := Nat.le_trans huz hbt.2.2.2.1); (clear hst hbt); (generalize putA vx k0 0 RW.toList = vy at *)
    refine hK.out _ _ ?_ (fun hHeld => ?_)
    · first | exact SK.out _ XB | exact SK.out _ (Below.drew (Below.refl _ _))
    clear hK K
    (try simp only [Act.put, zSb, zS0, zS1])
    (have hst := Bo.store (P := Tryz.prog) (b := 0) ([.int .i64 mk, .int .i64 mf, .int .i64 mt, .int .i64 mn, .int .i64 ml, .int .i64 mh, .int .i64 ms, .string mb]) 0 0 K1 rfl (show 0 + 8 ≤ 8 by decide) (List.forall_mem_cons.2 ⟨rfl, (List.forall_mem_cons.2 ⟨rfl, (List.forall_mem_cons.2 ⟨rfl, (List.forall_mem_cons.2 ⟨rfl, (List.forall_mem_cons.2 ⟨rfl, (List.forall_mem_cons.2 ⟨rfl, (List.forall_mem_cons.2 ⟨rfl, (List.forall_mem_cons.2 ⟨rfl, fun _ h => nomatch h⟩)⟩)⟩)⟩)⟩)⟩)⟩)⟩))
    refine wpAnyH_ready (rs := [14]) (by kernel_rfl) (by simp) ?_
    refine (AllReadyH.cons (by rw [List.getElem?_toArray]; rfl) (fun K hK => ?_) AllReadyH.nil)
    go_simp
    (have hbt := putA_btw ([.int .i64 mk, .int .i64 mf, .int .i64 mt, .int .i64 mn, .int .i64 ml, .int .i64 mh, .int .i64 ms, .string mb]) vy 0 k1); (replace XB := putA_below (k := k1) ([.int .i64 mk, .int .i64 mf, .int .i64 mt, .int .i64 mn, .int .i64 ml, .int .i64 mh, .int .i64 ms, .string mb]) v2 vy 0 XB hk1); (have K9 : Bo (putA vy k1 0 ([.int .i64 mk, .int .i64 mf, .int .i64 mt, .int .i64 mn, .int .i64 ml, .int .i64 mh, .int .i64 ms, .string mb])) k1 (#[.int .i64 mk, .int .i64 mf, .int .i64 mt, .int .i64 mn, .int .i64 ml, .int .i64 mh, .int .i64 ms, .string mb]) := K1.putW (U := #[.int .i64 mk, .int .i64 mf, .int .i64 mt, .int .i64 mn, .int .i64 ml, .int .i64 mh, .int .i64 ms, .string mb]) rfl); (replace K0 := K0.btw hbt (by omega)); (replace OW := OW.btw hbt (by omega)); (replace huz := Nat.le_trans huz hbt.2.2.2.1); (clear hst hbt K1); (generalize putA vy k1 0 ([.int .i64 mk, .int .i64 mf, .int .i64 mt, .int .i64 mn, .int .i64 ml, .int .i64 mh, .int .i64 ms, .string mb]) = vz at *)
    refine hK.out _ _ ?_ (fun hHeld => ?_)
    · first | exact SK.out _ XB | exact SK.out _ (Below.drew (Below.refl _ _))
    clear hK K
    (try simp only [Act.put, zSb, zS0, zS1])
    refine zTk 15 ?_
    (try simp only [Act.put, zSb, zS0, zS1])
    refine wpAnyH_done (by kernel_rfl) ?_ _
    go_wp2_with fail
    go_meet
    case rel => exact ⟨k0, k1, lz, uz, RW, rfl, rfl, rfl, K0, K9, OW, hlz, hk0, hk1, huz, XB⟩
  case rest =>
    obtain ⟨kW, kV, lw, uw, RW, rfl, rfl, rfl, W, WM, OW, hlw1, hkW1, hkV1, huw1, hb⟩ := hcut
    clear SK
    generalize wc = v3 at *
    replace B := B.trans (hb.mono B.size)
    replace C := C.below hb
    replace N := N.below hb
    clear hb
    have hRW := OW.size
    have hkW2 : kW < v3.heap.size := W.1
    have hkV2 : kV < v3.heap.size := WM.1
    have hL := C.load (P := Tryz.prog) hC
    go_wp2_with (rw [hL])
    refine (CTC _ B).mono ?_
    rintro e v4 ⟨RX, rfl, OX, hb⟩
    clear hL
    have hxx : v3.heap.size ≤ v4.heap.size := hb.size
    replace B := B.trans (hb.mono B.size)
    replace C := C.below hb
    replace N := N.below hb
    replace W := W.below hb
    replace WM := WM.below hb
    replace OW := OW.below hb
    clear hb
    generalize v3.heap.size = lx at *
    have hRX := OX.size
    have hst := storeNew (P := Tryz.prog) v4 (#[.int .i64 0, .int .i64 0, .int .i64 0, .int .i64 0, .int .i64 0, .int .i64 0, .int .i64 0, .int .i64 0, .int .i64 0, .int .i64 0, .slice none 0 0]) RX 67 (by rw [hRX]; rfl) OX.one
    have hb := Below.nw v4 (.cells RX 67)
    have X := Bo.new v4 RX 67
    go_upto_region 10 with (rw [hst])
    clear hst
    replace B := B.trans (hb.mono B.size)
    replace C := C.below hb
    replace N := N.below hb
    replace W := W.below hb
    replace WM := WM.below hb
    replace OW := OW.below hb
    replace OX := OX.below hb
    clear hb
    generalize v4.alloc (.cells RX 67) = v5 at *
    generalize v4.heap.size = kX at *
    have hxm : kX < v5.heap.size := X.1
    have hL := N.load (P := Tryz.prog) hN
    go_wp2_with (rw [hL])
    refine (CTN _ B).mono ?_
    rintro e v6 ⟨RM, rfl, OM, hb⟩
    clear hL
    have hmm : v5.heap.size ≤ v6.heap.size := hb.size
    replace B := B.trans (hb.mono B.size)
    replace C := C.below hb
    replace N := N.below hb
    replace W := W.below hb
    replace WM := WM.below hb
    replace OW := OW.below hb
    replace OX := OX.below hb
    replace X := X.below hb
    clear hb
    generalize v5.heap.size = lm at *
    have hRM := OM.size
    have hst := storeNew (P := Tryz.prog) v6 (#[.int .i64 0, .int .i64 0, .int .i64 0, .int .i64 0, .bool false, .int .i64 0, .int .i64 0, .int .i64 0, .int .i64 0, .int .i64 0, .slice none 0 0, .slice none 0 0, .bool false, .int .i64 0, .slice none 0 0, .int .i64 0]) RM 57 (by rw [hRM]; rfl) OM.one
    have hb := Below.nw v6 (.cells RM 57)
    have M := Bo.new v6 RM 57
    go_upto_region 11 with (rw [hst])
    clear hst
    replace B := B.trans (hb.mono B.size)
    replace C := C.below hb
    replace N := N.below hb
    replace W := W.below hb
    replace WM := WM.below hb
    replace OW := OW.below hb
    replace OX := OX.below hb
    replace X := X.below hb
    replace OM := OM.below hb
    clear hb
    generalize v6.alloc (.cells RM 57) = v7 at *
    generalize v6.heap.size = kM at *
    have hmg : kM < v7.heap.size := M.1
    have hL := X.load (P := Tryz.prog) hRX
    have hL2 := M.load (P := Tryz.prog) hRM
    go_wp2_with (first | rw [hL] | rw [hL2])
    refine (CP _ RX RM OX.src OM.src).mono ?_
    rintro e v8 ⟨RG, rfl, OG, hb⟩
    clear hL hL2
    have hgg : v7.heap.size ≤ v8.heap.size := hb.size
    replace B := B.trans (hb.mono B.size)
    replace C := C.below hb
    replace N := N.below hb
    replace W := W.below hb
    replace WM := WM.below hb
    replace OW := OW.below hb
    replace OX := OX.below hb
    replace X := X.below hb
    replace OM := OM.below hb
    replace M := M.below hb
    clear hb
    generalize v7.heap.size = lg at *
    have hRG := OG.size
    have hst := storeNew2 (P := Tryz.prog) v8 (#[.int .i64 0, .int .i64 0, .int .i64 0, .int .i64 0, .bool false, .int .i64 0, .int .i64 0, .int .i64 0, .int .i64 0, .int .i64 0, .slice none 0 0, .slice none 0 0, .bool false, .int .i64 0, .slice none 0 0, .int .i64 0]) RG 57 (.cells (#[.int .i64 0, .int .i64 0, .int .i64 0, .int .i64 0, .int .i64 0, .int .i64 0, .int .i64 0, .string ⟨#[]⟩]) 59) (by rw [hRG]; rfl) OG.one
    have hst2 := storeNew (P := Tryz.prog) (v8.alloc (.cells RG 57)) (#[.int .i64 0, .int .i64 0, .int .i64 0, .int .i64 0, .int .i64 0, .int .i64 0, .int .i64 0, .string ⟨#[]⟩]) (#[.int .i64 mk, .int .i64 mf, .int .i64 mt, .int .i64 mn, .int .i64 ml, .int .i64 mh, .int .i64 ms, .string mb]) 59 rfl (List.forall_mem_cons.2 ⟨rfl, (List.forall_mem_cons.2 ⟨rfl, (List.forall_mem_cons.2 ⟨rfl, (List.forall_mem_cons.2 ⟨rfl, (List.forall_mem_cons.2 ⟨rfl, (List.forall_mem_cons.2 ⟨rfl, (List.forall_mem_cons.2 ⟨rfl, (List.forall_mem_cons.2 ⟨rfl, fun _ h => nomatch h⟩)⟩)⟩)⟩)⟩)⟩)⟩)⟩)
    simp only [World.size_alloc] at hst2
    have hb1 := Below.nw v8 (.cells RG 57)
    have hb2 := Below.nw (v8.alloc (.cells RG 57)) (.cells (#[.int .i64 mk, .int .i64 mf, .int .i64 mt, .int .i64 mn, .int .i64 ml, .int .i64 mh, .int .i64 ms, .string mb]) 59)
    have G := (Bo.new v8 RG 57).below hb2
    have Q := Bo.new (v8.alloc (.cells RG 57)) (#[.int .i64 mk, .int .i64 mf, .int .i64 mt, .int .i64 mn, .int .i64 ml, .int .i64 mh, .int .i64 ms, .string mb]) 59
    simp only [World.size_alloc] at Q
    have hb := hb1.trans (hb2.mono hb1.size)
    clear hb1 hb2
    go_upto_region 12 with (first | rw [hst] | rw [hst2])
    clear hst hst2
    replace B := B.trans (hb.mono B.size)
    replace C := C.below hb
    replace N := N.below hb
    replace W := W.below hb
    replace WM := WM.below hb
    replace OW := OW.below hb
    replace OX := OX.below hb
    replace X := X.below hb
    replace OM := OM.below hb
    replace M := M.below hb
    replace OG := OG.below hb
    clear hb
    generalize (v8.alloc (.cells RG 57)).alloc (.cells (#[.int .i64 mk, .int .i64 mf, .int .i64 mt, .int .i64 mn, .int .i64 ml, .int .i64 mh, .int .i64 ms, .string mb]) 59) = v9 at *
    generalize hkq : v8.heap.size + 1 = kQ at *
    generalize v8.heap.size = kG at *
    have hkq2 : kG < kQ := by omega
    clear hkq
    have hL := G.load (P := Tryz.prog) hRG
    have hL2 := W.load (P := Tryz.prog) hRW
    go_wp2_with (first | rw [hL] | rw [hL2])
    refine (eqNodeX RG RW x1 v9 OG.src OW.src).mono ?_
    rintro e vaa ⟨rfl, hb⟩
    clear hL hL2
    replace B := B.trans (hb.mono B.size)
    replace C := C.below hb
    replace N := N.below hb
    replace W := W.below hb
    replace WM := WM.below hb
    replace OW := OW.below hb
    replace OX := OX.below hb
    replace X := X.below hb
    replace OM := OM.below hb
    replace M := M.below hb
    replace OG := OG.below hb
    replace G := G.below hb
    replace Q := Q.below hb
    clear hb
    have hL := Q.load (P := Tryz.prog) (show (#[.int .i64 mk, .int .i64 mf, .int .i64 mt, .int .i64 mn, .int .i64 ml, .int .i64 mh, .int .i64 ms, .string mb] : Array Value).size = 8 from rfl)
    have hL2 := WM.load (P := Tryz.prog) (show (#[.int .i64 mk, .int .i64 mf, .int .i64 mt, .int .i64 mn, .int .i64 ml, .int .i64 mh, .int .i64 ms, .string mb] : Array Value).size = 8 from rfl)
    go_wp2_with (first | rw [hL] | rw [hL2])
    refine (eqMsg_same mk mf mt mn ml mh ms mb vaa).mono ?_
    rintro e va ⟨rfl, hb⟩
    clear hL hL2
    replace B := B.trans (hb.mono B.size)
    replace C := C.below hb
    replace N := N.below hb
    replace W := W.below hb
    replace WM := WM.below hb
    replace OW := OW.below hb
    replace OX := OX.below hb
    replace X := X.below hb
    replace OM := OM.below hb
    replace M := M.below hb
    replace OG := OG.below hb
    replace G := G.below hb
    replace Q := Q.below hb
    clear hb
    go_upto_region 14 with fail
    have SK : Hid (∀ w', Below va.heap.size va w' → (fun w' => (loadCells ⟨kX, 0, none⟩ 11).run Tryz.prog w' = .ok RX w' ∧ (loadCells ⟨w.heap.size, 0, none⟩ 11).run Tryz.prog w' = .ok AC w') w') := fun w' hw => ⟨(X.below hw).load hRX, (C.below hw).load hC⟩
    refine wp_region_held_drew (S := (fun w' => (loadCells ⟨kX, 0, none⟩ 11).run Tryz.prog w' = .ok RX w' ∧ (loadCells ⟨w.heap.size, 0, none⟩ 11).run Tryz.prog w' = .ok AC w')) (by kernel_rfl) ?_ (fun hHeld => ?_)
    · first | exact SK.out _ XB | exact SK.out _ (Below.drew (Below.refl _ _))
    have XB : Below va.heap.size va va.drew := Below.drew (Below.refl _ _)
    generalize va.drew = vx at *
    refine zTk 0 ?_
    (try simp only [Act.put, zSb, zS0, zS1])
    refine zTk 1 ?_
    (try simp only [Act.put, zSb, zS0, zS1])
    refine wpAnyH_ready (rs := [2]) (by kernel_rfl) (by simp) ?_
    refine AllReadyH.cons (by rw [List.getElem?_toArray]; rfl) (fun K hK => ?_) AllReadyH.nil
    go_simp
    refine (CTC vx (B.trans (XB.mono B.size))).mono ?_; rintro ee vy ⟨RY, rfl, OY, hbl⟩; (replace XB := XB.trans (hbl.mono XB.size)); (clear hbl); (generalize hvv : vy = vx at *); (clear hvv)
    (try go_wp2_with fail)
    refine hK.out _ _ ?_ (fun hHeld => ?_)
    · first | exact SK.out _ XB | exact SK.out _ (Below.drew (Below.refl _ _))
    clear hK K
    (try simp only [Act.put, zSb, zS0, zS1])
    refine wpAnyH_ready (rs := [3]) (by kernel_rfl) (by simp) ?_
    refine AllReadyH.cons (by rw [List.getElem?_toArray]; rfl) (fun K hK => ?_) AllReadyH.nil
    go_simp
    refine (eqCfgX RX RY _ vx (OX.below XB).src OY.src).mono ?_; rintro ee vx ⟨rfl, hbl⟩; (replace XB := XB.trans (hbl.mono XB.size)); (clear hbl OY)
    (try go_wp2_with fail)
    refine hK.out _ _ ?_ (fun hHeld => ?_)
    · first | exact SK.out _ XB | exact SK.out _ (Below.drew (Below.refl _ _))
    clear hK K
    (try simp only [Act.put, zSb, zS0, zS1])
    refine zTk 4 ?_
    (try simp only [Act.put, zSb, zS0, zS1])
    refine wpAnyH_done (by kernel_rfl) ?_ _
    have hb := XB
    clear XB SK
    replace B := B.trans (hb.mono B.size)
    replace C := C.below hb
    replace N := N.below hb
    replace W := W.below hb
    replace WM := WM.below hb
    replace OW := OW.below hb
    replace OX := OX.below hb
    replace X := X.below hb
    replace OM := OM.below hb
    replace M := M.below hb
    replace OG := OG.below hb
    replace G := G.below hb
    replace Q := Q.below hb
    clear hb
    generalize vx = vb at *
    go_upto_region 16 with fail
    have SK : Hid (∀ w', Below vb.heap.size vb w' → (fun w' => (loadCells ⟨kM, 0, none⟩ 16).run Tryz.prog w' = .ok RM w' ∧ (loadCells ⟨w.heap.size + 1, 0, none⟩ 16).run Tryz.prog w' = .ok AN w') w') := fun w' hw => ⟨(M.below hw).load hRM, (N.below hw).load hN⟩
    refine wp_region_held_drew (S := (fun w' => (loadCells ⟨kM, 0, none⟩ 16).run Tryz.prog w' = .ok RM w' ∧ (loadCells ⟨w.heap.size + 1, 0, none⟩ 16).run Tryz.prog w' = .ok AN w')) (by kernel_rfl) ?_ (fun hHeld => ?_)
    · first | exact SK.out _ XB | exact SK.out _ (Below.drew (Below.refl _ _))
    have XB : Below vb.heap.size vb vb.drew := Below.drew (Below.refl _ _)
    generalize vb.drew = vx at *
    refine zTk 0 ?_
    (try simp only [Act.put, zSb, zS0, zS1])
    refine zTk 1 ?_
    (try simp only [Act.put, zSb, zS0, zS1])
    refine wpAnyH_ready (rs := [2]) (by kernel_rfl) (by simp) ?_
    refine AllReadyH.cons (by rw [List.getElem?_toArray]; rfl) (fun K hK => ?_) AllReadyH.nil
    go_simp
    refine (CTN vx (B.trans (XB.mono B.size))).mono ?_; rintro ee vy ⟨RY, rfl, OY, hbl⟩; (replace XB := XB.trans (hbl.mono XB.size)); (clear hbl); (generalize hvv : vy = vx at *); (clear hvv)
    (try go_wp2_with fail)
    refine hK.out _ _ ?_ (fun hHeld => ?_)
    · first | exact SK.out _ XB | exact SK.out _ (Below.drew (Below.refl _ _))
    clear hK K
    (try simp only [Act.put, zSb, zS0, zS1])
    refine wpAnyH_ready (rs := [3]) (by kernel_rfl) (by simp) ?_
    refine AllReadyH.cons (by rw [List.getElem?_toArray]; rfl) (fun K hK => ?_) AllReadyH.nil
    go_simp
    refine (eqNodeX RM RY _ vx (OM.below XB).src OY.src).mono ?_; rintro ee vx ⟨rfl, hbl⟩; (replace XB := XB.trans (hbl.mono XB.size)); (clear hbl OY)
    (try go_wp2_with fail)
    refine hK.out _ _ ?_ (fun hHeld => ?_)
    · first | exact SK.out _ XB | exact SK.out _ (Below.drew (Below.refl _ _))
    clear hK K
    (try simp only [Act.put, zSb, zS0, zS1])
    refine zTk 4 ?_
    (try simp only [Act.put, zSb, zS0, zS1])
    refine wpAnyH_done (by kernel_rfl) ?_ _
    have hb := XB
    clear XB SK
    replace B := B.trans (hb.mono B.size)
    replace C := C.below hb
    replace N := N.below hb
    replace W := W.below hb
    replace WM := WM.below hb
    replace OW := OW.below hb
    replace OX := OX.below hb
    replace X := X.below hb
    replace OM := OM.below hb
    replace M := M.below hb
    replace OG := OG.below hb
    replace G := G.below hb
    replace Q := Q.below hb
    clear hb
    generalize vx = vc at *
    have hvc : kG < vc.heap.size := G.1
    have hL := X.load (P := Tryz.prog) hRX
    go_wp2_with (rw [hL])
    refine (markCfgX RX y 1 lx kX vc OX (by decide) (by decide)).mono ?_
    rintro e vd ⟨rfl, hym, hb⟩
    clear hL
    have hlo : w.heap.size ≤ lx := by omega
    replace B := B.trans ((hb.belowL (by omega)).mono hlo)
    clear hlo
    replace C := C.btw hb (by omega)
    replace N := N.btw hb (by omega)
    replace W := W.btw hb (by omega)
    replace WM := WM.btw hb (by omega)
    replace OW := OW.btw hb (by omega)
    replace M := M.btw hb (by omega)
    replace OM := OM.btw hb (by omega)
    replace G := G.btw hb (by omega)
    replace Q := Q.btw hb (by omega)
    replace OG := OG.btw hb (by omega)
    clear hb X OX
    have hvd : kG < vd.heap.size := G.1
    have hL := M.load (P := Tryz.prog) hRM
    go_wp2_with (rw [hL])
    refine (markNodeX RM x (1 + (y.m : Int) * 2) lm kM vd OM (by omega) (by omega)).mono ?_
    rintro e ve ⟨rfl, -, hb⟩
    clear hL
    have hlo : w.heap.size ≤ lm := by omega
    replace B := B.trans ((hb.belowL (by omega)).mono hlo)
    clear hlo
    replace C := C.btw hb (by omega)
    replace N := N.btw hb (by omega)
    replace W := W.btw hb (by omega)
    replace WM := WM.btw hb (by omega)
    replace OW := OW.btw hb (by omega)
    replace G := G.btw hb (by omega)
    replace Q := Q.btw hb (by omega)
    replace OG := OG.btw hb (by omega)
    clear hb M OM
    have hk : ¬ (mkN x (1 + (y.m : Int) * 2) < 0) := by unfold mkN; omega
    have hL := G.load (P := Tryz.prog) hRG
    have hL2 := W.load (P := Tryz.prog) hRW
    go_wp2_with (first | rw [hL] | rw [hL2])
    refine (eqNodeX RG RW x1 ve OG.src OW.src).mono ?_
    rintro e vfa ⟨rfl, hb⟩
    clear hL hL2
    replace B := B.trans (hb.mono B.size)
    replace C := C.below hb
    replace N := N.below hb
    replace W := W.below hb
    replace WM := WM.below hb
    replace OW := OW.below hb
    replace OG := OG.below hb
    replace G := G.below hb
    replace Q := Q.below hb
    clear hb
    have hL := Q.load (P := Tryz.prog) (show (#[.int .i64 mk, .int .i64 mf, .int .i64 mt, .int .i64 mn, .int .i64 ml, .int .i64 mh, .int .i64 ms, .string mb] : Array Value).size = 8 from rfl)
    have hL2 := WM.load (P := Tryz.prog) (show (#[.int .i64 mk, .int .i64 mf, .int .i64 mt, .int .i64 mn, .int .i64 ml, .int .i64 mh, .int .i64 ms, .string mb] : Array Value).size = 8 from rfl)
    go_wp2_with (first | rw [hL] | rw [hL2])
    refine (eqMsg_same mk mf mt mn ml mh ms mb vfa).mono ?_
    rintro e vf ⟨rfl, hb⟩
    clear hL hL2
    replace B := B.trans (hb.mono B.size)
    replace C := C.below hb
    replace N := N.below hb
    replace W := W.below hb
    replace WM := WM.below hb
    replace OW := OW.below hb
    replace OG := OG.below hb
    replace G := G.below hb
    replace Q := Q.below hb
    clear hb
    have hvf : kG < vf.heap.size := G.1
    have hL := G.load (P := Tryz.prog) hRG
    go_wp2_with (rw [hL])
    refine (markNodeX RG x1 1 lg kG vf OG (by decide) (by decide)).mono ?_
    rintro e vg ⟨rfl, MG, hb⟩
    clear hL
    have hlo : w.heap.size ≤ lg := by omega
    replace B := B.trans ((hb.belowL (by omega)).mono hlo)
    clear hlo
    replace C := C.btw hb (by omega)
    replace N := N.btw hb (by omega)
    replace W := W.btw hb (by omega)
    replace WM := WM.btw hb (by omega)
    replace OW := OW.btw hb (by omega)
    replace G := G.btw hb (by omega)
    clear hb OG Q
    have hk1 : ¬ (mkN x1 1 < 0) := by unfold mkN; omega
    have hkk : (mkN x1 1 != mkN x1 1) = false := by simp
    have hL := G.load (P := Tryz.prog) hRG
    go_wp2_with (rw [hL])
    refine (heldNodeX RG x1 1 vg MG (by decide) (by decide)).mono ?_
    rintro e vh ⟨rfl, hb⟩
    clear hL
    replace B := B.trans (hb.mono B.size)
    replace C := C.below hb
    replace N := N.below hb
    replace W := W.below hb
    replace WM := WM.below hb
    replace OW := OW.below hb
    replace G := G.below hb
    replace MG := MG.below hb
    clear hb
    go_upto_region 31 with fail
    have SK : Hid (∀ w', Below vh.heap.size vh w' → (fun w' => (loadCells ⟨w.heap.size, 0, none⟩ 11).run Tryz.prog w' = .ok AC w' ∧ (loadCells ⟨w.heap.size + 1, 0, none⟩ 16).run Tryz.prog w' = .ok AN w') w') := fun w' hw => ⟨(C.below hw).load hC, (N.below hw).load hN⟩
    go_cut [21, 22, 23] (fun s21 s22 s23 wx => ∃ (j jm l u : Nat) (R : Array Value), s21 = .pointer (some ⟨j, 0, none⟩) ∧ s22 = .pointer (some ⟨jm, 0, none⟩) ∧ s23 = .int .i64 cd ∧ Bo wx j R ∧ Bo wx jm (#[.int .i64 mk, .int .i64 mf, .int .i64 mt, .int .i64 mn, .int .i64 ml, .int .i64 mh, .int .i64 ms, .string mb]) ∧ NdO wx l u R x1 ∧ vh.heap.size ≤ l ∧ vh.heap.size ≤ j ∧ vh.heap.size ≤ jm ∧ u ≤ wx.heap.size ∧ Below vh.heap.size vh wx)
    case first => as_aux_lemma =>
      refine wp_region_held_drew (S := (fun w' => (loadCells ⟨w.heap.size, 0, none⟩ 11).run Tryz.prog w' = .ok AC w' ∧ (loadCells ⟨w.heap.size + 1, 0, none⟩ 16).run Tryz.prog w' = .ok AN w')) (by kernel_rfl) ?_ (fun hHeld => ?_)
      · first | exact SK.out _ XB | exact SK.out _ (Below.drew (Below.refl _ _))
      have XB : Below vh.heap.size vh vh.drew := Below.drew (Below.refl _ _)
      generalize vh.drew = vx at *
      refine zTk 0 ?_
      (try simp only [Act.put, zSb, zS0, zS1])
      refine zTk 2 ?_
      (try simp only [Act.put, zSb, zS0, zS1])
      refine zTk 4 ?_
      (try simp only [Act.put, zSb, zS0, zS1])
      refine zTk 5 ?_
      (try simp only [Act.put, zSb, zS0, zS1])
      apply tl_nnAAAnn (F := (fun (k0 : Nat) (k1 : Nat) (RC : Array Value) (RN : Array Value) (RW : Array Value) (lz : Nat) (uz : Nat) (vx : World) => vh.heap.size ≤ k0 ∧ vh.heap.size ≤ k1 ∧ Bo vx k0 (#[.int .i64 0, .int .i64 0, .int .i64 0, .int .i64 0, .bool false, .int .i64 0, .int .i64 0, .int .i64 0, .int .i64 0, .int .i64 0, .slice none 0 0, .slice none 0 0, .bool false, .int .i64 0, .slice none 0 0, .int .i64 0]) ∧ Bo vx k1 (#[.int .i64 0, .int .i64 0, .int .i64 0, .int .i64 0, .int .i64 0, .int .i64 0, .int .i64 0, .string ⟨#[]⟩]) ∧ k0 ≠ k1 ∧ NdO vx lz uz RW x1 ∧ vh.heap.size ≤ lz ∧ uz ≤ vx.heap.size ∧ (k0 < lz ∨ uz ≤ k0) ∧ (k1 < lz ∨ uz ≤ k1) ∧ Below vh.heap.size vh vx))
      intro T1_3_6_11_12
      apply tl_nnAA (F := (fun (k0 : Nat) (k1 : Nat) (RC : Array Value) (RN : Array Value) (vx : World) => vh.heap.size ≤ k0 ∧ vh.heap.size ≤ k1 ∧ Bo vx k0 (#[.int .i64 0, .int .i64 0, .int .i64 0, .int .i64 0, .bool false, .int .i64 0, .int .i64 0, .int .i64 0, .int .i64 0, .int .i64 0, .slice none 0 0, .slice none 0 0, .bool false, .int .i64 0, .slice none 0 0, .int .i64 0]) ∧ Bo vx k1 (#[.int .i64 0, .int .i64 0, .int .i64 0, .int .i64 0, .int .i64 0, .int .i64 0, .int .i64 0, .string ⟨#[]⟩]) ∧ k0 ≠ k1 ∧ CfS vx RC y ∧ NdS vx RN x ∧ Below vh.heap.size vh vx))
      intro T1_3_11_12
      apply tl_nAAAnn (F := (fun (k1 : Nat) (RC : Array Value) (RN : Array Value) (RW : Array Value) (lz : Nat) (uz : Nat) (vx : World) => vh.heap.size ≤ k1 ∧ Bo vx k1 (#[.int .i64 0, .int .i64 0, .int .i64 0, .int .i64 0, .int .i64 0, .int .i64 0, .int .i64 0, .string ⟨#[]⟩]) ∧ NdO vx lz uz RW x1 ∧ vh.heap.size ≤ lz ∧ uz ≤ vx.heap.size ∧ (k1 < lz ∨ uz ≤ k1) ∧ Below vh.heap.size vh vx))
      intro T1_3_6_12
      apply tl_nAAAnn (F := (fun (k0 : Nat) (RC : Array Value) (RN : Array Value) (RW : Array Value) (lz : Nat) (uz : Nat) (vx : World) => vh.heap.size ≤ k0 ∧ Bo vx k0 (#[.int .i64 0, .int .i64 0, .int .i64 0, .int .i64 0, .bool false, .int .i64 0, .int .i64 0, .int .i64 0, .int .i64 0, .int .i64 0, .slice none 0 0, .slice none 0 0, .bool false, .int .i64 0, .slice none 0 0, .int .i64 0]) ∧ NdO vx lz uz RW x1 ∧ vh.heap.size ≤ lz ∧ uz ≤ vx.heap.size ∧ (k0 < lz ∨ uz ≤ k0) ∧ Below vh.heap.size vh vx))
      intro T1_3_6_11
      apply tl_nnA (F := (fun (k0 : Nat) (k1 : Nat) (RC : Array Value) (vx : World) => vh.heap.size ≤ k0 ∧ vh.heap.size ≤ k1 ∧ Bo vx k0 (#[.int .i64 0, .int .i64 0, .int .i64 0, .int .i64 0, .bool false, .int .i64 0, .int .i64 0, .int .i64 0, .int .i64 0, .int .i64 0, .slice none 0 0, .slice none 0 0, .bool false, .int .i64 0, .slice none 0 0, .int .i64 0]) ∧ Bo vx k1 (#[.int .i64 0, .int .i64 0, .int .i64 0, .int .i64 0, .int .i64 0, .int .i64 0, .int .i64 0, .string ⟨#[]⟩]) ∧ k0 ≠ k1 ∧ CfS vx RC y ∧ Below vh.heap.size vh vx))
      intro T1_11_12
      apply tl_nAA (F := (fun (k1 : Nat) (RC : Array Value) (RN : Array Value) (vx : World) => vh.heap.size ≤ k1 ∧ Bo vx k1 (#[.int .i64 0, .int .i64 0, .int .i64 0, .int .i64 0, .int .i64 0, .int .i64 0, .int .i64 0, .string ⟨#[]⟩]) ∧ CfS vx RC y ∧ NdS vx RN x ∧ Below vh.heap.size vh vx))
      intro T1_3_12
      apply tl_nAA (F := (fun (k0 : Nat) (RC : Array Value) (RN : Array Value) (vx : World) => vh.heap.size ≤ k0 ∧ Bo vx k0 (#[.int .i64 0, .int .i64 0, .int .i64 0, .int .i64 0, .bool false, .int .i64 0, .int .i64 0, .int .i64 0, .int .i64 0, .int .i64 0, .slice none 0 0, .slice none 0 0, .bool false, .int .i64 0, .slice none 0 0, .int .i64 0]) ∧ CfS vx RC y ∧ NdS vx RN x ∧ Below vh.heap.size vh vx))
      intro T1_3_11
      apply tl_AAAnn (F := (fun (RC : Array Value) (RN : Array Value) (RW : Array Value) (lz : Nat) (uz : Nat) (vx : World) => NdO vx lz uz RW x1 ∧ vh.heap.size ≤ lz ∧ uz ≤ vx.heap.size ∧ Below vh.heap.size vh vx))
      intro T1_3_6
      apply tl_nn (F := (fun (k0 : Nat) (k1 : Nat) (vx : World) => vh.heap.size ≤ k0 ∧ vh.heap.size ≤ k1 ∧ Bo vx k0 (#[.int .i64 0, .int .i64 0, .int .i64 0, .int .i64 0, .bool false, .int .i64 0, .int .i64 0, .int .i64 0, .int .i64 0, .int .i64 0, .slice none 0 0, .slice none 0 0, .bool false, .int .i64 0, .slice none 0 0, .int .i64 0]) ∧ Bo vx k1 (#[.int .i64 0, .int .i64 0, .int .i64 0, .int .i64 0, .int .i64 0, .int .i64 0, .int .i64 0, .string ⟨#[]⟩]) ∧ k0 ≠ k1 ∧ Below vh.heap.size vh vx))
      intro T11_12
      apply tl_nA (F := (fun (k1 : Nat) (RC : Array Value) (vx : World) => vh.heap.size ≤ k1 ∧ Bo vx k1 (#[.int .i64 0, .int .i64 0, .int .i64 0, .int .i64 0, .int .i64 0, .int .i64 0, .int .i64 0, .string ⟨#[]⟩]) ∧ CfS vx RC y ∧ Below vh.heap.size vh vx))
      intro T1_12
      apply tl_nA (F := (fun (k0 : Nat) (RC : Array Value) (vx : World) => vh.heap.size ≤ k0 ∧ Bo vx k0 (#[.int .i64 0, .int .i64 0, .int .i64 0, .int .i64 0, .bool false, .int .i64 0, .int .i64 0, .int .i64 0, .int .i64 0, .int .i64 0, .slice none 0 0, .slice none 0 0, .bool false, .int .i64 0, .slice none 0 0, .int .i64 0]) ∧ CfS vx RC y ∧ Below vh.heap.size vh vx))
      intro T1_11
      apply tl_AA (F := (fun (RC : Array Value) (RN : Array Value) (vx : World) => CfS vx RC y ∧ NdS vx RN x ∧ Below vh.heap.size vh vx))
      intro T1_3
      apply tl_n (F := (fun (k1 : Nat) (vx : World) => vh.heap.size ≤ k1 ∧ Bo vx k1 (#[.int .i64 0, .int .i64 0, .int .i64 0, .int .i64 0, .int .i64 0, .int .i64 0, .int .i64 0, .string ⟨#[]⟩]) ∧ Below vh.heap.size vh vx))
      intro T12
      apply tl_n (F := (fun (k0 : Nat) (vx : World) => vh.heap.size ≤ k0 ∧ Bo vx k0 (#[.int .i64 0, .int .i64 0, .int .i64 0, .int .i64 0, .bool false, .int .i64 0, .int .i64 0, .int .i64 0, .int .i64 0, .int .i64 0, .slice none 0 0, .slice none 0 0, .bool false, .int .i64 0, .slice none 0 0, .int .i64 0]) ∧ Below vh.heap.size vh vx))
      intro T11
      apply tl_A (F := (fun (RC : Array Value) (vx : World) => CfS vx RC y ∧ Below vh.heap.size vh vx))
      intro T1
      refine wpAnyH_ready (rs := [1, 11, 12]) (by kernel_rfl) (by simp) ?_
      refine (AllReadyH.cons (by rw [List.getElem?_toArray]; rfl) (fun K hK => ?_) (AllReadyH.cons (by rw [List.getElem?_toArray]; rfl) (fun K hK => ?_) (AllReadyH.cons (by rw [List.getElem?_toArray]; rfl) (fun K hK => ?_) AllReadyH.nil)))
      · go_simp
        refine (CTC vx (B.trans (XB.mono B.size))).mono ?_; rintro ee vy ⟨RC, rfl, OC0, hbl⟩; (have OC := OC0.src); (replace XB := XB.trans (hbl.mono XB.size)); (clear hbl OC0)
        (try go_wp2_with fail)
        refine hK.out _ _ ?_ (fun hHeld => ?_)
        · first | exact SK.out _ XB | exact SK.out _ (Below.drew (Below.refl _ _))
        clear hK K
        (try simp only [Act.put, zSb, zS0, zS1])
        exact T1 RC _ ⟨OC, XB⟩
      · go_simp
        (have K0 := Bo.new vx (#[.int .i64 0, .int .i64 0, .int .i64 0, .int .i64 0, .bool false, .int .i64 0, .int .i64 0, .int .i64 0, .int .i64 0, .int .i64 0, .slice none 0 0, .slice none 0 0, .bool false, .int .i64 0, .slice none 0 0, .int .i64 0]) 57); (have NL := Below.nw vx (.cells (#[.int .i64 0, .int .i64 0, .int .i64 0, .int .i64 0, .bool false, .int .i64 0, .int .i64 0, .int .i64 0, .int .i64 0, .int .i64 0, .slice none 0 0, .slice none 0 0, .bool false, .int .i64 0, .slice none 0 0, .int .i64 0]) 57)); (have hk0 : vh.heap.size ≤ vx.heap.size := XB.size); (replace XB := XB.trans (NL.mono XB.size)); (clear NL); (generalize vx.alloc (.cells (#[.int .i64 0, .int .i64 0, .int .i64 0, .int .i64 0, .bool false, .int .i64 0, .int .i64 0, .int .i64 0, .int .i64 0, .int .i64 0, .slice none 0 0, .slice none 0 0, .bool false, .int .i64 0, .slice none 0 0, .int .i64 0]) 57) = vy at *); (generalize vx.heap.size = k0 at *)
        refine hK.out _ _ ?_ (fun hHeld => ?_)
        · first | exact SK.out _ XB | exact SK.out _ (Below.drew (Below.refl _ _))
        clear hK K
        (try simp only [Act.put, zSb, zS0, zS1])
        exact T11 k0 _ ⟨hk0, K0, XB⟩
      · go_simp
        (have K1 := Bo.new vx (#[.int .i64 0, .int .i64 0, .int .i64 0, .int .i64 0, .int .i64 0, .int .i64 0, .int .i64 0, .string ⟨#[]⟩]) 59); (have NL := Below.nw vx (.cells (#[.int .i64 0, .int .i64 0, .int .i64 0, .int .i64 0, .int .i64 0, .int .i64 0, .int .i64 0, .string ⟨#[]⟩]) 59)); (have hk1 : vh.heap.size ≤ vx.heap.size := XB.size); (replace XB := XB.trans (NL.mono XB.size)); (clear NL); (generalize vx.alloc (.cells (#[.int .i64 0, .int .i64 0, .int .i64 0, .int .i64 0, .int .i64 0, .int .i64 0, .int .i64 0, .string ⟨#[]⟩]) 59) = vy at *); (generalize vx.heap.size = k1 at *)
        refine hK.out _ _ ?_ (fun hHeld => ?_)
        · first | exact SK.out _ XB | exact SK.out _ (Below.drew (Below.refl _ _))
        clear hK K
        (try simp only [Act.put, zSb, zS0, zS1])
        exact T12 k1 _ ⟨hk1, K1, XB⟩
      intro RC vx
      first | (intro hF; obtain ⟨OC, XB⟩ := hF; have hHeld : ((fun w' => (loadCells ⟨w.heap.size, 0, none⟩ 11).run Tryz.prog w' = .ok AC w' ∧ (loadCells ⟨w.heap.size + 1, 0, none⟩ 16).run Tryz.prog w' = .ok AN w')) vx := SK.out _ XB) | (intro OC XB; have hHeld : ((fun w' => (loadCells ⟨w.heap.size, 0, none⟩ 11).run Tryz.prog w' = .ok AC w' ∧ (loadCells ⟨w.heap.size + 1, 0, none⟩ 16).run Tryz.prog w' = .ok AN w')) vx := SK.out _ XB)
      refine wpAnyH_ready (rs := [3, 11, 12]) (by kernel_rfl) (by simp) ?_
      refine (AllReadyH.cons (by rw [List.getElem?_toArray]; rfl) (fun K hK => ?_) (AllReadyH.cons (by rw [List.getElem?_toArray]; rfl) (fun K hK => ?_) (AllReadyH.cons (by rw [List.getElem?_toArray]; rfl) (fun K hK => ?_) AllReadyH.nil)))
      · go_simp
        refine (CTN vx (B.trans (XB.mono B.size))).mono ?_; rintro ee vy ⟨RN, rfl, ON0, hbl⟩; (have ON := ON0.src); (replace XB := XB.trans (hbl.mono XB.size)); (replace OC := OC.below hbl); (clear hbl ON0)
        (try go_wp2_with fail)
        refine hK.out _ _ ?_ (fun hHeld => ?_)
        · first | exact SK.out _ XB | exact SK.out _ (Below.drew (Below.refl _ _))
        clear hK K
        (try simp only [Act.put, zSb, zS0, zS1])
        exact T1_3 RC RN _ ⟨OC, ON, XB⟩
      · go_simp
        (have K0 := Bo.new vx (#[.int .i64 0, .int .i64 0, .int .i64 0, .int .i64 0, .bool false, .int .i64 0, .int .i64 0, .int .i64 0, .int .i64 0, .int .i64 0, .slice none 0 0, .slice none 0 0, .bool false, .int .i64 0, .slice none 0 0, .int .i64 0]) 57); (have NL := Below.nw vx (.cells (#[.int .i64 0, .int .i64 0, .int .i64 0, .int .i64 0, .bool false, .int .i64 0, .int .i64 0, .int .i64 0, .int .i64 0, .int .i64 0, .slice none 0 0, .slice none 0 0, .bool false, .int .i64 0, .slice none 0 0, .int .i64 0]) 57)); (have hk0 : vh.heap.size ≤ vx.heap.size := XB.size); (replace XB := XB.trans (NL.mono XB.size)); (replace OC := OC.below NL); (clear NL); (generalize vx.alloc (.cells (#[.int .i64 0, .int .i64 0, .int .i64 0, .int .i64 0, .bool false, .int .i64 0, .int .i64 0, .int .i64 0, .int .i64 0, .int .i64 0, .slice none 0 0, .slice none 0 0, .bool false, .int .i64 0, .slice none 0 0, .int .i64 0]) 57) = vy at *); (generalize vx.heap.size = k0 at *)
        refine hK.out _ _ ?_ (fun hHeld => ?_)
        · first | exact SK.out _ XB | exact SK.out _ (Below.drew (Below.refl _ _))
        clear hK K
        (try simp only [Act.put, zSb, zS0, zS1])
        exact T1_11 k0 RC _ ⟨hk0, K0, OC, XB⟩
      · go_simp
        (have K1 := Bo.new vx (#[.int .i64 0, .int .i64 0, .int .i64 0, .int .i64 0, .int .i64 0, .int .i64 0, .int .i64 0, .string ⟨#[]⟩]) 59); (have NL := Below.nw vx (.cells (#[.int .i64 0, .int .i64 0, .int .i64 0, .int .i64 0, .int .i64 0, .int .i64 0, .int .i64 0, .string ⟨#[]⟩]) 59)); (have hk1 : vh.heap.size ≤ vx.heap.size := XB.size); (replace XB := XB.trans (NL.mono XB.size)); (replace OC := OC.below NL); (clear NL); (generalize vx.alloc (.cells (#[.int .i64 0, .int .i64 0, .int .i64 0, .int .i64 0, .int .i64 0, .int .i64 0, .int .i64 0, .string ⟨#[]⟩]) 59) = vy at *); (generalize vx.heap.size = k1 at *)
        refine hK.out _ _ ?_ (fun hHeld => ?_)
        · first | exact SK.out _ XB | exact SK.out _ (Below.drew (Below.refl _ _))
        clear hK K
        (try simp only [Act.put, zSb, zS0, zS1])
        exact T1_12 k1 RC _ ⟨hk1, K1, OC, XB⟩
      intro k0 vx
      first | (intro hF; obtain ⟨hk0, K0, XB⟩ := hF; have hHeld : ((fun w' => (loadCells ⟨w.heap.size, 0, none⟩ 11).run Tryz.prog w' = .ok AC w' ∧ (loadCells ⟨w.heap.size + 1, 0, none⟩ 16).run Tryz.prog w' = .ok AN w')) vx := SK.out _ XB) | (intro hk0 K0 XB; have hHeld : ((fun w' => (loadCells ⟨w.heap.size, 0, none⟩ 11).run Tryz.prog w' = .ok AC w' ∧ (loadCells ⟨w.heap.size + 1, 0, none⟩ 16).run Tryz.prog w' = .ok AN w')) vx := SK.out _ XB)
      refine wpAnyH_ready (rs := [1, 12]) (by kernel_rfl) (by simp) ?_
      refine (AllReadyH.cons (by rw [List.getElem?_toArray]; rfl) (fun K hK => ?_) (AllReadyH.cons (by rw [List.getElem?_toArray]; rfl) (fun K hK => ?_) AllReadyH.nil))
      · go_simp
        refine (CTC vx (B.trans (XB.mono B.size))).mono ?_; rintro ee vy ⟨RC, rfl, OC0, hbl⟩; (have OC := OC0.src); (replace XB := XB.trans (hbl.mono XB.size)); (replace K0 := K0.below hbl); (clear hbl OC0)
        (try go_wp2_with fail)
        refine hK.out _ _ ?_ (fun hHeld => ?_)
        · first | exact SK.out _ XB | exact SK.out _ (Below.drew (Below.refl _ _))
        clear hK K
        (try simp only [Act.put, zSb, zS0, zS1])
        exact T1_11 k0 RC _ ⟨hk0, K0, OC, XB⟩
      · go_simp
        (have K1 := Bo.new vx (#[.int .i64 0, .int .i64 0, .int .i64 0, .int .i64 0, .int .i64 0, .int .i64 0, .int .i64 0, .string ⟨#[]⟩]) 59); (have NL := Below.nw vx (.cells (#[.int .i64 0, .int .i64 0, .int .i64 0, .int .i64 0, .int .i64 0, .int .i64 0, .int .i64 0, .string ⟨#[]⟩]) 59)); (have hk1 : vh.heap.size ≤ vx.heap.size := XB.size); (have y0 : k0 < vx.heap.size := K0.1); (replace K0 := K0.below NL); (replace XB := XB.trans (NL.mono XB.size)); (clear NL); (generalize vx.alloc (.cells (#[.int .i64 0, .int .i64 0, .int .i64 0, .int .i64 0, .int .i64 0, .int .i64 0, .int .i64 0, .string ⟨#[]⟩]) 59) = vy at *); (generalize vx.heap.size = k1 at *); (have d01 : k0 ≠ k1 := by omega)
        refine hK.out _ _ ?_ (fun hHeld => ?_)
        · first | exact SK.out _ XB | exact SK.out _ (Below.drew (Below.refl _ _))
        clear hK K
        (try simp only [Act.put, zSb, zS0, zS1])
        exact T11_12 k0 k1 _ ⟨hk0, hk1, K0, K1, d01, XB⟩
      intro k1 vx
      first | (intro hF; obtain ⟨hk1, K1, XB⟩ := hF; have hHeld : ((fun w' => (loadCells ⟨w.heap.size, 0, none⟩ 11).run Tryz.prog w' = .ok AC w' ∧ (loadCells ⟨w.heap.size + 1, 0, none⟩ 16).run Tryz.prog w' = .ok AN w')) vx := SK.out _ XB) | (intro hk1 K1 XB; have hHeld : ((fun w' => (loadCells ⟨w.heap.size, 0, none⟩ 11).run Tryz.prog w' = .ok AC w' ∧ (loadCells ⟨w.heap.size + 1, 0, none⟩ 16).run Tryz.prog w' = .ok AN w')) vx := SK.out _ XB)
      refine wpAnyH_ready (rs := [1, 11]) (by kernel_rfl) (by simp) ?_
      refine (AllReadyH.cons (by rw [List.getElem?_toArray]; rfl) (fun K hK => ?_) (AllReadyH.cons (by rw [List.getElem?_toArray]; rfl) (fun K hK => ?_) AllReadyH.nil))
      · go_simp
        refine (CTC vx (B.trans (XB.mono B.size))).mono ?_; rintro ee vy ⟨RC, rfl, OC0, hbl⟩; (have OC := OC0.src); (replace XB := XB.trans (hbl.mono XB.size)); (replace K1 := K1.below hbl); (clear hbl OC0)
        (try go_wp2_with fail)
        refine hK.out _ _ ?_ (fun hHeld => ?_)
        · first | exact SK.out _ XB | exact SK.out _ (Below.drew (Below.refl _ _))
        clear hK K
        (try simp only [Act.put, zSb, zS0, zS1])
        exact T1_12 k1 RC _ ⟨hk1, K1, OC, XB⟩
      · go_simp
        (have K0 := Bo.new vx (#[.int .i64 0, .int .i64 0, .int .i64 0, .int .i64 0, .bool false, .int .i64 0, .int .i64 0, .int .i64 0, .int .i64 0, .int .i64 0, .slice none 0 0, .slice none 0 0, .bool false, .int .i64 0, .slice none 0 0, .int .i64 0]) 57); (have NL := Below.nw vx (.cells (#[.int .i64 0, .int .i64 0, .int .i64 0, .int .i64 0, .bool false, .int .i64 0, .int .i64 0, .int .i64 0, .int .i64 0, .int .i64 0, .slice none 0 0, .slice none 0 0, .bool false, .int .i64 0, .slice none 0 0, .int .i64 0]) 57)); (have hk0 : vh.heap.size ≤ vx.heap.size := XB.size); (have y1 : k1 < vx.heap.size := K1.1); (replace K1 := K1.below NL); (replace XB := XB.trans (NL.mono XB.size)); (clear NL); (generalize vx.alloc (.cells (#[.int .i64 0, .int .i64 0, .int .i64 0, .int .i64 0, .bool false, .int .i64 0, .int .i64 0, .int .i64 0, .int .i64 0, .int .i64 0, .slice none 0 0, .slice none 0 0, .bool false, .int .i64 0, .slice none 0 0, .int .i64 0]) 57) = vy at *); (generalize vx.heap.size = k0 at *); (have d01 : k0 ≠ k1 := by omega)
        refine hK.out _ _ ?_ (fun hHeld => ?_)
        · first | exact SK.out _ XB | exact SK.out _ (Below.drew (Below.refl _ _))
        clear hK K
        (try simp only [Act.put, zSb, zS0, zS1])
        exact T11_12 k0 k1 _ ⟨hk0, hk1, K0, K1, d01, XB⟩
      intro RC RN vx
      first | (intro hF; obtain ⟨OC, ON, XB⟩ := hF; have hHeld : ((fun w' => (loadCells ⟨w.heap.size, 0, none⟩ 11).run Tryz.prog w' = .ok AC w' ∧ (loadCells ⟨w.heap.size + 1, 0, none⟩ 16).run Tryz.prog w' = .ok AN w')) vx := SK.out _ XB) | (intro OC ON XB; have hHeld : ((fun w' => (loadCells ⟨w.heap.size, 0, none⟩ 11).run Tryz.prog w' = .ok AC w' ∧ (loadCells ⟨w.heap.size + 1, 0, none⟩ 16).run Tryz.prog w' = .ok AN w')) vx := SK.out _ XB)
      refine wpAnyH_ready (rs := [6, 11, 12]) (by kernel_rfl) (by simp) ?_
      refine (AllReadyH.cons (by rw [List.getElem?_toArray]; rfl) (fun K hK => ?_) (AllReadyH.cons (by rw [List.getElem?_toArray]; rfl) (fun K hK => ?_) (AllReadyH.cons (by rw [List.getElem?_toArray]; rfl) (fun K hK => ?_) AllReadyH.nil)))
      · go_simp
        (have hlz : vh.heap.size ≤ vx.heap.size := XB.size); refine (CP vx RC RN OC ON).mono ?_; rintro ee vy ⟨RW, rfl, OW, hbl⟩; (replace XB := XB.trans (hbl.mono XB.size)); (have huz : vy.heap.size ≤ vy.heap.size := Nat.le_refl _); (clear hbl OC ON); (generalize hlz0 : vx.heap.size = lz at *); (generalize huz0 : vy.heap.size = uz at *); (replace huz : uz ≤ vy.heap.size := Nat.le_of_eq huz0.symm); (clear hlz0 huz0)
        (try go_wp2_with fail)
        refine hK.out _ _ ?_ (fun hHeld => ?_)
        · first | exact SK.out _ XB | exact SK.out _ (Below.drew (Below.refl _ _))
        clear hK K
        (try simp only [Act.put, zSb, zS0, zS1])
        refine zTk 7 ?_
        (try simp only [Act.put, zSb, zS0, zS1])
        refine zTk 8 ?_
        (try simp only [Act.put, zSb, zS0, zS1])
        refine zTk 9 ?_
        (try simp only [Act.put, zSb, zS0, zS1])
        refine zTk 10 ?_
        (try simp only [Act.put, zSb, zS0, zS1])
        exact T1_3_6 RC RN RW lz uz _ ⟨OW, hlz, huz, XB⟩
      · go_simp
        (have K0 := Bo.new vx (#[.int .i64 0, .int .i64 0, .int .i64 0, .int .i64 0, .bool false, .int .i64 0, .int .i64 0, .int .i64 0, .int .i64 0, .int .i64 0, .slice none 0 0, .slice none 0 0, .bool false, .int .i64 0, .slice none 0 0, .int .i64 0]) 57); (have NL := Below.nw vx (.cells (#[.int .i64 0, .int .i64 0, .int .i64 0, .int .i64 0, .bool false, .int .i64 0, .int .i64 0, .int .i64 0, .int .i64 0, .int .i64 0, .slice none 0 0, .slice none 0 0, .bool false, .int .i64 0, .slice none 0 0, .int .i64 0]) 57)); (have hk0 : vh.heap.size ≤ vx.heap.size := XB.size); (replace XB := XB.trans (NL.mono XB.size)); (replace OC := OC.below NL); (replace ON := ON.below NL); (clear NL); (generalize vx.alloc (.cells (#[.int .i64 0, .int .i64 0, .int .i64 0, .int .i64 0, .bool false, .int .i64 0, .int .i64 0, .int .i64 0, .int .i64 0, .int .i64 0, .slice none 0 0, .slice none 0 0, .bool false, .int .i64 0, .slice none 0 0, .int .i64 0]) 57) = vy at *); (generalize vx.heap.size = k0 at *)
        refine hK.out _ _ ?_ (fun hHeld => ?_)
        · first | exact SK.out _ XB | exact SK.out _ (Below.drew (Below.refl _ _))
        clear hK K
        (try simp only [Act.put, zSb, zS0, zS1])
        exact T1_3_11 k0 RC RN _ ⟨hk0, K0, OC, ON, XB⟩
      · go_simp
        (have K1 := Bo.new vx (#[.int .i64 0, .int .i64 0, .int .i64 0, .int .i64 0, .int .i64 0, .int .i64 0, .int .i64 0, .string ⟨#[]⟩]) 59); (have NL := Below.nw vx (.cells (#[.int .i64 0, .int .i64 0, .int .i64 0, .int .i64 0, .int .i64 0, .int .i64 0, .int .i64 0, .string ⟨#[]⟩]) 59)); (have hk1 : vh.heap.size ≤ vx.heap.size := XB.size); (replace XB := XB.trans (NL.mono XB.size)); (replace OC := OC.below NL); (replace ON := ON.below NL); (clear NL); (generalize vx.alloc (.cells (#[.int .i64 0, .int .i64 0, .int .i64 0, .int .i64 0, .int .i64 0, .int .i64 0, .int .i64 0, .string ⟨#[]⟩]) 59) = vy at *); (generalize vx.heap.size = k1 at *)
        refine hK.out _ _ ?_ (fun hHeld => ?_)
        · first | exact SK.out _ XB | exact SK.out _ (Below.drew (Below.refl _ _))
        clear hK K
        (try simp only [Act.put, zSb, zS0, zS1])
        exact T1_3_12 k1 RC RN _ ⟨hk1, K1, OC, ON, XB⟩
      intro k0 RC vx
      first | (intro hF; obtain ⟨hk0, K0, OC, XB⟩ := hF; have hHeld : ((fun w' => (loadCells ⟨w.heap.size, 0, none⟩ 11).run Tryz.prog w' = .ok AC w' ∧ (loadCells ⟨w.heap.size + 1, 0, none⟩ 16).run Tryz.prog w' = .ok AN w')) vx := SK.out _ XB) | (intro hk0 K0 OC XB; have hHeld : ((fun w' => (loadCells ⟨w.heap.size, 0, none⟩ 11).run Tryz.prog w' = .ok AC w' ∧ (loadCells ⟨w.heap.size + 1, 0, none⟩ 16).run Tryz.prog w' = .ok AN w')) vx := SK.out _ XB)
      refine wpAnyH_ready (rs := [3, 12]) (by kernel_rfl) (by simp) ?_
      refine (AllReadyH.cons (by rw [List.getElem?_toArray]; rfl) (fun K hK => ?_) (AllReadyH.cons (by rw [List.getElem?_toArray]; rfl) (fun K hK => ?_) AllReadyH.nil))
      · go_simp
        refine (CTN vx (B.trans (XB.mono B.size))).mono ?_; rintro ee vy ⟨RN, rfl, ON0, hbl⟩; (have ON := ON0.src); (replace XB := XB.trans (hbl.mono XB.size)); (replace OC := OC.below hbl); (replace K0 := K0.below hbl); (clear hbl ON0)
        (try go_wp2_with fail)
        refine hK.out _ _ ?_ (fun hHeld => ?_)
        · first | exact SK.out _ XB | exact SK.out _ (Below.drew (Below.refl _ _))
        clear hK K
        (try simp only [Act.put, zSb, zS0, zS1])
        exact T1_3_11 k0 RC RN _ ⟨hk0, K0, OC, ON, XB⟩
      · go_simp
        (have K1 := Bo.new vx (#[.int .i64 0, .int .i64 0, .int .i64 0, .int .i64 0, .int .i64 0, .int .i64 0, .int .i64 0, .string ⟨#[]⟩]) 59); (have NL := Below.nw vx (.cells (#[.int .i64 0, .int .i64 0, .int .i64 0, .int .i64 0, .int .i64 0, .int .i64 0, .int .i64 0, .string ⟨#[]⟩]) 59)); (have hk1 : vh.heap.size ≤ vx.heap.size := XB.size); (have y0 : k0 < vx.heap.size := K0.1); (replace K0 := K0.below NL); (replace XB := XB.trans (NL.mono XB.size)); (replace OC := OC.below NL); (clear NL); (generalize vx.alloc (.cells (#[.int .i64 0, .int .i64 0, .int .i64 0, .int .i64 0, .int .i64 0, .int .i64 0, .int .i64 0, .string ⟨#[]⟩]) 59) = vy at *); (generalize vx.heap.size = k1 at *); (have d01 : k0 ≠ k1 := by omega)
        refine hK.out _ _ ?_ (fun hHeld => ?_)
        · first | exact SK.out _ XB | exact SK.out _ (Below.drew (Below.refl _ _))
        clear hK K
        (try simp only [Act.put, zSb, zS0, zS1])
        exact T1_11_12 k0 k1 RC _ ⟨hk0, hk1, K0, K1, d01, OC, XB⟩
      intro k1 RC vx
      first | (intro hF; obtain ⟨hk1, K1, OC, XB⟩ := hF; have hHeld : ((fun w' => (loadCells ⟨w.heap.size, 0, none⟩ 11).run Tryz.prog w' = .ok AC w' ∧ (loadCells ⟨w.heap.size + 1, 0, none⟩ 16).run Tryz.prog w' = .ok AN w')) vx := SK.out _ XB) | (intro hk1 K1 OC XB; have hHeld : ((fun w' => (loadCells ⟨w.heap.size, 0, none⟩ 11).run Tryz.prog w' = .ok AC w' ∧ (loadCells ⟨w.heap.size + 1, 0, none⟩ 16).run Tryz.prog w' = .ok AN w')) vx := SK.out _ XB)
      refine wpAnyH_ready (rs := [3, 11]) (by kernel_rfl) (by simp) ?_
      refine (AllReadyH.cons (by rw [List.getElem?_toArray]; rfl) (fun K hK => ?_) (AllReadyH.cons (by rw [List.getElem?_toArray]; rfl) (fun K hK => ?_) AllReadyH.nil))
      · go_simp
        refine (CTN vx (B.trans (XB.mono B.size))).mono ?_; rintro ee vy ⟨RN, rfl, ON0, hbl⟩; (have ON := ON0.src); (replace XB := XB.trans (hbl.mono XB.size)); (replace OC := OC.below hbl); (replace K1 := K1.below hbl); (clear hbl ON0)
        (try go_wp2_with fail)
        refine hK.out _ _ ?_ (fun hHeld => ?_)
        · first | exact SK.out _ XB | exact SK.out _ (Below.drew (Below.refl _ _))
        clear hK K
        (try simp only [Act.put, zSb, zS0, zS1])
        exact T1_3_12 k1 RC RN _ ⟨hk1, K1, OC, ON, XB⟩
      · go_simp
        (have K0 := Bo.new vx (#[.int .i64 0, .int .i64 0, .int .i64 0, .int .i64 0, .bool false, .int .i64 0, .int .i64 0, .int .i64 0, .int .i64 0, .int .i64 0, .slice none 0 0, .slice none 0 0, .bool false, .int .i64 0, .slice none 0 0, .int .i64 0]) 57); (have NL := Below.nw vx (.cells (#[.int .i64 0, .int .i64 0, .int .i64 0, .int .i64 0, .bool false, .int .i64 0, .int .i64 0, .int .i64 0, .int .i64 0, .int .i64 0, .slice none 0 0, .slice none 0 0, .bool false, .int .i64 0, .slice none 0 0, .int .i64 0]) 57)); (have hk0 : vh.heap.size ≤ vx.heap.size := XB.size); (have y1 : k1 < vx.heap.size := K1.1); (replace K1 := K1.below NL); (replace XB := XB.trans (NL.mono XB.size)); (replace OC := OC.below NL); (clear NL); (generalize vx.alloc (.cells (#[.int .i64 0, .int .i64 0, .int .i64 0, .int .i64 0, .bool false, .int .i64 0, .int .i64 0, .int .i64 0, .int .i64 0, .int .i64 0, .slice none 0 0, .slice none 0 0, .bool false, .int .i64 0, .slice none 0 0, .int .i64 0]) 57) = vy at *); (generalize vx.heap.size = k0 at *); (have d01 : k0 ≠ k1 := by omega)
        refine hK.out _ _ ?_ (fun hHeld => ?_)
        · first | exact SK.out _ XB | exact SK.out _ (Below.drew (Below.refl _ _))
        clear hK K
        (try simp only [Act.put, zSb, zS0, zS1])
        exact T1_11_12 k0 k1 RC _ ⟨hk0, hk1, K0, K1, d01, OC, XB⟩
      intro k0 k1 vx
      first | (intro hF; obtain ⟨hk0, hk1, K0, K1, d01, XB⟩ := hF; have hHeld : ((fun w' => (loadCells ⟨w.heap.size, 0, none⟩ 11).run Tryz.prog w' = .ok AC w' ∧ (loadCells ⟨w.heap.size + 1, 0, none⟩ 16).run Tryz.prog w' = .ok AN w')) vx := SK.out _ XB) | (intro hk0 hk1 K0 K1 d01 XB; have hHeld : ((fun w' => (loadCells ⟨w.heap.size, 0, none⟩ 11).run Tryz.prog w' = .ok AC w' ∧ (loadCells ⟨w.heap.size + 1, 0, none⟩ 16).run Tryz.prog w' = .ok AN w')) vx := SK.out _ XB)
      refine wpAnyH_ready (rs := [1]) (by kernel_rfl) (by simp) ?_
      refine (AllReadyH.cons (by rw [List.getElem?_toArray]; rfl) (fun K hK => ?_) AllReadyH.nil)
      go_simp
      refine (CTC vx (B.trans (XB.mono B.size))).mono ?_; rintro ee vy ⟨RC, rfl, OC0, hbl⟩; (have OC := OC0.src); (replace XB := XB.trans (hbl.mono XB.size)); (replace K0 := K0.below hbl); (replace K1 := K1.below hbl); (clear hbl OC0)
      (try go_wp2_with fail)
      refine hK.out _ _ ?_ (fun hHeld => ?_)
      · first | exact SK.out _ XB | exact SK.out _ (Below.drew (Below.refl _ _))
      clear hK K
      (try simp only [Act.put, zSb, zS0, zS1])
      exact T1_11_12 k0 k1 RC _ ⟨hk0, hk1, K0, K1, d01, OC, XB⟩
      intro RC RN RW lz uz vx
      first | (intro hF; obtain ⟨OW, hlz, huz, XB⟩ := hF; have hHeld : ((fun w' => (loadCells ⟨w.heap.size, 0, none⟩ 11).run Tryz.prog w' = .ok AC w' ∧ (loadCells ⟨w.heap.size + 1, 0, none⟩ 16).run Tryz.prog w' = .ok AN w')) vx := SK.out _ XB) | (intro OW hlz huz XB; have hHeld : ((fun w' => (loadCells ⟨w.heap.size, 0, none⟩ 11).run Tryz.prog w' = .ok AC w' ∧ (loadCells ⟨w.heap.size + 1, 0, none⟩ 16).run Tryz.prog w' = .ok AN w')) vx := SK.out _ XB)
      refine wpAnyH_ready (rs := [11, 12]) (by kernel_rfl) (by simp) ?_
      refine (AllReadyH.cons (by rw [List.getElem?_toArray]; rfl) (fun K hK => ?_) (AllReadyH.cons (by rw [List.getElem?_toArray]; rfl) (fun K hK => ?_) AllReadyH.nil))
      · go_simp
        (have K0 := Bo.new vx (#[.int .i64 0, .int .i64 0, .int .i64 0, .int .i64 0, .bool false, .int .i64 0, .int .i64 0, .int .i64 0, .int .i64 0, .int .i64 0, .slice none 0 0, .slice none 0 0, .bool false, .int .i64 0, .slice none 0 0, .int .i64 0]) 57); (have NL := Below.nw vx (.cells (#[.int .i64 0, .int .i64 0, .int .i64 0, .int .i64 0, .bool false, .int .i64 0, .int .i64 0, .int .i64 0, .int .i64 0, .int .i64 0, .slice none 0 0, .slice none 0 0, .bool false, .int .i64 0, .slice none 0 0, .int .i64 0]) 57)); (have hk0 : vh.heap.size ≤ vx.heap.size := XB.size); (have e0 : vx.heap.size < lz ∨ uz ≤ vx.heap.size := .inr huz); (replace huz : uz ≤ (vx.alloc (.cells (#[.int .i64 0, .int .i64 0, .int .i64 0, .int .i64 0, .bool false, .int .i64 0, .int .i64 0, .int .i64 0, .int .i64 0, .int .i64 0, .slice none 0 0, .slice none 0 0, .bool false, .int .i64 0, .slice none 0 0, .int .i64 0]) 57)).heap.size := Nat.le_trans huz NL.size); (replace XB := XB.trans (NL.mono XB.size)); (replace OW := OW.below NL); (clear NL); (generalize vx.alloc (.cells (#[.int .i64 0, .int .i64 0, .int .i64 0, .int .i64 0, .bool false, .int .i64 0, .int .i64 0, .int .i64 0, .int .i64 0, .int .i64 0, .slice none 0 0, .slice none 0 0, .bool false, .int .i64 0, .slice none 0 0, .int .i64 0]) 57) = vy at *); (generalize vx.heap.size = k0 at *)
        refine hK.out _ _ ?_ (fun hHeld => ?_)
        · first | exact SK.out _ XB | exact SK.out _ (Below.drew (Below.refl _ _))
        clear hK K
        (try simp only [Act.put, zSb, zS0, zS1])
        exact T1_3_6_11 k0 RC RN RW lz uz _ ⟨hk0, K0, OW, hlz, huz, e0, XB⟩
      · go_simp
        (have K1 := Bo.new vx (#[.int .i64 0, .int .i64 0, .int .i64 0, .int .i64 0, .int .i64 0, .int .i64 0, .int .i64 0, .string ⟨#[]⟩]) 59); (have NL := Below.nw vx (.cells (#[.int .i64 0, .int .i64 0, .int .i64 0, .int .i64 0, .int .i64 0, .int .i64 0, .int .i64 0, .string ⟨#[]⟩]) 59)); (have hk1 : vh.heap.size ≤ vx.heap.size := XB.size); (have e1 : vx.heap.size < lz ∨ uz ≤ vx.heap.size := .inr huz); (replace huz : uz ≤ (vx.alloc (.cells (#[.int .i64 0, .int .i64 0, .int .i64 0, .int .i64 0, .int .i64 0, .int .i64 0, .int .i64 0, .string ⟨#[]⟩]) 59)).heap.size := Nat.le_trans huz NL.size); (replace XB := XB.trans (NL.mono XB.size)); (replace OW := OW.below NL); (clear NL); (generalize vx.alloc (.cells (#[.int .i64 0, .int .i64 0, .int .i64 0, .int .i64 0, .int .i64 0, .int .i64 0, .int .i64 0, .string ⟨#[]⟩]) 59) = vy at *); (generalize vx.heap.size = k1 at *)
        refine hK.out _ _ ?_ (fun hHeld => ?_)
        · first | exact SK.out _ XB | exact SK.out _ (Below.drew (Below.refl _ _))
        clear hK K
        (try simp only [Act.put, zSb, zS0, zS1])
        exact T1_3_6_12 k1 RC RN RW lz uz _ ⟨hk1, K1, OW, hlz, huz, e1, XB⟩
      intro k0 RC RN vx
      first | (intro hF; obtain ⟨hk0, K0, OC, ON, XB⟩ := hF; have hHeld : ((fun w' => (loadCells ⟨w.heap.size, 0, none⟩ 11).run Tryz.prog w' = .ok AC w' ∧ (loadCells ⟨w.heap.size + 1, 0, none⟩ 16).run Tryz.prog w' = .ok AN w')) vx := SK.out _ XB) | (intro hk0 K0 OC ON XB; have hHeld : ((fun w' => (loadCells ⟨w.heap.size, 0, none⟩ 11).run Tryz.prog w' = .ok AC w' ∧ (loadCells ⟨w.heap.size + 1, 0, none⟩ 16).run Tryz.prog w' = .ok AN w')) vx := SK.out _ XB)
      refine wpAnyH_ready (rs := [6, 12]) (by kernel_rfl) (by simp) ?_
      refine (AllReadyH.cons (by rw [List.getElem?_toArray]; rfl) (fun K hK => ?_) (AllReadyH.cons (by rw [List.getElem?_toArray]; rfl) (fun K hK => ?_) AllReadyH.nil))
      · go_simp
        (have hlz : vh.heap.size ≤ vx.heap.size := XB.size); (have y0 : k0 < vx.heap.size := K0.1); refine (CP vx RC RN OC ON).mono ?_; rintro ee vy ⟨RW, rfl, OW, hbl⟩; (replace XB := XB.trans (hbl.mono XB.size)); (replace K0 := K0.below hbl); (have huz : vy.heap.size ≤ vy.heap.size := Nat.le_refl _); (have e0 : k0 < vx.heap.size ∨ vy.heap.size ≤ k0 := .inl y0); (clear hbl OC ON y0); (generalize hlz0 : vx.heap.size = lz at *); (generalize huz0 : vy.heap.size = uz at *); (replace huz : uz ≤ vy.heap.size := Nat.le_of_eq huz0.symm); (clear hlz0 huz0)
        (try go_wp2_with fail)
        refine hK.out _ _ ?_ (fun hHeld => ?_)
        · first | exact SK.out _ XB | exact SK.out _ (Below.drew (Below.refl _ _))
        clear hK K
        (try simp only [Act.put, zSb, zS0, zS1])
        refine zTk 7 ?_
        (try simp only [Act.put, zSb, zS0, zS1])
        refine zTk 8 ?_
        (try simp only [Act.put, zSb, zS0, zS1])
        refine zTk 9 ?_
        (try simp only [Act.put, zSb, zS0, zS1])
        refine zTk 10 ?_
        (try simp only [Act.put, zSb, zS0, zS1])
        exact T1_3_6_11 k0 RC RN RW lz uz _ ⟨hk0, K0, OW, hlz, huz, e0, XB⟩
      · go_simp
        (have K1 := Bo.new vx (#[.int .i64 0, .int .i64 0, .int .i64 0, .int .i64 0, .int .i64 0, .int .i64 0, .int .i64 0, .string ⟨#[]⟩]) 59); (have NL := Below.nw vx (.cells (#[.int .i64 0, .int .i64 0, .int .i64 0, .int .i64 0, .int .i64 0, .int .i64 0, .int .i64 0, .string ⟨#[]⟩]) 59)); (have hk1 : vh.heap.size ≤ vx.heap.size := XB.size); (have y0 : k0 < vx.heap.size := K0.1); (replace K0 := K0.below NL); (replace XB := XB.trans (NL.mono XB.size)); (replace OC := OC.below NL); (replace ON := ON.below NL); (clear NL); (generalize vx.alloc (.cells (#[.int .i64 0, .int .i64 0, .int .i64 0, .int .i64 0, .int .i64 0, .int .i64 0, .int .i64 0, .string ⟨#[]⟩]) 59) = vy at *); (generalize vx.heap.size = k1 at *); (have d01 : k0 ≠ k1 := by omega)
        refine hK.out _ _ ?_ (fun hHeld => ?_)
        · first | exact SK.out _ XB | exact SK.out _ (Below.drew (Below.refl _ _))
        clear hK K
        (try simp only [Act.put, zSb, zS0, zS1])
        exact T1_3_11_12 k0 k1 RC RN _ ⟨hk0, hk1, K0, K1, d01, OC, ON, XB⟩
      intro k1 RC RN vx
      first | (intro hF; obtain ⟨hk1, K1, OC, ON, XB⟩ := hF; have hHeld : ((fun w' => (loadCells ⟨w.heap.size, 0, none⟩ 11).run Tryz.prog w' = .ok AC w' ∧ (loadCells ⟨w.heap.size + 1, 0, none⟩ 16).run Tryz.prog w' = .ok AN w')) vx := SK.out _ XB) | (intro hk1 K1 OC ON XB; have hHeld : ((fun w' => (loadCells ⟨w.heap.size, 0, none⟩ 11).run Tryz.prog w' = .ok AC w' ∧ (loadCells ⟨w.heap.size + 1, 0, none⟩ 16).run Tryz.prog w' = .ok AN w')) vx := SK.out _ XB)
      refine wpAnyH_ready (rs := [6, 11]) (by kernel_rfl) (by simp) ?_
      refine (AllReadyH.cons (by rw [List.getElem?_toArray]; rfl) (fun K hK => ?_) (AllReadyH.cons (by rw [List.getElem?_toArray]; rfl) (fun K hK => ?_) AllReadyH.nil))
      · go_simp
        (have hlz : vh.heap.size ≤ vx.heap.size := XB.size); (have y1 : k1 < vx.heap.size := K1.1); refine (CP vx RC RN OC ON).mono ?_; rintro ee vy ⟨RW, rfl, OW, hbl⟩; (replace XB := XB.trans (hbl.mono XB.size)); (replace K1 := K1.below hbl); (have huz : vy.heap.size ≤ vy.heap.size := Nat.le_refl _); (have e1 : k1 < vx.heap.size ∨ vy.heap.size ≤ k1 := .inl y1); (clear hbl OC ON y1); (generalize hlz0 : vx.heap.size = lz at *); (generalize huz0 : vy.heap.size = uz at *); (replace huz : uz ≤ vy.heap.size := Nat.le_of_eq huz0.symm); (clear hlz0 huz0)
        (try go_wp2_with fail)
        refine hK.out _ _ ?_ (fun hHeld => ?_)
        · first | exact SK.out _ XB | exact SK.out _ (Below.drew (Below.refl _ _))
        clear hK K
        (try simp only [Act.put, zSb, zS0, zS1])
        refine zTk 7 ?_
        (try simp only [Act.put, zSb, zS0, zS1])
        refine zTk 8 ?_
        (try simp only [Act.put, zSb, zS0, zS1])
        refine zTk 9 ?_
        (try simp only [Act.put, zSb, zS0, zS1])
        refine zTk 10 ?_
        (try simp only [Act.put, zSb, zS0, zS1])
        exact T1_3_6_12 k1 RC RN RW lz uz _ ⟨hk1, K1, OW, hlz, huz, e1, XB⟩
      · go_simp
        (have K0 := Bo.new vx (#[.int .i64 0, .int .i64 0, .int .i64 0, .int .i64 0, .bool false, .int .i64 0, .int .i64 0, .int .i64 0, .int .i64 0, .int .i64 0, .slice none 0 0, .slice none 0 0, .bool false, .int .i64 0, .slice none 0 0, .int .i64 0]) 57); (have NL := Below.nw vx (.cells (#[.int .i64 0, .int .i64 0, .int .i64 0, .int .i64 0, .bool false, .int .i64 0, .int .i64 0, .int .i64 0, .int .i64 0, .int .i64 0, .slice none 0 0, .slice none 0 0, .bool false, .int .i64 0, .slice none 0 0, .int .i64 0]) 57)); (have hk0 : vh.heap.size ≤ vx.heap.size := XB.size); (have y1 : k1 < vx.heap.size := K1.1); (replace K1 := K1.below NL); (replace XB := XB.trans (NL.mono XB.size)); (replace OC := OC.below NL); (replace ON := ON.below NL); (clear NL); (generalize vx.alloc (.cells (#[.int .i64 0, .int .i64 0, .int .i64 0, .int .i64 0, .bool false, .int .i64 0, .int .i64 0, .int .i64 0, .int .i64 0, .int .i64 0, .slice none 0 0, .slice none 0 0, .bool false, .int .i64 0, .slice none 0 0, .int .i64 0]) 57) = vy at *); (generalize vx.heap.size = k0 at *); (have d01 : k0 ≠ k1 := by omega)
        refine hK.out _ _ ?_ (fun hHeld => ?_)
        · first | exact SK.out _ XB | exact SK.out _ (Below.drew (Below.refl _ _))
        clear hK K
        (try simp only [Act.put, zSb, zS0, zS1])
        exact T1_3_11_12 k0 k1 RC RN _ ⟨hk0, hk1, K0, K1, d01, OC, ON, XB⟩
      intro k0 k1 RC vx
      first | (intro hF; obtain ⟨hk0, hk1, K0, K1, d01, OC, XB⟩ := hF; have hHeld : ((fun w' => (loadCells ⟨w.heap.size, 0, none⟩ 11).run Tryz.prog w' = .ok AC w' ∧ (loadCells ⟨w.heap.size + 1, 0, none⟩ 16).run Tryz.prog w' = .ok AN w')) vx := SK.out _ XB) | (intro hk0 hk1 K0 K1 d01 OC XB; have hHeld : ((fun w' => (loadCells ⟨w.heap.size, 0, none⟩ 11).run Tryz.prog w' = .ok AC w' ∧ (loadCells ⟨w.heap.size + 1, 0, none⟩ 16).run Tryz.prog w' = .ok AN w')) vx := SK.out _ XB)
      refine wpAnyH_ready (rs := [3]) (by kernel_rfl) (by simp) ?_
      refine (AllReadyH.cons (by rw [List.getElem?_toArray]; rfl) (fun K hK => ?_) AllReadyH.nil)
      go_simp
      refine (CTN vx (B.trans (XB.mono B.size))).mono ?_; rintro ee vy ⟨RN, rfl, ON0, hbl⟩; (have ON := ON0.src); (replace XB := XB.trans (hbl.mono XB.size)); (replace OC := OC.below hbl); (replace K0 := K0.below hbl); (replace K1 := K1.below hbl); (clear hbl ON0)
      (try go_wp2_with fail)
      refine hK.out _ _ ?_ (fun hHeld => ?_)
      · first | exact SK.out _ XB | exact SK.out _ (Below.drew (Below.refl _ _))
      clear hK K
      (try simp only [Act.put, zSb, zS0, zS1])
      exact T1_3_11_12 k0 k1 RC RN _ ⟨hk0, hk1, K0, K1, d01, OC, ON, XB⟩
      intro k0 RC RN RW lz uz vx
      first | (intro hF; obtain ⟨hk0, K0, OW, hlz, huz, e0, XB⟩ := hF; have hHeld : ((fun w' => (loadCells ⟨w.heap.size, 0, none⟩ 11).run Tryz.prog w' = .ok AC w' ∧ (loadCells ⟨w.heap.size + 1, 0, none⟩ 16).run Tryz.prog w' = .ok AN w')) vx := SK.out _ XB) | (intro hk0 K0 OW hlz huz e0 XB; have hHeld : ((fun w' => (loadCells ⟨w.heap.size, 0, none⟩ 11).run Tryz.prog w' = .ok AC w' ∧ (loadCells ⟨w.heap.size + 1, 0, none⟩ 16).run Tryz.prog w' = .ok AN w')) vx := SK.out _ XB)
      refine wpAnyH_ready (rs := [12]) (by kernel_rfl) (by simp) ?_
      refine (AllReadyH.cons (by rw [List.getElem?_toArray]; rfl) (fun K hK => ?_) AllReadyH.nil)
      go_simp
      (have K1 := Bo.new vx (#[.int .i64 0, .int .i64 0, .int .i64 0, .int .i64 0, .int .i64 0, .int .i64 0, .int .i64 0, .string ⟨#[]⟩]) 59); (have NL := Below.nw vx (.cells (#[.int .i64 0, .int .i64 0, .int .i64 0, .int .i64 0, .int .i64 0, .int .i64 0, .int .i64 0, .string ⟨#[]⟩]) 59)); (have hk1 : vh.heap.size ≤ vx.heap.size := XB.size); (have y0 : k0 < vx.heap.size := K0.1); (replace K0 := K0.below NL); (have e1 : vx.heap.size < lz ∨ uz ≤ vx.heap.size := .inr huz); (replace huz : uz ≤ (vx.alloc (.cells (#[.int .i64 0, .int .i64 0, .int .i64 0, .int .i64 0, .int .i64 0, .int .i64 0, .int .i64 0, .string ⟨#[]⟩]) 59)).heap.size := Nat.le_trans huz NL.size); (replace XB := XB.trans (NL.mono XB.size)); (replace OW := OW.below NL); (clear NL); (generalize vx.alloc (.cells (#[.int .i64 0, .int .i64 0, .int .i64 0, .int .i64 0, .int .i64 0, .int .i64 0, .int .i64 0, .string ⟨#[]⟩]) 59) = vy at *); (generalize vx.heap.size = k1 at *); (have d01 : k0 ≠ k1 := by omega)
      refine hK.out _ _ ?_ (fun hHeld => ?_)
      · first | exact SK.out _ XB | exact SK.out _ (Below.drew (Below.refl _ _))
      clear hK K
      (try simp only [Act.put, zSb, zS0, zS1])
      exact T1_3_6_11_12 k0 k1 RC RN RW lz uz _ ⟨hk0, hk1, K0, K1, d01, OW, hlz, huz, e0, e1, XB⟩
      intro k1 RC RN RW lz uz vx
      first | (intro hF; obtain ⟨hk1, K1, OW, hlz, huz, e1, XB⟩ := hF; have hHeld : ((fun w' => (loadCells ⟨w.heap.size, 0, none⟩ 11).run Tryz.prog w' = .ok AC w' ∧ (loadCells ⟨w.heap.size + 1, 0, none⟩ 16).run Tryz.prog w' = .ok AN w')) vx := SK.out _ XB) | (intro hk1 K1 OW hlz huz e1 XB; have hHeld : ((fun w' => (loadCells ⟨w.heap.size, 0, none⟩ 11).run Tryz.prog w' = .ok AC w' ∧ (loadCells ⟨w.heap.size + 1, 0, none⟩ 16).run Tryz.prog w' = .ok AN w')) vx := SK.out _ XB)
      refine wpAnyH_ready (rs := [11]) (by kernel_rfl) (by simp) ?_
      refine (AllReadyH.cons (by rw [List.getElem?_toArray]; rfl) (fun K hK => ?_) AllReadyH.nil)
      go_simp
      (have K0 := Bo.new vx (#[.int .i64 0, .int .i64 0, .int .i64 0, .int .i64 0, .bool false, .int .i64 0, .int .i64 0, .int .i64 0, .int .i64 0, .int .i64 0, .slice none 0 0, .slice none 0 0, .bool false, .int .i64 0, .slice none 0 0, .int .i64 0]) 57); (have NL := Below.nw vx (.cells (#[.int .i64 0, .int .i64 0, .int .i64 0, .int .i64 0, .bool false, .int .i64 0, .int .i64 0, .int .i64 0, .int .i64 0, .int .i64 0, .slice none 0 0, .slice none 0 0, .bool false, .int .i64 0, .slice none 0 0, .int .i64 0]) 57)); (have hk0 : vh.heap.size ≤ vx.heap.size := XB.size); (have y1 : k1 < vx.heap.size := K1.1); (replace K1 := K1.below NL); (have e0 : vx.heap.size < lz ∨ uz ≤ vx.heap.size := .inr huz); (replace huz : uz ≤ (vx.alloc (.cells (#[.int .i64 0, .int .i64 0, .int .i64 0, .int .i64 0, .bool false, .int .i64 0, .int .i64 0, .int .i64 0, .int .i64 0, .int .i64 0, .slice none 0 0, .slice none 0 0, .bool false, .int .i64 0, .slice none 0 0, .int .i64 0]) 57)).heap.size := Nat.le_trans huz NL.size); (replace XB := XB.trans (NL.mono XB.size)); (replace OW := OW.below NL); (clear NL); (generalize vx.alloc (.cells (#[.int .i64 0, .int .i64 0, .int .i64 0, .int .i64 0, .bool false, .int .i64 0, .int .i64 0, .int .i64 0, .int .i64 0, .int .i64 0, .slice none 0 0, .slice none 0 0, .bool false, .int .i64 0, .slice none 0 0, .int .i64 0]) 57) = vy at *); (generalize vx.heap.size = k0 at *); (have d01 : k0 ≠ k1 := by omega)
      refine hK.out _ _ ?_ (fun hHeld => ?_)
      · first | exact SK.out _ XB | exact SK.out _ (Below.drew (Below.refl _ _))
      clear hK K
      (try simp only [Act.put, zSb, zS0, zS1])
      exact T1_3_6_11_12 k0 k1 RC RN RW lz uz _ ⟨hk0, hk1, K0, K1, d01, OW, hlz, huz, e0, e1, XB⟩
      intro k0 k1 RC RN vx
      first | (intro hF; obtain ⟨hk0, hk1, K0, K1, d01, OC, ON, XB⟩ := hF; have hHeld : ((fun w' => (loadCells ⟨w.heap.size, 0, none⟩ 11).run Tryz.prog w' = .ok AC w' ∧ (loadCells ⟨w.heap.size + 1, 0, none⟩ 16).run Tryz.prog w' = .ok AN w')) vx := SK.out _ XB) | (intro hk0 hk1 K0 K1 d01 OC ON XB; have hHeld : ((fun w' => (loadCells ⟨w.heap.size, 0, none⟩ 11).run Tryz.prog w' = .ok AC w' ∧ (loadCells ⟨w.heap.size + 1, 0, none⟩ 16).run Tryz.prog w' = .ok AN w')) vx := SK.out _ XB)
      refine wpAnyH_ready (rs := [6]) (by kernel_rfl) (by simp) ?_
      refine (AllReadyH.cons (by rw [List.getElem?_toArray]; rfl) (fun K hK => ?_) AllReadyH.nil)
      go_simp
      (have hlz : vh.heap.size ≤ vx.heap.size := XB.size); (have y0 : k0 < vx.heap.size := K0.1); (have y1 : k1 < vx.heap.size := K1.1); refine (CP vx RC RN OC ON).mono ?_; rintro ee vy ⟨RW, rfl, OW, hbl⟩; (replace XB := XB.trans (hbl.mono XB.size)); (replace K0 := K0.below hbl); (replace K1 := K1.below hbl); (have huz : vy.heap.size ≤ vy.heap.size := Nat.le_refl _); (have e0 : k0 < vx.heap.size ∨ vy.heap.size ≤ k0 := .inl y0); (have e1 : k1 < vx.heap.size ∨ vy.heap.size ≤ k1 := .inl y1); (clear hbl OC ON y0 y1); (generalize hlz0 : vx.heap.size = lz at *); (generalize huz0 : vy.heap.size = uz at *); (replace huz : uz ≤ vy.heap.size := Nat.le_of_eq huz0.symm); (clear hlz0 huz0)
      (try go_wp2_with fail)
      refine hK.out _ _ ?_ (fun hHeld => ?_)
      · first | exact SK.out _ XB | exact SK.out _ (Below.drew (Below.refl _ _))
      clear hK K
      (try simp only [Act.put, zSb, zS0, zS1])
      refine zTk 7 ?_
      (try simp only [Act.put, zSb, zS0, zS1])
      refine zTk 8 ?_
      (try simp only [Act.put, zSb, zS0, zS1])
      refine zTk 9 ?_
      (try simp only [Act.put, zSb, zS0, zS1])
      refine zTk 10 ?_
      (try simp only [Act.put, zSb, zS0, zS1])
      exact T1_3_6_11_12 k0 k1 RC RN RW lz uz _ ⟨hk0, hk1, K0, K1, d01, OW, hlz, huz, e0, e1, XB⟩
      intro k0 k1 RC RN RW lz uz vx
      first | (intro hF; obtain ⟨hk0, hk1, K0, K1, d01, OW, hlz, huz, e0, e1, XB⟩ := hF; have hHeld : ((fun w' => (loadCells ⟨w.heap.size, 0, none⟩ 11).run Tryz.prog w' = .ok AC w' ∧ (loadCells ⟨w.heap.size + 1, 0, none⟩ 16).run Tryz.prog w' = .ok AN w')) vx := SK.out _ XB) | (intro hk0 hk1 K0 K1 d01 OW hlz huz e0 e1 XB; have hHeld : ((fun w' => (loadCells ⟨w.heap.size, 0, none⟩ 11).run Tryz.prog w' = .ok AC w' ∧ (loadCells ⟨w.heap.size + 1, 0, none⟩ 16).run Tryz.prog w' = .ok AN w')) vx := SK.out _ XB)
      (have hRW := OW.size); (have hst := Bo.store (P := Tryz.prog) (b := 0) RW.toList 0 0 K0 rfl (by simp [hRW]) OW.one)
      refine wpAnyH_ready (rs := [13]) (by kernel_rfl) (by simp) ?_
      refine (AllReadyH.cons (by rw [List.getElem?_toArray]; rfl) (fun K hK => ?_) AllReadyH.nil)
      go_simp
      (have hbt := putA_btw RW.toList vx 0 k0); (replace XB := putA_below (k := k0) RW.toList vh vx 0 XB hk0); (replace K0 := K0.putW (U := RW) hRW); (replace K1 := K1.btw hbt (by omega)); (replace OW := OW.btw hbt (by omega)); (replace huz := Nat.le_trans huz hbt.2.2.2.1); (clear hst hbt); (generalize putA vx k0 0 RW.toList = vy at *)
      refine hK.out _ _ ?_ (fun hHeld => ?_)
      · first | exact SK.out _ XB | exact SK.out _ (Below.drew (Below.refl _ _))
      clear hK K
      (try simp only [Act.put, zSb, zS0, zS1])
      (have hst := Bo.store (P := Tryz.prog) (b := 0) ([.int .i64 mk, .int .i64 mf, .int .i64 mt, .int .i64 mn, .int .i64 ml, .int .i64 mh, .int .i64 ms, .string mb]) 0 0 K1 rfl (show 0 + 8 ≤ 8 by decide) (List.forall_mem_cons.2 ⟨rfl, (List.forall_mem_cons.2 ⟨rfl, (List.forall_mem_cons.2 ⟨rfl, (List.forall_mem_cons.2 ⟨rfl, (List.forall_mem_cons.2 ⟨rfl, (List.forall_mem_cons.2 ⟨rfl, (List.forall_mem_cons.2 ⟨rfl, (List.forall_mem_cons.2 ⟨rfl, fun _ h => nomatch h⟩)⟩)⟩)⟩)⟩)⟩)⟩)⟩))
      refine wpAnyH_ready (rs := [14]) (by kernel_rfl) (by simp) ?_
      refine (AllReadyH.cons (by rw [List.getElem?_toArray]; rfl) (fun K hK => ?_) AllReadyH.nil)
      go_simp
      (have hbt := putA_btw ([.int .i64 mk, .int .i64 mf, .int .i64 mt, .int .i64 mn, .int .i64 ml, .int .i64 mh, .int .i64 ms, .string mb]) vy 0 k1); (replace XB := putA_below (k := k1) ([.int .i64 mk, .int .i64 mf, .int .i64 mt, .int .i64 mn, .int .i64 ml, .int .i64 mh, .int .i64 ms, .string mb]) vh vy 0 XB hk1); (have K9 : Bo (putA vy k1 0 ([.int .i64 mk, .int .i64 mf, .int .i64 mt, .int .i64 mn, .int .i64 ml, .int .i64 mh, .int .i64 ms, .string mb])) k1 (#[.int .i64 mk, .int .i64 mf, .int .i64 mt, .int .i64 mn, .int .i64 ml, .int .i64 mh, .int .i64 ms, .string mb]) := K1.putW (U := #[.int .i64 mk, .int .i64 mf, .int .i64 mt, .int .i64 mn, .int .i64 ml, .int .i64 mh, .int .i64 ms, .string mb]) rfl); (replace K0 := K0.btw hbt (by omega)); (replace OW := OW.btw hbt (by omega)); (replace huz := Nat.le_trans huz hbt.2.2.2.1); (clear hst hbt K1); (generalize putA vy k1 0 ([.int .i64 mk, .int .i64 mf, .int .i64 mt, .int .i64 mn, .int .i64 ml, .int .i64 mh, .int .i64 ms, .string mb]) = vz at *)
      refine hK.out _ _ ?_ (fun hHeld => ?_)
      · first | exact SK.out _ XB | exact SK.out _ (Below.drew (Below.refl _ _))
      clear hK K
      (try simp only [Act.put, zSb, zS0, zS1])
      refine zTk 15 ?_
      (try simp only [Act.put, zSb, zS0, zS1])
      refine wpAnyH_done (by kernel_rfl) ?_ _
      go_wp2_with fail
      go_meet
      case rel => exact ⟨k0, k1, lz, uz, RW, rfl, rfl, rfl, K0, K9, OW, hlz, hk0, hk1, huz, XB⟩
    case rest =>
      obtain ⟨kH, kHm, lh, uh, RH, rfl, rfl, rfl, H, HM, OH, hlh1, hkH1, hkHm1, huh1, hb⟩ := hcut
      clear SK
      generalize wc = vi at *
      replace B := B.trans (hb.mono B.size)
      replace C := C.below hb
      replace N := N.below hb
      replace W := W.below hb
      replace WM := WM.below hb
      replace OW := OW.below hb
      replace G := G.below hb
      replace MG := MG.below hb
      clear hb
      have hRH := OH.size
      have hkH2 : kH < vi.heap.size := H.1
      have hkHm2 : kHm < vi.heap.size := HM.1
      have hL := H.load (P := Tryz.prog) hRH
      have hL2 := W.load (P := Tryz.prog) hRW
      go_wp2_with (first | rw [hL] | rw [hL2])
      refine (eqNodeX RH RW x1 vi OH.src OW.src).mono ?_
      rintro e vja ⟨rfl, hb⟩
      clear hL hL2
      replace B := B.trans (hb.mono B.size)
      replace C := C.below hb
      replace N := N.below hb
      replace W := W.below hb
      replace WM := WM.below hb
      replace OW := OW.below hb
      replace G := G.below hb
      replace MG := MG.below hb
      replace H := H.below hb
      replace HM := HM.below hb
      replace OH := OH.below hb
      clear hb
      have hL := HM.load (P := Tryz.prog) (show (#[.int .i64 mk, .int .i64 mf, .int .i64 mt, .int .i64 mn, .int .i64 ml, .int .i64 mh, .int .i64 ms, .string mb] : Array Value).size = 8 from rfl)
      have hL2 := WM.load (P := Tryz.prog) (show (#[.int .i64 mk, .int .i64 mf, .int .i64 mt, .int .i64 mn, .int .i64 ml, .int .i64 mh, .int .i64 ms, .string mb] : Array Value).size = 8 from rfl)
      go_wp2_with (first | rw [hL] | rw [hL2])
      refine (eqMsg_same mk mf mt mn ml mh ms mb vja).mono ?_
      rintro e vj ⟨rfl, hb⟩
      clear hL hL2
      replace B := B.trans (hb.mono B.size)
      replace C := C.below hb
      replace N := N.below hb
      replace W := W.below hb
      replace WM := WM.below hb
      replace OW := OW.below hb
      replace G := G.below hb
      replace MG := MG.below hb
      replace H := H.below hb
      replace HM := HM.below hb
      replace OH := OH.below hb
      clear hb
      have hL := G.load (P := Tryz.prog) hRG
      go_wp2_with (rw [hL])
      refine (heldNodeX RG x1 1 vj MG (by decide) (by decide)).mono ?_
      rintro e vk ⟨rfl, hb⟩
      clear hL
      replace B := B.trans (hb.mono B.size)
      replace C := C.below hb
      replace N := N.below hb
      replace W := W.below hb
      replace WM := WM.below hb
      replace OW := OW.below hb
      replace G := G.below hb
      replace MG := MG.below hb
      replace H := H.below hb
      replace HM := HM.below hb
      replace OH := OH.below hb
      clear hb
      go_wp2_with fail
      go_ret
      exact ⟨rfl, B⟩
end Go.Proofs.YtgempaoamamaeaaGreat
