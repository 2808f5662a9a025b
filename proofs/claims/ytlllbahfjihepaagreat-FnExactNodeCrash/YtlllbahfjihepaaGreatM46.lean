/- The walk of the exact law of NodeCrash (the program told as a hypothesis). The exact law of NodeCrash. -/
import Derived.Deep.RegionHeld3
import Derived.Deep.DeepCutAuto
import Derived.WalkKit
import Derived.WalkSpells
import Derived.WalkLawsBesides
import Derived.Deep.RegionHeld
import Derived.Test.YtlllbahfjihepaaGreatM36
import Derived.Test.YtlllbahfjihepaaGreatM37
import Derived.Test.YtlllbahfjihepaaGreatM7
import Derived.Test.YtlllbahfjihepaaGreatM44
namespace Go.Proofs.YtlllbahfjihepaaGreat
open Go.RowKit
set_option linter.unusedVariables false
def NodeCrashTold : Prop := ∀ (A : Array Value) (x : NdX) (ct : Int) (w : World), NdS w A x → wfX x →
    Calls Tryz.prog 13 #[.agg A, .int .i64 ct] w fun e w' => ∃ R, e = .returned (.tuple #[.agg R, .int .i64 (crashX x ct).2]) ∧ NdO w' w.heap.size w'.heap.size R (crashX x ct).1 ∧ Below w.heap.size w w'
attribute [-go_sem] loadCells storeCells in
set_option maxRecDepth 100000 in
set_option maxHeartbeats 16000000 in
theorem lawNodeCrash (CI : NodeCrashTold) (A : Array Value) (x : NdX) (ct : Int) (w : World) (HA : NdW w A x) (hwf : wfX x) :
    Calls Tryz.prog 4 #[.agg A, .int .i64 ct] w fun e w' => e = .returned (.bool true) ∧ Below w.heap.size w w' := by
  have B := Below.nw w (.cells A 36)
  have L := Bo.new w A 36
  have hA := HA.size
  have CS := fun (v : World) (R : Array Value) (h : NdS v R x) => specCrashX R x ct v h
  have CP := fun (v : World) (R : Array Value) (h : NdS v R x) => CI R x ct v h hwf
  clear CI
  generalize crashX x ct = Y at *
  obtain ⟨x1, cd⟩ := Y
  simp only at CS CP
  have HS : Hid (NdW w A x) := HA
  clear HA
  have hcd : (cd != cd) = false := by simp
  go_enter Tryz.func4, Tryz.ntmps4
  go_upto_region 2 with fail
  generalize w.alloc (.cells A 36) = v0 at *
  have hL := L.load (P := Tryz.prog) hA
  go_wp2_with (rw [hL])
  refine (szNodeW A x 1048576 v0 (HS.out.below B) (by decide) (by decide)).mono ?_
  rintro e v1 ⟨Z, rfl, hZ, hb⟩
  clear hL
  replace B := B.trans (hb.mono B.size)
  replace L := L.below hb
  clear hb
  by_cases hz : Z < 0
  · clear CS CP hZ
    go_wp2_with fail
    go_ret
    exact ⟨rfl, B⟩
  obtain ⟨hsh, -⟩ := hZ (by omega)
  clear hZ
  have CT := fun (v : World) (h : Below w.heap.size w v) => toNodeW A x v (HS.out.below h) hsh
  clear hsh
  have hL := L.load (P := Tryz.prog) hA
  go_wp2_with (rw [hL])
  refine (CT _ B).mono ?_
  rintro e v2 ⟨R0, rfl, O0, hb⟩
  clear hL
  replace B := B.trans (hb.mono B.size)
  replace L := L.below hb
  clear hb
  go_wp2_with fail
  have hlw : w.heap.size ≤ v2.heap.size := B.size
  refine (CS _ R0 O0.src).mono ?_
  clear O0
  rintro e v3 ⟨RW, rfl, OW, hb⟩
  have hww : v2.heap.size ≤ v3.heap.size := hb.size
  replace B := B.trans (hb.mono B.size)
  replace L := L.below hb
  clear hb
  generalize v2.heap.size = lw at *
  have hRW := OW.size
  have hst := storeNew (P := Tryz.prog) v3 (#[.int .i64 0, .int .i64 0, .int .i64 0, .int .i64 0, .bool false, .int .i64 0, .int .i64 0, .int .i64 0, .int .i64 0, .int .i64 0, .slice none 0 0, .slice none 0 0, .bool false, .int .i64 0, .slice none 0 0, .int .i64 0]) RW 49 (by rw [hRW]; rfl) OW.one
  have hb := Below.nw v3 (.cells RW 49)
  have W := Bo.new v3 RW 49
  go_upto_region 6 with (rw [hst])
  clear hst
  replace B := B.trans (hb.mono B.size)
  replace L := L.below hb
  replace OW := OW.below hb
  clear hb
  generalize v3.alloc (.cells RW 49) = v4 at *
  generalize v3.heap.size = kW at *
  have hwx : kW < v4.heap.size := W.1
  have hL := L.load (P := Tryz.prog) hA
  go_wp2_with (rw [hL])
  refine (CT _ B).mono ?_
  rintro e v5 ⟨RX, rfl, OX, hb⟩
  clear hL
  have hxx : v4.heap.size ≤ v5.heap.size := hb.size
  replace B := B.trans (hb.mono B.size)
  replace L := L.below hb
  replace OW := OW.below hb
  replace W := W.below hb
  clear hb
  generalize v4.heap.size = lx at *
  have hRX := OX.size
  have hst := storeNew (P := Tryz.prog) v5 (#[.int .i64 0, .int .i64 0, .int .i64 0, .int .i64 0, .bool false, .int .i64 0, .int .i64 0, .int .i64 0, .int .i64 0, .int .i64 0, .slice none 0 0, .slice none 0 0, .bool false, .int .i64 0, .slice none 0 0, .int .i64 0]) RX 49 (by rw [hRX]; rfl) OX.one
  have hb := Below.nw v5 (.cells RX 49)
  have X := Bo.new v5 RX 49
  go_upto_region 7 with (rw [hst])
  clear hst
  replace B := B.trans (hb.mono B.size)
  replace L := L.below hb
  replace OW := OW.below hb
  replace W := W.below hb
  replace OX := OX.below hb
  clear hb
  generalize v5.alloc (.cells RX 49) = v6 at *
  generalize v5.heap.size = kX at *
  have hxg : kX < v6.heap.size := X.1
  have hL := X.load (P := Tryz.prog) hRX
  go_wp2_with (rw [hL])
  refine (CP _ RX OX.src).mono ?_
  rintro e v7 ⟨RG, rfl, OG, hb⟩
  clear hL
  have hgg : v6.heap.size ≤ v7.heap.size := hb.size
  replace B := B.trans (hb.mono B.size)
  replace L := L.below hb
  replace OW := OW.below hb
  replace W := W.below hb
  replace OX := OX.below hb
  replace X := X.below hb
  clear hb
  generalize v6.heap.size = lg at *
  have hRG := OG.size
  have hst := storeNew (P := Tryz.prog) v7 (#[.int .i64 0, .int .i64 0, .int .i64 0, .int .i64 0, .bool false, .int .i64 0, .int .i64 0, .int .i64 0, .int .i64 0, .int .i64 0, .slice none 0 0, .slice none 0 0, .bool false, .int .i64 0, .slice none 0 0, .int .i64 0]) RG 49 (by rw [hRG]; rfl) OG.one
  have hb := Below.nw v7 (.cells RG 49)
  have G := Bo.new v7 RG 49
  go_upto_region 8 with (rw [hst])
  clear hst
  replace B := B.trans (hb.mono B.size)
  replace L := L.below hb
  replace OW := OW.below hb
  replace W := W.below hb
  replace OX := OX.below hb
  replace X := X.below hb
  replace OG := OG.below hb
  clear hb
  generalize v7.alloc (.cells RG 49) = v8 at *
  generalize v7.heap.size = kG at *
  have hL := G.load (P := Tryz.prog) hRG
  have hL2 := W.load (P := Tryz.prog) hRW
  go_wp2_with (first | rw [hL] | rw [hL2])
  refine (eqNodeX RG RW x1 v8 OG.src OW.src).mono ?_
  rintro e v9 ⟨rfl, hb⟩
  clear hL hL2
  replace B := B.trans (hb.mono B.size)
  replace L := L.below hb
  replace OW := OW.below hb
  replace W := W.below hb
  replace OX := OX.below hb
  replace X := X.below hb
  replace OG := OG.below hb
  replace G := G.below hb
  clear hb
  go_upto_region 10 with fail
  have SK : Hid (∀ w', Below v9.heap.size v9 w' → (fun w' => (loadCells ⟨kX, 0, none⟩ 16).run Tryz.prog w' = .ok RX w' ∧ (loadCells ⟨w.heap.size, 0, none⟩ 16).run Tryz.prog w' = .ok A w') w') := fun w' hw => ⟨(X.below hw).load hRX, (L.below hw).load hA⟩
  refine wp_region_held_drew (S := (fun w' => (loadCells ⟨kX, 0, none⟩ 16).run Tryz.prog w' = .ok RX w' ∧ (loadCells ⟨w.heap.size, 0, none⟩ 16).run Tryz.prog w' = .ok A w')) (by kernel_rfl) ?_ (fun hHeld => ?_)
  · first | exact SK.out _ XB | exact SK.out _ (Below.drew (Below.refl _ _))
  have XB : Below v9.heap.size v9 v9.drew := Below.drew (Below.refl _ _)
  generalize v9.drew = vx at *
  refine wpAnyH_take (i := 0) (v := ?_) (by rw [List.getElem?_toArray]; rfl) (by kernel_rfl) (by kernel_rfl) (by kernel_rfl) (by intro _ _ _ h; exact h) (Or.inl ⟨by rfl, ?_⟩) (by assumption) ?_
  rotate_left
  · (intro w hSw; (try dsimp only at hSw); go_simp; all_goals with_reducible rfl)
  (try simp only [Act.put, List.setIfInBounds_toArray, List.set_cons_zero, List.set_cons_succ])
  refine wpAnyH_take (i := 1) (v := ?_) (by rw [List.getElem?_toArray]; rfl) (by kernel_rfl) (by kernel_rfl) (by kernel_rfl) (by intro _ _ _ h; exact h) (Or.inl ⟨by rfl, ?_⟩) (by assumption) ?_
  rotate_left
  · (intro w hSw; (try dsimp only at hSw); go_simp; all_goals with_reducible rfl)
  (try simp only [Act.put, List.setIfInBounds_toArray, List.set_cons_zero, List.set_cons_succ])
  refine wpAnyH_ready (rs := [2]) (by kernel_rfl) (by simp) ?_
  refine AllReadyH.cons (by rw [List.getElem?_toArray]; rfl) (fun K hK => ?_) AllReadyH.nil
  go_simp
  refine (CT vx (B.trans (XB.mono B.size))).mono ?_; rintro ee vy ⟨RY, rfl, OY, hbl⟩; (replace XB := XB.trans (hbl.mono XB.size)); (clear hbl); (generalize hvv : vy = vx at *); (clear hvv)
  (try go_wp2_with fail)
  refine hK.out _ _ ?_ (fun hHeld => ?_)
  · first | exact SK.out _ XB | exact SK.out _ (Below.drew (Below.refl _ _))
  clear hK K
  (try simp only [Act.put, List.setIfInBounds_toArray, List.set_cons_zero, List.set_cons_succ])
  refine wpAnyH_ready (rs := [3]) (by kernel_rfl) (by simp) ?_
  refine AllReadyH.cons (by rw [List.getElem?_toArray]; rfl) (fun K hK => ?_) AllReadyH.nil
  go_simp
  refine (eqNodeX RX RY x vx (OX.below XB).src OY.src).mono ?_; rintro ee vx ⟨rfl, hbl⟩; (replace XB := XB.trans (hbl.mono XB.size)); (clear hbl OY)
  (try go_wp2_with fail)
  refine hK.out _ _ ?_ (fun hHeld => ?_)
  · first | exact SK.out _ XB | exact SK.out _ (Below.drew (Below.refl _ _))
  clear hK K
  (try simp only [Act.put, List.setIfInBounds_toArray, List.set_cons_zero, List.set_cons_succ])
  refine wpAnyH_take (i := 4) (v := ?_) (by rw [List.getElem?_toArray]; rfl) (by kernel_rfl) (by kernel_rfl) (by kernel_rfl) (by intro _ _ _ h; exact h) (Or.inl ⟨by rfl, ?_⟩) (by assumption) ?_
  rotate_left
  · (intro w hSw; (try dsimp only at hSw); go_simp; all_goals with_reducible rfl)
  (try simp only [Act.put, List.setIfInBounds_toArray, List.set_cons_zero, List.set_cons_succ])
  refine wpAnyH_done (by kernel_rfl) ?_ _
  have hb := XB
  clear XB SK
  replace B := B.trans (hb.mono B.size)
  replace L := L.below hb
  replace OW := OW.below hb
  replace W := W.below hb
  replace OX := OX.below hb
  replace X := X.below hb
  replace OG := OG.below hb
  replace G := G.below hb
  clear hb
  have hL := X.load (P := Tryz.prog) hRX
  go_wp2_with (rw [hL])
  refine (markNodeX RX x 1 lx kX vx OX (by decide) (by decide)).mono ?_
  rintro e va ⟨rfl, -, hb⟩
  clear hL
  have hlx : w.heap.size ≤ lx := by omega
  replace B := B.trans ((hb.belowL (Nat.le_of_lt (Nat.lt_of_le_of_lt (by omega : lx ≤ kX) X.1))).mono hlx)
  replace L := L.btw hb (.inl (by omega))
  replace W := W.btw hb (.inl (by omega))
  replace OW := OW.btw hb (.inl (by omega))
  replace G := G.btw hb (.inr (by omega))
  replace OG := OG.btw hb (.inr (by omega))
  clear hb X OX
  have hk : ¬ (mkN x 1 < 0) := by unfold mkN; omega
  have hL := G.load (P := Tryz.prog) hRG
  have hL2 := W.load (P := Tryz.prog) hRW
  go_wp2_with (first | rw [hL] | rw [hL2])
  refine (eqNodeX RG RW x1 va OG.src OW.src).mono ?_
  rintro e vb ⟨rfl, hb⟩
  clear hL hL2
  replace B := B.trans (hb.mono B.size)
  replace L := L.below hb
  replace OW := OW.below hb
  replace W := W.below hb
  replace OG := OG.below hb
  replace G := G.below hb
  clear hb
  have hL := G.load (P := Tryz.prog) hRG
  go_wp2_with (rw [hL])
  refine (markNodeX RG x1 1 lg kG vb OG (by decide) (by decide)).mono ?_
  rintro e vc ⟨rfl, MG, hb⟩
  clear hL
  replace B := B.trans ((hb.belowL (Nat.le_of_lt (Nat.lt_of_le_of_lt (by omega : lg ≤ kG) G.1))).mono (by omega))
  replace L := L.btw hb (.inl (by omega))
  replace W := W.btw hb (.inl (by omega))
  replace OW := OW.btw hb (.inl (by omega))
  replace G := G.btw hb (.inr (by omega))
  clear hb OG
  have hk1 : ¬ (mkN x1 1 < 0) := by unfold mkN; omega
  have hkk : (mkN x1 1 != mkN x1 1) = false := by simp
  have hL := G.load (P := Tryz.prog) hRG
  go_wp2_with (rw [hL])
  refine (heldNodeX RG x1 1 vc MG (by decide) (by decide)).mono ?_
  rintro e vd ⟨rfl, hb⟩
  clear hL
  replace B := B.trans (hb.mono B.size)
  replace L := L.below hb
  replace OW := OW.below hb
  replace W := W.below hb
  replace G := G.below hb
  replace MG := MG.below hb
  clear hb
  have hL := L.load (P := Tryz.prog) hA
  go_wp2_with (rw [hL])
  refine (CT _ B).mono ?_
  rintro e ve ⟨RZ, rfl, OZ, hb⟩
  clear hL
  replace B := B.trans (hb.mono B.size)
  replace L := L.below hb
  replace OW := OW.below hb
  replace W := W.below hb
  replace G := G.below hb
  replace MG := MG.below hb
  clear hb
  go_wp2_with fail
  refine (CP _ RZ OZ.src).mono ?_
  clear OZ
  rintro e vf ⟨RH, rfl, OH, hb⟩
  replace B := B.trans (hb.mono B.size)
  replace L := L.below hb
  replace OW := OW.below hb
  replace W := W.below hb
  replace G := G.below hb
  replace MG := MG.below hb
  clear hb
  generalize ve.heap.size = lh at *
  have hRH := OH.size
  have hst := storeNew (P := Tryz.prog) vf (#[.int .i64 0, .int .i64 0, .int .i64 0, .int .i64 0, .bool false, .int .i64 0, .int .i64 0, .int .i64 0, .int .i64 0, .int .i64 0, .slice none 0 0, .slice none 0 0, .bool false, .int .i64 0, .slice none 0 0, .int .i64 0]) RH 49 (by rw [hRH]; rfl) OH.one
  have hb := Below.nw vf (.cells RH 49)
  have H := Bo.new vf RH 49
  go_upto_region 25 with (rw [hst])
  clear hst
  replace B := B.trans (hb.mono B.size)
  replace L := L.below hb
  replace OW := OW.below hb
  replace W := W.below hb
  replace G := G.below hb
  replace MG := MG.below hb
  replace OH := OH.below hb
  clear hb
  generalize vf.alloc (.cells RH 49) = vg at *
  generalize vf.heap.size = kH at *
  have hL := H.load (P := Tryz.prog) hRH
  have hL2 := W.load (P := Tryz.prog) hRW
  go_wp2_with (first | rw [hL] | rw [hL2])
  refine (eqNodeX RH RW x1 vg OH.src OW.src).mono ?_
  rintro e vh ⟨rfl, hb⟩
  clear hL hL2
  replace B := B.trans (hb.mono B.size)
  replace L := L.below hb
  replace OW := OW.below hb
  replace W := W.below hb
  replace G := G.below hb
  replace MG := MG.below hb
  replace OH := OH.below hb
  replace H := H.below hb
  clear hb
  have hL := G.load (P := Tryz.prog) hRG
  go_wp2_with (rw [hL])
  refine (heldNodeX RG x1 1 vh MG (by decide) (by decide)).mono ?_
  rintro e vi ⟨rfl, hb⟩
  clear hL
  replace B := B.trans (hb.mono B.size)
  replace L := L.below hb
  replace OW := OW.below hb
  replace W := W.below hb
  replace G := G.below hb
  replace MG := MG.below hb
  replace OH := OH.below hb
  replace H := H.below hb
  clear hb
  go_wp2_with fail
  go_ret
  exact ⟨rfl, B⟩
end Go.Proofs.YtlllbahfjihepaaGreat
namespace Go.Proofs.YtlllbahfjihepaaGreat
open Go.RowKit
set_option linter.unusedVariables false
theorem walkNodeCrash (A : Array Value) (x : NdX) (ct : Int) (w : World) (HA : NdW w A x) (hwf : wfX x) (hc : (Lit.int .i64 ct).wf = true) :
    Calls Tryz.prog 4 #[.agg A, .int .i64 ct] w fun e w' => e = .returned (.bool true) ∧ Below w.heap.size w w' :=
  lawNodeCrash (fun A x ct w h hw => implCrashX A x ct w h hw) A x ct w HA hwf
end Go.Proofs.YtlllbahfjihepaaGreat
