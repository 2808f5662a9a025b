/- The contract of spec.Pack. -/
import Derived.Test.YtddjiamollfplaaGreatDoorMC0
import Derived.Test.YtddjiamollfplaaGreatDoorMC33
namespace Go.Proofs.YtddjiamollfplaaGreatDoor
open Go.RowKit
set_option linter.unusedVariables false

set_option maxHeartbeats 16000000 in
theorem jd (fr tu no lo hi sl : Int) (s : ByteArray) (w : World) (h : aD 1 fr tu no lo hi sl s = true) :
 Calls Tryz.prog 90 #[.agg #[.int .i64 1, .int .i64 fr, .int .i64 tu, .int .i64 no, .int .i64 lo, .int .i64 hi, .int .i64 sl, .string s]] w fun e w' => ∃ v : Value, e = .returned (.tuple #[v, .bool true]) ∧ w'.ownsRow w.heap.size 5 1 v (bz 1 fr tu no lo hi sl s).length (bts (bz 1 fr tu no lo hi sl s)) ∧ Below w.heap.size w w' := by
 obtain ⟨i0, hi0, hz0, hz1, hz2⟩ := info_parts infoByte
 obtain ⟨f0, f1, _, _, hs⟩ := b8 h
 have P := aN.new w 1 fr tu no lo hi sl s 151
 have B := (Below.refl w.heap.size w).alloc (Nat.le_refl _) (.cells #[.int .i64 1, .int .i64 fr, .int .i64 tu, .int .i64 no, .int .i64 lo, .int .i64 hi, .int .i64 sl, .string s] 151)
 have hw1 : IntKind.u8.wrap 1 = 1 := by decide
 have hk1 : ([1] : List Int).length = 1 := rfl
 have hp := fC h (by decide)
 have C1 := fun w' => aF fr w' (by omega)
 have l1 := aP fr
 have n1 := bK (x := fr) (by omega)
 have HR1 : Hid (∀ z ∈ aS fr, 0 ≤ z ∧ z ≤ 255) := aQ fr
 have C2 := fun w' => aF tu w' (by omega)
 have l2 := aP tu
 have n2 := bK (x := tu) (by omega)
 have HR2 : Hid (∀ z ∈ aS tu, 0 ≤ z ∧ z ≤ 255) := aQ tu
 have C3 := fun w' => aF no w' (by omega)
 have l3 := aP no
 have n3 := bK (x := no) (by omega)
 have HR3 : Hid (∀ z ∈ aS no, 0 ≤ z ∧ z ≤ 255) := aQ no
 have HPK : Hid (bz 1 fr tu no lo hi sl s = bm ([1] ++ aS fr ++ aS tu ++ aS no)) := by simp [Hid, bz, dQ]
 have CK := fun w' => bV 1 fr tu no lo hi sl s w' (by omega)
 rw [h] at CK
 clear h
 generalize bz 1 fr tu no lo hi sl s = R at *
 generalize aS fr = L1 at *
 generalize aS tu = L2 at *
 generalize aS no = L3 at *
 go_enter Tryz.func90, Tryz.ntmps90
 go_wp2_with fail
 refine (CK _).mono ?_
 rintro e v ⟨rfl, hb⟩
 replace P := P.below hb
 replace B := B.trans (hb.mono B.size)
 clear hb CK
 obtain ⟨a0, a1, a2, a3, a4, a5, a6, a7, a8⟩ := id P
 go_wp2_with fail
 go_cut [4] (fun s4 wx => wx.ownsRow (w.heap.size + 1) 5 1 s4 ([1] ++ L1).length (bts ([1] ++ L1)) ∧ aN wx w.heap.size 1 fr tu no lo hi sl s ∧ Below w.heap.size w wx)
 case first =>
  refine wp_region_held_drew (S := (fun w' => w'.cell? ⟨w.heap.size, 0, none⟩ = some (.int .i64 1) ∧ w'.cell? ⟨w.heap.size, 1, none⟩ = some (.int .i64 fr))) (by kernel_rfl) ?_ (fun hHeld => ?_)
  ·first | exact ⟨a1, a2⟩ | (simp (maxDischargeDepth := 6) [go_sem, *]; done)
  clear a0 a1 a2 a3 a4 a5 a6 a7 a8
  replace P := P.drew
  replace B := B.drew
  generalize v.drew = v at *
  obtain ⟨a0, a1, a2, a3, a4, a5, a6, a7, a8⟩ := id P
  refine zT2 0 ?_
  refine zTk 2 ?_
  refine zT2 4 ?_
  refine wpAnyH_ready (rs := [3, 6]) (by kernel_rfl) (by simp) ?_
  refine (zC (fun K hK => ?_) (zR fun K hK => ?_))
  ·go_simp
   (have N := cD v (w.heap.size + 1) 5 1 a0); clear a0 a1 a2 a3 a4 a5 a6 a7 a8; (replace P := P.alloc (.cells #[.int .u8 1] 5)); (try (replace M := World.ownsRow.alloc M (.cells #[.int .u8 1] 5))); (replace B := B.alloc B.size (.cells #[.int .u8 1] 5)); (generalize v.alloc (.cells #[.int .u8 1] 5) = v2 at *); obtain ⟨a0, a1, a2, a3, a4, a5, a6, a7, a8⟩ := id P
   refine hK.out _ _ ?_ (fun hHeld => ?_)
   ·first | exact ⟨a1, a2⟩ | (simp (maxDischargeDepth := 6) [go_sem, *]; done)
   clear hK K
   (try simp only [zA])
   refine zQ 6 fun K hK => ?_
   go_simp
   refine (C1 _).mono ?_; rintro e v ⟨vp, rfl, M, hb⟩; clear a0 a1 a2 a3 a4 a5 a6 a7 a8; (replace P := P.below hb); (try (replace N := aK N hb)); (replace B := B.trans (hb.mono B.size)); clear hb; (obtain ⟨g, cg, rfl⟩ := aM M n1); obtain ⟨a0, a1, a2, a3, a4, a5, a6, a7, a8⟩ := id P
   (try go_wp2_with fail)
   refine hK.out _ _ ?_ (fun hHeld => ?_)
   ·first | exact ⟨a1, a2⟩ | (simp (maxDischargeDepth := 6) [go_sem, *]; done)
   clear hK K
   (try simp only [zA])
   refine zQ 7 fun K hK => ?_
   rw [if_pos (by rfl)]; (have HM : Hid (∀ j u, (bts L1)[j]? = some u → _ = some u) := aL M); (have hsz := a0); refine wp_append_own _ _ _ 22 rfl (w.heap.size + 1) 5 i0 (.int .u8 0) 1 1 Tryz.underlying22 hi0 hz0 hz1 hz2 rfl (by decide) _ _ _ rfl N ⟨g, 0, none⟩ _ cg (bts L1) rfl (by rw [aY, Nat.mul_one]) HM.out (bi _) (by unfold maxLen; omega) (by omega) hsz ?_; intro v' wn hown' hgrow _; (have G := ap N hgrow hsz); clear a0 a1 a2 a3 a4 a5 a6 a7 a8; (replace P := P.belowB G (Nat.lt_succ_self _)); (replace B := B.trans (G.mono (Nat.le_succ _))); (have O : wn.ownsRow (w.heap.size + 1) 5 1 v' ([1] ++ L1).length (bts ([1] ++ L1)) := by rw [bh, List.length_append]; exact hown'); clear hown' hgrow G HM; obtain ⟨a0, a1, a2, a3, a4, a5, a6, a7, a8⟩ := id P
   refine hK.out _ _ ?_ (fun hHeld => ?_)
   ·first | exact ⟨a1, a2⟩ | (simp (maxDischargeDepth := 6) [go_sem, *]; done)
   clear hK K
   (try simp only [zA])
   refine zTk 8 ?_
   refine wpAnyH_done (by kernel_rfl) ?_ _
   go_wp2_with fail
   go_meet
   case rel => exact ⟨O, P, B⟩
  ·go_simp
   refine (C1 _).mono ?_; rintro e v ⟨vp, rfl, M, hb⟩; clear a0 a1 a2 a3 a4 a5 a6 a7 a8; (replace P := P.below hb); (try (replace N := aK N hb)); (replace B := B.trans (hb.mono B.size)); clear hb; (obtain ⟨g, cg, rfl⟩ := aM M n1); obtain ⟨a0, a1, a2, a3, a4, a5, a6, a7, a8⟩ := id P
   (try go_wp2_with fail)
   refine hK.out _ _ ?_ (fun hHeld => ?_)
   ·first | exact ⟨a1, a2⟩ | (simp (maxDischargeDepth := 6) [go_sem, *]; done)
   clear hK K
   (try simp only [zA])
   refine zQ 3 fun K hK => ?_
   go_simp
   (have N := cD v (w.heap.size + 1) 5 1 a0); clear a0 a1 a2 a3 a4 a5 a6 a7 a8; (replace P := P.alloc (.cells #[.int .u8 1] 5)); (try (replace M := World.ownsRow.alloc M (.cells #[.int .u8 1] 5))); (replace B := B.alloc B.size (.cells #[.int .u8 1] 5)); (generalize v.alloc (.cells #[.int .u8 1] 5) = v2 at *); obtain ⟨a0, a1, a2, a3, a4, a5, a6, a7, a8⟩ := id P
   refine hK.out _ _ ?_ (fun hHeld => ?_)
   ·first | exact ⟨a1, a2⟩ | (simp (maxDischargeDepth := 6) [go_sem, *]; done)
   clear hK K
   (try simp only [zA])
   refine zQ 7 fun K hK => ?_
   rw [if_pos (by rfl)]; (have HM : Hid (∀ j u, (bts L1)[j]? = some u → _ = some u) := aL M); (have hsz := a0); refine wp_append_own _ _ _ 22 rfl (w.heap.size + 1) 5 i0 (.int .u8 0) 1 1 Tryz.underlying22 hi0 hz0 hz1 hz2 rfl (by decide) _ _ _ rfl N ⟨g, 0, none⟩ _ cg (bts L1) rfl (by rw [aY, Nat.mul_one]) HM.out (bi _) (by unfold maxLen; omega) (by omega) hsz ?_; intro v' wn hown' hgrow _; (have G := ap N hgrow hsz); clear a0 a1 a2 a3 a4 a5 a6 a7 a8; (replace P := P.belowB G (Nat.lt_succ_self _)); (replace B := B.trans (G.mono (Nat.le_succ _))); (have O : wn.ownsRow (w.heap.size + 1) 5 1 v' ([1] ++ L1).length (bts ([1] ++ L1)) := by rw [bh, List.length_append]; exact hown'); clear hown' hgrow G HM; obtain ⟨a0, a1, a2, a3, a4, a5, a6, a7, a8⟩ := id P
   refine hK.out _ _ ?_ (fun hHeld => ?_)
   ·first | exact ⟨a1, a2⟩ | (simp (maxDischargeDepth := 6) [go_sem, *]; done)
   clear hK K
   (try simp only [zA])
   refine zTk 8 ?_
   refine wpAnyH_done (by kernel_rfl) ?_ _
   go_wp2_with fail
   go_meet
   case rel => exact ⟨O, P, B⟩
 case rest =>
  obtain ⟨O', P', B'⟩ := hcut
  clear a0 a1 a2 a3 a4 a5 a6 a7 a8
  clear P B
  have P := P'
  have B := B'
  have O := O'
  clear P' B' O' C1
  have HRL : Hid (∀ z ∈ [1] ++ L1, 0 ≤ z ∧ z ≤ 255) := bv (by intro y hy; simp at hy; subst hy; omega) HR1.out
  have lK1 : ([1] ++ L1).length ≤ 11 := by rw [List.length_append]; omega
  have HPK1 : Hid (R = bm (([1] ++ L1) ++ L2 ++ L3)) := by rw [Hid, HPK.out]
  generalize [1] ++ L1 = K1 at *
  clear HPK n1 l1 HR1
  obtain ⟨a0, a1, a2, a3, a4, a5, a6, a7, a8⟩ := id P
  go_wp2_with fail
  refine (C2 _).mono ?_
  rintro e v ⟨vp, rfl, M, hb⟩
  clear a0 a1 a2 a3 a4 a5 a6 a7 a8
  replace P := P.below hb
  replace O := aK O hb
  replace B := B.trans (hb.mono B.size)
  obtain ⟨g, cg, rfl⟩ := aM M n2
  have HM : Hid (∀ j u, (bts L2)[j]? = some u → _ = some u) := aL M
  have hsz := P.1
  clear hb C2 M
  go_wp2_with (at_builtin; refine wpList_append_own _ rfl _ _ 22 rfl (w.heap.size + 1) 5 i0 (.int .u8 0) 1 1 Tryz.underlying22 hi0 hz0 hz1 hz2 rfl (by decide) _ _ _ rfl O ⟨g, 0, none⟩ _ cg (bts L2) rfl (by rw [aY, Nat.mul_one]) HM.out (bi _) (by unfold maxLen; omega) (by omega) hsz ?_; intro v' wn hown' hgrow _; (have G := ap O hgrow hsz); (replace P := P.belowB G (Nat.lt_succ_self _)); obtain ⟨a0, a1, a2, a3, a4, a5, a6, a7, a8⟩ := id P)
  clear a0 a1 a2 a3 a4 a5 a6 a7 a8
  replace B := B.trans (G.mono (Nat.le_succ _))
  replace O : wn.ownsRow (w.heap.size + 1) 5 1 v' (K1 ++ L2).length (bts (K1 ++ L2)) := by rw [bh, List.length_append]; exact hown'
  replace HRL : Hid (∀ z ∈ K1 ++ L2, 0 ≤ z ∧ z ≤ 255) := bv HRL.out HR2.out
  have lK2 : (K1 ++ L2).length ≤ 21 := by rw [List.length_append]; omega
  have HPK2 : Hid (R = bm ((K1 ++ L2) ++ L3)) := HPK1.out
  generalize K1 ++ L2 = K2 at *
  clear hown' hgrow G hsz HR2 l2 lK1 HPK1
  clear n2 HM
  refine (C3 _).mono ?_
  rintro e v ⟨vp, rfl, M, hb⟩
  skip
  replace P := P.below hb
  replace O := aK O hb
  replace B := B.trans (hb.mono B.size)
  obtain ⟨g, cg, rfl⟩ := aM M n3
  have HM : Hid (∀ j u, (bts L3)[j]? = some u → _ = some u) := aL M
  have hsz := P.1
  clear hb C3 M
  go_wp2_with (at_builtin; refine wpList_append_own _ rfl _ _ 22 rfl (w.heap.size + 1) 5 i0 (.int .u8 0) 1 1 Tryz.underlying22 hi0 hz0 hz1 hz2 rfl (by decide) _ _ _ rfl O ⟨g, 0, none⟩ _ cg (bts L3) rfl (by rw [aY, Nat.mul_one]) HM.out (bi _) (by unfold maxLen; omega) (by omega) hsz ?_; intro v' wn hown' hgrow _; (have G := ap O hgrow hsz); (replace P := P.belowB G (Nat.lt_succ_self _)); obtain ⟨a0, a1, a2, a3, a4, a5, a6, a7, a8⟩ := id P)
  clear a0 a1 a2 a3 a4 a5 a6 a7 a8
  replace B := B.trans (G.mono (Nat.le_succ _))
  replace O : wn.ownsRow (w.heap.size + 1) 5 1 v' (K2 ++ L3).length (bts (K2 ++ L3)) := by rw [bh, List.length_append]; exact hown'
  replace HRL : Hid (∀ z ∈ K2 ++ L3, 0 ≤ z ∧ z ≤ 255) := bv HRL.out HR3.out
  have lK3 : (K2 ++ L3).length ≤ 31 := by rw [List.length_append]; omega
  have HPK3 : Hid (R = bm ((K2 ++ L3))) := HPK2.out
  generalize K2 ++ L3 = K3 at *
  clear hown' hgrow G hsz HR3 l3 lK2 HPK2
  clear n3 HM
  obtain ⟨aO, cO, rfl, hOc, hOm, SO⟩ := cq O
  have HSO : Hid (de wn aO K3.length fun i => K3.getD i 0) := SO
  have hRG := eF HRL.out
  have CC := aX aO K3.length cO (fun i => K3.getD i 0) wn (by unfold maxLen; omega) HSO.out hRG
  have hcb := cz hRG
  have HPE : Hid (R = K3 ++ [chk (fun i => K3.getD i 0) K3.length]) := HPK3.out
  generalize chk (fun i => K3.getD i 0) K3.length = q at *
  have hq0 := hcb.1
  have hq1 := hcb.2
  have hqw : IntKind.u8.wrap q = q := Go.IntWalk.u8_in _ ⟨by omega, by omega⟩
  clear hOc hOm SO HSO hRG hcb HRL HPK3
  (try go_wp2_with fail)
  refine CC.mono ?_
  rintro e w' ⟨rfl, rfl⟩
  clear CC
  have hsz : w.heap.size + 1 ≤ (wn.alloc (.cells #[.int .u8 q] 5)).heap.size := by have := P.1; simp; omega
  have A := (Below.refl wn.heap.size wn).alloc (Nat.le_refl _) (.cells #[.int .u8 q] 5)
  go_wp2_with (at_builtin; refine wpList_append_own _ rfl _ _ 22 rfl (w.heap.size + 1) 5 i0 (.int .u8 0) 1 1 Tryz.underlying22 hi0 hz0 hz1 hz2 rfl (by decide) _ _ _ rfl (World.ownsRow.alloc O _) ⟨wn.heap.size, 0, none⟩ 1 1 [.int .u8 q] rfl rfl (fun j u hj => bU wn _ 5 j u hj) (by intro u hu; simp at hu; subst hu; rfl) (by unfold maxLen; omega) (by omega) hsz ?_; intro v' wm hown' hgrow _)
  have G := ap (World.ownsRow.alloc O _) hgrow hsz
  have Bf := (B.trans (A.mono B.size)).trans (G.mono (Nat.le_succ _))
  have Of : Hid (wm.ownsRow w.heap.size 5 1 v' R.length (bts R)) := by
   rw [HPE.out, Hid, cu]
   exact cY (by simpa using hown') (Nat.le_succ _)
  clear hown' hgrow G A
  go_wp2_with fail
  go_ret2
  exact ⟨_, rfl, Of.out, Bf⟩
set_option maxHeartbeats 16000000 in
theorem je (fr tu no lo hi sl : Int) (s : ByteArray) (w : World) (h : aD 2 fr tu no lo hi sl s = true) :
 Calls Tryz.prog 90 #[.agg #[.int .i64 2, .int .i64 fr, .int .i64 tu, .int .i64 no, .int .i64 lo, .int .i64 hi, .int .i64 sl, .string s]] w fun e w' => ∃ v : Value, e = .returned (.tuple #[v, .bool true]) ∧ w'.ownsRow w.heap.size 5 1 v (bz 2 fr tu no lo hi sl s).length (bts (bz 2 fr tu no lo hi sl s)) ∧ Below w.heap.size w w' := by
 obtain ⟨i0, hi0, hz0, hz1, hz2⟩ := info_parts infoByte
 obtain ⟨f0, f1, _, _, hs⟩ := b8 h
 have P := aN.new w 2 fr tu no lo hi sl s 151
 have B := (Below.refl w.heap.size w).alloc (Nat.le_refl _) (.cells #[.int .i64 2, .int .i64 fr, .int .i64 tu, .int .i64 no, .int .i64 lo, .int .i64 hi, .int .i64 sl, .string s] 151)
 have hw1 : IntKind.u8.wrap 2 = 2 := by decide
 have hk1 : ([2] : List Int).length = 1 := rfl
 have hp := fC h (by decide)
 have hlo := gN lo
 have hhi := gN hi
 have F4 := fun w' => dC lo w'
 have F5 := fun w' => dC hi w'
 have C1 := fun w' => aF fr w' (by omega)
 have l1 := aP fr
 have n1 := bK (x := fr) (by omega)
 have HR1 : Hid (∀ z ∈ aS fr, 0 ≤ z ∧ z ≤ 255) := aQ fr
 have C2 := fun w' => aF tu w' (by omega)
 have l2 := aP tu
 have n2 := bK (x := tu) (by omega)
 have HR2 : Hid (∀ z ∈ aS tu, 0 ≤ z ∧ z ≤ 255) := aQ tu
 have C3 := fun w' => aF no w' (by omega)
 have l3 := aP no
 have n3 := bK (x := no) (by omega)
 have HR3 : Hid (∀ z ∈ aS no, 0 ≤ z ∧ z ≤ 255) := aQ no
 have C4 := fun w' => aF (bg lo) w' (by omega)
 have l4 := aP (bg lo)
 have n4 := bK (x := (bg lo)) (by omega)
 have HR4 : Hid (∀ z ∈ aS (bg lo), 0 ≤ z ∧ z ≤ 255) := aQ (bg lo)
 have C5 := fun w' => aF (bg hi) w' (by omega)
 have l5 := aP (bg hi)
 have n5 := bK (x := (bg hi)) (by omega)
 have HR5 : Hid (∀ z ∈ aS (bg hi), 0 ≤ z ∧ z ≤ 255) := aQ (bg hi)
 have HPK : Hid (bz 2 fr tu no lo hi sl s = bm ([2] ++ aS fr ++ aS tu ++ aS no ++ aS (bg lo) ++ aS (bg hi))) := by simp [Hid, bz, dQ]
 have CK := fun w' => bV 2 fr tu no lo hi sl s w' (by omega)
 rw [h] at CK
 clear h
 generalize bz 2 fr tu no lo hi sl s = R at *
 generalize aS fr = L1 at *
 generalize aS tu = L2 at *
 generalize aS no = L3 at *
 generalize aS (bg lo) = L4 at *
 generalize aS (bg hi) = L5 at *
 generalize bg lo = flo at *
 generalize bg hi = fhi at *
 go_enter Tryz.func90, Tryz.ntmps90
 go_wp2_with fail
 refine (CK _).mono ?_
 rintro e v ⟨rfl, hb⟩
 replace P := P.below hb
 replace B := B.trans (hb.mono B.size)
 clear hb CK
 obtain ⟨a0, a1, a2, a3, a4, a5, a6, a7, a8⟩ := id P
 go_wp2_with fail
 go_cut [4] (fun s4 wx => wx.ownsRow (w.heap.size + 1) 5 1 s4 ([2] ++ L1).length (bts ([2] ++ L1)) ∧ aN wx w.heap.size 2 fr tu no lo hi sl s ∧ Below w.heap.size w wx)
 case first =>
  refine wp_region_held_drew (S := (fun w' => w'.cell? ⟨w.heap.size, 0, none⟩ = some (.int .i64 2) ∧ w'.cell? ⟨w.heap.size, 1, none⟩ = some (.int .i64 fr))) (by kernel_rfl) ?_ (fun hHeld => ?_)
  ·first | exact ⟨a1, a2⟩ | (simp (maxDischargeDepth := 6) [go_sem, *]; done)
  clear a0 a1 a2 a3 a4 a5 a6 a7 a8
  replace P := P.drew
  replace B := B.drew
  generalize v.drew = v at *
  obtain ⟨a0, a1, a2, a3, a4, a5, a6, a7, a8⟩ := id P
  refine zT2 0 ?_
  refine zTk 2 ?_
  refine zT2 4 ?_
  refine wpAnyH_ready (rs := [3, 6]) (by kernel_rfl) (by simp) ?_
  refine (zC (fun K hK => ?_) (zR fun K hK => ?_))
  ·go_simp
   (have N := cD v (w.heap.size + 1) 5 2 a0); clear a0 a1 a2 a3 a4 a5 a6 a7 a8; (replace P := P.alloc (.cells #[.int .u8 2] 5)); (try (replace M := World.ownsRow.alloc M (.cells #[.int .u8 2] 5))); (replace B := B.alloc B.size (.cells #[.int .u8 2] 5)); (generalize v.alloc (.cells #[.int .u8 2] 5) = v2 at *); obtain ⟨a0, a1, a2, a3, a4, a5, a6, a7, a8⟩ := id P
   refine hK.out _ _ ?_ (fun hHeld => ?_)
   ·first | exact ⟨a1, a2⟩ | (simp (maxDischargeDepth := 6) [go_sem, *]; done)
   clear hK K
   (try simp only [zA])
   refine zQ 6 fun K hK => ?_
   go_simp
   refine (C1 _).mono ?_; rintro e v ⟨vp, rfl, M, hb⟩; clear a0 a1 a2 a3 a4 a5 a6 a7 a8; (replace P := P.below hb); (try (replace N := aK N hb)); (replace B := B.trans (hb.mono B.size)); clear hb; (obtain ⟨g, cg, rfl⟩ := aM M n1); obtain ⟨a0, a1, a2, a3, a4, a5, a6, a7, a8⟩ := id P
   (try go_wp2_with fail)
   refine hK.out _ _ ?_ (fun hHeld => ?_)
   ·first | exact ⟨a1, a2⟩ | (simp (maxDischargeDepth := 6) [go_sem, *]; done)
   clear hK K
   (try simp only [zA])
   refine zQ 7 fun K hK => ?_
   rw [if_pos (by rfl)]; (have HM : Hid (∀ j u, (bts L1)[j]? = some u → _ = some u) := aL M); (have hsz := a0); refine wp_append_own _ _ _ 22 rfl (w.heap.size + 1) 5 i0 (.int .u8 0) 1 1 Tryz.underlying22 hi0 hz0 hz1 hz2 rfl (by decide) _ _ _ rfl N ⟨g, 0, none⟩ _ cg (bts L1) rfl (by rw [aY, Nat.mul_one]) HM.out (bi _) (by unfold maxLen; omega) (by omega) hsz ?_; intro v' wn hown' hgrow _; (have G := ap N hgrow hsz); clear a0 a1 a2 a3 a4 a5 a6 a7 a8; (replace P := P.belowB G (Nat.lt_succ_self _)); (replace B := B.trans (G.mono (Nat.le_succ _))); (have O : wn.ownsRow (w.heap.size + 1) 5 1 v' ([2] ++ L1).length (bts ([2] ++ L1)) := by rw [bh, List.length_append]; exact hown'); clear hown' hgrow G HM; obtain ⟨a0, a1, a2, a3, a4, a5, a6, a7, a8⟩ := id P
   refine hK.out _ _ ?_ (fun hHeld => ?_)
   ·first | exact ⟨a1, a2⟩ | (simp (maxDischargeDepth := 6) [go_sem, *]; done)
   clear hK K
   (try simp only [zA])
   refine zTk 8 ?_
   refine wpAnyH_done (by kernel_rfl) ?_ _
   go_wp2_with fail
   go_meet
   case rel => exact ⟨O, P, B⟩
  ·go_simp
   refine (C1 _).mono ?_; rintro e v ⟨vp, rfl, M, hb⟩; clear a0 a1 a2 a3 a4 a5 a6 a7 a8; (replace P := P.below hb); (try (replace N := aK N hb)); (replace B := B.trans (hb.mono B.size)); clear hb; (obtain ⟨g, cg, rfl⟩ := aM M n1); obtain ⟨a0, a1, a2, a3, a4, a5, a6, a7, a8⟩ := id P
   (try go_wp2_with fail)
   refine hK.out _ _ ?_ (fun hHeld => ?_)
   ·first | exact ⟨a1, a2⟩ | (simp (maxDischargeDepth := 6) [go_sem, *]; done)
   clear hK K
   (try simp only [zA])
   refine zQ 3 fun K hK => ?_
   go_simp
   (have N := cD v (w.heap.size + 1) 5 2 a0); clear a0 a1 a2 a3 a4 a5 a6 a7 a8; (replace P := P.alloc (.cells #[.int .u8 2] 5)); (try (replace M := World.ownsRow.alloc M (.cells #[.int .u8 2] 5))); (replace B := B.alloc B.size (.cells #[.int .u8 2] 5)); (generalize v.alloc (.cells #[.int .u8 2] 5) = v2 at *); obtain ⟨a0, a1, a2, a3, a4, a5, a6, a7, a8⟩ := id P
   refine hK.out _ _ ?_ (fun hHeld => ?_)
   ·first | exact ⟨a1, a2⟩ | (simp (maxDischargeDepth := 6) [go_sem, *]; done)
   clear hK K
   (try simp only [zA])
   refine zQ 7 fun K hK => ?_
   rw [if_pos (by rfl)]; (have HM : Hid (∀ j u, (bts L1)[j]? = some u → _ = some u) := aL M); (have hsz := a0); refine wp_append_own _ _ _ 22 rfl (w.heap.size + 1) 5 i0 (.int .u8 0) 1 1 Tryz.underlying22 hi0 hz0 hz1 hz2 rfl (by decide) _ _ _ rfl N ⟨g, 0, none⟩ _ cg (bts L1) rfl (by rw [aY, Nat.mul_one]) HM.out (bi _) (by unfold maxLen; omega) (by omega) hsz ?_; intro v' wn hown' hgrow _; (have G := ap N hgrow hsz); clear a0 a1 a2 a3 a4 a5 a6 a7 a8; (replace P := P.belowB G (Nat.lt_succ_self _)); (replace B := B.trans (G.mono (Nat.le_succ _))); (have O : wn.ownsRow (w.heap.size + 1) 5 1 v' ([2] ++ L1).length (bts ([2] ++ L1)) := by rw [bh, List.length_append]; exact hown'); clear hown' hgrow G HM; obtain ⟨a0, a1, a2, a3, a4, a5, a6, a7, a8⟩ := id P
   refine hK.out _ _ ?_ (fun hHeld => ?_)
   ·first | exact ⟨a1, a2⟩ | (simp (maxDischargeDepth := 6) [go_sem, *]; done)
   clear hK K
   (try simp only [zA])
   refine zTk 8 ?_
   refine wpAnyH_done (by kernel_rfl) ?_ _
   go_wp2_with fail
   go_meet
   case rel => exact ⟨O, P, B⟩
 case rest =>
  obtain ⟨O', P', B'⟩ := hcut
  clear a0 a1 a2 a3 a4 a5 a6 a7 a8
  clear P B
  have P := P'
  have B := B'
  have O := O'
  clear P' B' O' C1
  have HRL : Hid (∀ z ∈ [2] ++ L1, 0 ≤ z ∧ z ≤ 255) := bv (by intro y hy; simp at hy; subst hy; omega) HR1.out
  have lK1 : ([2] ++ L1).length ≤ 11 := by rw [List.length_append]; omega
  have HPK1 : Hid (R = bm (([2] ++ L1) ++ L2 ++ L3 ++ L4 ++ L5)) := by rw [Hid, HPK.out]
  generalize [2] ++ L1 = K1 at *
  clear HPK n1 l1 HR1
  obtain ⟨a0, a1, a2, a3, a4, a5, a6, a7, a8⟩ := id P
  go_wp2_with fail
  refine (C2 _).mono ?_
  rintro e v ⟨vp, rfl, M, hb⟩
  clear a0 a1 a2 a3 a4 a5 a6 a7 a8
  replace P := P.below hb
  replace O := aK O hb
  replace B := B.trans (hb.mono B.size)
  obtain ⟨g, cg, rfl⟩ := aM M n2
  have HM : Hid (∀ j u, (bts L2)[j]? = some u → _ = some u) := aL M
  have hsz := P.1
  clear hb C2 M
  go_wp2_with (at_builtin; refine wpList_append_own _ rfl _ _ 22 rfl (w.heap.size + 1) 5 i0 (.int .u8 0) 1 1 Tryz.underlying22 hi0 hz0 hz1 hz2 rfl (by decide) _ _ _ rfl O ⟨g, 0, none⟩ _ cg (bts L2) rfl (by rw [aY, Nat.mul_one]) HM.out (bi _) (by unfold maxLen; omega) (by omega) hsz ?_; intro v' wn hown' hgrow _; (have G := ap O hgrow hsz); (replace P := P.belowB G (Nat.lt_succ_self _)); obtain ⟨a0, a1, a2, a3, a4, a5, a6, a7, a8⟩ := id P)
  clear a0 a1 a2 a3 a4 a5 a6 a7 a8
  replace B := B.trans (G.mono (Nat.le_succ _))
  replace O : wn.ownsRow (w.heap.size + 1) 5 1 v' (K1 ++ L2).length (bts (K1 ++ L2)) := by rw [bh, List.length_append]; exact hown'
  replace HRL : Hid (∀ z ∈ K1 ++ L2, 0 ≤ z ∧ z ≤ 255) := bv HRL.out HR2.out
  have lK2 : (K1 ++ L2).length ≤ 21 := by rw [List.length_append]; omega
  have HPK2 : Hid (R = bm ((K1 ++ L2) ++ L3 ++ L4 ++ L5)) := HPK1.out
  generalize K1 ++ L2 = K2 at *
  clear hown' hgrow G hsz HR2 l2 lK1 HPK1
  clear n2 HM
  refine (C3 _).mono ?_
  rintro e v ⟨vp, rfl, M, hb⟩
  skip
  replace P := P.below hb
  replace O := aK O hb
  replace B := B.trans (hb.mono B.size)
  obtain ⟨g, cg, rfl⟩ := aM M n3
  have HM : Hid (∀ j u, (bts L3)[j]? = some u → _ = some u) := aL M
  have hsz := P.1
  clear hb C3 M
  go_wp2_with (at_builtin; refine wpList_append_own _ rfl _ _ 22 rfl (w.heap.size + 1) 5 i0 (.int .u8 0) 1 1 Tryz.underlying22 hi0 hz0 hz1 hz2 rfl (by decide) _ _ _ rfl O ⟨g, 0, none⟩ _ cg (bts L3) rfl (by rw [aY, Nat.mul_one]) HM.out (bi _) (by unfold maxLen; omega) (by omega) hsz ?_; intro v' wn hown' hgrow _; (have G := ap O hgrow hsz); (replace P := P.belowB G (Nat.lt_succ_self _)); obtain ⟨a0, a1, a2, a3, a4, a5, a6, a7, a8⟩ := id P)
  clear a0 a1 a2 a3 a4 a5 a6 a7 a8
  replace B := B.trans (G.mono (Nat.le_succ _))
  replace O : wn.ownsRow (w.heap.size + 1) 5 1 v' (K2 ++ L3).length (bts (K2 ++ L3)) := by rw [bh, List.length_append]; exact hown'
  replace HRL : Hid (∀ z ∈ K2 ++ L3, 0 ≤ z ∧ z ≤ 255) := bv HRL.out HR3.out
  have lK3 : (K2 ++ L3).length ≤ 31 := by rw [List.length_append]; omega
  have HPK3 : Hid (R = bm ((K2 ++ L3) ++ L4 ++ L5)) := HPK2.out
  generalize K2 ++ L3 = K3 at *
  clear hown' hgrow G hsz HR3 l3 lK2 HPK2
  clear n3 HM
  refine (F4 _).mono ?_
  rintro e w' ⟨rfl, rfl⟩
  go_wp2_with fail
  refine (C4 _).mono ?_
  rintro e v ⟨vp, rfl, M, hb⟩
  skip
  replace P := P.below hb
  replace O := aK O hb
  replace B := B.trans (hb.mono B.size)
  obtain ⟨g, cg, rfl⟩ := aM M n4
  have HM : Hid (∀ j u, (bts L4)[j]? = some u → _ = some u) := aL M
  have hsz := P.1
  clear hb C4 M
  go_wp2_with (at_builtin; refine wpList_append_own _ rfl _ _ 22 rfl (w.heap.size + 1) 5 i0 (.int .u8 0) 1 1 Tryz.underlying22 hi0 hz0 hz1 hz2 rfl (by decide) _ _ _ rfl O ⟨g, 0, none⟩ _ cg (bts L4) rfl (by rw [aY, Nat.mul_one]) HM.out (bi _) (by unfold maxLen; omega) (by omega) hsz ?_; intro v' wn hown' hgrow _; (have G := ap O hgrow hsz); (replace P := P.belowB G (Nat.lt_succ_self _)); obtain ⟨a0, a1, a2, a3, a4, a5, a6, a7, a8⟩ := id P)
  clear a0 a1 a2 a3 a4 a5 a6 a7 a8
  replace B := B.trans (G.mono (Nat.le_succ _))
  replace O : wn.ownsRow (w.heap.size + 1) 5 1 v' (K3 ++ L4).length (bts (K3 ++ L4)) := by rw [bh, List.length_append]; exact hown'
  replace HRL : Hid (∀ z ∈ K3 ++ L4, 0 ≤ z ∧ z ≤ 255) := bv HRL.out HR4.out
  have lK4 : (K3 ++ L4).length ≤ 41 := by rw [List.length_append]; omega
  have HPK4 : Hid (R = bm ((K3 ++ L4) ++ L5)) := HPK3.out
  generalize K3 ++ L4 = K4 at *
  clear hown' hgrow G hsz HR4 l4 lK3 HPK3
  clear n4 HM
  refine (F5 _).mono ?_
  rintro e w' ⟨rfl, rfl⟩
  go_wp2_with fail
  refine (C5 _).mono ?_
  rintro e v ⟨vp, rfl, M, hb⟩
  skip
  replace P := P.below hb
  replace O := aK O hb
  replace B := B.trans (hb.mono B.size)
  obtain ⟨g, cg, rfl⟩ := aM M n5
  have HM : Hid (∀ j u, (bts L5)[j]? = some u → _ = some u) := aL M
  have hsz := P.1
  clear hb C5 M
  go_wp2_with (at_builtin; refine wpList_append_own _ rfl _ _ 22 rfl (w.heap.size + 1) 5 i0 (.int .u8 0) 1 1 Tryz.underlying22 hi0 hz0 hz1 hz2 rfl (by decide) _ _ _ rfl O ⟨g, 0, none⟩ _ cg (bts L5) rfl (by rw [aY, Nat.mul_one]) HM.out (bi _) (by unfold maxLen; omega) (by omega) hsz ?_; intro v' wn hown' hgrow _; (have G := ap O hgrow hsz); (replace P := P.belowB G (Nat.lt_succ_self _)); obtain ⟨a0, a1, a2, a3, a4, a5, a6, a7, a8⟩ := id P)
  clear a0 a1 a2 a3 a4 a5 a6 a7 a8
  replace B := B.trans (G.mono (Nat.le_succ _))
  replace O : wn.ownsRow (w.heap.size + 1) 5 1 v' (K4 ++ L5).length (bts (K4 ++ L5)) := by rw [bh, List.length_append]; exact hown'
  replace HRL : Hid (∀ z ∈ K4 ++ L5, 0 ≤ z ∧ z ≤ 255) := bv HRL.out HR5.out
  have lK5 : (K4 ++ L5).length ≤ 51 := by rw [List.length_append]; omega
  have HPK5 : Hid (R = bm ((K4 ++ L5))) := HPK4.out
  generalize K4 ++ L5 = K5 at *
  clear hown' hgrow G hsz HR5 l5 lK4 HPK4
  clear n5 HM
  obtain ⟨aO, cO, rfl, hOc, hOm, SO⟩ := cq O
  have HSO : Hid (de wn aO K5.length fun i => K5.getD i 0) := SO
  have hRG := eF HRL.out
  have CC := aX aO K5.length cO (fun i => K5.getD i 0) wn (by unfold maxLen; omega) HSO.out hRG
  have hcb := cz hRG
  have HPE : Hid (R = K5 ++ [chk (fun i => K5.getD i 0) K5.length]) := HPK5.out
  generalize chk (fun i => K5.getD i 0) K5.length = q at *
  have hq0 := hcb.1
  have hq1 := hcb.2
  have hqw : IntKind.u8.wrap q = q := Go.IntWalk.u8_in _ ⟨by omega, by omega⟩
  clear hOc hOm SO HSO hRG hcb HRL HPK5
  (try go_wp2_with fail)
  refine CC.mono ?_
  rintro e w' ⟨rfl, rfl⟩
  clear CC
  have hsz : w.heap.size + 1 ≤ (wn.alloc (.cells #[.int .u8 q] 5)).heap.size := by have := P.1; simp; omega
  have A := (Below.refl wn.heap.size wn).alloc (Nat.le_refl _) (.cells #[.int .u8 q] 5)
  go_wp2_with (at_builtin; refine wpList_append_own _ rfl _ _ 22 rfl (w.heap.size + 1) 5 i0 (.int .u8 0) 1 1 Tryz.underlying22 hi0 hz0 hz1 hz2 rfl (by decide) _ _ _ rfl (World.ownsRow.alloc O _) ⟨wn.heap.size, 0, none⟩ 1 1 [.int .u8 q] rfl rfl (fun j u hj => bU wn _ 5 j u hj) (by intro u hu; simp at hu; subst hu; rfl) (by unfold maxLen; omega) (by omega) hsz ?_; intro v' wm hown' hgrow _)
  have G := ap (World.ownsRow.alloc O _) hgrow hsz
  have Bf := (B.trans (A.mono B.size)).trans (G.mono (Nat.le_succ _))
  have Of : Hid (wm.ownsRow w.heap.size 5 1 v' R.length (bts R)) := by
   rw [HPE.out, Hid, cu]
   exact cY (by simpa using hown') (Nat.le_succ _)
  clear hown' hgrow G A
  go_wp2_with fail
  go_ret2
  exact ⟨_, rfl, Of.out, Bf⟩
set_option maxHeartbeats 16000000 in
theorem jf (fr tu no lo hi sl : Int) (s : ByteArray) (w : World) (h : aD 3 fr tu no lo hi sl s = true) :
 Calls Tryz.prog 90 #[.agg #[.int .i64 3, .int .i64 fr, .int .i64 tu, .int .i64 no, .int .i64 lo, .int .i64 hi, .int .i64 sl, .string s]] w fun e w' => ∃ v : Value, e = .returned (.tuple #[v, .bool true]) ∧ w'.ownsRow w.heap.size 5 1 v (bz 3 fr tu no lo hi sl s).length (bts (bz 3 fr tu no lo hi sl s)) ∧ Below w.heap.size w w' := by
 obtain ⟨i0, hi0, hz0, hz1, hz2⟩ := info_parts infoByte
 obtain ⟨f0, f1, _, _, hs⟩ := b8 h
 have P := aN.new w 3 fr tu no lo hi sl s 151
 have B := (Below.refl w.heap.size w).alloc (Nat.le_refl _) (.cells #[.int .i64 3, .int .i64 fr, .int .i64 tu, .int .i64 no, .int .i64 lo, .int .i64 hi, .int .i64 sl, .string s] 151)
 have hw1 : IntKind.u8.wrap 3 = 3 := by decide
 have hk1 : ([3] : List Int).length = 1 := rfl
 have hsl := j9 h
 have C1 := fun w' => aF fr w' (by omega)
 have l1 := aP fr
 have n1 := bK (x := fr) (by omega)
 have HR1 : Hid (∀ z ∈ aS fr, 0 ≤ z ∧ z ≤ 255) := aQ fr
 have C2 := fun w' => aF sl w' (by omega)
 have l2 := aP sl
 have n2 := bK (x := sl) (by omega)
 have HR2 : Hid (∀ z ∈ aS sl, 0 ≤ z ∧ z ≤ 255) := aQ sl
 have C3 := fun w' => aF (s.size : Int) w' (by omega)
 have l3 := aP (s.size : Int)
 have n3 := bK (x := (s.size : Int)) (by omega)
 have HR3 : Hid (∀ z ∈ aS (s.size : Int), 0 ≤ z ∧ z ≤ 255) := aQ (s.size : Int)
 have HR9 : Hid (∀ z ∈ di s, 0 ≤ z ∧ z ≤ 255) := iA s
 have l9 := eO s
 have hcells := jg s
 have HPK : Hid (bz 3 fr tu no lo hi sl s = bm ([3] ++ aS fr ++ aS sl ++ aS (s.size : Int) ++ di s)) := by simp [Hid, bz, dQ]
 have CK := fun w' => bV 3 fr tu no lo hi sl s w' (by omega)
 rw [h] at CK
 clear h
 generalize bz 3 fr tu no lo hi sl s = R at *
 generalize aS fr = L1 at *
 generalize aS sl = L2 at *
 generalize aS (s.size : Int) = L3 at *
 obtain ⟨L9, hL9⟩ : ∃ L9, L9 = di s := ⟨_, rfl⟩
 have HRC : Hid (∀ (w' : World) (cap : Nat) (fz : Nat × Nat), ∀ j u, (bts (di s))[j]? = some u → (w'.drew.alloc (.cells (bytesRow s cap) 5 fz)).cell? ((⟨w'.heap.size, 0, none⟩ : Addr).add j) = some u) := fun w' cap fz => kg w' s cap 5 fz
 have hcv := fun w' => run_bytes_of_string (P := Tryz.prog) w' 9 22 5 s Tryz.underlying9 Tryz.underlying22 Tryz.underlying5
 rw [← hL9] at HRC
 rw [← hL9] at HR9 l9 hcells HPK
 have HL9 : Hid (L9 = di s) := hL9
 clear hL9
 go_enter Tryz.func90, Tryz.ntmps90
 go_wp2_with fail
 refine (CK _).mono ?_
 rintro e v ⟨rfl, hb⟩
 replace P := P.below hb
 replace B := B.trans (hb.mono B.size)
 clear hb CK
 obtain ⟨a0, a1, a2, a3, a4, a5, a6, a7, a8⟩ := id P
 go_wp2_with fail
 go_cut [4] (fun s4 wx => wx.ownsRow (w.heap.size + 1) 5 1 s4 ([3] ++ L1).length (bts ([3] ++ L1)) ∧ aN wx w.heap.size 3 fr tu no lo hi sl s ∧ Below w.heap.size w wx)
 case first =>
  refine wp_region_held_drew (S := (fun w' => w'.cell? ⟨w.heap.size, 0, none⟩ = some (.int .i64 3) ∧ w'.cell? ⟨w.heap.size, 1, none⟩ = some (.int .i64 fr))) (by kernel_rfl) ?_ (fun hHeld => ?_)
  ·first | exact ⟨a1, a2⟩ | (simp (maxDischargeDepth := 6) [go_sem, *]; done)
  clear a0 a1 a2 a3 a4 a5 a6 a7 a8
  replace P := P.drew
  replace B := B.drew
  generalize v.drew = v at *
  obtain ⟨a0, a1, a2, a3, a4, a5, a6, a7, a8⟩ := id P
  refine zT2 0 ?_
  refine zTk 2 ?_
  refine zT2 4 ?_
  refine wpAnyH_ready (rs := [3, 6]) (by kernel_rfl) (by simp) ?_
  refine (zC (fun K hK => ?_) (zR fun K hK => ?_))
  ·go_simp
   (have N := cD v (w.heap.size + 1) 5 3 a0); clear a0 a1 a2 a3 a4 a5 a6 a7 a8; (replace P := P.alloc (.cells #[.int .u8 3] 5)); (try (replace M := World.ownsRow.alloc M (.cells #[.int .u8 3] 5))); (replace B := B.alloc B.size (.cells #[.int .u8 3] 5)); (generalize v.alloc (.cells #[.int .u8 3] 5) = v2 at *); obtain ⟨a0, a1, a2, a3, a4, a5, a6, a7, a8⟩ := id P
   refine hK.out _ _ ?_ (fun hHeld => ?_)
   ·first | exact ⟨a1, a2⟩ | (simp (maxDischargeDepth := 6) [go_sem, *]; done)
   clear hK K
   (try simp only [zA])
   refine zQ 6 fun K hK => ?_
   go_simp
   refine (C1 _).mono ?_; rintro e v ⟨vp, rfl, M, hb⟩; clear a0 a1 a2 a3 a4 a5 a6 a7 a8; (replace P := P.below hb); (try (replace N := aK N hb)); (replace B := B.trans (hb.mono B.size)); clear hb; (obtain ⟨g, cg, rfl⟩ := aM M n1); obtain ⟨a0, a1, a2, a3, a4, a5, a6, a7, a8⟩ := id P
   (try go_wp2_with fail)
   refine hK.out _ _ ?_ (fun hHeld => ?_)
   ·first | exact ⟨a1, a2⟩ | (simp (maxDischargeDepth := 6) [go_sem, *]; done)
   clear hK K
   (try simp only [zA])
   refine zQ 7 fun K hK => ?_
   rw [if_pos (by rfl)]; (have HM : Hid (∀ j u, (bts L1)[j]? = some u → _ = some u) := aL M); (have hsz := a0); refine wp_append_own _ _ _ 22 rfl (w.heap.size + 1) 5 i0 (.int .u8 0) 1 1 Tryz.underlying22 hi0 hz0 hz1 hz2 rfl (by decide) _ _ _ rfl N ⟨g, 0, none⟩ _ cg (bts L1) rfl (by rw [aY, Nat.mul_one]) HM.out (bi _) (by unfold maxLen; omega) (by omega) hsz ?_; intro v' wn hown' hgrow _; (have G := ap N hgrow hsz); clear a0 a1 a2 a3 a4 a5 a6 a7 a8; (replace P := P.belowB G (Nat.lt_succ_self _)); (replace B := B.trans (G.mono (Nat.le_succ _))); (have O : wn.ownsRow (w.heap.size + 1) 5 1 v' ([3] ++ L1).length (bts ([3] ++ L1)) := by rw [bh, List.length_append]; exact hown'); clear hown' hgrow G HM; obtain ⟨a0, a1, a2, a3, a4, a5, a6, a7, a8⟩ := id P
   refine hK.out _ _ ?_ (fun hHeld => ?_)
   ·first | exact ⟨a1, a2⟩ | (simp (maxDischargeDepth := 6) [go_sem, *]; done)
   clear hK K
   (try simp only [zA])
   refine zTk 8 ?_
   refine wpAnyH_done (by kernel_rfl) ?_ _
   go_wp2_with fail
   go_meet
   case rel => exact ⟨O, P, B⟩
  ·go_simp
   refine (C1 _).mono ?_; rintro e v ⟨vp, rfl, M, hb⟩; clear a0 a1 a2 a3 a4 a5 a6 a7 a8; (replace P := P.below hb); (try (replace N := aK N hb)); (replace B := B.trans (hb.mono B.size)); clear hb; (obtain ⟨g, cg, rfl⟩ := aM M n1); obtain ⟨a0, a1, a2, a3, a4, a5, a6, a7, a8⟩ := id P
   (try go_wp2_with fail)
   refine hK.out _ _ ?_ (fun hHeld => ?_)
   ·first | exact ⟨a1, a2⟩ | (simp (maxDischargeDepth := 6) [go_sem, *]; done)
   clear hK K
   (try simp only [zA])
   refine zQ 3 fun K hK => ?_
   go_simp
   (have N := cD v (w.heap.size + 1) 5 3 a0); clear a0 a1 a2 a3 a4 a5 a6 a7 a8; (replace P := P.alloc (.cells #[.int .u8 3] 5)); (try (replace M := World.ownsRow.alloc M (.cells #[.int .u8 3] 5))); (replace B := B.alloc B.size (.cells #[.int .u8 3] 5)); (generalize v.alloc (.cells #[.int .u8 3] 5) = v2 at *); obtain ⟨a0, a1, a2, a3, a4, a5, a6, a7, a8⟩ := id P
   refine hK.out _ _ ?_ (fun hHeld => ?_)
   ·first | exact ⟨a1, a2⟩ | (simp (maxDischargeDepth := 6) [go_sem, *]; done)
   clear hK K
   (try simp only [zA])
   refine zQ 7 fun K hK => ?_
   rw [if_pos (by rfl)]; (have HM : Hid (∀ j u, (bts L1)[j]? = some u → _ = some u) := aL M); (have hsz := a0); refine wp_append_own _ _ _ 22 rfl (w.heap.size + 1) 5 i0 (.int .u8 0) 1 1 Tryz.underlying22 hi0 hz0 hz1 hz2 rfl (by decide) _ _ _ rfl N ⟨g, 0, none⟩ _ cg (bts L1) rfl (by rw [aY, Nat.mul_one]) HM.out (bi _) (by unfold maxLen; omega) (by omega) hsz ?_; intro v' wn hown' hgrow _; (have G := ap N hgrow hsz); clear a0 a1 a2 a3 a4 a5 a6 a7 a8; (replace P := P.belowB G (Nat.lt_succ_self _)); (replace B := B.trans (G.mono (Nat.le_succ _))); (have O : wn.ownsRow (w.heap.size + 1) 5 1 v' ([3] ++ L1).length (bts ([3] ++ L1)) := by rw [bh, List.length_append]; exact hown'); clear hown' hgrow G HM; obtain ⟨a0, a1, a2, a3, a4, a5, a6, a7, a8⟩ := id P
   refine hK.out _ _ ?_ (fun hHeld => ?_)
   ·first | exact ⟨a1, a2⟩ | (simp (maxDischargeDepth := 6) [go_sem, *]; done)
   clear hK K
   (try simp only [zA])
   refine zTk 8 ?_
   refine wpAnyH_done (by kernel_rfl) ?_ _
   go_wp2_with fail
   go_meet
   case rel => exact ⟨O, P, B⟩
 case rest =>
  obtain ⟨O', P', B'⟩ := hcut
  clear a0 a1 a2 a3 a4 a5 a6 a7 a8
  clear P B
  have P := P'
  have B := B'
  have O := O'
  clear P' B' O' C1
  have HRL : Hid (∀ z ∈ [3] ++ L1, 0 ≤ z ∧ z ≤ 255) := bv (by intro y hy; simp at hy; subst hy; omega) HR1.out
  have lK1 : ([3] ++ L1).length ≤ 11 := by rw [List.length_append]; omega
  have HPK1 : Hid (R = bm (([3] ++ L1) ++ L2 ++ L3 ++ L9)) := by rw [Hid, HPK.out]
  generalize [3] ++ L1 = K1 at *
  clear HPK n1 l1 HR1
  obtain ⟨a0, a1, a2, a3, a4, a5, a6, a7, a8⟩ := id P
  go_wp2_with fail
  refine (C2 _).mono ?_
  rintro e v ⟨vp, rfl, M, hb⟩
  clear a0 a1 a2 a3 a4 a5 a6 a7 a8
  replace P := P.below hb
  replace O := aK O hb
  replace B := B.trans (hb.mono B.size)
  obtain ⟨g, cg, rfl⟩ := aM M n2
  have HM : Hid (∀ j u, (bts L2)[j]? = some u → _ = some u) := aL M
  have hsz := P.1
  clear hb C2 M
  go_wp2_with (at_builtin; refine wpList_append_own _ rfl _ _ 22 rfl (w.heap.size + 1) 5 i0 (.int .u8 0) 1 1 Tryz.underlying22 hi0 hz0 hz1 hz2 rfl (by decide) _ _ _ rfl O ⟨g, 0, none⟩ _ cg (bts L2) rfl (by rw [aY, Nat.mul_one]) HM.out (bi _) (by unfold maxLen; omega) (by omega) hsz ?_; intro v' wn hown' hgrow _; (have G := ap O hgrow hsz); (replace P := P.belowB G (Nat.lt_succ_self _)); obtain ⟨a0, a1, a2, a3, a4, a5, a6, a7, a8⟩ := id P)
  clear a0 a1 a2 a3 a4 a5 a6 a7 a8
  replace B := B.trans (G.mono (Nat.le_succ _))
  replace O : wn.ownsRow (w.heap.size + 1) 5 1 v' (K1 ++ L2).length (bts (K1 ++ L2)) := by rw [bh, List.length_append]; exact hown'
  replace HRL : Hid (∀ z ∈ K1 ++ L2, 0 ≤ z ∧ z ≤ 255) := bv HRL.out HR2.out
  have lK2 : (K1 ++ L2).length ≤ 21 := by rw [List.length_append]; omega
  have HPK2 : Hid (R = bm ((K1 ++ L2) ++ L3 ++ L9)) := HPK1.out
  generalize K1 ++ L2 = K2 at *
  clear hown' hgrow G hsz HR2 l2 lK1 HPK1
  clear n2 HM
  refine (C3 _).mono ?_
  rintro e v ⟨vp, rfl, M, hb⟩
  skip
  replace P := P.below hb
  replace O := aK O hb
  replace B := B.trans (hb.mono B.size)
  obtain ⟨g, cg, rfl⟩ := aM M n3
  have HM : Hid (∀ j u, (bts L3)[j]? = some u → _ = some u) := aL M
  have hsz := P.1
  clear hb C3 M
  go_wp2_with (first | (at_builtin; refine wpList_append_own _ rfl _ _ 22 rfl (w.heap.size + 1) 5 i0 (.int .u8 0) 1 1 Tryz.underlying22 hi0 hz0 hz1 hz2 rfl (by decide) _ _ _ rfl O ⟨g, 0, none⟩ _ cg (bts L3) rfl (by rw [aY, Nat.mul_one]) HM.out (bi _) (by unfold maxLen; omega) (by omega) hsz ?_; intro v' wn hown' hgrow _; (have G := ap O hgrow hsz); (replace P := P.belowB G (Nat.lt_succ_self _)); obtain ⟨a0, a1, a2, a3, a4, a5, a6, a7, a8⟩ := id P; (replace O : wn.ownsRow (w.heap.size + 1) 5 1 v' (K2 ++ L3).length (bts (K2 ++ L3)) := by rw [bh, List.length_append]; exact hown'); (have lq : (K2 ++ L3).length ≤ 31 := by rw [List.length_append]; omega); (have hsz3 := P.1); clear hown' hgrow hsz) | (at_builtin; refine wpList_append_own _ rfl _ _ 22 rfl (w.heap.size + 1) 5 i0 (.int .u8 0) 1 1 Tryz.underlying22 hi0 hz0 hz1 hz2 rfl (by decide) _ _ _ rfl (World.ownsRow.alloc (World.ownsRow.drew O) _) ⟨_, 0, none⟩ _ _ (bts L9) rfl (by rw [aY, l9, Nat.mul_one]) (HRC.out _ _ _) (bi _) (by unfold maxLen; omega) (by omega) (by simp; omega) ?_; intro v'' wq hown' hgrow _; (have G2 := ap (World.ownsRow.alloc (World.ownsRow.drew O) _) hgrow (by simp; omega)); clear a0 a1 a2 a3 a4 a5 a6 a7 a8; (replace P := (P.drew.alloc _).belowB G2 (Nat.lt_succ_self _)); obtain ⟨a0, a1, a2, a3, a4, a5, a6, a7, a8⟩ := id P))
  clear a0 a1 a2 a3 a4 a5 a6 a7 a8
  replace B := B.trans (G.mono (Nat.le_succ _))
  replace B := (B.drew.alloc B.size _).trans (G2.mono (Nat.le_succ _))
  rw [← l9] at hown'
  replace O : wq.ownsRow (w.heap.size + 1) 5 1 v'' (K2 ++ L3 ++ L9).length (bts (K2 ++ L3 ++ L9)) := by rw [bts3, len3]; exact hown'
  replace HRL : Hid (∀ z ∈ K2 ++ L3 ++ L9, 0 ≤ z ∧ z ≤ 255) := bv (bv HRL.out HR3.out) HR9.out
  have lK3 : (K2 ++ L3 ++ L9).length ≤ 100 := by rw [len3]; omega
  have HPK3 : Hid (R = bm (K2 ++ L3 ++ L9)) := HPK2.out
  generalize K2 ++ L3 ++ L9 = K3 at *
  clear hown' hgrow G G2 lK2 HPK2 lq hsz3
  obtain ⟨aO, cO, rfl, hOc, hOm, SO⟩ := cq O
  have HSO : Hid (de wq aO K3.length fun i => K3.getD i 0) := SO
  have hRG := eF HRL.out
  have CC := aX aO K3.length cO (fun i => K3.getD i 0) wq (by unfold maxLen; omega) HSO.out hRG
  have hcb := cz hRG
  have HPE : Hid (R = K3 ++ [chk (fun i => K3.getD i 0) K3.length]) := HPK3.out
  generalize chk (fun i => K3.getD i 0) K3.length = q at *
  have hq0 := hcb.1
  have hq1 := hcb.2
  have hqw : IntKind.u8.wrap q = q := Go.IntWalk.u8_in _ ⟨by omega, by omega⟩
  clear hOc hOm SO HSO hRG hcb HRL HPK3
  (try go_wp2_with fail)
  refine CC.mono ?_
  rintro e w' ⟨rfl, rfl⟩
  clear CC
  have hsz : w.heap.size + 1 ≤ (wq.alloc (.cells #[.int .u8 q] 5)).heap.size := by have := P.1; simp; omega
  have A := (Below.refl wq.heap.size wq).alloc (Nat.le_refl _) (.cells #[.int .u8 q] 5)
  go_wp2_with (at_builtin; refine wpList_append_own _ rfl _ _ 22 rfl (w.heap.size + 1) 5 i0 (.int .u8 0) 1 1 Tryz.underlying22 hi0 hz0 hz1 hz2 rfl (by decide) _ _ _ rfl (World.ownsRow.alloc O _) ⟨wq.heap.size, 0, none⟩ 1 1 [.int .u8 q] rfl rfl (fun j u hj => bU wq _ 5 j u hj) (by intro u hu; simp at hu; subst hu; rfl) (by unfold maxLen; omega) (by omega) hsz ?_; intro v' wm hown' hgrow _)
  have G := ap (World.ownsRow.alloc O _) hgrow hsz
  have Bf := (B.trans (A.mono B.size)).trans (G.mono (Nat.le_succ _))
  have Of : Hid (wm.ownsRow w.heap.size 5 1 v' R.length (bts R)) := by
   rw [HPE.out, Hid, cu]
   exact cY (by simpa using hown') (Nat.le_succ _)
  clear hown' hgrow G A
  go_wp2_with fail
  go_ret2
  exact ⟨_, rfl, Of.out, Bf⟩
set_option maxHeartbeats 2000000 in
theorem ix (k fr tu no lo hi sl : Int) (s : ByteArray) (w : World) (hs : s.size ≤ 1048576) (h : aD k fr tu no lo hi sl s = false) :
 Calls Tryz.prog 90 #[.agg #[.int .i64 k, .int .i64 fr, .int .i64 tu, .int .i64 no, .int .i64 lo, .int .i64 hi, .int .i64 sl, .string s]] w fun e w' => ∃ v : Value, e = .returned (.tuple #[v, .bool false]) ∧ w'.ownsRow w.heap.size 5 1 v 0 [] ∧ Below w.heap.size w w' := by
 have B := (Below.refl w.heap.size w).alloc (Nat.le_refl _) (.cells #[.int .i64 k, .int .i64 fr, .int .i64 tu, .int .i64 no, .int .i64 lo, .int .i64 hi, .int .i64 sl, .string s] 151)
 have CK := fun w' => bV k fr tu no lo hi sl s w' hs
 rw [h] at CK
 go_enter Tryz.func90, Tryz.ntmps90
 go_wp2_with fail
 refine (CK _).mono ?_
 rintro e vn ⟨rfl, hb⟩
 have BN := B.trans (hb.mono B.size)
 clear hb CK B
 go_wp2_with fail
 go_ret2
 exact ⟨_, rfl, (by have := World.ownsRow_made (e := 5) (size := 1) (base := w.heap.size) vn #[] 0 BN.size (by simp [maxLen]) (by simp); exact this), (BN.alloc BN.size _)⟩
theorem gm (k fr tu no lo hi sl : Int) (s : ByteArray) (w : World) (hs : s.size ≤ 1048576) :
 Calls Tryz.prog 90 #[.agg #[.int .i64 k, .int .i64 fr, .int .i64 tu, .int .i64 no, .int .i64 lo, .int .i64 hi, .int .i64 sl, .string s]] w fun e w' => ∃ v : Value, e = .returned (.tuple #[v, .bool (aD k fr tu no lo hi sl s)]) ∧ w'.ownsRow w.heap.size 5 1 v (db k fr tu no lo hi sl s).length (bts (db k fr tu no lo hi sl s)) ∧ Below w.heap.size w w' := by
 cases h : aD k fr tu no lo hi sl s
 ·rw [db, h]
  exact ix k fr tu no lo hi sl s w hs h
 ·have hk := b8 h
  have e : db k fr tu no lo hi sl s = bz k fr tu no lo hi sl s := by rw [db, h]; rfl
  rw [e]
  by_cases k1 : k = 1
  ·subst k1; exact jd fr tu no lo hi sl s w h
  ·by_cases k2 : k = 2
   ·subst k2; exact je fr tu no lo hi sl s w h
   ·have k3 : k = 3 := by omega
    subst k3; exact jf fr tu no lo hi sl s w h
end Go.Proofs.YtddjiamollfplaaGreatDoor
