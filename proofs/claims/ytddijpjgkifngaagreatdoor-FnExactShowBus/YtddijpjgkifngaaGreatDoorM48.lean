/- ShowNet and ShowBus in the program. The walk of the exact law of ShowBus. -/
import Derived.Test.YtddijpjgkifngaaGreatDoorM0
import Derived.Test.YtddijpjgkifngaaGreatDoorM46
namespace Go.Proofs.YtddijpjgkifngaaGreatDoor
open Go.RowKit
set_option linter.unusedVariables false
set_option maxHeartbeats 16000000 in
set_option maxRecDepth 100000 in
theorem frW_any (x0 : Int) (x1 : Int) (x2 : Int) (x3 : Int) (x4 : Int) (x5 : ByteArray) (w : World) (E0 : T10 w) (i0 : i64B x0) (i1 : i64B x1) (i2 : i64B x2) (i3 : i64B x3) (i4 : i64B x4) :
 Calls Tryz.prog 80 #[.agg #[.int .i64 x0, .int .i64 x1, .int .i64 x2, .int .i64 x3, .int .i64 x4, .string x5]] w fun e w' => e = .returned (.string (frW (x0, x1, x2, x3, x4, x5))) ∧ Below w.heap.size w w' := by
 have B := Below.nw w (.cells #[.int .i64 x0, .int .i64 x1, .int .i64 x2, .int .i64 x3, .int .i64 x4, .string x5] 108)
 have L := Bo.new w #[.int .i64 x0, .int .i64 x1, .int .i64 x2, .int .i64 x3, .int .i64 x4, .string x5] 108
 have HE : Hid (T10 w) := E0
 have HX : Hid (frW (x0, x1, x2, x3, x4, x5) = txI x0 ++ ⟨#[47]⟩ ++ txI x1 ++ ⟨#[47]⟩ ++ txI x2 ++ ⟨#[64]⟩ ++ txI x3 ++ ⟨#[45]⟩ ++ txI x4) := rfl
 have C0 := fun (u : World) (h : Below w.heap.size w u) => implTextOf_any x0 u i0.1 i0.2 (HE.out.below h)
 have z0 := txI_size' x0
 have C1 := fun (u : World) (h : Below w.heap.size w u) => implTextOf_any x1 u i1.1 i1.2 (HE.out.below h)
 have z1 := txI_size' x1
 have C2 := fun (u : World) (h : Below w.heap.size w u) => implTextOf_any x2 u i2.1 i2.2 (HE.out.below h)
 have z2 := txI_size' x2
 have C3 := fun (u : World) (h : Below w.heap.size w u) => implTextOf_any x3 u i3.1 i3.2 (HE.out.below h)
 have z3 := txI_size' x3
 have C4 := fun (u : World) (h : Below w.heap.size w u) => implTextOf_any x4 u i4.1 i4.2 (HE.out.below h)
 have z4 := txI_size' x4
 clear i0 i1 i2 i3 i4 E0
 generalize frW (x0, x1, x2, x3, x4, x5) = X at *
 generalize txI x0 = sa at *
 generalize txI x1 = sb at *
 generalize txI x2 = sc at *
 generalize txI x3 = sd at *
 generalize txI x4 = se at *
 have e47 : (⟨#[47]⟩ : ByteArray).size = 1 := rfl
 have e64 : (⟨#[64]⟩ : ByteArray).size = 1 := rfl
 have e45 : (⟨#[45]⟩ : ByteArray).size = 1 := rfl
 have a0 : ¬ 9223372036854775807 < sa.size + 1 := by omega
 have a1 : ¬ 9223372036854775807 < sa.size + 1 + sb.size := by omega
 have a2 : ¬ 9223372036854775807 < sa.size + 1 + sb.size + 1 := by omega
 have a3 : ¬ 9223372036854775807 < sa.size + 1 + sb.size + 1 + sc.size := by omega
 have a4 : ¬ 9223372036854775807 < sa.size + 1 + sb.size + 1 + sc.size + 1 := by omega
 have a5 : ¬ 9223372036854775807 < sa.size + 1 + sb.size + 1 + sc.size + 1 + sd.size := by omega
 have a6 : ¬ 9223372036854775807 < sa.size + 1 + sb.size + 1 + sc.size + 1 + sd.size + 1 := by omega
 have a7 : ¬ 9223372036854775807 < sa.size + 1 + sb.size + 1 + sc.size + 1 + sd.size + 1 + se.size := by omega
 clear z0 z1 z2 z3 z4
 go_enter Tryz.func80, Tryz.ntmps80
 go_upto_region 1 with fail
 generalize w.alloc (.cells #[.int .i64 x0, .int .i64 x1, .int .i64 x2, .int .i64 x3, .int .i64 x4, .string x5] 108) = v at *
 have c0 : v.cell? ⟨w.heap.size, 0, none⟩ = some (.int .i64 x0) := L.cell (i := 0) rfl
 have c1 : v.cell? ⟨w.heap.size, 1, none⟩ = some (.int .i64 x1) := L.cell (i := 1) rfl
 have c2 : v.cell? ⟨w.heap.size, 2, none⟩ = some (.int .i64 x2) := L.cell (i := 2) rfl
 have c3 : v.cell? ⟨w.heap.size, 3, none⟩ = some (.int .i64 x3) := L.cell (i := 3) rfl
 have c4 : v.cell? ⟨w.heap.size, 4, none⟩ = some (.int .i64 x4) := L.cell (i := 4) rfl
 have hq := L.1
 have SK : Hid (∀ w', Below v.heap.size v w' → (fun w' => w'.cell? ⟨w.heap.size, 0, none⟩ = some (.int .i64 x0) ∧ w'.cell? ⟨w.heap.size, 1, none⟩ = some (.int .i64 x1) ∧ w'.cell? ⟨w.heap.size, 2, none⟩ = some (.int .i64 x2) ∧ w'.cell? ⟨w.heap.size, 3, none⟩ = some (.int .i64 x3) ∧ w'.cell? ⟨w.heap.size, 4, none⟩ = some (.int .i64 x4)) w') := fun w' h => ⟨by rw [h.cell (p := ⟨w.heap.size, 0, none⟩) hq]; exact c0, by rw [h.cell (p := ⟨w.heap.size, 1, none⟩) hq]; exact c1, by rw [h.cell (p := ⟨w.heap.size, 2, none⟩) hq]; exact c2, by rw [h.cell (p := ⟨w.heap.size, 3, none⟩) hq]; exact c3, by rw [h.cell (p := ⟨w.heap.size, 4, none⟩) hq]; exact c4⟩
 clear c0 c1 c2 c3 c4 hq L
 refine wp_region_held_drew (S := (fun w' => w'.cell? ⟨w.heap.size, 0, none⟩ = some (.int .i64 x0) ∧ w'.cell? ⟨w.heap.size, 1, none⟩ = some (.int .i64 x1) ∧ w'.cell? ⟨w.heap.size, 2, none⟩ = some (.int .i64 x2) ∧ w'.cell? ⟨w.heap.size, 3, none⟩ = some (.int .i64 x3) ∧ w'.cell? ⟨w.heap.size, 4, none⟩ = some (.int .i64 x4))) (by kernel_rfl) ?_ (fun hHeld => ?_)
 ·first | exact SK.out _ XB | exact SK.out _ (Below.drew (Below.refl _ _)) | exact SK.out _ (Below.drew XB)
 have XB : Below v.heap.size v v.drew := Below.drew (Below.refl _ _)
 generalize v.drew = vx at *
 refine zTk 0 ?_
 refine zTk 1 ?_
 refine zTk 4 ?_
 refine zTk 5 ?_
 refine zTk 9 ?_
 refine zTk 10 ?_
 refine wpAnyH_ready (rs := [2]) (by kernel_rfl) (by simp) ?_
 refine AllReadyH.cons (by rw [List.getElem?_toArray]; rfl) (fun K hK => ?_) AllReadyH.nil
 go_simp
 refine (C0 _ (B.trans (XB.mono B.size))).mono ?_; rintro ee vx ⟨rfl, hbl⟩; (replace XB := XB.trans (hbl.mono XB.size)); (clear hbl)
 (try go_wp2_with fail)
 refine hK.out _ _ ?_ (fun hHeld => ?_)
 ·first | exact SK.out _ XB | exact SK.out _ (Below.drew (Below.refl _ _)) | exact SK.out _ (Below.drew XB)
 clear hK K
 (try simp only [Act.put, zSb, zS0, zS1])
 refine zTk 3 ?_
 refine wpAnyH_ready (rs := [6]) (by kernel_rfl) (by simp) ?_
 refine AllReadyH.cons (by rw [List.getElem?_toArray]; rfl) (fun K hK => ?_) AllReadyH.nil
 go_simp
 refine (C1 _ (B.trans (XB.mono B.size))).mono ?_; rintro ee vx ⟨rfl, hbl⟩; (replace XB := XB.trans (hbl.mono XB.size)); (clear hbl)
 (try go_wp2_with fail)
 refine hK.out _ _ ?_ (fun hHeld => ?_)
 ·first | exact SK.out _ XB | exact SK.out _ (Below.drew (Below.refl _ _)) | exact SK.out _ (Below.drew XB)
 clear hK K
 (try simp only [Act.put, zSb, zS0, zS1])
 refine zTk 7 ?_
 refine zTk 8 ?_
 refine wpAnyH_ready (rs := [11]) (by kernel_rfl) (by simp) ?_
 refine AllReadyH.cons (by rw [List.getElem?_toArray]; rfl) (fun K hK => ?_) AllReadyH.nil
 go_simp
 refine (C2 _ (B.trans (XB.mono B.size))).mono ?_; rintro ee vx ⟨rfl, hbl⟩; (replace XB := XB.trans (hbl.mono XB.size)); (clear hbl)
 (try go_wp2_with fail)
 refine hK.out _ _ ?_ (fun hHeld => ?_)
 ·first | exact SK.out _ XB | exact SK.out _ (Below.drew (Below.refl _ _)) | exact SK.out _ (Below.drew XB)
 clear hK K
 (try simp only [Act.put, zSb, zS0, zS1])
 refine zTk 12 ?_
 refine zTk 13 ?_
 refine wpAnyH_done (by kernel_rfl) ?_ _
 (try (go_upto_region 2 with fail))
 refine wp_region_held_drew (S := (fun w' => w'.cell? ⟨w.heap.size, 0, none⟩ = some (.int .i64 x0) ∧ w'.cell? ⟨w.heap.size, 1, none⟩ = some (.int .i64 x1) ∧ w'.cell? ⟨w.heap.size, 2, none⟩ = some (.int .i64 x2) ∧ w'.cell? ⟨w.heap.size, 3, none⟩ = some (.int .i64 x3) ∧ w'.cell? ⟨w.heap.size, 4, none⟩ = some (.int .i64 x4))) (by kernel_rfl) ?_ (fun hHeld => ?_)
 ·first | exact SK.out _ XB | exact SK.out _ (Below.drew (Below.refl _ _)) | exact SK.out _ (Below.drew XB)
 replace XB := Below.drew XB
 generalize vx.drew = vx2 at *
 refine zTk 0 ?_
 refine zTk 1 ?_
 refine zTk 2 ?_
 refine zTk 3 ?_
 refine zTk 7 ?_
 refine zTk 8 ?_
 refine wpAnyH_ready (rs := [4]) (by kernel_rfl) (by simp) ?_
 refine AllReadyH.cons (by rw [List.getElem?_toArray]; rfl) (fun K hK => ?_) AllReadyH.nil
 go_simp
 refine (C3 _ (B.trans (XB.mono B.size))).mono ?_; rintro ee vx ⟨rfl, hbl⟩; (replace XB := XB.trans (hbl.mono XB.size)); (clear hbl)
 (try go_wp2_with fail)
 refine hK.out _ _ ?_ (fun hHeld => ?_)
 ·first | exact SK.out _ XB | exact SK.out _ (Below.drew (Below.refl _ _)) | exact SK.out _ (Below.drew XB)
 clear hK K
 (try simp only [Act.put, zSb, zS0, zS1])
 refine zTk 5 ?_
 refine zTk 6 ?_
 refine wpAnyH_ready (rs := [9]) (by kernel_rfl) (by simp) ?_
 refine AllReadyH.cons (by rw [List.getElem?_toArray]; rfl) (fun K hK => ?_) AllReadyH.nil
 go_simp
 refine (C4 _ (B.trans (XB.mono B.size))).mono ?_; rintro ee vx ⟨rfl, hbl⟩; (replace XB := XB.trans (hbl.mono XB.size)); (clear hbl)
 (try go_wp2_with fail)
 refine hK.out _ _ ?_ (fun hHeld => ?_)
 ·first | exact SK.out _ XB | exact SK.out _ (Below.drew (Below.refl _ _)) | exact SK.out _ (Below.drew XB)
 clear hK K
 (try simp only [Act.put, zSb, zS0, zS1])
 refine zTk 10 ?_
 refine zTk 11 ?_
 refine wpAnyH_done (by kernel_rfl) ?_ _
 have BX := B.trans (XB.mono B.size)
 go_wp2_with fail
 go_ret
 exact ⟨by rw [HX.out]; rfl, BX⟩
attribute [-go_sem] loadCells storeCells in
set_option maxRecDepth 100000 in
set_option maxHeartbeats 16000000 in
theorem busWordsW (A : Array Value) (x : WdX) (w : World) (h : WdW w A x) (E0 : T10 w) (hn : x.nb ≤ 60) (hi2 : ∀ i, i < x.nb → i64B (x.BM i).1 ∧ i64B (x.BM i).2.1 ∧ i64B (x.BM i).2.2.1 ∧ i64B (x.BM i).2.2.2.1 ∧ i64B (x.BM i).2.2.2.2.1) :
 Calls Tryz.prog 44 #[.agg A] w fun e w' => ∃ u, e = .returned u ∧ w'.ownsRow w.heap.size 9 1 u (orN (bwL x)).length (stR (orN (bwL x))) ∧ Below w.heap.size w w' := by
 obtain ⟨i0, hi, hz0, hz1, hz2⟩ := info_parts info_str
 have HE : Hid (T10 w) := E0
 obtain ⟨p, d, la, lc, ca, cc, na, nk, fa, fc, ba, bc, rfl, hm, h1, h2, h3, h4, h5, h6⟩ := h
 have H6 : Hid (SrcC w ba (x.nb * 6) (MFFrame x.BM)) := h6
 clear h1 h2 h3 h4 h5 h6 hm E0
 have HI2 : Hid (∀ i, i < x.nb → i64B (x.BM i).1 ∧ i64B (x.BM i).2.1 ∧ i64B (x.BM i).2.2.1 ∧ i64B (x.BM i).2.2.2.1 ∧ i64B (x.BM i).2.2.2.2.1) := hi2
 clear hi2
 have A0 := Below.nw w (.cells (wdV x p d la lc ca cc na nk fa fc ba bc) 52)
 have L := Bo.new w (wdV x p d la lc ca cc na nk fa fc ba bc) 52
 have B := A0
 clear A0
 go_enter Tryz.func44, Tryz.ntmps44
 go_upto_region 2 with fail
 generalize w.alloc (.cells (wdV x p d la lc ca cc na nk fa fc ba bc) 52) = v0 at *
 have hL0 : v0.cell? ⟨w.heap.size, 17, none⟩ = some (.slice ba x.nb bc) := L.cell rfl
 go_wp2_with fail
 clear hL0
 have hlo : w.heap.size + 1 ≤ v0.heap.size := L.1
 go_loopw [3, 9] (fun r i wr => ∃ k : Nat, k ≤ x.nb ∧ i = .int .i64 (k : Int) ∧ wr.ownsRow (w.heap.size + 1) 9 1 r (rwL (fun i => frW (x.BM i)) k).length (stR (rwL (fun i => frW (x.BM i)) k)) ∧ Bo wr w.heap.size (wdV x p d la lc ca cc na nk fa fc ba bc) ∧ Below w.heap.size w wr ∧ w.heap.size + 1 ≤ wr.heap.size) (fun _ i _ => x.nb - (intOf i).toNat)
 case atStart => exact ⟨0, Nat.zero_le _, rfl, ⟨rfl, .inl ⟨rfl, rfl⟩⟩, L, B, hlo⟩
 case round =>
  clear L B hlo
  obtain ⟨k, hk, rfl, O, L, B, hlo⟩ := hrel
  by_cases hlt : k < x.nb
  ·skip
   have hli : (k : Int) < (x.nb : Int) := by omega
   obtain ⟨fb, fo, rfl, hf⟩ : ∃ b off, ba = some ⟨b, off, none⟩ ∧ Cs w b off (x.nb * 6) (MFFrame x.BM) := by
    rcases H6.out with q | q
    ·omega
    ·exact q
   obtain ⟨i0, i1, i2, i3, i4⟩ := HI2.out k hlt
   obtain ⟨x0 , x1 , x2 , x3 , x4 , x5, hM⟩ := tupFrame x.BM k
   simp only [hM] at i0 i1 i2 i3 i4
   have hfl := frame6 (P := Tryz.prog) (hf.below B hf.1) hlt hM
   have hst := storeNew (P := Tryz.prog) wr #[.int .i64 0, .int .i64 0, .int .i64 0, .int .i64 0, .int .i64 0, .string ⟨#[]⟩] #[.int .i64 x0, .int .i64 x1, .int .i64 x2, .int .i64 x3, .int .i64 x4, .string x5] 108 rfl (List.forall_mem_cons.2 ⟨rfl, (List.forall_mem_cons.2 ⟨rfl, (List.forall_mem_cons.2 ⟨rfl, (List.forall_mem_cons.2 ⟨rfl, (List.forall_mem_cons.2 ⟨rfl, (List.forall_mem_cons.2 ⟨rfl, fun _ h => nomatch h⟩)⟩)⟩)⟩)⟩)⟩)
   have hb := Below.nw wr (.cells #[.int .i64 x0, .int .i64 x1, .int .i64 x2, .int .i64 x3, .int .i64 x4, .string x5] 108)
   have Q := Bo.new wr #[.int .i64 x0, .int .i64 x1, .int .i64 x2, .int .i64 x3, .int .i64 x4, .string x5] 108
   have OR := O
   have hM2 : Hid (x.BM k = (x0, x1, x2, x3, x4, x5)) := hM
   clear hf hM H6
   go_upto_region 5 with (first | rw [hfl] | rw [hst])
   clear hfl hst
   replace B := B.trans (hb.mono B.size)
   replace L := L.below hb
   replace O := own_belowS O hb
   replace hlo := Nat.le_trans hlo hb.size
   clear hb
   generalize wr.alloc (.cells #[.int .i64 x0, .int .i64 x1, .int .i64 x2, .int .i64 x3, .int .i64 x4, .string x5] 108) = v5 at *
   have hq5 := Q.load (P := Tryz.prog) (show (#[.int .i64 x0, .int .i64 x1, .int .i64 x2, .int .i64 x3, .int .i64 x4, .string x5] : Array Value).size = 6 from rfl)
   have HR : Hid (rwL (fun i => frW (x.BM i)) (k + 1) = rwL (fun i => frW (x.BM i)) k ++ [frW (x0, x1, x2, x3, x4, x5)]) := by (show rwL (fun i => frW (x.BM i)) (k + 1) = _; rw [rwL, hM2.out])
   have hRL : (rwL (fun i => frW (x.BM i)) k).length = k := rwL_len _ _
   have CW := frW_any x0 x1 x2 x3 x4 x5 v5 (HE.out.below B) i0 i1 i2 i3 i4
   clear i0 i1 i2 i3 i4 hM2 OR
   generalize rwL (fun i => frW (x.BM i)) k = RL at *
   generalize frW (x0, x1, x2, x3, x4, x5) = nw at *
   go_wp2_with (rw [hq5])
   refine CW.mono ?_
   rintro e v6 ⟨rfl, hb⟩
   clear hq5 CW Q
   replace B := B.trans (hb.mono B.size)
   replace L := L.below hb
   replace O := own_belowS O hb
   replace hlo := Nat.le_trans hlo hb.size
   clear hb
   have b7 := Below.nw v6 (.cells (stR [nw]).toArray 9)
   have HM := strs_cell v6 [nw]
   replace O := own_belowS O b7
   replace hlo := Nat.le_trans hlo b7.size
   change Below v6.heap.size v6 (v6.alloc (.cells #[.string nw] 9)) at b7
   change ∀ j u, (stR [nw])[j]? = some u → (v6.alloc (.cells #[.string nw] 9)).cell? ((⟨v6.heap.size, 0, none⟩ : Addr).add j) = some u at HM
   change (v6.alloc (.cells #[.string nw] 9)).ownsRow (w.heap.size + 1) 9 1 _ RL.length (stR RL) at O
   change w.heap.size + 1 ≤ (v6.alloc (.cells #[.string nw] 9)).heap.size at hlo
   replace B := B.trans (b7.mono B.size)
   replace L := L.below b7
   clear b7
   go_wp2_with (at_builtin; refine add_strs rfl _ _ rfl (w.heap.size + 1) RL [nw] _ rfl O ⟨v6.heap.size, 0, none⟩ 1 rfl HM (by show RL.length + 1 ≤ 64; omega) hlo ?_; intro v8 w8 O8 hg8)
   have Bg := grown_belowS (L := RL) O hg8 hlo
   replace L := L.belowB Bg (Nat.lt_succ_self _)
   replace B := B.trans (Bg.mono (Nat.le_succ _))
   have hlo2 := Nat.le_trans hlo Bg.size
   have O9 : w8.ownsRow (w.heap.size + 1) 9 1 v8 (rwL (fun i => frW (x.BM i)) (k + 1)).length (stR (rwL (fun i => frW (x.BM i)) (k + 1))) := by rw [HR.out]; exact O8
   clear Bg O O8 hg8 HM hlo HR hRL
   go_wp2_with fail
   go_roundw
   case rel => exact ⟨k + 1, by omega, by go_num, O9, L, B, hlo2⟩
   case measure => simp [intOf]; omega
  have hkn : k = x.nb := by omega
  have hli : ¬ (k : Int) < (x.nb : Int) := by omega
  clear hlt H6 HI2
  rw [hkn] at O
  have hl6 : (bwL x).length ≤ 64 := by have q := rwL_len (fun i => frW (x.BM i)) x.nb; show (rwL (fun i => frW (x.BM i)) x.nb).length ≤ 64; omega
  have CJ := orNothing_any (bwL x) _ _ _ O hlo hl6
  clear O hl6 hkn hk
  go_wp2_with fail
  refine CJ.mono ?_
  rintro e u9 ⟨v9, rfl, O9, hb⟩
  go_wp2_with fail
  go_ret
  exact ⟨_, rfl, own_baseX O9 (Nat.le_succ _), B.trans (hb.mono B.size)⟩
attribute [-go_sem] loadCells storeCells in
set_option maxRecDepth 100000 in
set_option maxHeartbeats 16000000 in
theorem implShowBusW (A : Array Value) (x : WdX) (w : World) (h : WdW w A x) (ht : txW x) (hwf : wfWd x) (E0 : T10 w) :
 Calls Tryz.prog 14 #[.agg A] w fun e w' => e = .returned (.string (sbT x)) ∧ Below w.heap.size w w' := by
 have hA := h.size
 have HE : Hid (T10 w) := E0
 have HH := h
 have CK := fun (v : World) (hv : Below w.heap.size w v) => worldokW A x v (HH.below hv) ht hwf
 have CN := fun (v : World) (hv : Below w.heap.size w v) => busWordsW A x v (HH.below hv) (HE.out.below hv)
 have HT : Hid (wdOk x = true → sbT x = jnB (orN (bwL x))) := sbT_t
 have HF : Hid (wdOk x = false → sbT x = ⟨#[]⟩) := sbT_f
 have HI : Hid (wdOk x = true → x.nb ≤ 60 ∧ ∀ i, i < x.nb → i64B (x.BM i).1 ∧ i64B (x.BM i).2.1 ∧ i64B (x.BM i).2.2.1 ∧ i64B (x.BM i).2.2.2.1 ∧ i64B (x.BM i).2.2.2.2.1) := bus_i64
 have hl0 : (bwL x).length = x.nb := rwL_len (fun i => frW (x.BM i)) x.nb
 have hz0 : ∀ y ∈ orN (bwL x), y.size ≤ 130 := orN_all (rwL_all (fun i _ => frW_size _)) (by decide)
 have HZ : Hid (∀ y ∈ orN (bwL x), y.size ≤ 130) := hz0
 have HL : Hid (x.nb ≤ 60 → (orN (bwL x)).length ≤ 64) := fun q => orN_len (by omega) (by decide)
 have hp := orN_pos (bwL x)
 clear h ht hwf E0 HH hl0 hz0
 generalize sbT x = X at *
 generalize orN (bwL x) = LL at *
 generalize wdOk x = ok at *
 have B := Below.nw w (.cells A 52)
 have L := Bo.new w A 52
 go_enter Tryz.func14, Tryz.ntmps14
 go_upto_region 1 with fail
 generalize w.alloc (.cells A 52) = v0 at *
 have hL0 := L.load (P := Tryz.prog) hA
 go_wp2_with (rw [hL0])
 refine (CK v0 B).mono ?_
 rintro e v1 ⟨rfl, hb⟩
 clear hL0
 replace B := B.trans (hb.mono B.size)
 replace L := L.below hb
 clear hb
 cases ok
 ·have hE := HF.out rfl
  clear HF HT HI CK CN HL
  go_wp2_with fail
  go_ret
  exact ⟨by first | (rw [hE]; rfl) | rfl, B⟩
 have HE2 : Hid (X = jnB LL) := HT.out rfl
 obtain ⟨hn, hi2⟩ := HI.out rfl
 replace CN := CN v1 B hn hi2
 have hl := HL.out hn
 clear HF HT HI CK HL hi2
 have hL0 := L.load (P := Tryz.prog) hA
 go_wp2_with (rw [hL0])
 refine CN.mono ?_
 rintro e v2 ⟨u, rfl, O, hb⟩
 clear hL0
 replace B := B.trans (hb.mono B.size)
 clear hb L
 go_wp2_with fail
 refine (joinedB_any LL u _ _ O hp hl HZ.out).mono ?_
 rintro e v3 ⟨rfl, hb⟩
 go_wp2_with fail
 go_ret
 exact ⟨by first | (rw [HE2.out]; rfl) | rw [HE2.out], B.trans (hb.mono B.size)⟩
end Go.Proofs.YtddijpjgkifngaaGreatDoor
namespace Go.Proofs.YtddijpjgkifngaaGreatDoor
open Go.RowKit
set_option linter.unusedVariables false
attribute [-go_sem] loadCells storeCells in
set_option maxRecDepth 100000 in
set_option maxHeartbeats 16000000 in
theorem lawShowBus (A : Array Value) (x : WdX) (w : World) (E0 : T10 w) (HA : WdW w A x) (ht : txW x) (hwf : wfWd x) :
 Calls Tryz.prog 5 #[.agg A] w fun e w' => e = .returned (.bool true) ∧ Below w.heap.size w w' := by
 have HE : Hid (T10 w) := E0
 have B := Below.nw w (.cells A 37)
 have L := Bo.new w A 37
 have hA := HA.size
 have CS := fun (v : World) (hv : Below w.heap.size w v) (R : Array Value) (h : WdS v R x) => specShowBusW R x v h.weak ht
 have CP := fun (v : World) (hv : Below w.heap.size w v) (R : Array Value) (h : WdS v R x) => implShowBusW R x v h.weak ht hwf (HE.out.below hv)
 have CZ := fun (v : World) (h : Below w.heap.size w v) => szWorldW A x v (HA.below h) ht
 generalize sbT x = K at *
 have HS : Hid (WdW w A x) := HA
 clear HA hwf ht
 go_enter Tryz.func5, Tryz.ntmps5
 go_upto_region 2 with fail
 generalize w.alloc (.cells A 37) = v0 at *
 have hL := L.load (P := Tryz.prog) hA
 go_wp2_with (rw [hL])
 refine (CZ v0 B).mono ?_
 rintro e v1 ⟨Z, rfl, hZ, hb⟩
 clear hL CZ
 replace B := B.trans (hb.mono B.size)
 replace L := L.below hb
 clear hb
 by_cases hz : Z < 0
 ·clear CS CP hZ
  go_wp2_with fail
  go_ret
  exact ⟨rfl, B⟩
 have hsh := hZ (by omega)
 clear hZ
 have CT := fun (v : World) (h : Below w.heap.size w v) => toWorldW A x v (HS.out.below h) hsh
 clear hsh
 have hL := L.load (P := Tryz.prog) hA
 go_wp2_with (rw [hL])
 refine (CT _ B).mono ?_
 rintro e v2 ⟨R0, rfl, O0, hb⟩
 clear hL
 replace B := B.trans (hb.mono B.size)
 replace L := L.below hb
 clear hb
 go_wp2_with fail
 refine (CS _ B R0 O0).mono ?_
 clear O0
 rintro e v3 ⟨rfl, hb⟩
 replace B := B.trans (hb.mono B.size)
 replace L := L.below hb
 clear hb
 have hL := L.load (P := Tryz.prog) hA
 go_wp2_with (rw [hL])
 refine (CT _ B).mono ?_
 rintro e v5 ⟨RX, rfl, OX, hb⟩
 clear hL
 replace B := B.trans (hb.mono B.size)
 replace L := L.below hb
 clear hb
 generalize v3.heap.size = lx at *
 have hRX := OX.weak.size
 have hst := storeNew (P := Tryz.prog) v5 (#[.int .i64 0, .int .i64 0, .int .i64 0, .int .i64 0, .int .i64 0, .int .i64 0, .int .i64 0, .int .i64 0, .int .i64 0, .int .i64 0, .slice none 0 0, .slice none 0 0, .int .i64 0, .slice none 0 0, .slice none 0 0, .int .i64 0, .slice none 0 0, .slice none 0 0]) RX 52 (by rw [hRX]; rfl) OX.weak.one
 have hb := Below.nw v5 (.cells RX 52)
 have X := Bo.new v5 RX 52
 go_upto_region 7 with (rw [hst])
 clear hst
 replace B := B.trans (hb.mono B.size)
 replace L := L.below hb
 replace OX := OX.below hb
 clear hb
 generalize v5.alloc (.cells RX 52) = v6 at *
 generalize v5.heap.size = kX at *
 have hL := X.load (P := Tryz.prog) hRX
 go_wp2_with (rw [hL])
 refine (CP _ B RX OX).mono ?_
 rintro e v9 ⟨rfl, hb⟩
 clear hL CS CP
 replace B := B.trans (hb.mono B.size)
 replace L := L.below hb
 replace OX := OX.below hb
 replace X := X.below hb
 clear hb
 go_upto_region 10 with fail
 have SK : Hid (∀ w', Below v9.heap.size v9 w' → (fun w' => (loadCells ⟨kX, 0, none⟩ 18).run Tryz.prog w' = .ok RX w' ∧ (loadCells ⟨w.heap.size, 0, none⟩ 18).run Tryz.prog w' = .ok A w') w') := fun w' hw => ⟨(X.below hw).load hRX, (L.below hw).load hA⟩
 refine wp_region_held_drew (S := (fun w' => (loadCells ⟨kX, 0, none⟩ 18).run Tryz.prog w' = .ok RX w' ∧ (loadCells ⟨w.heap.size, 0, none⟩ 18).run Tryz.prog w' = .ok A w')) (by kernel_rfl) ?_ (fun hHeld => ?_)
 ·first | exact SK.out _ XB | exact SK.out _ (Below.drew (Below.refl _ _))
 have XB : Below v9.heap.size v9 v9.drew := Below.drew (Below.refl _ _)
 generalize v9.drew = vx at *
 refine zTk 0 ?_
 refine zTk 1 ?_
 refine wpAnyH_ready (rs := [2]) (by kernel_rfl) (by simp) ?_
 refine AllReadyH.cons (by rw [List.getElem?_toArray]; rfl) (fun K hK => ?_) AllReadyH.nil
 go_simp
 refine (CT vx (B.trans (XB.mono B.size))).mono ?_; rintro ee vy ⟨RY, rfl, OY, hbl⟩; (replace XB := XB.trans (hbl.mono XB.size)); (clear hbl); (generalize hvv : vy = vx at *); (clear hvv)
 (try go_wp2_with fail)
 refine hK.out _ _ ?_ (fun hHeld => ?_)
 ·first | exact SK.out _ XB | exact SK.out _ (Below.drew (Below.refl _ _))
 clear hK K
 (try simp only [Act.put, zSb, zS0, zS1])
 refine wpAnyH_ready (rs := [3]) (by kernel_rfl) (by simp) ?_
 refine AllReadyH.cons (by rw [List.getElem?_toArray]; rfl) (fun K hK => ?_) AllReadyH.nil
 go_simp
 refine (eqWorldW RX RY x vx (OX.below XB).weak OY.weak).mono ?_; rintro ee vx ⟨rfl, hbl⟩; (replace XB := XB.trans (hbl.mono XB.size)); (clear hbl OY)
 (try go_wp2_with fail)
 refine hK.out _ _ ?_ (fun hHeld => ?_)
 ·first | exact SK.out _ XB | exact SK.out _ (Below.drew (Below.refl _ _))
 clear hK K
 (try simp only [Act.put, zSb, zS0, zS1])
 refine zTk 4 ?_
 refine wpAnyH_done (by kernel_rfl) ?_ _
 have hb := XB
 clear XB SK
 replace B := B.trans (hb.mono B.size)
 replace L := L.below hb
 replace OX := OX.below hb
 replace X := X.below hb
 clear hb
 go_wp2_with fail
 go_ret
 exact ⟨rfl, B⟩
end Go.Proofs.YtddijpjgkifngaaGreatDoor
