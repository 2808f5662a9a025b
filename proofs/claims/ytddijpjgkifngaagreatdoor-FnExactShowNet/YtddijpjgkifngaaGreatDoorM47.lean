/- ShowNet and ShowBus in the program. The walk of the exact law of ShowNet. -/
import Derived.Test.YtddijpjgkifngaaGreatDoorM0
import Derived.Test.YtddijpjgkifngaaGreatDoorM43
import Derived.Test.YtddijpjgkifngaaGreatDoorM45
namespace Go.Proofs.YtddijpjgkifngaaGreatDoor
open Go.RowKit
set_option linter.unusedVariables false
set_option maxHeartbeats 16000000 in
set_option maxRecDepth 100000 in
theorem flW_any (x0 : Int) (x1 : Int) (x2 : Int) (x3 : ByteArray) (x4 : Int) (w : World) (E0 : T10 w) (i0 : i64B x0) (i1 : i64B x1) (i2 : i64B x2) :
 Calls Tryz.prog 78 #[.agg #[.int .i64 x0, .int .i64 x1, .int .i64 x2, .string x3, .int .i64 x4]] w fun e w' => e = .returned (.string (flW (x0, x1, x2, x3, x4))) ∧ Below w.heap.size w w' := by
 have B := Below.nw w (.cells #[.int .i64 x0, .int .i64 x1, .int .i64 x2, .string x3, .int .i64 x4] 105)
 have L := Bo.new w #[.int .i64 x0, .int .i64 x1, .int .i64 x2, .string x3, .int .i64 x4] 105
 have HE : Hid (T10 w) := E0
 have HX : Hid (flW (x0, x1, x2, x3, x4) = txI x0 ++ ⟨#[58]⟩ ++ txI x1 ++ ⟨#[62]⟩ ++ txI x2) := rfl
 have C0 := fun (u : World) (h : Below w.heap.size w u) => implTextOf_any x0 u i0.1 i0.2 (HE.out.below h)
 have z0 := txI_size' x0
 have C1 := fun (u : World) (h : Below w.heap.size w u) => implTextOf_any x1 u i1.1 i1.2 (HE.out.below h)
 have z1 := txI_size' x1
 have C2 := fun (u : World) (h : Below w.heap.size w u) => implTextOf_any x2 u i2.1 i2.2 (HE.out.below h)
 have z2 := txI_size' x2
 clear i0 i1 i2 E0
 generalize flW (x0, x1, x2, x3, x4) = X at *
 generalize txI x0 = sa at *
 generalize txI x1 = sb at *
 generalize txI x2 = sc at *
 have e58 : (⟨#[58]⟩ : ByteArray).size = 1 := rfl
 have e62 : (⟨#[62]⟩ : ByteArray).size = 1 := rfl
 have a0 : ¬ 9223372036854775807 < sa.size + 1 := by omega
 have a1 : ¬ 9223372036854775807 < sa.size + 1 + sb.size := by omega
 have a2 : ¬ 9223372036854775807 < sa.size + 1 + sb.size + 1 := by omega
 have a3 : ¬ 9223372036854775807 < sa.size + 1 + sb.size + 1 + sc.size := by omega
 clear z0 z1 z2
 go_enter Tryz.func78, Tryz.ntmps78
 go_upto_region 1 with fail
 generalize w.alloc (.cells #[.int .i64 x0, .int .i64 x1, .int .i64 x2, .string x3, .int .i64 x4] 105) = v at *
 have c0 : v.cell? ⟨w.heap.size, 0, none⟩ = some (.int .i64 x0) := L.cell (i := 0) rfl
 have c1 : v.cell? ⟨w.heap.size, 1, none⟩ = some (.int .i64 x1) := L.cell (i := 1) rfl
 have c2 : v.cell? ⟨w.heap.size, 2, none⟩ = some (.int .i64 x2) := L.cell (i := 2) rfl
 have hq := L.1
 have SK : Hid (∀ w', Below v.heap.size v w' → (fun w' => w'.cell? ⟨w.heap.size, 0, none⟩ = some (.int .i64 x0) ∧ w'.cell? ⟨w.heap.size, 1, none⟩ = some (.int .i64 x1) ∧ w'.cell? ⟨w.heap.size, 2, none⟩ = some (.int .i64 x2)) w') := fun w' h => ⟨by rw [h.cell (p := ⟨w.heap.size, 0, none⟩) hq]; exact c0, by rw [h.cell (p := ⟨w.heap.size, 1, none⟩) hq]; exact c1, by rw [h.cell (p := ⟨w.heap.size, 2, none⟩) hq]; exact c2⟩
 clear c0 c1 c2 hq L
 refine wp_region_held_drew (S := (fun w' => w'.cell? ⟨w.heap.size, 0, none⟩ = some (.int .i64 x0) ∧ w'.cell? ⟨w.heap.size, 1, none⟩ = some (.int .i64 x1) ∧ w'.cell? ⟨w.heap.size, 2, none⟩ = some (.int .i64 x2))) (by kernel_rfl) ?_ (fun hHeld => ?_)
 ·first | exact SK.out _ XB | exact SK.out _ (Below.drew (Below.refl _ _)) | exact SK.out _ (Below.drew XB)
 have XB : Below v.heap.size v v.drew := Below.drew (Below.refl _ _)
 generalize v.drew = vx at *
 refine zTk 0 ?_
 refine zTk 1 ?_
 refine zTk 4 ?_
 refine zTk 5 ?_
 refine zTk 9 ?_
 refine zTk 10 ?_
 refine wpAnyH_ready (rs := [2]) (by kernel_rfl) (by simp) ?_
 refine AllReadyH.cons (by rw [List.getElem?_toArray]; rfl) (fun K hK => ?_) AllReadyH.nil
 go_simp
 refine (C0 _ (B.trans (XB.mono B.size))).mono ?_; rintro ee vx ⟨rfl, hbl⟩; (replace XB := XB.trans (hbl.mono XB.size)); (clear hbl)
 (try go_wp2_with fail)
 refine hK.out _ _ ?_ (fun hHeld => ?_)
 ·first | exact SK.out _ XB | exact SK.out _ (Below.drew (Below.refl _ _)) | exact SK.out _ (Below.drew XB)
 clear hK K
 (try simp only [Act.put, zSb, zS0, zS1])
 refine zTk 3 ?_
 refine wpAnyH_ready (rs := [6]) (by kernel_rfl) (by simp) ?_
 refine AllReadyH.cons (by rw [List.getElem?_toArray]; rfl) (fun K hK => ?_) AllReadyH.nil
 go_simp
 refine (C1 _ (B.trans (XB.mono B.size))).mono ?_; rintro ee vx ⟨rfl, hbl⟩; (replace XB := XB.trans (hbl.mono XB.size)); (clear hbl)
 (try go_wp2_with fail)
 refine hK.out _ _ ?_ (fun hHeld => ?_)
 ·first | exact SK.out _ XB | exact SK.out _ (Below.drew (Below.refl _ _)) | exact SK.out _ (Below.drew XB)
 clear hK K
 (try simp only [Act.put, zSb, zS0, zS1])
 refine zTk 7 ?_
 refine zTk 8 ?_
 refine wpAnyH_ready (rs := [11]) (by kernel_rfl) (by simp) ?_
 refine AllReadyH.cons (by rw [List.getElem?_toArray]; rfl) (fun K hK => ?_) AllReadyH.nil
 go_simp
 refine (C2 _ (B.trans (XB.mono B.size))).mono ?_; rintro ee vx ⟨rfl, hbl⟩; (replace XB := XB.trans (hbl.mono XB.size)); (clear hbl)
 (try go_wp2_with fail)
 refine hK.out _ _ ?_ (fun hHeld => ?_)
 ·first | exact SK.out _ XB | exact SK.out _ (Below.drew (Below.refl _ _)) | exact SK.out _ (Below.drew XB)
 clear hK K
 (try simp only [Act.put, zSb, zS0, zS1])
 refine zTk 12 ?_
 refine zTk 13 ?_
 refine wpAnyH_done (by kernel_rfl) ?_ _
 have BX := B.trans (XB.mono B.size)
 go_wp2_with fail
 go_ret
 exact ⟨by rw [HX.out]; rfl, BX⟩
attribute [-go_sem] loadCells storeCells in
set_option maxRecDepth 100000 in
set_option maxHeartbeats 16000000 in
theorem netWordsW (A : Array Value) (x : WdX) (w : World) (h : WdW w A x) (E0 : T10 w) (hn : x.nf ≤ 40) (hi2 : ∀ i, i < x.nf → i64B (x.FM i).1 ∧ i64B (x.FM i).2.1 ∧ i64B (x.FM i).2.2.1) :
 Calls Tryz.prog 43 #[.agg A] w fun e w' => ∃ u, e = .returned u ∧ w'.ownsRow w.heap.size 9 1 u (orN (nwdL x)).length (stR (orN (nwdL x))) ∧ Below w.heap.size w w' := by
 obtain ⟨i0, hi, hz0, hz1, hz2⟩ := info_parts info_str
 have HE : Hid (T10 w) := E0
 obtain ⟨p, d, la, lc, ca, cc, na, nk, fa, fc, ba, bc, rfl, hm, h1, h2, h3, h4, h5, h6⟩ := h
 have H5 : Hid (SrcC w fa (x.nf * 5) (MFFlight x.FM)) := h5
 clear h1 h2 h3 h4 h5 h6 hm E0
 have HI2 : Hid (∀ i, i < x.nf → i64B (x.FM i).1 ∧ i64B (x.FM i).2.1 ∧ i64B (x.FM i).2.2.1) := hi2
 clear hi2
 have A0 := Below.nw w (.cells (wdV x p d la lc ca cc na nk fa fc ba bc) 52)
 have L := Bo.new w (wdV x p d la lc ca cc na nk fa fc ba bc) 52
 have B := A0
 clear A0
 go_enter Tryz.func43, Tryz.ntmps43
 go_upto_region 2 with fail
 generalize w.alloc (.cells (wdV x p d la lc ca cc na nk fa fc ba bc) 52) = v0 at *
 have hL0 : v0.cell? ⟨w.heap.size, 16, none⟩ = some (.slice fa x.nf fc) := L.cell rfl
 go_wp2_with fail
 clear hL0
 have hlo : w.heap.size + 1 ≤ v0.heap.size := L.1
 go_loopw [3, 10] (fun r i wr => ∃ k : Nat, k ≤ x.nf ∧ i = .int .i64 (k : Int) ∧ wr.ownsRow (w.heap.size + 1) 9 1 r (rwL (fun i => flW (x.FM i)) k).length (stR (rwL (fun i => flW (x.FM i)) k)) ∧ Bo wr w.heap.size (wdV x p d la lc ca cc na nk fa fc ba bc) ∧ Below w.heap.size w wr ∧ w.heap.size + 1 ≤ wr.heap.size) (fun _ i _ => x.nf - (intOf i).toNat)
 case atStart => exact ⟨0, Nat.zero_le _, rfl, ⟨rfl, .inl ⟨rfl, rfl⟩⟩, L, B, hlo⟩
 case round =>
  clear L B hlo
  obtain ⟨k, hk, rfl, O, L, B, hlo⟩ := hrel
  by_cases hlt : k < x.nf
  ·skip
   have hli : (k : Int) < (x.nf : Int) := by omega
   obtain ⟨fb, fo, rfl, hf⟩ : ∃ b off, fa = some ⟨b, off, none⟩ ∧ Cs w b off (x.nf * 5) (MFFlight x.FM) := by
    rcases H5.out with q | q
    ·omega
    ·exact q
   obtain ⟨i0, i1, i2⟩ := HI2.out k hlt
   obtain ⟨x0 , x1 , x2 , x3 , x4, hM⟩ := tupFlight x.FM k
   simp only [hM] at i0 i1 i2
   have hfl := flight5 (P := Tryz.prog) (hf.below B hf.1) hlt hM
   have hst := storeNew (P := Tryz.prog) wr #[.int .i64 0, .int .i64 0, .int .i64 0, .string ⟨#[]⟩, .int .i64 0] #[.int .i64 x0, .int .i64 x1, .int .i64 x2, .string x3, .int .i64 x4] 105 rfl (List.forall_mem_cons.2 ⟨rfl, (List.forall_mem_cons.2 ⟨rfl, (List.forall_mem_cons.2 ⟨rfl, (List.forall_mem_cons.2 ⟨rfl, (List.forall_mem_cons.2 ⟨rfl, fun _ h => nomatch h⟩)⟩)⟩)⟩)⟩)
   have hb := Below.nw wr (.cells #[.int .i64 x0, .int .i64 x1, .int .i64 x2, .string x3, .int .i64 x4] 105)
   have Q := Bo.new wr #[.int .i64 x0, .int .i64 x1, .int .i64 x2, .string x3, .int .i64 x4] 105
   have OR := O
   have hM2 : Hid (x.FM k = (x0, x1, x2, x3, x4)) := hM
   clear hf hM H5
   go_upto_region 5 with (first | rw [hfl] | rw [hst])
   clear hfl hst
   replace B := B.trans (hb.mono B.size)
   replace L := L.below hb
   replace O := own_belowS O hb
   replace hlo := Nat.le_trans hlo hb.size
   clear hb
   generalize wr.alloc (.cells #[.int .i64 x0, .int .i64 x1, .int .i64 x2, .string x3, .int .i64 x4] 105) = v5 at *
   have hq5 := Q.load (P := Tryz.prog) (show (#[.int .i64 x0, .int .i64 x1, .int .i64 x2, .string x3, .int .i64 x4] : Array Value).size = 5 from rfl)
   have HR : Hid (rwL (fun i => flW (x.FM i)) (k + 1) = rwL (fun i => flW (x.FM i)) k ++ [flW (x0, x1, x2, x3, x4)]) := by (show rwL (fun i => flW (x.FM i)) (k + 1) = _; rw [rwL, hM2.out])
   have hRL : (rwL (fun i => flW (x.FM i)) k).length = k := rwL_len _ _
   have CW := flW_any x0 x1 x2 x3 x4 v5 (HE.out.below B) i0 i1 i2
   clear i0 i1 i2 hM2 OR
   generalize rwL (fun i => flW (x.FM i)) k = RL at *
   generalize flW (x0, x1, x2, x3, x4) = nw at *
   go_wp2_with (rw [hq5])
   refine CW.mono ?_
   rintro e v6 ⟨rfl, hb⟩
   clear hq5 CW Q
   replace B := B.trans (hb.mono B.size)
   replace L := L.below hb
   replace O := own_belowS O hb
   replace hlo := Nat.le_trans hlo hb.size
   clear hb
   have b7 := Below.nw v6 (.cells (stR [nw]).toArray 9)
   have HM := strs_cell v6 [nw]
   replace O := own_belowS O b7
   replace hlo := Nat.le_trans hlo b7.size
   change Below v6.heap.size v6 (v6.alloc (.cells #[.string nw] 9)) at b7
   change ∀ j u, (stR [nw])[j]? = some u → (v6.alloc (.cells #[.string nw] 9)).cell? ((⟨v6.heap.size, 0, none⟩ : Addr).add j) = some u at HM
   change (v6.alloc (.cells #[.string nw] 9)).ownsRow (w.heap.size + 1) 9 1 _ RL.length (stR RL) at O
   change w.heap.size + 1 ≤ (v6.alloc (.cells #[.string nw] 9)).heap.size at hlo
   replace B := B.trans (b7.mono B.size)
   replace L := L.below b7
   clear b7
   go_wp2_with (at_builtin; refine add_strs rfl _ _ rfl (w.heap.size + 1) RL [nw] _ rfl O ⟨v6.heap.size, 0, none⟩ 1 rfl HM (by show RL.length + 1 ≤ 64; omega) hlo ?_; intro v8 w8 O8 hg8)
   have Bg := grown_belowS (L := RL) O hg8 hlo
   replace L := L.belowB Bg (Nat.lt_succ_self _)
   replace B := B.trans (Bg.mono (Nat.le_succ _))
   have hlo2 := Nat.le_trans hlo Bg.size
   have O9 : w8.ownsRow (w.heap.size + 1) 9 1 v8 (rwL (fun i => flW (x.FM i)) (k + 1)).length (stR (rwL (fun i => flW (x.FM i)) (k + 1))) := by rw [HR.out]; exact O8
   clear Bg O O8 hg8 HM hlo HR hRL
   go_wp2_with fail
   go_roundw
   case rel => exact ⟨k + 1, by omega, by go_num, O9, L, B, hlo2⟩
   case measure => simp [intOf]; omega
  have hkn : k = x.nf := by omega
  have hli : ¬ (k : Int) < (x.nf : Int) := by omega
  clear hlt H5 HI2
  rw [hkn] at O
  have hl6 : (nwdL x).length ≤ 64 := by have q := rwL_len (fun i => flW (x.FM i)) x.nf; show (rwL (fun i => flW (x.FM i)) x.nf).length ≤ 64; omega
  have CJ := orNothing_any (nwdL x) _ _ _ O hlo hl6
  clear O hl6 hkn hk
  go_wp2_with fail
  refine CJ.mono ?_
  rintro e u9 ⟨v9, rfl, O9, hb⟩
  go_wp2_with fail
  go_ret
  exact ⟨_, rfl, own_baseX O9 (Nat.le_succ _), B.trans (hb.mono B.size)⟩
attribute [-go_sem] loadCells storeCells in
set_option maxRecDepth 100000 in
set_option maxHeartbeats 16000000 in
theorem implShowNetW (A : Array Value) (x : WdX) (w : World) (h : WdW w A x) (ht : txW x) (hwf : wfWd x) (E0 : T10 w) :
 Calls Tryz.prog 12 #[.agg A] w fun e w' => e = .returned (.string (snT x)) ∧ Below w.heap.size w w' := by
 have hA := h.size
 have HE : Hid (T10 w) := E0
 have HH := h
 have CK := fun (v : World) (hv : Below w.heap.size w v) => worldokW A x v (HH.below hv) ht hwf
 have CN := fun (v : World) (hv : Below w.heap.size w v) => netWordsW A x v (HH.below hv) (HE.out.below hv)
 have HT : Hid (wdOk x = true → snT x = jnB (orN (nwdL x))) := snT_t
 have HF : Hid (wdOk x = false → snT x = ⟨#[]⟩) := snT_f
 have HI : Hid (wdOk x = true → x.nf ≤ 40 ∧ ∀ i, i < x.nf → i64B (x.FM i).1 ∧ i64B (x.FM i).2.1 ∧ i64B (x.FM i).2.2.1) := net_i64
 have hl0 : (nwdL x).length = x.nf := rwL_len (fun i => flW (x.FM i)) x.nf
 have hz0 : ∀ y ∈ orN (nwdL x), y.size ≤ 130 := orN_all (rwL_all (fun i _ => flW_size _)) (by decide)
 have HZ : Hid (∀ y ∈ orN (nwdL x), y.size ≤ 130) := hz0
 have HL : Hid (x.nf ≤ 40 → (orN (nwdL x)).length ≤ 64) := fun q => orN_len (by omega) (by decide)
 have hp := orN_pos (nwdL x)
 clear h ht hwf E0 HH hl0 hz0
 generalize snT x = X at *
 generalize orN (nwdL x) = LL at *
 generalize wdOk x = ok at *
 have B := Below.nw w (.cells A 52)
 have L := Bo.new w A 52
 go_enter Tryz.func12, Tryz.ntmps12
 go_upto_region 1 with fail
 generalize w.alloc (.cells A 52) = v0 at *
 have hL0 := L.load (P := Tryz.prog) hA
 go_wp2_with (rw [hL0])
 refine (CK v0 B).mono ?_
 rintro e v1 ⟨rfl, hb⟩
 clear hL0
 replace B := B.trans (hb.mono B.size)
 replace L := L.below hb
 clear hb
 cases ok
 ·have hE := HF.out rfl
  clear HF HT HI CK CN HL
  go_wp2_with fail
  go_ret
  exact ⟨by first | (rw [hE]; rfl) | rfl, B⟩
 have HE2 : Hid (X = jnB LL) := HT.out rfl
 obtain ⟨hn, hi2⟩ := HI.out rfl
 replace CN := CN v1 B hn hi2
 have hl := HL.out hn
 clear HF HT HI CK HL hi2
 have hL0 := L.load (P := Tryz.prog) hA
 go_wp2_with (rw [hL0])
 refine CN.mono ?_
 rintro e v2 ⟨u, rfl, O, hb⟩
 clear hL0
 replace B := B.trans (hb.mono B.size)
 clear hb L
 go_wp2_with fail
 refine (joinedB_any LL u _ _ O hp hl HZ.out).mono ?_
 rintro e v3 ⟨rfl, hb⟩
 go_wp2_with fail
 go_ret
 exact ⟨by first | (rw [HE2.out]; rfl) | rw [HE2.out], B.trans (hb.mono B.size)⟩
end Go.Proofs.YtddijpjgkifngaaGreatDoor
namespace Go.Proofs.YtddijpjgkifngaaGreatDoor
open Go.RowKit
set_option linter.unusedVariables false
attribute [-go_sem] loadCells storeCells in
set_option maxRecDepth 100000 in
set_option maxHeartbeats 16000000 in
theorem lawShowNet (A : Array Value) (x : WdX) (w : World) (E0 : T10 w) (HA : WdW w A x) (ht : txW x) (hwf : wfWd x) :
 Calls Tryz.prog 4 #[.agg A] w fun e w' => e = .returned (.bool true) ∧ Below w.heap.size w w' := by
 have HE : Hid (T10 w) := E0
 have B := Below.nw w (.cells A 37)
 have L := Bo.new w A 37
 have hA := HA.size
 have CS := fun (v : World) (hv : Below w.heap.size w v) (R : Array Value) (h : WdS v R x) => specShowNetW R x v h.weak ht
 have CP := fun (v : World) (hv : Below w.heap.size w v) (R : Array Value) (h : WdS v R x) => implShowNetW R x v h.weak ht hwf (HE.out.below hv)
 have CZ := fun (v : World) (h : Below w.heap.size w v) => szWorldW A x v (HA.below h) ht
 generalize snT x = K at *
 have HS : Hid (WdW w A x) := HA
 clear HA hwf ht
 go_enter Tryz.func4, Tryz.ntmps4
 go_upto_region 2 with fail
 generalize w.alloc (.cells A 37) = v0 at *
 have hL := L.load (P := Tryz.prog) hA
 go_wp2_with (rw [hL])
 refine (CZ v0 B).mono ?_
 rintro e v1 ⟨Z, rfl, hZ, hb⟩
 clear hL CZ
 replace B := B.trans (hb.mono B.size)
 replace L := L.below hb
 clear hb
 by_cases hz : Z < 0
 ·clear CS CP hZ
  go_wp2_with fail
  go_ret
  exact ⟨rfl, B⟩
 have hsh := hZ (by omega)
 clear hZ
 have CT := fun (v : World) (h : Below w.heap.size w v) => toWorldW A x v (HS.out.below h) hsh
 clear hsh
 have hL := L.load (P := Tryz.prog) hA
 go_wp2_with (rw [hL])
 refine (CT _ B).mono ?_
 rintro e v2 ⟨R0, rfl, O0, hb⟩
 clear hL
 replace B := B.trans (hb.mono B.size)
 replace L := L.below hb
 clear hb
 go_wp2_with fail
 refine (CS _ B R0 O0).mono ?_
 clear O0
 rintro e v3 ⟨rfl, hb⟩
 replace B := B.trans (hb.mono B.size)
 replace L := L.below hb
 clear hb
 have hL := L.load (P := Tryz.prog) hA
 go_wp2_with (rw [hL])
 refine (CT _ B).mono ?_
 rintro e v5 ⟨RX, rfl, OX, hb⟩
 clear hL
 replace B := B.trans (hb.mono B.size)
 replace L := L.below hb
 clear hb
 generalize v3.heap.size = lx at *
 have hRX := OX.weak.size
 have hst := storeNew (P := Tryz.prog) v5 (#[.int .i64 0, .int .i64 0, .int .i64 0, .int .i64 0, .int .i64 0, .int .i64 0, .int .i64 0, .int .i64 0, .int .i64 0, .int .i64 0, .slice none 0 0, .slice none 0 0, .int .i64 0, .slice none 0 0, .slice none 0 0, .int .i64 0, .slice none 0 0, .slice none 0 0]) RX 52 (by rw [hRX]; rfl) OX.weak.one
 have hb := Below.nw v5 (.cells RX 52)
 have X := Bo.new v5 RX 52
 go_upto_region 7 with (rw [hst])
 clear hst
 replace B := B.trans (hb.mono B.size)
 replace L := L.below hb
 replace OX := OX.below hb
 clear hb
 generalize v5.alloc (.cells RX 52) = v6 at *
 generalize v5.heap.size = kX at *
 have hL := X.load (P := Tryz.prog) hRX
 go_wp2_with (rw [hL])
 refine (CP _ B RX OX).mono ?_
 rintro e v9 ⟨rfl, hb⟩
 clear hL CS CP
 replace B := B.trans (hb.mono B.size)
 replace L := L.below hb
 replace OX := OX.below hb
 replace X := X.below hb
 clear hb
 go_upto_region 10 with fail
 have SK : Hid (∀ w', Below v9.heap.size v9 w' → (fun w' => (loadCells ⟨kX, 0, none⟩ 18).run Tryz.prog w' = .ok RX w' ∧ (loadCells ⟨w.heap.size, 0, none⟩ 18).run Tryz.prog w' = .ok A w') w') := fun w' hw => ⟨(X.below hw).load hRX, (L.below hw).load hA⟩
 refine wp_region_held_drew (S := (fun w' => (loadCells ⟨kX, 0, none⟩ 18).run Tryz.prog w' = .ok RX w' ∧ (loadCells ⟨w.heap.size, 0, none⟩ 18).run Tryz.prog w' = .ok A w')) (by kernel_rfl) ?_ (fun hHeld => ?_)
 ·first | exact SK.out _ XB | exact SK.out _ (Below.drew (Below.refl _ _))
 have XB : Below v9.heap.size v9 v9.drew := Below.drew (Below.refl _ _)
 generalize v9.drew = vx at *
 refine zTk 0 ?_
 refine zTk 1 ?_
 refine wpAnyH_ready (rs := [2]) (by kernel_rfl) (by simp) ?_
 refine AllReadyH.cons (by rw [List.getElem?_toArray]; rfl) (fun K hK => ?_) AllReadyH.nil
 go_simp
 refine (CT vx (B.trans (XB.mono B.size))).mono ?_; rintro ee vy ⟨RY, rfl, OY, hbl⟩; (replace XB := XB.trans (hbl.mono XB.size)); (clear hbl); (generalize hvv : vy = vx at *); (clear hvv)
 (try go_wp2_with fail)
 refine hK.out _ _ ?_ (fun hHeld => ?_)
 ·first | exact SK.out _ XB | exact SK.out _ (Below.drew (Below.refl _ _))
 clear hK K
 (try simp only [Act.put, zSb, zS0, zS1])
 refine wpAnyH_ready (rs := [3]) (by kernel_rfl) (by simp) ?_
 refine AllReadyH.cons (by rw [List.getElem?_toArray]; rfl) (fun K hK => ?_) AllReadyH.nil
 go_simp
 refine (eqWorldW RX RY x vx (OX.below XB).weak OY.weak).mono ?_; rintro ee vx ⟨rfl, hbl⟩; (replace XB := XB.trans (hbl.mono XB.size)); (clear hbl OY)
 (try go_wp2_with fail)
 refine hK.out _ _ ?_ (fun hHeld => ?_)
 ·first | exact SK.out _ XB | exact SK.out _ (Below.drew (Below.refl _ _))
 clear hK K
 (try simp only [Act.put, zSb, zS0, zS1])
 refine zTk 4 ?_
 refine wpAnyH_done (by kernel_rfl) ?_ _
 have hb := XB
 clear XB SK
 replace B := B.trans (hb.mono B.size)
 replace L := L.below hb
 replace OX := OX.below hb
 replace X := X.below hb
 clear hb
 go_wp2_with fail
 go_ret
 exact ⟨rfl, B⟩
end Go.Proofs.YtddijpjgkifngaaGreatDoor
