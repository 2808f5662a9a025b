/- Rows of texts; words joined; the words of what is under way. ShowNet and ShowBus in the specification. -/
import Derived.Test.YtddijpjgkifngaaGreatDoorM0
import Derived.Test.YtddijpjgkifngaaGreatDoorM39
import Derived.Test.YtddijpjgkifngaaGreatDoorM40
import Derived.Test.YtddijpjgkifngaaGreatDoorM44
namespace Go.Proofs.YtddijpjgkifngaaGreatDoor
open Go.RowKit
set_option linter.unusedVariables false
def flW (t : FT) : ByteArray := txI t.1 ++ ⟨#[58]⟩ ++ txI t.2.1 ++ ⟨#[62]⟩ ++ txI t.2.2.1
theorem flW_size (t : FT) : (flW t).size ≤ 130 := by
 have h1 := txI_size' t.1
 have h2 := txI_size' t.2.1
 have h3 := txI_size' t.2.2.1
 have e1 : (⟨#[58]⟩ : ByteArray).size = 1 := rfl
 have e2 : (⟨#[62]⟩ : ByteArray).size = 1 := rfl
 unfold flW
 simp only [ByteArray.size_append, e1, e2]
 omega
def nwdL (x : WdX) : List ByteArray := rwL (fun i => flW (x.FM i)) x.nf
def snT (x : WdX) : ByteArray := match wdOk x with | true => jnB (orN (nwdL x)) | false => ⟨#[]⟩
theorem snT_t {x : WdX} (h : wdOk x = true) : snT x = jnB (orN (nwdL x)) := by rw [snT, h]
theorem snT_f {x : WdX} (h : wdOk x = false) : snT x = ⟨#[]⟩ := by rw [snT, h]
theorem nOk_inS {nx : Int} {M : Nat → FT} : ∀ {n : Nat}, nOk nx M n = true → ∀ i, i < n → 0 ≤ (M i).1 ∧ (M i).1 ≤ nx - 1
 | 0, _, i, hi => absurd hi (Nat.not_lt_zero _)
 | n + 1, h, i, hi => by
  rw [nOk, Bool.and_eq_true, Bool.and_eq_true, Bool.and_eq_true] at h
  by_cases e : i = n
  ·subst e
   exact of_decide_eq_true h.2.1.2
  ·exact nOk_inS h.1 i (by omega)
theorem net_i64 {x : WdX} (h : wdOk x = true) : x.nf ≤ 40 ∧ ∀ i, i < x.nf → i64B (x.FM i).1 ∧ i64B (x.FM i).2.1 ∧ i64B (x.FM i).2.2.1 := by
 obtain ⟨_, _, ⟨_, hn⟩, _, _, _, hf, hnet, _, _⟩ := wdOk_parts h
 rw [netB, Bool.and_eq_true, Bool.and_eq_true] at hnet
 have h1 := of_decide_eq_true hnet.1.1
 refine ⟨of_decide_eq_true hnet.1.2, fun i hi => ?_⟩
 have q := nOk_inS hnet.2 i hi
 have r := hf i hi
 unfold wdFl wdPl at r
 rw [Bool.and_eq_true, Bool.and_eq_true] at r
 have r1 := of_decide_eq_true r.1
 have r2 := of_decide_eq_true r.2.1
 unfold i64B
 omega
end Go.Proofs.YtddijpjgkifngaaGreatDoor
namespace Go.Proofs.YtddijpjgkifngaaGreatDoor
open Go.RowKit
set_option linter.unusedVariables false
attribute [-go_sem] loadCells storeCells in
set_option maxRecDepth 100000 in
set_option maxHeartbeats 16000000 in
theorem specShowNetW (A : Array Value) (x : WdX) (w : World) (h : WdW w A x) (ht : txW x) :
 Calls Tryz.prog 11 #[.agg A] w fun e w' => e = .returned (.string (snT x)) ∧ Below w.heap.size w w' := by
 obtain ⟨i0, hi, hz0, hz1, hz2⟩ := info_parts info_str
 have HH := h
 have CK := fun (v : World) (hv : Below w.heap.size w v) => specWorldOkW A x v (HH.below hv) ht
 clear HH ht
 obtain ⟨p, d, la, lc, ca, cc, na, nk, fa, fc, ba, bc, rfl, hm, h1, h2, h3, h4, h5, h6⟩ := h
 have H5 : Hid (SrcC w fa (x.nf * 5) (MFFlight x.FM)) := h5
 have HT : Hid (wdOk x = true → snT x = jnB (orN (nwdL x))) := snT_t
 have HF : Hid (wdOk x = false → snT x = ⟨#[]⟩) := snT_f
 have HI : Hid (wdOk x = true → x.nf ≤ 40 ∧ ∀ i, i < x.nf → i64B (x.FM i).1 ∧ i64B (x.FM i).2.1 ∧ i64B (x.FM i).2.2.1) := net_i64
 clear h1 h2 h3 h4 h5 h6 hm
 generalize snT x = X at *
 generalize wdOk x = ok at *
 have A0 := Below.nw w (.cells (wdV x p d la lc ca cc na nk fa fc ba bc) 52)
 have L := Bo.new w (wdV x p d la lc ca cc na nk fa fc ba bc) 52
 have B := A0
 clear A0
 go_enter Tryz.func11, Tryz.ntmps11
 go_upto_region 1 with fail
 generalize w.alloc (.cells (wdV x p d la lc ca cc na nk fa fc ba bc) 52) = v0 at *
 have hL0 := L.load (P := Tryz.prog) (show ((wdV x p d la lc ca cc na nk fa fc ba bc) : Array Value).size = 18 from rfl)
 go_wp2_with (rw [hL0])
 refine (CK v0 B).mono ?_
 rintro e v1 ⟨rfl, hb⟩
 clear hL0
 replace B := B.trans (hb.mono B.size)
 replace L := L.below hb
 clear hb
 cases ok
 ·have hE := HF.out rfl
  clear HF HT HI CK
  go_wp2_with fail
  go_ret
  exact ⟨by first | (rw [hE]; rfl) | rfl, B⟩
 have hE := HT.out rfl
 obtain ⟨hn, hi2⟩ := HI.out rfl
 clear HF HT HI CK
 have HE : Hid (X = jnB (orN (nwdL x))) := hE
 have HI2 : Hid (∀ i, i < x.nf → i64B (x.FM i).1 ∧ i64B (x.FM i).2.1 ∧ i64B (x.FM i).2.2.1) := hi2
 clear hE hi2
 have O := strs_new v1 [] (by show (0 : Nat) ≤ 64; omega)
 have hb := Below.nw v1 (.cells (stR []).toArray 9)
 go_upto_region 4 with fail
 change Below v1.heap.size v1 (v1.alloc (.cells #[] 9)) at hb
 change (v1.alloc (.cells #[] 9)).ownsRow v1.heap.size 9 1 (.slice (some ⟨v1.heap.size, 0, none⟩) 0 0) 0 (stR []) at O
 replace O := own_baseX O (show w.heap.size + 1 ≤ v1.heap.size from L.1)
 have hlo : w.heap.size + 1 ≤ (v1.alloc (.cells #[] 9)).heap.size := Nat.le_trans (show w.heap.size + 1 ≤ v1.heap.size from L.1) hb.size
 replace B := B.trans (hb.mono B.size)
 replace L := L.below hb
 clear hb
 generalize v1.alloc (.cells #[] 9) = va at *
 generalize v1.heap.size = ga at *
 go_wp2_with fail
 go_loopw [3, 4] (fun r i wr => ∃ k : Nat, k ≤ x.nf ∧ i = .int .i64 (k : Int) ∧ wr.ownsRow (w.heap.size + 1) 9 1 r (rwL (fun i => flW (x.FM i)) k).length (stR (rwL (fun i => flW (x.FM i)) k)) ∧ Bo wr w.heap.size (wdV x p d la lc ca cc na nk fa fc ba bc) ∧ Below w.heap.size w wr ∧ w.heap.size + 1 ≤ wr.heap.size) (fun _ i _ => x.nf - (intOf i).toNat)
 case atStart => exact ⟨0, Nat.zero_le _, rfl, O, L, B, hlo⟩
 case round =>
  clear L B O hlo
  obtain ⟨k, hk, rfl, O, L, B, hlo⟩ := hrel
  have c16 : wr.cell? ⟨w.heap.size, 16, none⟩ = some (.slice fa x.nf fc) := L.cell rfl
  by_cases hlt : k < x.nf
  ·clear HE
   have hli : (k : Int) < (x.nf : Int) := by omega
   obtain ⟨fb, fo, rfl, hf⟩ : ∃ b off, fa = some ⟨b, off, none⟩ ∧ Cs w b off (x.nf * 5) (MFFlight x.FM) := by
    rcases H5.out with q | q
    ·omega
    ·exact q
   obtain ⟨i0, i1, i2⟩ := HI2.out k hlt
   obtain ⟨x0 , x1 , x2 , x3 , x4, hM⟩ := tupFlight x.FM k
   simp only [hM] at i0 i1 i2
   have hfl := flight5 (P := Tryz.prog) (hf.below B hf.1) hlt hM
   have HW : Hid (flW (x.FM k) = txI x0 ++ ⟨#[58]⟩ ++ txI x1 ++ ⟨#[62]⟩ ++ txI x2) := by (show flW (x.FM k) = _; rw [hM]; rfl)
   have hst := storeNew (P := Tryz.prog) wr #[.int .i64 0, .int .i64 0, .int .i64 0, .string ⟨#[]⟩, .int .i64 0] #[.int .i64 x0, .int .i64 x1, .int .i64 x2, .string x3, .int .i64 x4] 105 rfl (List.forall_mem_cons.2 ⟨rfl, (List.forall_mem_cons.2 ⟨rfl, (List.forall_mem_cons.2 ⟨rfl, (List.forall_mem_cons.2 ⟨rfl, (List.forall_mem_cons.2 ⟨rfl, fun _ h => nomatch h⟩)⟩)⟩)⟩)⟩)
   have hb := Below.nw wr (.cells #[.int .i64 x0, .int .i64 x1, .int .i64 x2, .string x3, .int .i64 x4] 105)
   have Q := Bo.new wr #[.int .i64 x0, .int .i64 x1, .int .i64 x2, .string x3, .int .i64 x4] 105
   have OR := O
   clear hf hM H5
   go_upto_region 8 with (first | rw [hfl] | rw [hst])
   clear hfl hst
   replace B := B.trans (hb.mono B.size)
   replace L := L.below hb
   replace O := own_belowS O hb
   replace hlo := Nat.le_trans hlo hb.size
   clear hb
   generalize wr.alloc (.cells #[.int .i64 x0, .int .i64 x1, .int .i64 x2, .string x3, .int .i64 x4] 105) = v5 at *
   have C0 := fun u => specTextOf_any x0 u i0.1 i0.2
   have z0 := txI_size' x0
   have C1 := fun u => specTextOf_any x1 u i1.1 i1.2
   have z1 := txI_size' x1
   have C2 := fun u => specTextOf_any x2 u i2.1 i2.2
   have z2 := txI_size' x2
   clear i0 i1 i2
   generalize txI x0 = sa at *
   generalize txI x1 = sb at *
   generalize txI x2 = sc at *
   have e58 : (⟨#[58]⟩ : ByteArray).size = 1 := rfl
   have e62 : (⟨#[62]⟩ : ByteArray).size = 1 := rfl
   have a0 : ¬ 9223372036854775807 < sa.size + 1 := by omega
   have a1 : ¬ 9223372036854775807 < sa.size + 1 + sb.size := by omega
   have a2 : ¬ 9223372036854775807 < sa.size + 1 + sb.size + 1 := by omega
   have a3 : ¬ 9223372036854775807 < sa.size + 1 + sb.size + 1 + sc.size := by omega
   clear z0 z1 z2
   have c0 : v5.cell? ⟨wr.heap.size, 0, none⟩ = some (.int .i64 x0) := Q.cell (i := 0) rfl
   have c1 : v5.cell? ⟨wr.heap.size, 1, none⟩ = some (.int .i64 x1) := Q.cell (i := 1) rfl
   have c2 : v5.cell? ⟨wr.heap.size, 2, none⟩ = some (.int .i64 x2) := Q.cell (i := 2) rfl
   have hq := Q.1
   have HR : Hid (rwL (fun i => flW (x.FM i)) (k + 1) = rwL (fun i => flW (x.FM i)) k ++ [sa ++ ⟨#[58]⟩ ++ sb ++ ⟨#[62]⟩ ++ sc]) := by (show rwL (fun i => flW (x.FM i)) (k + 1) = _; rw [rwL, HW.out])
   have hRL : (rwL (fun i => flW (x.FM i)) k).length = k := rwL_len _ _
   clear HW
   generalize rwL (fun i => flW (x.FM i)) k = RL at *
   have SK : Hid (∀ w', Below v5.heap.size v5 w' → (fun w' => w'.cell? ⟨wr.heap.size, 0, none⟩ = some (.int .i64 x0) ∧ w'.cell? ⟨wr.heap.size, 1, none⟩ = some (.int .i64 x1) ∧ w'.cell? ⟨wr.heap.size, 2, none⟩ = some (.int .i64 x2)) w') := fun w' h => ⟨by rw [h.cell (p := ⟨wr.heap.size, 0, none⟩) hq]; exact c0, by rw [h.cell (p := ⟨wr.heap.size, 1, none⟩) hq]; exact c1, by rw [h.cell (p := ⟨wr.heap.size, 2, none⟩) hq]; exact c2⟩
   clear c0 c1 c2 Q
   refine wp_region_held_drew (S := (fun w' => w'.cell? ⟨wr.heap.size, 0, none⟩ = some (.int .i64 x0) ∧ w'.cell? ⟨wr.heap.size, 1, none⟩ = some (.int .i64 x1) ∧ w'.cell? ⟨wr.heap.size, 2, none⟩ = some (.int .i64 x2))) (by kernel_rfl) ?_ (fun hHeld => ?_)
   ·first | exact SK.out _ XB | exact SK.out _ (Below.drew (Below.refl _ _))
   have XB : Below v5.heap.size v5 v5.drew := Below.drew (Below.refl _ _)
   generalize v5.drew = vx at *
   refine zTk 0 ?_
   refine zTk 1 ?_
   refine zTk 2 ?_
   refine zTk 5 ?_
   refine zTk 6 ?_
   refine zTk 10 ?_
   refine zTk 11 ?_
   refine wpAnyH_ready (rs := [3]) (by kernel_rfl) (by simp) ?_
   refine (AllReadyH.cons (by rw [List.getElem?_toArray]; rfl) (fun K hK => ?_) AllReadyH.nil)
   go_simp
   refine (C0 _).mono ?_; rintro ee vx ⟨rfl, hbl⟩; (replace XB := XB.trans (hbl.mono XB.size)); (clear hbl)
   (try go_wp2_with fail)
   refine hK.out _ _ ?_ (fun hHeld => ?_)
   ·first | exact SK.out _ XB | exact SK.out _ (Below.drew (Below.refl _ _))
   clear hK K
   (try simp only [Act.put, zSb, zS0, zS1])
   refine zTk 4 ?_
   refine wpAnyH_ready (rs := [7]) (by kernel_rfl) (by simp) ?_
   refine (AllReadyH.cons (by rw [List.getElem?_toArray]; rfl) (fun K hK => ?_) AllReadyH.nil)
   go_simp
   refine (C1 _).mono ?_; rintro ee vx ⟨rfl, hbl⟩; (replace XB := XB.trans (hbl.mono XB.size)); (clear hbl)
   (try go_wp2_with fail)
   refine hK.out _ _ ?_ (fun hHeld => ?_)
   ·first | exact SK.out _ XB | exact SK.out _ (Below.drew (Below.refl _ _))
   clear hK K
   (try simp only [Act.put, zSb, zS0, zS1])
   refine zTk 8 ?_
   refine zTk 9 ?_
   refine wpAnyH_ready (rs := [12]) (by kernel_rfl) (by simp) ?_
   refine (AllReadyH.cons (by rw [List.getElem?_toArray]; rfl) (fun K hK => ?_) AllReadyH.nil)
   go_simp
   refine (C2 _).mono ?_; rintro ee vx ⟨rfl, hbl⟩; (replace XB := XB.trans (hbl.mono XB.size)); (clear hbl)
   (try go_wp2_with fail)
   refine hK.out _ _ ?_ (fun hHeld => ?_)
   ·first | exact SK.out _ XB | exact SK.out _ (Below.drew (Below.refl _ _))
   clear hK K
   (try simp only [Act.put, zSb, zS0, zS1])
   refine zTk 13 ?_
   clear a0 a1 a2 a3
   generalize (sa ++ ⟨#[58]⟩ ++ sb ++ ⟨#[62]⟩ ++ sc : ByteArray) = wd at *
   refine wpAnyH_ready (rs := [14]) (by kernel_rfl) (by simp) ?_
   refine (AllReadyH.cons (by rw [List.getElem?_toArray]; rfl) (fun K hK => ?_) AllReadyH.nil)
   go_simp
   (have HM : Hid (∀ j u, (stR [wd])[j]? = some u → (vx.alloc (.cells #[.string (wd)] 9)).cell? ((⟨vx.heap.size, 0, none⟩ : Addr).add j) = some u) := strs_cell vx [wd]); (have XB7 : Below vx.heap.size vx (vx.alloc (.cells #[.string (wd)] 9)) := Below.nw vx _); (replace XB := XB.trans (XB7.mono XB.size)); (clear XB7); (generalize (vx.alloc (.cells #[.string (wd)] 9)) = vy at *); (generalize vx.heap.size = q at *)
   refine hK.out _ _ ?_ (fun hHeld => ?_)
   ·first | exact SK.out _ XB | exact SK.out _ (Below.drew (Below.refl _ _))
   clear hK K
   (try simp only [Act.put, zSb, zS0, zS1])
   refine wpAnyH_ready (rs := [15]) (by kernel_rfl) (by simp) ?_
   refine (AllReadyH.cons (by rw [List.getElem?_toArray]; rfl) (fun K hK => ?_) AllReadyH.nil)
   (rw [if_pos (by rfl)]); refine wp_append_own _ _ _ 96 rfl (w.heap.size + 1) 9 i0 (.string ⟨#[]⟩) 1 16 Tryz.underlying96 hi hz0 hz1 hz2 rfl (by decide) _ RL.length (stR RL) rfl (own_belowS O XB) ⟨q, 0, none⟩ 1 1 (stR [wd]) rfl rfl HM.out (stR_one _) (by unfold maxLen; omega) (by omega) (Nat.le_trans hlo XB.size) ?_; intro v3 wn O4 hg4 _; (have Bg := grown_belowS (L := RL) (own_belowS O XB) hg4 (Nat.le_trans hlo XB.size)); (have KS : (fun w' => w'.cell? ⟨wr.heap.size, 0, none⟩ = some (.int .i64 x0) ∧ w'.cell? ⟨wr.heap.size, 1, none⟩ = some (.int .i64 x1) ∧ w'.cell? ⟨wr.heap.size, 2, none⟩ = some (.int .i64 x2)) wn := ⟨(grown_cellS OR hg4 (p := ⟨wr.heap.size, 0, none⟩) (Nat.le_refl _) (Nat.lt_of_lt_of_le hq XB.size)).trans ((SK.out _ XB).1), (grown_cellS OR hg4 (p := ⟨wr.heap.size, 1, none⟩) (Nat.le_refl _) (Nat.lt_of_lt_of_le hq XB.size)).trans ((SK.out _ XB).2.1), (grown_cellS OR hg4 (p := ⟨wr.heap.size, 2, none⟩) (Nat.le_refl _) (Nat.lt_of_lt_of_le hq XB.size)).trans ((SK.out _ XB).2.2)⟩)
   refine hK.out _ _ ?_ (fun hHeld => ?_)
   ·exact KS
   clear hK K
   (try simp only [Act.put, zSb, zS0, zS1])
   refine zTk 16 ?_
   refine wpAnyH_done (by kernel_rfl) ?_ _
   replace L := (L.below XB).belowB Bg (Nat.lt_succ_self _)
   replace B := (B.trans (XB.mono B.size)).trans (Bg.mono (Nat.le_succ _))
   have hlo2 := Nat.le_trans (Nat.le_trans hlo XB.size) Bg.size
   have O5 : wn.ownsRow (w.heap.size + 1) 9 1 v3 (rwL (fun i => flW (x.FM i)) (k + 1)).length (stR (rwL (fun i => flW (x.FM i)) (k + 1))) := by rw [HR.out, srow_app, List.length_append]; exact O4
   clear SK XB Bg KS O O4 hg4 HM hlo HR OR hq hRL
   go_wp2_with fail
   go_roundw
   case rel => exact ⟨k + 1, by omega, by go_num, O5, L, B, hlo2⟩
   case measure => simp [intOf]; omega
  have hkn : k = x.nf := by omega
  have hli : ¬ (k : Int) < (x.nf : Int) := by omega
  clear hlt H5 HI2
  rw [hkn] at O
  have hl6 : (nwdL x).length ≤ 64 := by have q := rwL_len (fun i => flW (x.FM i)) x.nf; show (rwL (fun i => flW (x.FM i)) x.nf).length ≤ 64; omega
  have hz6 : ∀ y ∈ nwdL x, y.size ≤ 130 := rwL_all (fun i _ => flW_size _)
  have CJ := l22Join_any (nwdL x) _ _ _ O hl6 hz6
  clear O hl6 hz6 hkn hk
  generalize nwdL x = LL at *
  go_wp2_with fail
  refine CJ.mono ?_
  rintro e u9 ⟨rfl, hb⟩
  go_wp2_with fail
  go_ret
  exact ⟨by first | (rw [HE.out]; rfl) | rw [HE.out], B.trans (hb.mono B.size)⟩
end Go.Proofs.YtddijpjgkifngaaGreatDoor
