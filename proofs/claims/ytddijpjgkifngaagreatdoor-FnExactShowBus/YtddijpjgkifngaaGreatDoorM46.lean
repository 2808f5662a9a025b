/- Rows of texts; words joined; the words of what is under way. ShowNet and ShowBus in the specification. -/
import Derived.Test.YtddijpjgkifngaaGreatDoorM0
import Derived.Test.YtddijpjgkifngaaGreatDoorM43
import Derived.Test.YtddijpjgkifngaaGreatDoorM44
namespace Go.Proofs.YtddijpjgkifngaaGreatDoor
open Go.RowKit
set_option linter.unusedVariables false
def frW (t : FrT) : ByteArray := txI t.1 ++ ⟨#[47]⟩ ++ txI t.2.1 ++ ⟨#[47]⟩ ++ txI t.2.2.1 ++ ⟨#[64]⟩ ++ txI t.2.2.2.1 ++ ⟨#[45]⟩ ++ txI t.2.2.2.2.1
theorem frW_size (t : FrT) : (frW t).size ≤ 130 := by
 have h1 := txI_size' t.1
 have h2 := txI_size' t.2.1
 have h3 := txI_size' t.2.2.1
 have h4 := txI_size' t.2.2.2.1
 have h5 := txI_size' t.2.2.2.2.1
 have e1 : (⟨#[47]⟩ : ByteArray).size = 1 := rfl
 have e2 : (⟨#[64]⟩ : ByteArray).size = 1 := rfl
 have e3 : (⟨#[45]⟩ : ByteArray).size = 1 := rfl
 unfold frW
 simp only [ByteArray.size_append, e1, e2, e3]
 omega
def bwL (x : WdX) : List ByteArray := rwL (fun i => frW (x.BM i)) x.nb
def sbT (x : WdX) : ByteArray := match wdOk x with | true => jnB (orN (bwL x)) | false => ⟨#[]⟩
theorem sbT_t {x : WdX} (h : wdOk x = true) : sbT x = jnB (orN (bwL x)) := by rw [sbT, h]
theorem sbT_f {x : WdX} (h : wdOk x = false) : sbT x = ⟨#[]⟩ := by rw [sbT, h]
theorem bus_i64 {x : WdX} (h : wdOk x = true) : x.nb ≤ 60 ∧ ∀ i, i < x.nb → i64B (x.BM i).1 ∧ i64B (x.BM i).2.1 ∧ i64B (x.BM i).2.2.1 ∧ i64B (x.BM i).2.2.2.1 ∧ i64B (x.BM i).2.2.2.2.1 := by
 obtain ⟨_, _, ⟨_, hn⟩, _, _, _, _, _, hr, hbus⟩ := wdOk_parts h
 rw [buB, Bool.and_eq_true] at hbus
 refine ⟨of_decide_eq_true hbus.1, fun i hi => ?_⟩
 have q := buA_get hbus.2 i hi
 have r := hr i hi
 unfold wdFr wdPl at r
 unfold frM frB at q
 simp only [Bool.and_eq_true] at r q
 have r1 := of_decide_eq_true r.1
 obtain ⟨_, q1, q2, q3, q4, q5, _⟩ := q
 have q1 := of_decide_eq_true q1
 have q2 := of_decide_eq_true q2
 have q3 := of_decide_eq_true q3
 have q4 := of_decide_eq_true q4
 have q5 := of_decide_eq_true q5
 unfold i64B
 omega
end Go.Proofs.YtddijpjgkifngaaGreatDoor
namespace Go.Proofs.YtddijpjgkifngaaGreatDoor
open Go.RowKit
set_option linter.unusedVariables false
attribute [-go_sem] loadCells storeCells in
set_option maxRecDepth 100000 in
set_option maxHeartbeats 16000000 in
theorem specShowBusW (A : Array Value) (x : WdX) (w : World) (h : WdW w A x) (ht : txW x) :
 Calls Tryz.prog 13 #[.agg A] w fun e w' => e = .returned (.string (sbT x)) ∧ Below w.heap.size w w' := by
 obtain ⟨i0, hi, hz0, hz1, hz2⟩ := info_parts info_str
 have HH := h
 have CK := fun (v : World) (hv : Below w.heap.size w v) => specWorldOkW A x v (HH.below hv) ht
 clear HH ht
 obtain ⟨p, d, la, lc, ca, cc, na, nk, fa, fc, ba, bc, rfl, hm, h1, h2, h3, h4, h5, h6⟩ := h
 have H6 : Hid (SrcC w ba (x.nb * 6) (MFFrame x.BM)) := h6
 have HT : Hid (wdOk x = true → sbT x = jnB (orN (bwL x))) := sbT_t
 have HF : Hid (wdOk x = false → sbT x = ⟨#[]⟩) := sbT_f
 have HI : Hid (wdOk x = true → x.nb ≤ 60 ∧ ∀ i, i < x.nb → i64B (x.BM i).1 ∧ i64B (x.BM i).2.1 ∧ i64B (x.BM i).2.2.1 ∧ i64B (x.BM i).2.2.2.1 ∧ i64B (x.BM i).2.2.2.2.1) := bus_i64
 clear h1 h2 h3 h4 h5 h6 hm
 generalize sbT x = X at *
 generalize wdOk x = ok at *
 have A0 := Below.nw w (.cells (wdV x p d la lc ca cc na nk fa fc ba bc) 52)
 have L := Bo.new w (wdV x p d la lc ca cc na nk fa fc ba bc) 52
 have B := A0
 clear A0
 go_enter Tryz.func13, Tryz.ntmps13
 go_upto_region 1 with fail
 generalize w.alloc (.cells (wdV x p d la lc ca cc na nk fa fc ba bc) 52) = v0 at *
 have hL0 := L.load (P := Tryz.prog) (show ((wdV x p d la lc ca cc na nk fa fc ba bc) : Array Value).size = 18 from rfl)
 go_wp2_with (rw [hL0])
 refine (CK v0 B).mono ?_
 rintro e v1 ⟨rfl, hb⟩
 clear hL0
 replace B := B.trans (hb.mono B.size)
 replace L := L.below hb
 clear hb
 cases ok
 ·have hE := HF.out rfl
  clear HF HT HI CK
  go_wp2_with fail
  go_ret
  exact ⟨by first | (rw [hE]; rfl) | rfl, B⟩
 have hE := HT.out rfl
 obtain ⟨hn, hi2⟩ := HI.out rfl
 clear HF HT HI CK
 have HE : Hid (X = jnB (orN (bwL x))) := hE
 have HI2 : Hid (∀ i, i < x.nb → i64B (x.BM i).1 ∧ i64B (x.BM i).2.1 ∧ i64B (x.BM i).2.2.1 ∧ i64B (x.BM i).2.2.2.1 ∧ i64B (x.BM i).2.2.2.2.1) := hi2
 clear hE hi2
 have O := strs_new v1 [] (by show (0 : Nat) ≤ 64; omega)
 have hb := Below.nw v1 (.cells (stR []).toArray 9)
 go_upto_region 4 with fail
 change Below v1.heap.size v1 (v1.alloc (.cells #[] 9)) at hb
 change (v1.alloc (.cells #[] 9)).ownsRow v1.heap.size 9 1 (.slice (some ⟨v1.heap.size, 0, none⟩) 0 0) 0 (stR []) at O
 replace O := own_baseX O (show w.heap.size + 1 ≤ v1.heap.size from L.1)
 have hlo : w.heap.size + 1 ≤ (v1.alloc (.cells #[] 9)).heap.size := Nat.le_trans (show w.heap.size + 1 ≤ v1.heap.size from L.1) hb.size
 replace B := B.trans (hb.mono B.size)
 replace L := L.below hb
 clear hb
 generalize v1.alloc (.cells #[] 9) = va at *
 generalize v1.heap.size = ga at *
 go_wp2_with fail
 go_loopw [3, 4] (fun r i wr => ∃ k : Nat, k ≤ x.nb ∧ i = .int .i64 (k : Int) ∧ wr.ownsRow (w.heap.size + 1) 9 1 r (rwL (fun i => frW (x.BM i)) k).length (stR (rwL (fun i => frW (x.BM i)) k)) ∧ Bo wr w.heap.size (wdV x p d la lc ca cc na nk fa fc ba bc) ∧ Below w.heap.size w wr ∧ w.heap.size + 1 ≤ wr.heap.size) (fun _ i _ => x.nb - (intOf i).toNat)
 case atStart => exact ⟨0, Nat.zero_le _, rfl, O, L, B, hlo⟩
 case round =>
  clear L B O hlo
  obtain ⟨k, hk, rfl, O, L, B, hlo⟩ := hrel
  have c16 : wr.cell? ⟨w.heap.size, 17, none⟩ = some (.slice ba x.nb bc) := L.cell rfl
  by_cases hlt : k < x.nb
  ·clear HE
   have hli : (k : Int) < (x.nb : Int) := by omega
   obtain ⟨fb, fo, rfl, hf⟩ : ∃ b off, ba = some ⟨b, off, none⟩ ∧ Cs w b off (x.nb * 6) (MFFrame x.BM) := by
    rcases H6.out with q | q
    ·omega
    ·exact q
   obtain ⟨i0, i1, i2, i3, i4⟩ := HI2.out k hlt
   obtain ⟨x0 , x1 , x2 , x3 , x4 , x5, hM⟩ := tupFrame x.BM k
   simp only [hM] at i0 i1 i2 i3 i4
   have hfl := frame6 (P := Tryz.prog) (hf.below B hf.1) hlt hM
   have HW : Hid (frW (x.BM k) = txI x0 ++ ⟨#[47]⟩ ++ txI x1 ++ ⟨#[47]⟩ ++ txI x2 ++ ⟨#[64]⟩ ++ txI x3 ++ ⟨#[45]⟩ ++ txI x4) := by (show frW (x.BM k) = _; rw [hM]; rfl)
   have hst := storeNew (P := Tryz.prog) wr #[.int .i64 0, .int .i64 0, .int .i64 0, .int .i64 0, .int .i64 0, .string ⟨#[]⟩] #[.int .i64 x0, .int .i64 x1, .int .i64 x2, .int .i64 x3, .int .i64 x4, .string x5] 108 rfl (List.forall_mem_cons.2 ⟨rfl, (List.forall_mem_cons.2 ⟨rfl, (List.forall_mem_cons.2 ⟨rfl, (List.forall_mem_cons.2 ⟨rfl, (List.forall_mem_cons.2 ⟨rfl, (List.forall_mem_cons.2 ⟨rfl, fun _ h => nomatch h⟩)⟩)⟩)⟩)⟩)⟩)
   have hb := Below.nw wr (.cells #[.int .i64 x0, .int .i64 x1, .int .i64 x2, .int .i64 x3, .int .i64 x4, .string x5] 108)
   have Q := Bo.new wr #[.int .i64 x0, .int .i64 x1, .int .i64 x2, .int .i64 x3, .int .i64 x4, .string x5] 108
   have OR := O
   clear hf hM H6
   go_upto_region 8 with (first | rw [hfl] | rw [hst])
   clear hfl hst
   replace B := B.trans (hb.mono B.size)
   replace L := L.below hb
   replace O := own_belowS O hb
   replace hlo := Nat.le_trans hlo hb.size
   clear hb
   generalize wr.alloc (.cells #[.int .i64 x0, .int .i64 x1, .int .i64 x2, .int .i64 x3, .int .i64 x4, .string x5] 108) = v5 at *
   have C0 := fun u => specTextOf_any x0 u i0.1 i0.2
   have z0 := txI_size' x0
   have C1 := fun u => specTextOf_any x1 u i1.1 i1.2
   have z1 := txI_size' x1
   have C2 := fun u => specTextOf_any x2 u i2.1 i2.2
   have z2 := txI_size' x2
   have C3 := fun u => specTextOf_any x3 u i3.1 i3.2
   have z3 := txI_size' x3
   have C4 := fun u => specTextOf_any x4 u i4.1 i4.2
   have z4 := txI_size' x4
   clear i0 i1 i2 i3 i4
   generalize txI x0 = sa at *
   generalize txI x1 = sb at *
   generalize txI x2 = sc at *
   generalize txI x3 = sd at *
   generalize txI x4 = se at *
   have e47 : (⟨#[47]⟩ : ByteArray).size = 1 := rfl
   have e64 : (⟨#[64]⟩ : ByteArray).size = 1 := rfl
   have e45 : (⟨#[45]⟩ : ByteArray).size = 1 := rfl
   have a0 : ¬ 9223372036854775807 < sa.size + 1 := by omega
   have a1 : ¬ 9223372036854775807 < sa.size + 1 + sb.size := by omega
   have a2 : ¬ 9223372036854775807 < sa.size + 1 + sb.size + 1 := by omega
   have a3 : ¬ 9223372036854775807 < sa.size + 1 + sb.size + 1 + sc.size := by omega
   have a4 : ¬ 9223372036854775807 < sa.size + 1 + sb.size + 1 + sc.size + 1 := by omega
   have a5 : ¬ 9223372036854775807 < sa.size + 1 + sb.size + 1 + sc.size + 1 + sd.size := by omega
   have a6 : ¬ 9223372036854775807 < sa.size + 1 + sb.size + 1 + sc.size + 1 + sd.size + 1 := by omega
   have a7 : ¬ 9223372036854775807 < sa.size + 1 + sb.size + 1 + sc.size + 1 + sd.size + 1 + se.size := by omega
   clear z0 z1 z2 z3 z4
   have c0 : v5.cell? ⟨wr.heap.size, 0, none⟩ = some (.int .i64 x0) := Q.cell (i := 0) rfl
   have c1 : v5.cell? ⟨wr.heap.size, 1, none⟩ = some (.int .i64 x1) := Q.cell (i := 1) rfl
   have c2 : v5.cell? ⟨wr.heap.size, 2, none⟩ = some (.int .i64 x2) := Q.cell (i := 2) rfl
   have c3 : v5.cell? ⟨wr.heap.size, 3, none⟩ = some (.int .i64 x3) := Q.cell (i := 3) rfl
   have c4 : v5.cell? ⟨wr.heap.size, 4, none⟩ = some (.int .i64 x4) := Q.cell (i := 4) rfl
   have hq := Q.1
   have HR : Hid (rwL (fun i => frW (x.BM i)) (k + 1) = rwL (fun i => frW (x.BM i)) k ++ [sa ++ ⟨#[47]⟩ ++ sb ++ ⟨#[47]⟩ ++ sc ++ ⟨#[64]⟩ ++ sd ++ ⟨#[45]⟩ ++ se]) := by (show rwL (fun i => frW (x.BM i)) (k + 1) = _; rw [rwL, HW.out])
   have hRL : (rwL (fun i => frW (x.BM i)) k).length = k := rwL_len _ _
   clear HW
   generalize rwL (fun i => frW (x.BM i)) k = RL at *
   have SK : Hid (∀ w', Below v5.heap.size v5 w' → (fun w' => w'.cell? ⟨wr.heap.size, 0, none⟩ = some (.int .i64 x0) ∧ w'.cell? ⟨wr.heap.size, 1, none⟩ = some (.int .i64 x1) ∧ w'.cell? ⟨wr.heap.size, 2, none⟩ = some (.int .i64 x2) ∧ w'.cell? ⟨wr.heap.size, 3, none⟩ = some (.int .i64 x3) ∧ w'.cell? ⟨wr.heap.size, 4, none⟩ = some (.int .i64 x4)) w') := fun w' h => ⟨by rw [h.cell (p := ⟨wr.heap.size, 0, none⟩) hq]; exact c0, by rw [h.cell (p := ⟨wr.heap.size, 1, none⟩) hq]; exact c1, by rw [h.cell (p := ⟨wr.heap.size, 2, none⟩) hq]; exact c2, by rw [h.cell (p := ⟨wr.heap.size, 3, none⟩) hq]; exact c3, by rw [h.cell (p := ⟨wr.heap.size, 4, none⟩) hq]; exact c4⟩
   clear c0 c1 c2 c3 c4 Q
   refine wp_region_held_drew (S := (fun w' => w'.cell? ⟨wr.heap.size, 0, none⟩ = some (.int .i64 x0) ∧ w'.cell? ⟨wr.heap.size, 1, none⟩ = some (.int .i64 x1) ∧ w'.cell? ⟨wr.heap.size, 2, none⟩ = some (.int .i64 x2) ∧ w'.cell? ⟨wr.heap.size, 3, none⟩ = some (.int .i64 x3) ∧ w'.cell? ⟨wr.heap.size, 4, none⟩ = some (.int .i64 x4))) (by kernel_rfl) ?_ (fun hHeld => ?_)
   ·first | exact SK.out _ XB | exact SK.out _ (Below.drew (Below.refl _ _))
   have XB : Below v5.heap.size v5 v5.drew := Below.drew (Below.refl _ _)
   generalize v5.drew = vx at *
   refine zTk 0 ?_
   refine zTk 1 ?_
   refine zTk 2 ?_
   refine zTk 5 ?_
   refine zTk 6 ?_
   refine zTk 10 ?_
   refine zTk 11 ?_
   refine zTk 15 ?_
   refine zTk 16 ?_
   refine zTk 20 ?_
   refine zTk 21 ?_
   refine wpAnyH_ready (rs := [3]) (by kernel_rfl) (by simp) ?_
   refine (AllReadyH.cons (by rw [List.getElem?_toArray]; rfl) (fun K hK => ?_) AllReadyH.nil)
   go_simp
   refine (C0 _).mono ?_; rintro ee vx ⟨rfl, hbl⟩; (replace XB := XB.trans (hbl.mono XB.size)); (clear hbl)
   (try go_wp2_with fail)
   refine hK.out _ _ ?_ (fun hHeld => ?_)
   ·first | exact SK.out _ XB | exact SK.out _ (Below.drew (Below.refl _ _))
   clear hK K
   (try simp only [Act.put, zSb, zS0, zS1])
   refine zTk 4 ?_
   refine wpAnyH_ready (rs := [7]) (by kernel_rfl) (by simp) ?_
   refine (AllReadyH.cons (by rw [List.getElem?_toArray]; rfl) (fun K hK => ?_) AllReadyH.nil)
   go_simp
   refine (C1 _).mono ?_; rintro ee vx ⟨rfl, hbl⟩; (replace XB := XB.trans (hbl.mono XB.size)); (clear hbl)
   (try go_wp2_with fail)
   refine hK.out _ _ ?_ (fun hHeld => ?_)
   ·first | exact SK.out _ XB | exact SK.out _ (Below.drew (Below.refl _ _))
   clear hK K
   (try simp only [Act.put, zSb, zS0, zS1])
   refine zTk 8 ?_
   refine zTk 9 ?_
   refine wpAnyH_ready (rs := [12]) (by kernel_rfl) (by simp) ?_
   refine (AllReadyH.cons (by rw [List.getElem?_toArray]; rfl) (fun K hK => ?_) AllReadyH.nil)
   go_simp
   refine (C2 _).mono ?_; rintro ee vx ⟨rfl, hbl⟩; (replace XB := XB.trans (hbl.mono XB.size)); (clear hbl)
   (try go_wp2_with fail)
   refine hK.out _ _ ?_ (fun hHeld => ?_)
   ·first | exact SK.out _ XB | exact SK.out _ (Below.drew (Below.refl _ _))
   clear hK K
   (try simp only [Act.put, zSb, zS0, zS1])
   refine zTk 13 ?_
   refine zTk 14 ?_
   refine wpAnyH_ready (rs := [17]) (by kernel_rfl) (by simp) ?_
   refine (AllReadyH.cons (by rw [List.getElem?_toArray]; rfl) (fun K hK => ?_) AllReadyH.nil)
   go_simp
   refine (C3 _).mono ?_; rintro ee vx ⟨rfl, hbl⟩; (replace XB := XB.trans (hbl.mono XB.size)); (clear hbl)
   (try go_wp2_with fail)
   refine hK.out _ _ ?_ (fun hHeld => ?_)
   ·first | exact SK.out _ XB | exact SK.out _ (Below.drew (Below.refl _ _))
   clear hK K
   (try simp only [Act.put, zSb, zS0, zS1])
   refine zTk 18 ?_
   refine zTk 19 ?_
   refine wpAnyH_ready (rs := [22]) (by kernel_rfl) (by simp) ?_
   refine (AllReadyH.cons (by rw [List.getElem?_toArray]; rfl) (fun K hK => ?_) AllReadyH.nil)
   go_simp
   refine (C4 _).mono ?_; rintro ee vx ⟨rfl, hbl⟩; (replace XB := XB.trans (hbl.mono XB.size)); (clear hbl)
   (try go_wp2_with fail)
   refine hK.out _ _ ?_ (fun hHeld => ?_)
   ·first | exact SK.out _ XB | exact SK.out _ (Below.drew (Below.refl _ _))
   clear hK K
   (try simp only [Act.put, zSb, zS0, zS1])
   refine zTk 23 ?_
   clear a0 a1 a2 a3 a4 a5 a6 a7
   generalize (sa ++ ⟨#[47]⟩ ++ sb ++ ⟨#[47]⟩ ++ sc ++ ⟨#[64]⟩ ++ sd ++ ⟨#[45]⟩ ++ se : ByteArray) = wd at *
   refine wpAnyH_ready (rs := [24]) (by kernel_rfl) (by simp) ?_
   refine (AllReadyH.cons (by rw [List.getElem?_toArray]; rfl) (fun K hK => ?_) AllReadyH.nil)
   go_simp
   (have HM : Hid (∀ j u, (stR [wd])[j]? = some u → (vx.alloc (.cells #[.string (wd)] 9)).cell? ((⟨vx.heap.size, 0, none⟩ : Addr).add j) = some u) := strs_cell vx [wd]); (have XB7 : Below vx.heap.size vx (vx.alloc (.cells #[.string (wd)] 9)) := Below.nw vx _); (replace XB := XB.trans (XB7.mono XB.size)); (clear XB7); (generalize (vx.alloc (.cells #[.string (wd)] 9)) = vy at *); (generalize vx.heap.size = q at *)
   refine hK.out _ _ ?_ (fun hHeld => ?_)
   ·first | exact SK.out _ XB | exact SK.out _ (Below.drew (Below.refl _ _))
   clear hK K
   (try simp only [Act.put, zSb, zS0, zS1])
   refine wpAnyH_ready (rs := [25]) (by kernel_rfl) (by simp) ?_
   refine (AllReadyH.cons (by rw [List.getElem?_toArray]; rfl) (fun K hK => ?_) AllReadyH.nil)
   (rw [if_pos (by rfl)]); refine wp_append_own _ _ _ 96 rfl (w.heap.size + 1) 9 i0 (.string ⟨#[]⟩) 1 16 Tryz.underlying96 hi hz0 hz1 hz2 rfl (by decide) _ RL.length (stR RL) rfl (own_belowS O XB) ⟨q, 0, none⟩ 1 1 (stR [wd]) rfl rfl HM.out (stR_one _) (by unfold maxLen; omega) (by omega) (Nat.le_trans hlo XB.size) ?_; intro v3 wn O4 hg4 _; (have Bg := grown_belowS (L := RL) (own_belowS O XB) hg4 (Nat.le_trans hlo XB.size)); (have KS : (fun w' => w'.cell? ⟨wr.heap.size, 0, none⟩ = some (.int .i64 x0) ∧ w'.cell? ⟨wr.heap.size, 1, none⟩ = some (.int .i64 x1) ∧ w'.cell? ⟨wr.heap.size, 2, none⟩ = some (.int .i64 x2) ∧ w'.cell? ⟨wr.heap.size, 3, none⟩ = some (.int .i64 x3) ∧ w'.cell? ⟨wr.heap.size, 4, none⟩ = some (.int .i64 x4)) wn := ⟨(grown_cellS OR hg4 (p := ⟨wr.heap.size, 0, none⟩) (Nat.le_refl _) (Nat.lt_of_lt_of_le hq XB.size)).trans ((SK.out _ XB).1), (grown_cellS OR hg4 (p := ⟨wr.heap.size, 1, none⟩) (Nat.le_refl _) (Nat.lt_of_lt_of_le hq XB.size)).trans ((SK.out _ XB).2.1), (grown_cellS OR hg4 (p := ⟨wr.heap.size, 2, none⟩) (Nat.le_refl _) (Nat.lt_of_lt_of_le hq XB.size)).trans ((SK.out _ XB).2.2.1), (grown_cellS OR hg4 (p := ⟨wr.heap.size, 3, none⟩) (Nat.le_refl _) (Nat.lt_of_lt_of_le hq XB.size)).trans ((SK.out _ XB).2.2.2.1), (grown_cellS OR hg4 (p := ⟨wr.heap.size, 4, none⟩) (Nat.le_refl _) (Nat.lt_of_lt_of_le hq XB.size)).trans ((SK.out _ XB).2.2.2.2)⟩)
   refine hK.out _ _ ?_ (fun hHeld => ?_)
   ·exact KS
   clear hK K
   (try simp only [Act.put, zSb, zS0, zS1])
   refine zTk 26 ?_
   refine wpAnyH_done (by kernel_rfl) ?_ _
   replace L := (L.below XB).belowB Bg (Nat.lt_succ_self _)
   replace B := (B.trans (XB.mono B.size)).trans (Bg.mono (Nat.le_succ _))
   have hlo2 := Nat.le_trans (Nat.le_trans hlo XB.size) Bg.size
   have O5 : wn.ownsRow (w.heap.size + 1) 9 1 v3 (rwL (fun i => frW (x.BM i)) (k + 1)).length (stR (rwL (fun i => frW (x.BM i)) (k + 1))) := by rw [HR.out, srow_app, List.length_append]; exact O4
   clear SK XB Bg KS O O4 hg4 HM hlo HR OR hq hRL
   go_wp2_with fail
   go_roundw
   case rel => exact ⟨k + 1, by omega, by go_num, O5, L, B, hlo2⟩
   case measure => simp [intOf]; omega
  have hkn : k = x.nb := by omega
  have hli : ¬ (k : Int) < (x.nb : Int) := by omega
  clear hlt H6 HI2
  rw [hkn] at O
  have hl6 : (bwL x).length ≤ 64 := by have q := rwL_len (fun i => frW (x.BM i)) x.nb; show (rwL (fun i => frW (x.BM i)) x.nb).length ≤ 64; omega
  have hz6 : ∀ y ∈ bwL x, y.size ≤ 130 := rwL_all (fun i _ => frW_size _)
  have CJ := l22Join_any (bwL x) _ _ _ O hl6 hz6
  clear O hl6 hz6 hkn hk
  generalize bwL x = LL at *
  go_wp2_with fail
  refine CJ.mono ?_
  rintro e u9 ⟨rfl, hb⟩
  go_wp2_with fail
  go_ret
  exact ⟨by first | (rw [HE.out]; rfl) | rw [HE.out], B.trans (hb.mono B.size)⟩
end Go.Proofs.YtddijpjgkifngaaGreatDoor
