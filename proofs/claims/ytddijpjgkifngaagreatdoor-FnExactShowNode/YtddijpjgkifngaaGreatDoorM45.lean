/- ShowNode in the specification. -/
import Derived.Test.YtddijpjgkifngaaGreatDoorM0
import Derived.Test.YtddijpjgkifngaaGreatDoorM44
namespace Go.Proofs.YtddijpjgkifngaaGreatDoor
open Go.RowKit
set_option linter.unusedVariables false
attribute [-go_sem] loadCells storeCells in
set_option maxRecDepth 100000 in
set_option maxHeartbeats 16000000 in
theorem specShowNode_in (A : Array Value) (x : WdX) (k : Nat) (w : World) (h : WdS w A x) (ht : txW x) (hok : wdOk x = true) (hk : k < x.nn) (hkc : k < x.nc) (hnp : (x.XM k).np ≤ 8) (hna : (x.XM k).na ≤ 16) (hep : i64B (x.XM k).ep) (hct : i64B (x.CM k)) (hpq : ∀ j, j < (x.XM k).np → i64B ((x.XM k).QM j).1 ∧ i64B ((x.XM k).QM j).2.1 ∧ i64B ((x.XM k).QM j).2.2.1) :
 Calls Tryz.prog 7 #[.agg A, .int .i64 (k : Int)] w fun e w' => e = .returned (.string (jnB (nnL x k (x.XM k).np))) ∧ Below w.heap.size w w' := by
 have HH := h
 have CK := fun (v : World) (hv : Below w.heap.size w v) => specWorldOkW A x v (HH.below hv).weak ht
 clear HH ht
 have HQ0 := hpq
 have HS := h
 have CL := fun (v : World) (hv : Below w.heap.size w v) => specLookW A x k v (HS.below hv) hk hkc
 clear HS
 obtain ⟨p, d, la, lc, ca, cc, na, nk, fa, fc, ba, bc, rfl, hm, h1, h2, h3, h4, h5, h6⟩ := h
 obtain ⟨nb, no, AM, rfl, hcs, hq4⟩ := h4.resolve_left (show ¬ x.nn = 0 by omega)
 obtain ⟨cb, co, rfl, hcc⟩ := h3.resolve_left (show ¬ x.nc = 0 by omega)
 obtain ⟨aa, ac, pa, pc, ha, hc2, hA, hl, r1, r2, r3⟩ := hq4 k hk
 have R2 := r2.src
 have HN0 := (hcs).load (P := Tryz.prog) hk (show (AM k).size = 16 by rw [hA]; rfl)
 rw [hA] at HN0
 have HN : Hid (∀ v, Below w.heap.size w v → (loadCells ⟨nb, no + k * 16, none⟩ 16).run Tryz.prog v = .ok (ndV (x.XM k) aa ac pa pc ha hc2) v) := fun v hv => by (have q := (hcs.below hv).load (P := Tryz.prog) hk (show (AM k).size = 16 by rw [hA]; rfl)); rw [hA] at q; exact q
 have HK : Hid (∀ v, Below w.heap.size w v → v.cell? ⟨cb, co + k, none⟩ = some (.int .i64 (x.CM k))) := fun v hv => (hcc.below hv hcc.1).2 k hkc
 have hl1 : (k : Int) < (x.nn : Int) := by omega
 have hl2 : (k : Int) < (x.nc : Int) := by omega
 have hnow := now_i64 x.y (x.XM k) (x.CM k)
 have HM := fun j => nnL_more x k j
 have HM1 : Hid (∀ j, nnL x k (j + 1) = nnL x k j ++ [pnF (x.XM k) j]) := HM
 have hlen := fun j => nnL_len x k j
 have HLE : Hid (∀ j, (nnL x k j).length = 5 + j) := hlen
 have h0 := (nnL_0 x k).trans (show nhL x k = [nmS (x.XM k).mo, txI (x.XM k).ep, txI (x.CM k), lkW (nowC x.y (x.XM k) (x.CM k) == 0) (nowL x.y (x.XM k) (x.CM k)) (nowH x.y (x.XM k) (x.CM k)), txI ((x.XM k).na : Int)] from rfl)
 have HZ5 : Hid (nnL x k 0 = [nmS (x.XM k).mo, txI (x.XM k).ep, txI (x.CM k), lkW (nowC x.y (x.XM k) (x.CM k) == 0) (nowL x.y (x.XM k) (x.CM k)) (nowH x.y (x.XM k) (x.CM k)), txI ((x.XM k).na : Int)]) := h0
 have HSZ : Hid (∀ j, j ≤ 8 → (jnB (nnL x k j)).size ≤ 1703) := fun j hj => nnL_size x k j hj
 clear HM hlen h0 HN0 h1 h2 h3 h4 h5 h6 hcs hq4 hcc hm hk hkc r1 r2 r3 hl hA
 generalize (nowC x.y (x.XM k) (x.CM k) == 0) = kb at *
 generalize nowL x.y (x.XM k) (x.CM k) = lN at *
 generalize nowH x.y (x.XM k) (x.CM k) = hN at *
 generalize x.CM k = ct at *
 generalize nnL x k = NL at *
 generalize x.XM k = X at *
 have HQ : Hid (∀ j, j < X.np → i64B (X.QM j).1 ∧ i64B (X.QM j).2.1 ∧ i64B (X.QM j).2.2.1) := hpq
 clear hpq HQ0
 have hna : ((X.na : Nat) : Int) ≤ 16 := by omega
 have C0 := fun (u : World) => specLifeName_any X.mo u
 have C1 := fun (u : World) => specTextOf_any X.ep u hep.1 hep.2
 have C2 := fun (u : World) => specTextOf_any ct u hct.1 hct.2
 have C4 := fun (u : World) => specIvalText_any lN hN u hnow.1.1 hnow.1.2 hnow.2.1 hnow.2.2
 have C5 := fun (u : World) => specTextOf_any (X.na : Int) u (by omega) (by omega)
 have z0 := nmS_size X.mo
 have z1 := txI_size' X.ep
 have z2 := txI_size' ct
 have z3 := ivT_size lN hN
 have z4 := txI_size' (X.na : Int)
 have HLT : Hid (lkW true lN hN = ivT lN hN) := lkW_t lN hN
 have HLF : Hid (lkW false lN hN = ⟨#[63]⟩) := lkW_f lN hN
 clear hep hct hnow hna
 generalize nmS X.mo = nm at *
 generalize txI X.ep = te at *
 generalize txI ct = tc at *
 generalize txI (X.na : Int) = tn at *
 generalize ivT lN hN = si at *
 have e32 : (⟨#[32]⟩ : ByteArray).size = 1 := rfl
 have e63 : (⟨#[63]⟩ : ByteArray).size = 1 := rfl
 have hge : ¬ (x.nn : Int) ≤ (k : Int) := by omega
 have hdn : decide ((k : Int) < 0) = false := decide_eq_false (by omega)
 have hdg : decide ((x.nn : Int) ≤ (k : Int)) = false := decide_eq_false (by omega)
 have A0 := Below.nw w (.cells (wdV x p d la lc (some ⟨cb, co, none⟩) cc (some ⟨nb, no, none⟩) nk fa fc ba bc) 52)
 have L := Bo.new w (wdV x p d la lc (some ⟨cb, co, none⟩) cc (some ⟨nb, no, none⟩) nk fa fc ba bc) 52
 have B := A0
 clear A0
 go_enter Tryz.func7, Tryz.ntmps7
 go_upto_region 1 with fail
 generalize w.alloc (.cells (wdV x p d la lc (some ⟨cb, co, none⟩) cc (some ⟨nb, no, none⟩) nk fa fc ba bc) 52) = v0 at *
 have hL0 : v0.cell? ⟨w.heap.size, 14, none⟩ = some (.slice (some ⟨nb, no, none⟩) x.nn nk) := L.cell rfl
 have hL1 := L.load (P := Tryz.prog) (show ((wdV x p d la lc (some ⟨cb, co, none⟩) cc (some ⟨nb, no, none⟩) nk fa fc ba bc) : Array Value).size = 18 from rfl)
 go_wp2_with (rw [hL1])
 refine (CK v0 B).mono ?_
 rintro e v1 ⟨rfl, hb⟩
 clear hL0 hL1
 replace B := B.trans (hb.mono B.size)
 replace L := L.below hb
 clear hb
 rw [hok]
 clear CK hge hdn hdg
 have hLN := HN.out v1 B
 have hL14 : v1.cell? ⟨w.heap.size, 14, none⟩ = some (.slice (some ⟨nb, no, none⟩) x.nn nk) := L.cell rfl
 have hst := storeNew (P := Tryz.prog) v1 #[.int .i64 0, .int .i64 0, .int .i64 0, .int .i64 0, .bool false, .int .i64 0, .int .i64 0, .int .i64 0, .int .i64 0, .int .i64 0, .slice none 0 0, .slice none 0 0, .bool false, .int .i64 0, .slice none 0 0, .int .i64 0] (ndV X aa ac pa pc ha hc2) 79 rfl (ndV_one _ _ _ _ _ _ _)
 have hb := Below.nw v1 (.cells (ndV X aa ac pa pc ha hc2) 79)
 have N := Bo.new v1 (ndV X aa ac pa pc ha hc2) 79
 have gNL : w.heap.size < v1.heap.size := L.1
 go_upto_region 4 with (first | rw [hLN] | rw [hst])
 clear hLN hL14 hst
 replace B := B.trans (hb.mono B.size)
 replace L := L.below hb
 clear hb
 generalize v1.alloc (.cells (ndV X aa ac pa pc ha hc2) 79) = v2 at *
 generalize v1.heap.size = kN at *
 have a0 : ¬ 9223372036854775807 < nm.size + 1 := by omega
 have a1 : ¬ 9223372036854775807 < nm.size + 1 + te.size := by omega
 have a2 : ¬ 9223372036854775807 < nm.size + 1 + te.size + 1 := by omega
 have a3 : ¬ 9223372036854775807 < nm.size + 1 + te.size + 1 + tc.size := by omega
 have a4 : ¬ 9223372036854775807 < nm.size + 1 + te.size + 1 + tc.size + 1 := by omega
 have a5 : ¬ 9223372036854775807 < nm.size + 1 + te.size + 1 + tc.size + 1 + si.size := by omega
 have a6 : ¬ 9223372036854775807 < nm.size + 1 + te.size + 1 + tc.size + 1 + 1 := by omega
 have a7 : ¬ 9223372036854775807 < nm.size + 1 + te.size + 1 + tc.size + 1 + si.size + 1 := by omega
 have a8 : ¬ 9223372036854775807 < nm.size + 1 + te.size + 1 + tc.size + 1 + si.size + 1 + tn.size := by omega
 have a9 : ¬ 9223372036854775807 < nm.size + 1 + te.size + 1 + tc.size + 1 + 1 + 1 := by omega
 have a10 : ¬ 9223372036854775807 < nm.size + 1 + te.size + 1 + tc.size + 1 + 1 + 1 + tn.size := by omega
 have SK : Hid (∀ w', Below v2.heap.size v2 w' → (fun w' => w'.cell? ⟨kN, 1, none⟩ = some (.int .i64 X.mo) ∧ w'.cell? ⟨kN, 2, none⟩ = some (.int .i64 X.ep) ∧ w'.cell? ⟨w.heap.size, 13, none⟩ = some (.slice (some ⟨cb, co, none⟩) x.nc cc) ∧ w'.cell? ⟨cb, co + k, none⟩ = some (.int .i64 ct)) w') := fun w' hw => ⟨(N.below hw).cell (i := 1) rfl, (N.below hw).cell (i := 2) rfl, (L.below hw).cell (i := 13) rfl, HK.out _ (B.trans (hw.mono B.size))⟩
 refine wp_region_held_drew (S := (fun w' => w'.cell? ⟨kN, 1, none⟩ = some (.int .i64 X.mo) ∧ w'.cell? ⟨kN, 2, none⟩ = some (.int .i64 X.ep) ∧ w'.cell? ⟨w.heap.size, 13, none⟩ = some (.slice (some ⟨cb, co, none⟩) x.nc cc) ∧ w'.cell? ⟨cb, co + k, none⟩ = some (.int .i64 ct))) (by kernel_rfl) ?_ (fun hHeld => ?_)
 ·first | exact SK.out _ XB | exact SK.out _ (Below.drew (Below.refl _ _))
 have XB : Below v2.heap.size v2 v2.drew := Below.drew (Below.refl _ _)
 generalize v2.drew = vx at *
 refine zTk 0 ?_
 refine zTk 1 ?_
 refine zTk 2 ?_
 refine zTk 5 ?_
 refine zTk 6 ?_
 refine zTk 7 ?_
 refine zTk 11 ?_
 refine zTk 12 ?_
 refine zTk 13 ?_
 refine zTk 14 ?_
 refine zTk 15 ?_
 refine wpAnyH_ready (rs := [3]) (by kernel_rfl) (by simp) ?_
 refine AllReadyH.cons (by rw [List.getElem?_toArray]; rfl) (fun K hK => ?_) AllReadyH.nil
 go_simp
 refine (C0 _).mono ?_; rintro ee vx2 ⟨rfl, rfl⟩
 (try go_wp2_with fail)
 refine hK.out _ _ ?_ (fun hHeld => ?_)
 ·first | exact SK.out _ XB | exact SK.out _ (Below.drew (Below.refl _ _))
 clear hK K
 (try simp only [Act.put, zSb, zS0, zS1])
 refine zTk 4 ?_
 refine wpAnyH_ready (rs := [8]) (by kernel_rfl) (by simp) ?_
 refine AllReadyH.cons (by rw [List.getElem?_toArray]; rfl) (fun K hK => ?_) AllReadyH.nil
 go_simp
 refine (C1 _).mono ?_; rintro ee vx ⟨rfl, hbl⟩; (replace XB := XB.trans (hbl.mono XB.size)); (clear hbl)
 (try go_wp2_with fail)
 refine hK.out _ _ ?_ (fun hHeld => ?_)
 ·first | exact SK.out _ XB | exact SK.out _ (Below.drew (Below.refl _ _))
 clear hK K
 (try simp only [Act.put, zSb, zS0, zS1])
 refine zTk 9 ?_
 refine zTk 10 ?_
 refine wpAnyH_ready (rs := [16]) (by kernel_rfl) (by simp) ?_
 refine AllReadyH.cons (by rw [List.getElem?_toArray]; rfl) (fun K hK => ?_) AllReadyH.nil
 go_simp
 refine (C2 _).mono ?_; rintro ee vx ⟨rfl, hbl⟩; (replace XB := XB.trans (hbl.mono XB.size)); (clear hbl)
 (try go_wp2_with fail)
 refine hK.out _ _ ?_ (fun hHeld => ?_)
 ·first | exact SK.out _ XB | exact SK.out _ (Below.drew (Below.refl _ _))
 clear hK K
 (try simp only [Act.put, zSb, zS0, zS1])
 refine zTk 17 ?_
 refine zTk 18 ?_
 refine zTk 19 ?_
 refine wpAnyH_done (by kernel_rfl) ?_ _
 replace B := B.trans (XB.mono B.size)
 replace L := L.below XB
 replace N := N.below XB
 clear SK XB HN HK C0 C1 C2
 have hL0 := L.load (P := Tryz.prog) (show ((wdV x p d la lc (some ⟨cb, co, none⟩) cc (some ⟨nb, no, none⟩) nk fa fc ba bc) : Array Value).size = 18 from rfl)
 go_wp2_with (rw [hL0])
 refine (CL vx B).mono ?_
 rintro e v5 ⟨rfl, hb⟩
 clear hL0 CL
 replace B := B.trans (hb.mono B.size)
 replace N := N.below hb
 clear hb L
 have hst := storeNew (P := Tryz.prog) v5 #[.bool false, .int .i64 0, .int .i64 0] #[.bool kb, .int .i64 lN, .int .i64 hN] 82 rfl (List.forall_mem_cons.2 ⟨rfl, (List.forall_mem_cons.2 ⟨rfl, (List.forall_mem_cons.2 ⟨rfl, fun _ h => nomatch h⟩)⟩)⟩)
 have hb := Below.nw v5 (.cells #[.bool kb, .int .i64 lN, .int .i64 hN] 82)
 have K := Bo.new v5 #[.bool kb, .int .i64 lN, .int .i64 hN] 82
 go_upto_region 6 with (rw [hst])
 clear hst
 replace B := B.trans (hb.mono B.size)
 replace N := N.below hb
 clear hb
 generalize v5.alloc (.cells #[.bool kb, .int .i64 lN, .int .i64 hN] 82) = v6 at *
 generalize v5.heap.size = kK at *
 have ck : v6.cell? ⟨kK, 0, none⟩ = some (.bool kb) := K.cell (i := 0) rfl
 cases kb
 ·clear C4 K
  have hL10 : v6.cell? ⟨kN, 10, none⟩ = some (.slice aa X.na ac) := N.cell (i := 10) rfl
  go_wp2_with fail
  refine (C5 v6).mono ?_
  rintro e v9 ⟨rfl, hb⟩
  clear hL10 C5
  replace B := B.trans (hb.mono B.size)
  replace N := N.below hb
  clear hb
  have HJ : Hid (nm ++ ⟨#[32]⟩ ++ te ++ ⟨#[32]⟩ ++ tc ++ ⟨#[32]⟩ ++ ⟨#[63]⟩ ++ ⟨#[32]⟩ ++ tn = jnB (NL 0)) := by (have q := HZ5.out; rw [q, jn5, HLF.out]; rfl)
  clear HLT HLF HZ5
  go_upto_region 10 with fail
  clear a0 a1 a2 a3 a4 a5 a6 a7 a8 a9 a10
  have hp0 : nm ++ ⟨#[32]⟩ ++ te ++ ⟨#[32]⟩ ++ tc ++ ⟨#[32]⟩ ++ ⟨#[63]⟩ ++ ⟨#[32]⟩ ++ tn = jnB (NL 0) := HJ.out
  rw [hp0]
  clear hp0 HJ z0 z1 z2 z3 z4
  go_upto_region 11 with fail
  go_loopw [6, 8] (fun o i wr => ∃ (j : Nat) (p : ByteArray), j ≤ X.np ∧ i = .int .i64 (j : Int) ∧ o = .string p ∧ p = jnB (NL j) ∧ Bo wr kN (ndV X aa ac pa pc ha hc2) ∧ Below w.heap.size w wr) (fun _ i _ => X.np - (intOf i).toNat)
  case atStart => exact ⟨0, _, Nat.zero_le _, rfl, rfl, rfl, N, B⟩
  case round =>
   clear B N
   obtain ⟨j, pt, hj, rfl, rfl, hp, N, B⟩ := hrel
   have hpz : pt.size ≤ 1703 := by rw [hp]; exact HSZ.out j (by omega)
   have HP : Hid (pt = jnB (NL j)) := hp
   clear hp
   have c11 : wr.cell? ⟨kN, 11, none⟩ = some (.slice pa X.np pc) := N.cell (i := 11) rfl
   by_cases hlt : j < X.np
   ·skip
    have hli : (j : Int) < (X.np : Int) := by omega
    obtain ⟨fb, fo, rfl, hf⟩ : ∃ b off, pa = some ⟨b, off, none⟩ ∧ Cs w b off (X.np * 5) (MFPeer X.QM) := by
     rcases R2 with q | q
     ·omega
     ·exact q
    obtain ⟨i0, i1, i2⟩ := HQ.out j hlt
    obtain ⟨x0, x1, x2, x3, x4, hM⟩ := tupPeer X.QM j
    simp only [hM] at i0 i1 i2
    have hfl := peer5 (P := Tryz.prog) (hf.below B hf.1) hlt hM
    have HW : Hid (pnF X j = prW x0 x1 x2 x4) := by (show pnF X j = _; rw [pnF, hM])
    have hst := storeNew (P := Tryz.prog) wr #[.int .i64 0, .int .i64 0, .int .i64 0, .int .i64 0, .bool false] #[.int .i64 x0, .int .i64 x1, .int .i64 x2, .int .i64 x3, .bool x4] 86 rfl (List.forall_mem_cons.2 ⟨rfl, (List.forall_mem_cons.2 ⟨rfl, (List.forall_mem_cons.2 ⟨rfl, (List.forall_mem_cons.2 ⟨rfl, (List.forall_mem_cons.2 ⟨rfl, fun _ h => nomatch h⟩)⟩)⟩)⟩)⟩)
    have hb := Below.nw wr (.cells #[.int .i64 x0, .int .i64 x1, .int .i64 x2, .int .i64 x3, .bool x4] 86)
    have Q := Bo.new wr #[.int .i64 x0, .int .i64 x1, .int .i64 x2, .int .i64 x3, .bool x4] 86
    clear hf hM R2
    go_upto_region 14 with (first | rw [hfl] | rw [hst])
    clear hfl hst
    replace B := B.trans (hb.mono B.size)
    replace N := N.below hb
    clear hb c11
    generalize wr.alloc (.cells #[.int .i64 x0, .int .i64 x1, .int .i64 x2, .int .i64 x3, .bool x4] 86) = v7 at *
    generalize wr.heap.size = kQ at *
    have HR : Hid (jnB (NL (j + 1)) = pt ++ ⟨#[32]⟩ ++ prW x0 x1 x2 x4) := by (show jnB (NL (j + 1)) = _; rw [HM1.out j, HW.out, jn_snoc _ (by rw [HLE.out]; omega), ← HP.out]; rfl)
    have HT : Hid (prW x0 x1 x2 true = txI x0 ++ ⟨#[61]⟩ ++ ivT x1 x2 ++ ⟨#[33]⟩) := prW_t x0 x1 x2
    have HF : Hid (prW x0 x1 x2 false = txI x0 ++ ⟨#[61]⟩ ++ ivT x1 x2) := prW_f x0 x1 x2
    have D0 := fun u => specTextOf_any x0 u i0.1 i0.2
    have D1 := fun u => specIvalText_any x1 x2 u i1.1 i1.2 i2.1 i2.2
    have y0 := txI_size' x0
    have y1 := ivT_size x1 x2
    clear i0 i1 i2 HW HP
    generalize txI x0 = sa at *
    generalize ivT x1 x2 = sv at *
    have e61 : (⟨#[61]⟩ : ByteArray).size = 1 := rfl
    have e33 : (⟨#[33]⟩ : ByteArray).size = 1 := rfl
    have b0 : ¬ 9223372036854775807 < pt.size + 1 := by omega
    have b1 : ¬ 9223372036854775807 < pt.size + 1 + sa.size := by omega
    have b2 : ¬ 9223372036854775807 < pt.size + 1 + sa.size + 1 := by omega
    have b3 : ¬ 9223372036854775807 < pt.size + 1 + sa.size + 1 + sv.size := by omega
    have b4 : ¬ 9223372036854775807 < pt.size + 1 + sa.size + 1 + sv.size + 1 := by omega
    clear y0 y1 hpz
    have SK : Hid (∀ w', Below v7.heap.size v7 w' → (fun w' => w'.cell? ⟨kQ, 0, none⟩ = some (.int .i64 x0) ∧ (loadCells ⟨kQ, 1, none⟩ 2).run Tryz.prog w' = .ok #[.int .i64 x1, .int .i64 x2] w') w') := fun w' h => ⟨(Q.below h).cell (i := 0) rfl, (Q.below h).loadAt (P := Tryz.prog) 1 2 (show 1 + 2 ≤ 5 by decide)⟩
    refine wp_region_held_drew (S := (fun w' => w'.cell? ⟨kQ, 0, none⟩ = some (.int .i64 x0) ∧ (loadCells ⟨kQ, 1, none⟩ 2).run Tryz.prog w' = .ok #[.int .i64 x1, .int .i64 x2] w')) (by kernel_rfl) ?_ (fun hHeld => ?_)
    ·first | exact SK.out _ XB | exact SK.out _ (Below.drew (Below.refl _ _))
    have XB : Below v7.heap.size v7 v7.drew := Below.drew (Below.refl _ _)
    generalize v7.drew = vx at *
    refine zTk 0 ?_
    refine zTk 1 ?_
    refine zTk 2 ?_
    refine zTk 3 ?_
    refine zTk 7 ?_
    refine zTk 8 ?_
    refine wpAnyH_ready (rs := [4]) (by kernel_rfl) (by simp) ?_
    refine AllReadyH.cons (by rw [List.getElem?_toArray]; rfl) (fun K hK => ?_) AllReadyH.nil
    go_simp
    refine (D0 _).mono ?_; rintro ee vx ⟨rfl, hbl⟩; (replace XB := XB.trans (hbl.mono XB.size)); (clear hbl)
    (try go_wp2_with fail)
    refine hK.out _ _ ?_ (fun hHeld => ?_)
    ·first | exact SK.out _ XB | exact SK.out _ (Below.drew (Below.refl _ _))
    clear hK K
    (try simp only [Act.put, zSb, zS0, zS1])
    refine zTk 5 ?_
    refine zTk 6 ?_
    refine wpAnyH_ready (rs := [9]) (by kernel_rfl) (by simp) ?_
    refine AllReadyH.cons (by rw [List.getElem?_toArray]; rfl) (fun K hK => ?_) AllReadyH.nil
    go_simp
    refine (D1 _).mono ?_; rintro ee vx ⟨rfl, hbl⟩; (replace XB := XB.trans (hbl.mono XB.size)); (clear hbl)
    (try go_wp2_with fail)
    refine hK.out _ _ ?_ (fun hHeld => ?_)
    ·first | exact SK.out _ XB | exact SK.out _ (Below.drew (Below.refl _ _))
    clear hK K
    (try simp only [Act.put, zSb, zS0, zS1])
    refine zTk 10 ?_
    refine zTk 11 ?_
    refine wpAnyH_done (by kernel_rfl) ?_ _
    replace B := B.trans (XB.mono B.size)
    replace N := N.below XB
    replace Q := Q.below XB
    have cq : vx.cell? ⟨kQ, 4, none⟩ = some (.bool x4) := Q.cell (i := 4) rfl
    clear SK XB D0 D1
    cases x4
    ·have HX : Hid (pt ++ ⟨#[32]⟩ ++ sa ++ ⟨#[61]⟩ ++ sv = jnB (NL (j + 1))) := by (show pt ++ ⟨#[32]⟩ ++ sa ++ ⟨#[61]⟩ ++ sv = _; rw [HR.out, HF.out]; apply ByteArray.ext; simp [ByteArray.data_append])
     clear HR HT HF HM1 HLE
     go_wp2_with fail
     go_roundw
     case rel => exact ⟨j + 1, _, by omega, by go_num, rfl, HX.out, N, B⟩
     case measure => simp [intOf]; omega
    ·have HX : Hid (pt ++ ⟨#[32]⟩ ++ sa ++ ⟨#[61]⟩ ++ sv ++ ⟨#[33]⟩ = jnB (NL (j + 1))) := by (show pt ++ ⟨#[32]⟩ ++ sa ++ ⟨#[61]⟩ ++ sv ++ ⟨#[33]⟩ = _; rw [HR.out, HT.out]; apply ByteArray.ext; simp [ByteArray.data_append])
     clear HR HT HF HM1 HLE
     go_wp2_with fail
     go_roundw
     case rel => exact ⟨j + 1, _, by omega, by go_num, rfl, HX.out, N, B⟩
     case measure => simp [intOf]; omega
   have hkn : j = X.np := by omega
   have hli : ¬ (j : Int) < (X.np : Int) := by omega
   have HE : Hid (jnB (NL X.np) = pt) := by (show _ = pt; rw [← hkn, HP.out])
   clear hlt R2 HQ HM1 HLE HSZ HP hpz hkn
   go_wp2_with fail
   go_ret
   exact ⟨by first | (rw [HE.out]; rfl) | rw [HE.out], B⟩
 ·have hK : (loadCells ⟨kK, 1, none⟩ 2).run Tryz.prog v6 = .ok #[.int .i64 lN, .int .i64 hN] v6 := K.loadAt (P := Tryz.prog) 1 2 (show 1 + 2 ≤ 3 by decide)
  go_wp2_with (rw [hK])
  refine (C4 v6).mono ?_
  rintro e v8 ⟨rfl, hb⟩
  clear hK C4 K ck
  replace B := B.trans (hb.mono B.size)
  replace N := N.below hb
  clear hb
  have hL10 : v8.cell? ⟨kN, 10, none⟩ = some (.slice aa X.na ac) := N.cell (i := 10) rfl
  go_wp2_with fail
  refine (C5 v8).mono ?_
  rintro e v9 ⟨rfl, hb⟩
  clear hL10 C5
  replace B := B.trans (hb.mono B.size)
  replace N := N.below hb
  clear hb
  have HJ : Hid (nm ++ ⟨#[32]⟩ ++ te ++ ⟨#[32]⟩ ++ tc ++ ⟨#[32]⟩ ++ si ++ ⟨#[32]⟩ ++ tn = jnB (NL 0)) := by (have q := HZ5.out; rw [q, jn5, HLT.out]; rfl)
  clear HLT HLF HZ5
  go_upto_region 10 with fail
  clear a0 a1 a2 a3 a4 a5 a6 a7 a8 a9 a10
  have hp0 : nm ++ ⟨#[32]⟩ ++ te ++ ⟨#[32]⟩ ++ tc ++ ⟨#[32]⟩ ++ si ++ ⟨#[32]⟩ ++ tn = jnB (NL 0) := HJ.out
  rw [hp0]
  clear hp0 HJ z0 z1 z2 z3 z4
  go_upto_region 11 with fail
  go_loopw [6, 8] (fun o i wr => ∃ (j : Nat) (p : ByteArray), j ≤ X.np ∧ i = .int .i64 (j : Int) ∧ o = .string p ∧ p = jnB (NL j) ∧ Bo wr kN (ndV X aa ac pa pc ha hc2) ∧ Below w.heap.size w wr) (fun _ i _ => X.np - (intOf i).toNat)
  case atStart => exact ⟨0, _, Nat.zero_le _, rfl, rfl, rfl, N, B⟩
  case round =>
   clear B N
   obtain ⟨j, pt, hj, rfl, rfl, hp, N, B⟩ := hrel
   have hpz : pt.size ≤ 1703 := by rw [hp]; exact HSZ.out j (by omega)
   have HP : Hid (pt = jnB (NL j)) := hp
   clear hp
   have c11 : wr.cell? ⟨kN, 11, none⟩ = some (.slice pa X.np pc) := N.cell (i := 11) rfl
   by_cases hlt : j < X.np
   ·skip
    have hli : (j : Int) < (X.np : Int) := by omega
    obtain ⟨fb, fo, rfl, hf⟩ : ∃ b off, pa = some ⟨b, off, none⟩ ∧ Cs w b off (X.np * 5) (MFPeer X.QM) := by
     rcases R2 with q | q
     ·omega
     ·exact q
    obtain ⟨i0, i1, i2⟩ := HQ.out j hlt
    obtain ⟨x0, x1, x2, x3, x4, hM⟩ := tupPeer X.QM j
    simp only [hM] at i0 i1 i2
    have hfl := peer5 (P := Tryz.prog) (hf.below B hf.1) hlt hM
    have HW : Hid (pnF X j = prW x0 x1 x2 x4) := by (show pnF X j = _; rw [pnF, hM])
    have hst := storeNew (P := Tryz.prog) wr #[.int .i64 0, .int .i64 0, .int .i64 0, .int .i64 0, .bool false] #[.int .i64 x0, .int .i64 x1, .int .i64 x2, .int .i64 x3, .bool x4] 86 rfl (List.forall_mem_cons.2 ⟨rfl, (List.forall_mem_cons.2 ⟨rfl, (List.forall_mem_cons.2 ⟨rfl, (List.forall_mem_cons.2 ⟨rfl, (List.forall_mem_cons.2 ⟨rfl, fun _ h => nomatch h⟩)⟩)⟩)⟩)⟩)
    have hb := Below.nw wr (.cells #[.int .i64 x0, .int .i64 x1, .int .i64 x2, .int .i64 x3, .bool x4] 86)
    have Q := Bo.new wr #[.int .i64 x0, .int .i64 x1, .int .i64 x2, .int .i64 x3, .bool x4] 86
    clear hf hM R2
    go_upto_region 14 with (first | rw [hfl] | rw [hst])
    clear hfl hst
    replace B := B.trans (hb.mono B.size)
    replace N := N.below hb
    clear hb c11
    generalize wr.alloc (.cells #[.int .i64 x0, .int .i64 x1, .int .i64 x2, .int .i64 x3, .bool x4] 86) = v7 at *
    generalize wr.heap.size = kQ at *
    have HR : Hid (jnB (NL (j + 1)) = pt ++ ⟨#[32]⟩ ++ prW x0 x1 x2 x4) := by (show jnB (NL (j + 1)) = _; rw [HM1.out j, HW.out, jn_snoc _ (by rw [HLE.out]; omega), ← HP.out]; rfl)
    have HT : Hid (prW x0 x1 x2 true = txI x0 ++ ⟨#[61]⟩ ++ ivT x1 x2 ++ ⟨#[33]⟩) := prW_t x0 x1 x2
    have HF : Hid (prW x0 x1 x2 false = txI x0 ++ ⟨#[61]⟩ ++ ivT x1 x2) := prW_f x0 x1 x2
    have D0 := fun u => specTextOf_any x0 u i0.1 i0.2
    have D1 := fun u => specIvalText_any x1 x2 u i1.1 i1.2 i2.1 i2.2
    have y0 := txI_size' x0
    have y1 := ivT_size x1 x2
    clear i0 i1 i2 HW HP
    generalize txI x0 = sa at *
    generalize ivT x1 x2 = sv at *
    have e61 : (⟨#[61]⟩ : ByteArray).size = 1 := rfl
    have e33 : (⟨#[33]⟩ : ByteArray).size = 1 := rfl
    have b0 : ¬ 9223372036854775807 < pt.size + 1 := by omega
    have b1 : ¬ 9223372036854775807 < pt.size + 1 + sa.size := by omega
    have b2 : ¬ 9223372036854775807 < pt.size + 1 + sa.size + 1 := by omega
    have b3 : ¬ 9223372036854775807 < pt.size + 1 + sa.size + 1 + sv.size := by omega
    have b4 : ¬ 9223372036854775807 < pt.size + 1 + sa.size + 1 + sv.size + 1 := by omega
    clear y0 y1 hpz
    have SK : Hid (∀ w', Below v7.heap.size v7 w' → (fun w' => w'.cell? ⟨kQ, 0, none⟩ = some (.int .i64 x0) ∧ (loadCells ⟨kQ, 1, none⟩ 2).run Tryz.prog w' = .ok #[.int .i64 x1, .int .i64 x2] w') w') := fun w' h => ⟨(Q.below h).cell (i := 0) rfl, (Q.below h).loadAt (P := Tryz.prog) 1 2 (show 1 + 2 ≤ 5 by decide)⟩
    refine wp_region_held_drew (S := (fun w' => w'.cell? ⟨kQ, 0, none⟩ = some (.int .i64 x0) ∧ (loadCells ⟨kQ, 1, none⟩ 2).run Tryz.prog w' = .ok #[.int .i64 x1, .int .i64 x2] w')) (by kernel_rfl) ?_ (fun hHeld => ?_)
    ·first | exact SK.out _ XB | exact SK.out _ (Below.drew (Below.refl _ _))
    have XB : Below v7.heap.size v7 v7.drew := Below.drew (Below.refl _ _)
    generalize v7.drew = vx at *
    refine zTk 0 ?_
    refine zTk 1 ?_
    refine zTk 2 ?_
    refine zTk 3 ?_
    refine zTk 7 ?_
    refine zTk 8 ?_
    refine wpAnyH_ready (rs := [4]) (by kernel_rfl) (by simp) ?_
    refine AllReadyH.cons (by rw [List.getElem?_toArray]; rfl) (fun K hK => ?_) AllReadyH.nil
    go_simp
    refine (D0 _).mono ?_; rintro ee vx ⟨rfl, hbl⟩; (replace XB := XB.trans (hbl.mono XB.size)); (clear hbl)
    (try go_wp2_with fail)
    refine hK.out _ _ ?_ (fun hHeld => ?_)
    ·first | exact SK.out _ XB | exact SK.out _ (Below.drew (Below.refl _ _))
    clear hK K
    (try simp only [Act.put, zSb, zS0, zS1])
    refine zTk 5 ?_
    refine zTk 6 ?_
    refine wpAnyH_ready (rs := [9]) (by kernel_rfl) (by simp) ?_
    refine AllReadyH.cons (by rw [List.getElem?_toArray]; rfl) (fun K hK => ?_) AllReadyH.nil
    go_simp
    refine (D1 _).mono ?_; rintro ee vx ⟨rfl, hbl⟩; (replace XB := XB.trans (hbl.mono XB.size)); (clear hbl)
    (try go_wp2_with fail)
    refine hK.out _ _ ?_ (fun hHeld => ?_)
    ·first | exact SK.out _ XB | exact SK.out _ (Below.drew (Below.refl _ _))
    clear hK K
    (try simp only [Act.put, zSb, zS0, zS1])
    refine zTk 10 ?_
    refine zTk 11 ?_
    refine wpAnyH_done (by kernel_rfl) ?_ _
    replace B := B.trans (XB.mono B.size)
    replace N := N.below XB
    replace Q := Q.below XB
    have cq : vx.cell? ⟨kQ, 4, none⟩ = some (.bool x4) := Q.cell (i := 4) rfl
    clear SK XB D0 D1
    cases x4
    ·have HX : Hid (pt ++ ⟨#[32]⟩ ++ sa ++ ⟨#[61]⟩ ++ sv = jnB (NL (j + 1))) := by (show pt ++ ⟨#[32]⟩ ++ sa ++ ⟨#[61]⟩ ++ sv = _; rw [HR.out, HF.out]; apply ByteArray.ext; simp [ByteArray.data_append])
     clear HR HT HF HM1 HLE
     go_wp2_with fail
     go_roundw
     case rel => exact ⟨j + 1, _, by omega, by go_num, rfl, HX.out, N, B⟩
     case measure => simp [intOf]; omega
    ·have HX : Hid (pt ++ ⟨#[32]⟩ ++ sa ++ ⟨#[61]⟩ ++ sv ++ ⟨#[33]⟩ = jnB (NL (j + 1))) := by (show pt ++ ⟨#[32]⟩ ++ sa ++ ⟨#[61]⟩ ++ sv ++ ⟨#[33]⟩ = _; rw [HR.out, HT.out]; apply ByteArray.ext; simp [ByteArray.data_append])
     clear HR HT HF HM1 HLE
     go_wp2_with fail
     go_roundw
     case rel => exact ⟨j + 1, _, by omega, by go_num, rfl, HX.out, N, B⟩
     case measure => simp [intOf]; omega
   have hkn : j = X.np := by omega
   have hli : ¬ (j : Int) < (X.np : Int) := by omega
   have HE : Hid (jnB (NL X.np) = pt) := by (show _ = pt; rw [← hkn, HP.out])
   clear hlt R2 HQ HM1 HLE HSZ HP hpz hkn
   go_wp2_with fail
   go_ret
   exact ⟨by first | (rw [HE.out]; rfl) | rw [HE.out], B⟩
attribute [-go_sem] loadCells storeCells in
set_option maxRecDepth 100000 in
set_option maxHeartbeats 16000000 in
theorem specShowNode_out (A : Array Value) (x : WdX) (i : Int) (w : World) (h : WdS w A x) (ht : txW x) (hg : shG x i = false) :
 Calls Tryz.prog 7 #[.agg A, .int .i64 i] w fun e w' => e = .returned (.string ⟨#[]⟩) ∧ Below w.heap.size w w' := by
 have HH := h
 have CK := fun (v : World) (hv : Below w.heap.size w v) => specWorldOkW A x v (HH.below hv).weak ht
 have hA := h.weak.size
 obtain ⟨p, d, la, lc, ca, cc, na, nk, fa, fc, ba, bc, rfl, hm, h1, h2, h3, h4, h5, h6⟩ := h
 clear h1 h2 h3 h4 h5 h6 hm HH ht
 have B := Below.nw w (.cells (wdV x p d la lc ca cc na nk fa fc ba bc) 52)
 have L := Bo.new w (wdV x p d la lc ca cc na nk fa fc ba bc) 52
 by_cases hn : i < 0
 ·have hd : decide (i < 0) = true := by simp [hn]
  clear CK hg
  go_enter Tryz.func7, Tryz.ntmps7
  go_upto_region 1 with fail
  generalize w.alloc (.cells (wdV x p d la lc ca cc na nk fa fc ba bc) 52) = v0 at *
  go_wp2_with fail
  go_ret
  exact ⟨rfl, B⟩
 have hd : decide (i < 0) = false := by simp; omega
 by_cases hy : (x.nn : Int) ≤ i
 ·have hd2 : decide ((x.nn : Int) ≤ i) = true := by simp [hy]
  clear CK hg
  go_enter Tryz.func7, Tryz.ntmps7
  go_upto_region 1 with fail
  generalize w.alloc (.cells (wdV x p d la lc ca cc na nk fa fc ba bc) 52) = v0 at *
  have hL14 : v0.cell? ⟨w.heap.size, 14, none⟩ = some (.slice na x.nn nk) := L.cell rfl
  go_wp2_with fail
  go_ret
  exact ⟨rfl, B⟩
 have hd2 : decide ((x.nn : Int) ≤ i) = false := by simp; omega
 have hok : wdOk x = false := by
  cases q : wdOk x
  ·rfl
  ·rw [shG, q, decide_eq_true (by omega)] at hg; exact absurd hg (by decide)
 rw [hok] at CK
 clear hg hok
 go_enter Tryz.func7, Tryz.ntmps7
 go_upto_region 1 with fail
 generalize w.alloc (.cells (wdV x p d la lc ca cc na nk fa fc ba bc) 52) = v0 at *
 have hL14 : v0.cell? ⟨w.heap.size, 14, none⟩ = some (.slice na x.nn nk) := L.cell rfl
 have hL0 := L.load (P := Tryz.prog) hA
 go_wp2_with (rw [hL0])
 refine (CK v0 B).mono ?_
 rintro e v1 ⟨rfl, hb⟩
 clear hL0 hL14
 replace B := B.trans (hb.mono B.size)
 go_wp2_with fail
 go_ret
 exact ⟨rfl, B⟩
theorem specShowNodeW (A : Array Value) (x : WdX) (i : Int) (w : World) (h : WdS w A x) (ht : txW x) :
 Calls Tryz.prog 7 #[.agg A, .int .i64 i] w fun e w' => e = .returned (.string (shT x i)) ∧ Below w.heap.size w w' := by
 cases hg : shG x i
 ·rw [shT_f hg]; exact specShowNode_out A x i w h ht hg
 ·rw [shT_t hg]
  rw [shG, Bool.and_eq_true] at hg
  have hp := of_decide_eq_true hg.2
  obtain ⟨k, rfl⟩ := Int.eq_ofNat_of_zero_le hp.1
  rw [Int.toNat_natCast]
  have hk : k < x.nn := by omega
  obtain ⟨a1, a2, a3, a4, a5, a6⟩ := node_i64 hg.1 hk
  exact specShowNode_in A x k w h ht hg.1 hk a1 a2 a3 a4 a5 a6
end Go.Proofs.YtddijpjgkifngaaGreatDoor
