/- The words of a node; ShowNode (the program). The walk of the exact law of ShowNode. -/
import Derived.Test.YtddijpjgkifngaaGreatDoorM0
import Derived.Test.YtddijpjgkifngaaGreatDoorM45
namespace Go.Proofs.YtddijpjgkifngaaGreatDoor
open Go.RowKit
set_option linter.unusedVariables false
attribute [-go_sem] loadCells storeCells in
set_option maxRecDepth 100000 in
set_option maxHeartbeats 16000000 in
theorem nodeWordsW (A : Array Value) (x : WdX) (k : Nat) (w : World) (E0 : T10 w) (h : WdS w A x) (hwf : wfWd x) (hk : k < x.nn) (hkc : k < x.nc) (hnp : (x.XM k).np ≤ 8) (hna : (x.XM k).na ≤ 16) (hep : i64B (x.XM k).ep) (hct : i64B (x.CM k)) (hpq : ∀ j, j < (x.XM k).np → i64B ((x.XM k).QM j).1 ∧ i64B ((x.XM k).QM j).2.1 ∧ i64B ((x.XM k).QM j).2.2.1) :
 Calls Tryz.prog 35 #[.agg A, .int .i64 (k : Int)] w fun e w' => ∃ u, e = .returned u ∧ w'.ownsRow w.heap.size 9 1 u (nnL x k (x.XM k).np).length (stR (nnL x k (x.XM k).np)) ∧ Below w.heap.size w w' := by
 obtain ⟨i0, hi, hz0, hz1, hz2⟩ := info_parts info_str
 have HE : Hid (T10 w) := E0
 have HQ0 := hpq
 have HS := h
 have CL := fun (v : World) (hv : Below w.heap.size w v) => implLookW A x k v (HS.below hv) hk hkc hwf
 clear HS
 obtain ⟨p, d, la, lc, ca, cc, na, nk, fa, fc, ba, bc, rfl, hm, h1, h2, h3, h4, h5, h6⟩ := h
 obtain ⟨nb, no, AM, rfl, hcs, hq4⟩ := h4.resolve_left (show ¬ x.nn = 0 by omega)
 obtain ⟨cb, co, rfl, hcc⟩ := h3.resolve_left (show ¬ x.nc = 0 by omega)
 obtain ⟨aa, ac, pa, pc, ha, hc2, hA, hl, r1, r2, r3⟩ := hq4 k hk
 have R2 := r2.src
 have HN0 := (hcs).load (P := Tryz.prog) hk (show (AM k).size = 16 by rw [hA]; rfl)
 rw [hA] at HN0
 have HN : Hid (∀ v, Below w.heap.size w v → (loadCells ⟨nb, no + k * 16, none⟩ 16).run Tryz.prog v = .ok (ndV (x.XM k) aa ac pa pc ha hc2) v) := fun v hv => by (have q := (hcs.below hv).load (P := Tryz.prog) hk (show (AM k).size = 16 by rw [hA]; rfl)); rw [hA] at q; exact q
 have HK : Hid (∀ v, Below w.heap.size w v → v.cell? ⟨cb, co + k, none⟩ = some (.int .i64 (x.CM k))) := fun v hv => (hcc.below hv hcc.1).2 k hkc
 have hl1 : (k : Int) < (x.nn : Int) := by omega
 have hl2 : (k : Int) < (x.nc : Int) := by omega
 have hnow := now_i64 x.y (x.XM k) (x.CM k)
 have HM := fun j => nnL_more x k j
 have HM1 : Hid (∀ j, nnL x k (j + 1) = nnL x k j ++ [pnF (x.XM k) j]) := HM
 have hlen := fun j => nnL_len x k j
 have HLE : Hid (∀ j, (nnL x k j).length = 5 + j) := hlen
 have h0 := (nnL_0 x k).trans (show nhL x k = [nmS (x.XM k).mo, txI (x.XM k).ep, txI (x.CM k), lkW (nowC x.y (x.XM k) (x.CM k) == 0) (nowL x.y (x.XM k) (x.CM k)) (nowH x.y (x.XM k) (x.CM k)), txI ((x.XM k).na : Int)] from rfl)
 have HZ5 : Hid (nnL x k 0 = [nmS (x.XM k).mo, txI (x.XM k).ep, txI (x.CM k), lkW (nowC x.y (x.XM k) (x.CM k) == 0) (nowL x.y (x.XM k) (x.CM k)) (nowH x.y (x.XM k) (x.CM k)), txI ((x.XM k).na : Int)]) := h0
 clear HM hlen h0 HN0 h1 h2 h3 h4 h5 h6 hcs hq4 hcc hm hk hkc r1 r2 r3 hl hA
 clear hwf
 generalize (nowC x.y (x.XM k) (x.CM k) == 0) = kb at *
 generalize nowL x.y (x.XM k) (x.CM k) = lN at *
 generalize nowH x.y (x.XM k) (x.CM k) = hN at *
 generalize x.CM k = ct at *
 generalize nnL x k = NL at *
 generalize x.XM k = X at *
 have HQ : Hid (∀ j, j < X.np → i64B (X.QM j).1 ∧ i64B (X.QM j).2.1 ∧ i64B (X.QM j).2.2.1) := hpq
 clear hpq HQ0
 have hna : ((X.na : Nat) : Int) ≤ 16 := by omega
 clear E0
 have C0 := fun (u : World) (h : Below w.heap.size w u) => implLifeName_any X.mo u
 have C1 := fun (u : World) (h : Below w.heap.size w u) => implTextOf_any X.ep u hep.1 hep.2 (HE.out.below h)
 have C2 := fun (u : World) (h : Below w.heap.size w u) => implTextOf_any ct u hct.1 hct.2 (HE.out.below h)
 have C3 := CL
 have C4 := fun (u : World) (h : Below w.heap.size w u) => lookWord_any kb lN hN u (HE.out.below h) hnow.1 hnow.2
 have C5 := fun (u : World) (h : Below w.heap.size w u) => implTextOf_any (X.na : Int) u (by omega) (by omega) (HE.out.below h)
 clear CL hep hct hnow hna
 generalize nmS X.mo = nm at *
 generalize txI X.ep = te at *
 generalize txI ct = tc at *
 generalize lkW kb lN hN = lk at *
 generalize txI (X.na : Int) = tn at *
 have A0 := Below.nw w (.cells (wdV x p d la lc (some ⟨cb, co, none⟩) cc (some ⟨nb, no, none⟩) nk fa fc ba bc) 52)
 have L := Bo.new w (wdV x p d la lc (some ⟨cb, co, none⟩) cc (some ⟨nb, no, none⟩) nk fa fc ba bc) 52
 have B := A0
 clear A0
 go_enter Tryz.func35, Tryz.ntmps35
 go_upto_region 1 with fail
 generalize w.alloc (.cells (wdV x p d la lc (some ⟨cb, co, none⟩) cc (some ⟨nb, no, none⟩) nk fa fc ba bc) 52) = v0 at *
 have hLN := HN.out v0 B
 have hL14 : v0.cell? ⟨w.heap.size, 14, none⟩ = some (.slice (some ⟨nb, no, none⟩) x.nn nk) := L.cell rfl
 have hst := storeNew (P := Tryz.prog) v0 #[.int .i64 0, .int .i64 0, .int .i64 0, .int .i64 0, .bool false, .int .i64 0, .int .i64 0, .int .i64 0, .int .i64 0, .int .i64 0, .slice none 0 0, .slice none 0 0, .bool false, .int .i64 0, .slice none 0 0, .int .i64 0] (ndV X aa ac pa pc ha hc2) 79 rfl (ndV_one _ _ _ _ _ _ _)
 have hb := Below.nw v0 (.cells (ndV X aa ac pa pc ha hc2) 79)
 have N := Bo.new v0 (ndV X aa ac pa pc ha hc2) 79
 have gNL : w.heap.size < v0.heap.size := L.1
 go_upto_region 2 with (first | rw [hLN] | rw [hst])
 clear hLN hL14 hst
 replace B := B.trans (hb.mono B.size)
 replace L := L.below hb
 clear hb
 generalize v0.alloc (.cells (ndV X aa ac pa pc ha hc2) 79) = v1 at *
 generalize v0.heap.size = kN at *
 have SK : Hid (∀ w', Below v1.heap.size v1 w' → (fun w' => w'.cell? ⟨kN, 1, none⟩ = some (.int .i64 X.mo) ∧ w'.cell? ⟨kN, 2, none⟩ = some (.int .i64 X.ep) ∧ w'.cell? ⟨w.heap.size, 13, none⟩ = some (.slice (some ⟨cb, co, none⟩) x.nc cc) ∧ w'.cell? ⟨cb, co + k, none⟩ = some (.int .i64 ct) ∧ (loadCells ⟨w.heap.size, 0, none⟩ 18).run Tryz.prog w' = .ok (wdV x p d la lc (some ⟨cb, co, none⟩) cc (some ⟨nb, no, none⟩) nk fa fc ba bc) w' ∧ w'.cell? ⟨kN, 10, none⟩ = some (.slice aa X.na ac)) w') := fun w' hw => ⟨(N.below hw).cell (i := 1) rfl, (N.below hw).cell (i := 2) rfl, (L.below hw).cell (i := 13) rfl, HK.out _ (B.trans (hw.mono B.size)), (L.below hw).load (P := Tryz.prog) (show ((wdV x p d la lc (some ⟨cb, co, none⟩) cc (some ⟨nb, no, none⟩) nk fa fc ba bc) : Array Value).size = 18 from rfl), (N.below hw).cell (i := 10) rfl⟩
 clear L HK HN
 refine wp_region_held_drew (S := (fun w' => w'.cell? ⟨kN, 1, none⟩ = some (.int .i64 X.mo) ∧ w'.cell? ⟨kN, 2, none⟩ = some (.int .i64 X.ep) ∧ w'.cell? ⟨w.heap.size, 13, none⟩ = some (.slice (some ⟨cb, co, none⟩) x.nc cc) ∧ w'.cell? ⟨cb, co + k, none⟩ = some (.int .i64 ct) ∧ (loadCells ⟨w.heap.size, 0, none⟩ 18).run Tryz.prog w' = .ok (wdV x p d la lc (some ⟨cb, co, none⟩) cc (some ⟨nb, no, none⟩) nk fa fc ba bc) w' ∧ w'.cell? ⟨kN, 10, none⟩ = some (.slice aa X.na ac))) (by kernel_rfl) ?_ (fun hHeld => ?_)
 ·first | exact SK.out _ XB | exact SK.out _ (Below.drew (Below.refl _ _))
 have XB : Below v1.heap.size v1 v1.drew := Below.drew (Below.refl _ _)
 generalize v1.drew = vx at *
 refine zTk 0 ?_
 refine zTk 1 ?_
 refine zTk 2 ?_
 refine zTk 4 ?_
 refine zTk 5 ?_
 refine zTk 6 ?_
 refine zTk 8 ?_
 refine zTk 9 ?_
 refine zTk 10 ?_
 refine zTk 11 ?_
 refine zTk 12 ?_
 refine zTk 14 ?_
 refine zTk 15 ?_
 refine zTk 18 ?_
 refine zTk 19 ?_
 refine zTk 20 ?_
 refine zTk 21 ?_
 refine wpAnyH_ready (rs := [3]) (by kernel_rfl) (by simp) ?_
 refine (AllReadyH.cons (by rw [List.getElem?_toArray]; rfl) (fun K hK => ?_) AllReadyH.nil)
 go_simp
 refine (C0 _ (B.trans (XB.mono B.size))).mono ?_; rintro ee vx ⟨rfl, hbl⟩; (replace XB := XB.trans (hbl.mono XB.size)); (clear hbl)
 (try go_wp2_with fail)
 refine hK.out _ _ ?_ (fun hHeld => ?_)
 ·first | exact SK.out _ XB | exact SK.out _ (Below.drew (Below.refl _ _))
 clear hK K
 (try simp only [Act.put, zSb, zS0, zS1])
 refine wpAnyH_ready (rs := [7]) (by kernel_rfl) (by simp) ?_
 refine (AllReadyH.cons (by rw [List.getElem?_toArray]; rfl) (fun K hK => ?_) AllReadyH.nil)
 go_simp
 refine (C1 _ (B.trans (XB.mono B.size))).mono ?_; rintro ee vx ⟨rfl, hbl⟩; (replace XB := XB.trans (hbl.mono XB.size)); (clear hbl)
 (try go_wp2_with fail)
 refine hK.out _ _ ?_ (fun hHeld => ?_)
 ·first | exact SK.out _ XB | exact SK.out _ (Below.drew (Below.refl _ _))
 clear hK K
 (try simp only [Act.put, zSb, zS0, zS1])
 refine wpAnyH_ready (rs := [13]) (by kernel_rfl) (by simp) ?_
 refine (AllReadyH.cons (by rw [List.getElem?_toArray]; rfl) (fun K hK => ?_) AllReadyH.nil)
 go_simp
 refine (C2 _ (B.trans (XB.mono B.size))).mono ?_; rintro ee vx ⟨rfl, hbl⟩; (replace XB := XB.trans (hbl.mono XB.size)); (clear hbl)
 (try go_wp2_with fail)
 refine hK.out _ _ ?_ (fun hHeld => ?_)
 ·first | exact SK.out _ XB | exact SK.out _ (Below.drew (Below.refl _ _))
 clear hK K
 (try simp only [Act.put, zSb, zS0, zS1])
 refine wpAnyH_ready (rs := [16]) (by kernel_rfl) (by simp) ?_
 refine (AllReadyH.cons (by rw [List.getElem?_toArray]; rfl) (fun K hK => ?_) AllReadyH.nil)
 go_simp
 refine (C3 _ (B.trans (XB.mono B.size))).mono ?_; rintro ee vx ⟨rfl, hbl⟩; (replace XB := XB.trans (hbl.mono XB.size)); (clear hbl)
 (try go_wp2_with fail)
 refine hK.out _ _ ?_ (fun hHeld => ?_)
 ·first | exact SK.out _ XB | exact SK.out _ (Below.drew (Below.refl _ _))
 clear hK K
 (try simp only [Act.put, zSb, zS0, zS1])
 refine wpAnyH_ready (rs := [17]) (by kernel_rfl) (by simp) ?_
 refine (AllReadyH.cons (by rw [List.getElem?_toArray]; rfl) (fun K hK => ?_) AllReadyH.nil)
 go_simp
 refine (C4 _ (B.trans (XB.mono B.size))).mono ?_; rintro ee vx ⟨rfl, hbl⟩; (replace XB := XB.trans (hbl.mono XB.size)); (clear hbl)
 (try go_wp2_with fail)
 refine hK.out _ _ ?_ (fun hHeld => ?_)
 ·first | exact SK.out _ XB | exact SK.out _ (Below.drew (Below.refl _ _))
 clear hK K
 (try simp only [Act.put, zSb, zS0, zS1])
 refine wpAnyH_ready (rs := [22]) (by kernel_rfl) (by simp) ?_
 refine (AllReadyH.cons (by rw [List.getElem?_toArray]; rfl) (fun K hK => ?_) AllReadyH.nil)
 go_simp
 refine (C5 _ (B.trans (XB.mono B.size))).mono ?_; rintro ee vx ⟨rfl, hbl⟩; (replace XB := XB.trans (hbl.mono XB.size)); (clear hbl)
 (try go_wp2_with fail)
 refine hK.out _ _ ?_ (fun hHeld => ?_)
 ·first | exact SK.out _ XB | exact SK.out _ (Below.drew (Below.refl _ _))
 clear hK K
 (try simp only [Act.put, zSb, zS0, zS1])
 refine wpAnyH_ready (rs := [23]) (by kernel_rfl) (by simp) ?_
 refine (AllReadyH.cons (by rw [List.getElem?_toArray]; rfl) (fun K hK => ?_) AllReadyH.nil)
 go_simp
 (have O : (vx.alloc (.cells #[.string nm, .string te, .string tc, .string lk, .string tn] 9)).ownsRow vx.heap.size 9 1 (.slice (some ⟨vx.heap.size, 0, none⟩) 5 5) 5 (stR [nm, te, tc, lk, tn]) := strs_new vx [nm, te, tc, lk, tn] (by show (5 : Nat) ≤ 64; omega)); (have hq : w.heap.size ≤ vx.heap.size := Nat.le_trans B.size XB.size); (have hqN : v1.heap.size ≤ vx.heap.size := XB.size); (have XB7 : Below vx.heap.size vx (vx.alloc (.cells #[.string nm, .string te, .string tc, .string lk, .string tn] 9)) := Below.nw vx _); (have hz7 : vx.heap.size < (vx.alloc (.cells #[.string nm, .string te, .string tc, .string lk, .string tn] 9)).heap.size := by simp); (replace XB := XB.trans (XB7.mono XB.size)); (clear XB7); (generalize (vx.alloc (.cells #[.string nm, .string te, .string tc, .string lk, .string tn] 9)) = vy at *); (generalize vx.heap.size = q at *)
 refine hK.out _ _ ?_ (fun hHeld => ?_)
 ·first | exact SK.out _ XB | exact SK.out _ (Below.drew (Below.refl _ _))
 clear hK K
 (try simp only [Act.put, zSb, zS0, zS1])
 refine zTk 24 ?_
 refine wpAnyH_done (by kernel_rfl) ?_ _
 replace B := B.trans (XB.mono B.size)
 have hN1 := N.1
 replace N := N.below XB
 clear SK XB C0 C1 C2 C3 C4 C5
 have h5 := HZ5.out
 have O2 : vy.ownsRow (kN + 1) 9 1 (.slice (some ⟨q, 0, none⟩) 5 5) (NL 0).length (stR (NL 0)) := by rw [h5]; exact own_baseX O (by omega)
 have hlo : kN + 1 ≤ vy.heap.size := N.1
 clear O hq hqN hz7 h5 HZ5 hN1
 have hL11 : vy.cell? ⟨kN, 11, none⟩ = some (.slice pa X.np pc) := N.cell rfl
 go_wp2_with fail
 clear hL11 N
 go_loopw [6, 41] (fun r i wr => ∃ j : Nat, j ≤ X.np ∧ i = .int .i64 (j : Int) ∧ wr.ownsRow (kN + 1) 9 1 r (NL j).length (stR (NL j)) ∧ Below w.heap.size w wr ∧ kN + 1 ≤ wr.heap.size) (fun _ i _ => X.np - (intOf i).toNat)
 case atStart => exact ⟨0, Nat.zero_le _, rfl, O2, B, hlo⟩
 case round =>
  clear B hlo O2
  obtain ⟨j, hj, rfl, O, B, hlo⟩ := hrel
  by_cases hlt : j < X.np
  ·skip
   have hli : (j : Int) < (X.np : Int) := by omega
   obtain ⟨fb, fo, rfl, hf⟩ : ∃ b off, pa = some ⟨b, off, none⟩ ∧ Cs w b off (X.np * 5) (MFPeer X.QM) := by
    rcases R2 with q | q
    ·omega
    ·exact q
   obtain ⟨i0, i1, i2⟩ := HQ.out j hlt
   obtain ⟨x0, x1, x2, x3, x4, hM⟩ := tupPeer X.QM j
   simp only [hM] at i0 i1 i2
   have hfl := peer5 (P := Tryz.prog) (hf.below B hf.1) hlt hM
   have HW : Hid (pnF X j = prW x0 x1 x2 x4) := by (show pnF X j = _; rw [pnF, hM])
   have hst := storeNew (P := Tryz.prog) wr #[.int .i64 0, .int .i64 0, .int .i64 0, .int .i64 0, .bool false] #[.int .i64 x0, .int .i64 x1, .int .i64 x2, .int .i64 x3, .bool x4] 86 rfl (List.forall_mem_cons.2 ⟨rfl, (List.forall_mem_cons.2 ⟨rfl, (List.forall_mem_cons.2 ⟨rfl, (List.forall_mem_cons.2 ⟨rfl, (List.forall_mem_cons.2 ⟨rfl, fun _ h => nomatch h⟩)⟩)⟩)⟩)⟩)
   have hb := Below.nw wr (.cells #[.int .i64 x0, .int .i64 x1, .int .i64 x2, .int .i64 x3, .bool x4] 86)
   have Q := Bo.new wr #[.int .i64 x0, .int .i64 x1, .int .i64 x2, .int .i64 x3, .bool x4] 86
   clear hf hM R2
   go_upto_region 6 with (first | rw [hfl] | rw [hst])
   clear hfl hst
   replace B := B.trans (hb.mono B.size)
   replace O := own_belowS O hb
   replace hlo := Nat.le_trans hlo hb.size
   clear hb
   generalize wr.alloc (.cells #[.int .i64 x0, .int .i64 x1, .int .i64 x2, .int .i64 x3, .bool x4] 86) = v5 at *
   have hq5 := Q.load (P := Tryz.prog) (show (#[.int .i64 x0, .int .i64 x1, .int .i64 x2, .int .i64 x3, .bool x4] : Array Value).size = 5 from rfl)
   have HR0 := HM1.out j
   rw [HW.out] at HR0
   have HR : Hid (NL (j + 1) = NL j ++ [prW x0 x1 x2 x4]) := HR0
   have hRL : (NL j).length = 5 + j := HLE.out j
   have CW := peerWord_any x0 x1 x2 x3 x4 v5 (HE.out.below B) i0 i1 i2
   clear i0 i1 i2 HW HR0
   generalize prW x0 x1 x2 x4 = nw at *
   go_wp2_with (rw [hq5])
   refine CW.mono ?_
   rintro e v6 ⟨rfl, hb⟩
   clear hq5 CW Q
   replace B := B.trans (hb.mono B.size)
   replace O := own_belowS O hb
   replace hlo := Nat.le_trans hlo hb.size
   clear hb
   have b7 := Below.nw v6 (.cells (stR [nw]).toArray 9)
   have HM := strs_cell v6 [nw]
   replace O := own_belowS O b7
   replace hlo := Nat.le_trans hlo b7.size
   change Below v6.heap.size v6 (v6.alloc (.cells #[.string nw] 9)) at b7
   change ∀ j u, (stR [nw])[j]? = some u → (v6.alloc (.cells #[.string nw] 9)).cell? ((⟨v6.heap.size, 0, none⟩ : Addr).add j) = some u at HM
   change (v6.alloc (.cells #[.string nw] 9)).ownsRow (kN + 1) 9 1 _ (NL j).length (stR (NL j)) at O
   change kN + 1 ≤ (v6.alloc (.cells #[.string nw] 9)).heap.size at hlo
   replace B := B.trans (b7.mono B.size)
   clear b7
   go_wp2_with (at_builtin; refine add_strs rfl _ _ rfl (kN + 1) (NL j) [nw] _ rfl O ⟨v6.heap.size, 0, none⟩ 1 rfl HM (by show (NL j).length + 1 ≤ 64; omega) hlo ?_; intro v8 w8 O8 hg8)
   have Bg := grown_belowS (L := NL j) O hg8 hlo
   replace B := B.trans (Bg.mono (by omega))
   have hlo2 := Nat.le_trans hlo Bg.size
   have O9 : w8.ownsRow (kN + 1) 9 1 v8 (NL (j + 1)).length (stR (NL (j + 1))) := by rw [HR.out]; exact O8
   clear Bg O O8 hg8 HM hlo HR hRL
   go_wp2_with fail
   go_roundw
   case rel => exact ⟨j + 1, by omega, by go_num, O9, B, hlo2⟩
   case measure => simp [intOf]; omega
  have hkn : j = X.np := by omega
  have hli : ¬ (j : Int) < (X.np : Int) := by omega
  clear hlt R2 HQ HM1 HLE
  rw [hkn] at O
  go_wp2_with fail
  go_ret
  exact ⟨_, rfl, own_baseX O (by omega), B⟩
attribute [-go_sem] loadCells storeCells in
set_option maxRecDepth 100000 in
set_option maxHeartbeats 16000000 in
theorem implShowNodeW (A : Array Value) (x : WdX) (i : Int) (w : World) (E0 : T10 w) (h : WdS w A x) (ht : txW x) (hwf : wfWd x) :
 Calls Tryz.prog 9 #[.agg A, .int .i64 i] w fun e w' => e = .returned (.string (shT x i)) ∧ Below w.heap.size w w' := by
 have hA := h.weak.size
 have HE : Hid (T10 w) := E0
 have HH := h
 have CK := fun (v : World) (hv : Below w.heap.size w v) => worldokW A x v (HH.below hv).weak ht hwf
 have CH := fun (v : World) (hv : Below w.heap.size w v) => hasPlaceW A x i v (HH.below hv).weak
 have B := Below.nw w (.cells A 52)
 have L := Bo.new w A 52
 by_cases hp : 0 ≤ i ∧ i < (x.nn : Int)
 ·obtain ⟨k, rfl⟩ := Int.eq_ofNat_of_zero_le hp.1
  have hk : k < x.nn := by omega
  have hpl : wdPl x (k : Int) = true := decide_eq_true hp
  have HT : Hid (wdOk x = true → shT x (k : Int) = jnB (nnL x k (x.XM k).np)) := fun q => by rw [shT_t (show shG x (k : Int) = true by rw [shG, q]; exact hpl), Int.toNat_natCast]
  have HF : Hid (wdOk x = false → shT x (k : Int) = ⟨#[]⟩) := fun q => shT_f (show shG x (k : Int) = false by rw [shG, q]; rfl)
  have CN := fun (v : World) (hv : Below w.heap.size w v) (q : wdOk x = true) => (node_i64 q hk).elim fun a b => nodeWordsW A x k v (HE.out.below hv) (HH.below hv) hwf hk a b.1 b.2.1 b.2.2.1 b.2.2.2.1 b.2.2.2.2
  have HI : Hid (wdOk x = true → (nnL x k (x.XM k).np).length ≤ 64) := fun q => by (have q2 := (node_i64 q hk).2.1; rw [nnL_len]; omega)
  have hpo : 0 < (nnL x k (x.XM k).np).length := by rw [nnL_len]; omega
  have HZ : Hid (∀ y ∈ nnL x k (x.XM k).np, y.size ≤ 130) := nnL_all x k _
  clear h ht hwf E0 HH hp hk
  rw [hpl] at CH
  generalize shT x (k : Int) = X at *
  generalize nnL x k (x.XM k).np = LL at *
  generalize wdOk x = ok at *
  go_enter Tryz.func9, Tryz.ntmps9
  go_upto_region 1 with fail
  generalize w.alloc (.cells A 52) = v0 at *
  have hL0 := L.load (P := Tryz.prog) hA
  go_wp2_with (rw [hL0])
  refine (CK v0 B).mono ?_
  rintro e v1 ⟨rfl, hb⟩
  clear hL0
  replace B := B.trans (hb.mono B.size)
  replace L := L.below hb
  clear hb
  cases ok
  ·have hE := HF.out rfl
   clear HF HT HI CK CN CH
   go_wp2_with fail
   go_ret
   exact ⟨by first | (rw [hE]; rfl) | rfl, B⟩
  have HE2 : Hid (X = jnB LL) := HT.out rfl
  have hl := HI.out rfl
  clear HF HT HI CK
  have hL0 := L.load (P := Tryz.prog) hA
  go_wp2_with (rw [hL0])
  refine (CH v1 B).mono ?_
  rintro e v2 ⟨rfl, hb⟩
  clear hL0 CH
  replace B := B.trans (hb.mono B.size)
  replace L := L.below hb
  clear hb
  have hL0 := L.load (P := Tryz.prog) hA
  go_wp2_with (rw [hL0])
  refine (CN v2 B (by first | rfl | trivial)).mono ?_
  rintro e v3 ⟨u, rfl, O, hb⟩
  clear hL0
  replace B := B.trans (hb.mono B.size)
  clear hb L
  go_wp2_with fail
  refine (joinedB_any LL u _ _ O hpo hl HZ.out).mono ?_
  rintro e v4 ⟨rfl, hb⟩
  go_wp2_with fail
  go_ret
  exact ⟨by first | (rw [HE2.out]; rfl) | rw [HE2.out], B.trans (hb.mono B.size)⟩
 ·have hpl : wdPl x i = false := decide_eq_false hp
  have HX : Hid (shT x i = ⟨#[]⟩) := shT_f (show shG x i = false by rw [shG]; exact (by rw [show decide (0 ≤ i ∧ i < (x.nn : Int)) = false from hpl, Bool.and_false]))
  clear h ht hwf E0 HH hp
  rw [hpl] at CH
  generalize shT x i = X at *
  generalize wdOk x = ok at *
  go_enter Tryz.func9, Tryz.ntmps9
  go_upto_region 1 with fail
  generalize w.alloc (.cells A 52) = v0 at *
  have hL0 := L.load (P := Tryz.prog) hA
  go_wp2_with (rw [hL0])
  refine (CK v0 B).mono ?_
  rintro e v1 ⟨rfl, hb⟩
  clear hL0 CK
  replace B := B.trans (hb.mono B.size)
  replace L := L.below hb
  clear hb
  cases ok
  ·clear CH
   go_wp2_with fail
   go_ret
   exact ⟨by first | (rw [HX.out]; rfl) | rfl, B⟩
  have hL0 := L.load (P := Tryz.prog) hA
  go_wp2_with (rw [hL0])
  refine (CH v1 B).mono ?_
  rintro e v2 ⟨rfl, hb⟩
  clear hL0 CH
  replace B := B.trans (hb.mono B.size)
  clear hb
  go_wp2_with fail
  go_ret
  exact ⟨by first | (rw [HX.out]; rfl) | rfl, B⟩
end Go.Proofs.YtddijpjgkifngaaGreatDoor
namespace Go.Proofs.YtddijpjgkifngaaGreatDoor
open Go.RowKit
set_option linter.unusedVariables false
attribute [-go_sem] loadCells storeCells in
set_option maxRecDepth 100000 in
set_option maxHeartbeats 16000000 in
theorem lawShowNode (A : Array Value) (x : WdX) (i : Int) (w : World) (E0 : T10 w) (HA : WdW w A x) (ht : txW x) (hwf : wfWd x) (_hi : (Lit.int .i64 i).wf = true) :
 Calls Tryz.prog 3 #[.agg A, .int .i64 i] w fun e w' => e = .returned (.bool true) ∧ Below w.heap.size w w' := by
 have HE : Hid (T10 w) := E0
 have B := Below.nw w (.cells A 37)
 have L := Bo.new w A 37
 have hA := HA.size
 have CS := fun (v : World) (hv : Below w.heap.size w v) (R : Array Value) (h : WdS v R x) => specShowNodeW R x i v h ht
 have CP := fun (v : World) (hv : Below w.heap.size w v) (R : Array Value) (h : WdS v R x) => implShowNodeW R x i v (HE.out.below hv) h ht hwf
 have CZ := fun (v : World) (h : Below w.heap.size w v) => szWorldW A x v (HA.below h) ht
 generalize shT x i = K at *
 have HS : Hid (WdW w A x) := HA
 clear HA hwf ht
 go_enter Tryz.func3, Tryz.ntmps3
 go_upto_region 2 with fail
 generalize w.alloc (.cells A 37) = v0 at *
 have hL := L.load (P := Tryz.prog) hA
 go_wp2_with (rw [hL])
 refine (CZ v0 B).mono ?_
 rintro e v1 ⟨Z, rfl, hZ, hb⟩
 clear hL CZ
 replace B := B.trans (hb.mono B.size)
 replace L := L.below hb
 clear hb
 by_cases hz : Z < 0
 ·clear CS CP hZ
  go_wp2_with fail
  go_ret
  exact ⟨rfl, B⟩
 have hsh := hZ (by omega)
 clear hZ
 have CT := fun (v : World) (h : Below w.heap.size w v) => toWorldW A x v (HS.out.below h) hsh
 clear hsh
 have hL := L.load (P := Tryz.prog) hA
 go_wp2_with (rw [hL])
 refine (CT _ B).mono ?_
 rintro e v2 ⟨R0, rfl, O0, hb⟩
 clear hL
 replace B := B.trans (hb.mono B.size)
 replace L := L.below hb
 clear hb
 go_wp2_with fail
 refine (CS _ B R0 O0).mono ?_
 clear O0
 rintro e v3 ⟨rfl, hb⟩
 replace B := B.trans (hb.mono B.size)
 replace L := L.below hb
 clear hb
 have hL := L.load (P := Tryz.prog) hA
 go_wp2_with (rw [hL])
 refine (CT _ B).mono ?_
 rintro e v5 ⟨RX, rfl, OX, hb⟩
 clear hL
 replace B := B.trans (hb.mono B.size)
 replace L := L.below hb
 clear hb
 generalize v3.heap.size = lx at *
 have hRX := OX.weak.size
 have hst := storeNew (P := Tryz.prog) v5 (#[.int .i64 0, .int .i64 0, .int .i64 0, .int .i64 0, .int .i64 0, .int .i64 0, .int .i64 0, .int .i64 0, .int .i64 0, .int .i64 0, .slice none 0 0, .slice none 0 0, .int .i64 0, .slice none 0 0, .slice none 0 0, .int .i64 0, .slice none 0 0, .slice none 0 0]) RX 52 (by rw [hRX]; rfl) OX.weak.one
 have hb := Below.nw v5 (.cells RX 52)
 have X := Bo.new v5 RX 52
 go_upto_region 7 with (rw [hst])
 clear hst
 replace B := B.trans (hb.mono B.size)
 replace L := L.below hb
 replace OX := OX.below hb
 clear hb
 generalize v5.alloc (.cells RX 52) = v6 at *
 generalize v5.heap.size = kX at *
 have hL := X.load (P := Tryz.prog) hRX
 go_wp2_with (rw [hL])
 refine (CP _ B RX OX).mono ?_
 rintro e v9 ⟨rfl, hb⟩
 clear hL CS CP
 replace B := B.trans (hb.mono B.size)
 replace L := L.below hb
 replace OX := OX.below hb
 replace X := X.below hb
 clear hb
 go_upto_region 10 with fail
 have SK : Hid (∀ w', Below v9.heap.size v9 w' → (fun w' => (loadCells ⟨kX, 0, none⟩ 18).run Tryz.prog w' = .ok RX w' ∧ (loadCells ⟨w.heap.size, 0, none⟩ 18).run Tryz.prog w' = .ok A w') w') := fun w' hw => ⟨(X.below hw).load hRX, (L.below hw).load hA⟩
 refine wp_region_held_drew (S := (fun w' => (loadCells ⟨kX, 0, none⟩ 18).run Tryz.prog w' = .ok RX w' ∧ (loadCells ⟨w.heap.size, 0, none⟩ 18).run Tryz.prog w' = .ok A w')) (by kernel_rfl) ?_ (fun hHeld => ?_)
 ·first | exact SK.out _ XB | exact SK.out _ (Below.drew (Below.refl _ _))
 have XB : Below v9.heap.size v9 v9.drew := Below.drew (Below.refl _ _)
 generalize v9.drew = vx at *
 refine zTk 0 ?_
 refine zTk 1 ?_
 refine wpAnyH_ready (rs := [2]) (by kernel_rfl) (by simp) ?_
 refine AllReadyH.cons (by rw [List.getElem?_toArray]; rfl) (fun K hK => ?_) AllReadyH.nil
 go_simp
 refine (CT vx (B.trans (XB.mono B.size))).mono ?_; rintro ee vy ⟨RY, rfl, OY, hbl⟩; (replace XB := XB.trans (hbl.mono XB.size)); (clear hbl); (generalize hvv : vy = vx at *); (clear hvv)
 (try go_wp2_with fail)
 refine hK.out _ _ ?_ (fun hHeld => ?_)
 ·first | exact SK.out _ XB | exact SK.out _ (Below.drew (Below.refl _ _))
 clear hK K
 (try simp only [Act.put, zSb, zS0, zS1])
 refine wpAnyH_ready (rs := [3]) (by kernel_rfl) (by simp) ?_
 refine AllReadyH.cons (by rw [List.getElem?_toArray]; rfl) (fun K hK => ?_) AllReadyH.nil
 go_simp
 refine (eqWorldW RX RY x vx (OX.below XB).weak OY.weak).mono ?_; rintro ee vx ⟨rfl, hbl⟩; (replace XB := XB.trans (hbl.mono XB.size)); (clear hbl OY)
 (try go_wp2_with fail)
 refine hK.out _ _ ?_ (fun hHeld => ?_)
 ·first | exact SK.out _ XB | exact SK.out _ (Below.drew (Below.refl _ _))
 clear hK K
 (try simp only [Act.put, zSb, zS0, zS1])
 refine zTk 4 ?_
 refine wpAnyH_done (by kernel_rfl) ?_ _
 have hb := XB
 clear XB SK
 replace B := B.trans (hb.mono B.size)
 replace L := L.below hb
 replace OX := OX.below hb
 replace X := X.below hb
 clear hb
 go_wp2_with fail
 go_ret
 exact ⟨rfl, B⟩
end Go.Proofs.YtddijpjgkifngaaGreatDoor
