/- A look at a node: the specification, the program (as I229, for the seat without a door). -/
import Derived.Test.YtddijpjgkifngaaGreatM0
import Derived.Test.YtddijpjgkifngaaGreatM42
import Derived.Test.YtddijpjgkifngaaGreatM44
namespace Go.Proofs.YtddijpjgkifngaaGreat
open Go.RowKit
set_option linter.unusedVariables false
attribute [-go_sem] loadCells storeCells in
set_option maxRecDepth 100000 in
set_option maxHeartbeats 16000000 in
theorem specLookW (A : Array Value) (x : WdX) (i : Nat) (w : World) (h : WdS w A x) (hi : i < x.nn) (hc : i < x.nc) :
 Calls Tryz.prog 76 #[.agg A, .int .i64 (i : Int)] w fun e w' => e = .returned (.agg #[.bool (nowC x.y (x.XM i) (x.CM i) == 0), .int .i64 (nowL x.y (x.XM i) (x.CM i)), .int .i64 (nowH x.y (x.XM i) (x.CM i))]) ∧ Below w.heap.size w w' := by
 obtain ⟨p, d, la, lc, ca, cc, na, nk, fa, fc, ba, bc, rfl, hm, h1, h2, h3, h4, h5, h6⟩ := h
 obtain ⟨nb, no, AM, rfl, hcs, hq⟩ := h4.resolve_left (show ¬ x.nn = 0 by omega)
 obtain ⟨cb, co, rfl, hcc⟩ := h3.resolve_left (show ¬ x.nc = 0 by omega)
 have HC : CfS w (cfV x.y p d) x.y := ⟨p, d, rfl, hm.1, h1⟩
 have CN := fun (v : World) (hv : Below w.heap.size w v) => specNowX (cfV x.y p d) (AM i) x.y (x.XM i) (x.CM i) v (HC.below hv) ((hq i hi).below hv)
 have hsz : (AM i).size = 16 := (hq i hi).size
 have HN : Hid (∀ v, Below w.heap.size w v → (loadCells ⟨nb, no + i * 16, none⟩ 16).run Tryz.prog v = .ok (AM i) v) := fun v hv => (hcs.below hv).load hi hsz
 have HK : Hid (∀ v, Below w.heap.size w v → v.cell? ⟨cb, co + i, none⟩ = some (.int .i64 (x.CM i))) := fun v hv => (hcc.below hv hcc.1).2 i hc
 have hl1 : (i : Int) < (x.nn : Int) := by omega
 have hl2 : (i : Int) < (x.nc : Int) := by omega
 clear h1 h2 h3 h4 h5 h6 HC hcs hq hcc hsz hi hc hm
 generalize nowC x.y (x.XM i) (x.CM i) = cN at *
 generalize nowL x.y (x.XM i) (x.CM i) = lN at *
 generalize nowH x.y (x.XM i) (x.CM i) = hN at *
 generalize x.CM i = ct at *
 generalize AM i = AN at *
 have A0 := Below.nw w (.cells (wdV x p d la lc (some ⟨cb, co, none⟩) cc (some ⟨nb, no, none⟩) nk fa fc ba bc) 52)
 have A1 := Below.nw (w.alloc (.cells (wdV x p d la lc (some ⟨cb, co, none⟩) cc (some ⟨nb, no, none⟩) nk fa fc ba bc) 52)) (.cells #[.bool false, .int .i64 0, .int .i64 0] 126)
 have L := (Bo.new w (wdV x p d la lc (some ⟨cb, co, none⟩) cc (some ⟨nb, no, none⟩) nk fa fc ba bc) 52).below A1
 have R := Bo.new (w.alloc (.cells (wdV x p d la lc (some ⟨cb, co, none⟩) cc (some ⟨nb, no, none⟩) nk fa fc ba bc) 52)) #[.bool false, .int .i64 0, .int .i64 0] 126
 have B := A0
 replace B := B.trans (A1.mono B.size)
 simp only [World.size_alloc] at R
 clear A0 A1
 go_enter Tryz.func76, Tryz.ntmps76
 go_upto_region 1 with fail
 generalize ((w.alloc (.cells (wdV x p d la lc (some ⟨cb, co, none⟩) cc (some ⟨nb, no, none⟩) nk fa fc ba bc) 52))).alloc (.cells #[.bool false, .int .i64 0, .int .i64 0] 126) = v0 at *
 go_upto_region 1 with fail
 have SK : Hid (∀ w', Below v0.heap.size v0 w' → (fun w' => (loadCells ⟨w.heap.size, 0, none⟩ 11).run Tryz.prog w' = .ok (cfV x.y p d) w' ∧ w'.cell? ⟨w.heap.size, 14, none⟩ = some (.slice (some ⟨nb, no, none⟩) x.nn nk) ∧ w'.cell? ⟨w.heap.size, 13, none⟩ = some (.slice (some ⟨cb, co, none⟩) x.nc cc) ∧ (loadCells ⟨nb, no + i * 16, none⟩ 16).run Tryz.prog w' = .ok AN w' ∧ w'.cell? ⟨cb, co + i, none⟩ = some (.int .i64 ct)) w') := fun w' hw => ⟨(L.below hw).loadAt (P := Tryz.prog) 0 11 (show 0 + 11 ≤ 18 by decide), (L.below hw).cell rfl, (L.below hw).cell rfl, HN.out _ (B.trans (hw.mono B.size)), HK.out _ (B.trans (hw.mono B.size))⟩
 go_cut [5, 6] (fun s5 s6 wx => ∃ (j : Nat), s5 = .pointer (some ⟨j, 0, none⟩) ∧ s6 = .int .i64 cN ∧ Bo wx j (#[.int .i64 lN, .int .i64 hN]) ∧ v0.heap.size ≤ j ∧ Below v0.heap.size v0 wx)
 case first => as_aux_lemma =>
  refine wp_region_held_drew (S := (fun w' => (loadCells ⟨w.heap.size, 0, none⟩ 11).run Tryz.prog w' = .ok (cfV x.y p d) w' ∧ w'.cell? ⟨w.heap.size, 14, none⟩ = some (.slice (some ⟨nb, no, none⟩) x.nn nk) ∧ w'.cell? ⟨w.heap.size, 13, none⟩ = some (.slice (some ⟨cb, co, none⟩) x.nc cc) ∧ (loadCells ⟨nb, no + i * 16, none⟩ 16).run Tryz.prog w' = .ok AN w' ∧ w'.cell? ⟨cb, co + i, none⟩ = some (.int .i64 ct))) (by kernel_rfl) ?_ (fun hHeld => ?_)
  ·first | exact SK.out _ XB | exact SK.out _ (Below.drew (Below.refl _ _)) | exact SK.out _ XF
  have XB : Below v0.heap.size v0 v0.drew := Below.drew (Below.refl _ _)
  generalize v0.drew = vx at *
  refine zTk 0 ?_
  refine zTk 1 ?_
  refine zTk 2 ?_
  refine zTk 3 ?_
  refine zTk 4 ?_
  refine zTk 5 ?_
  refine zTk 6 ?_
  refine zTk 7 ?_
  refine zTk 8 ?_
  refine zTk 9 ?_
  refine zTk 10 ?_
  refine zTk 11 ?_
  refine wpAnyH_ready (rs := [12, 16]) (by kernel_rfl) (by simp) ?_
  refine (AllReadyH.cons (by rw [List.getElem?_toArray]; rfl) (fun K hK => ?_) (AllReadyH.cons (by rw [List.getElem?_toArray]; rfl) (fun K hK => ?_) AllReadyH.nil))
  ·go_simp
   refine (CN vx (B.trans (XB.mono B.size))).mono ?_; rintro ee vs ⟨rfl, hbl⟩; (replace XB := XB.trans (hbl.mono XB.size)); (clear hbl)
   (try go_wp2_with fail)
   refine hK.out _ _ ?_ (fun hHeld => ?_)
   ·first | exact SK.out _ XB | exact SK.out _ (Below.drew (Below.refl _ _)) | exact SK.out _ XF
   clear hK K
   (try simp only [Act.put, zSb, zS0, zS1])
   refine zTk 13 ?_
   refine zTk 14 ?_
   refine zTk 15 ?_
   refine wpAnyH_ready (rs := [16]) (by kernel_rfl) (by simp) ?_
   refine (AllReadyH.cons (by rw [List.getElem?_toArray]; rfl) (fun K hK => ?_) AllReadyH.nil)
   go_simp
   (have Z := Bo.new vs (#[.int .i64 0, .int .i64 0]) 87); (have NL := Below.nw vs (.cells (#[.int .i64 0, .int .i64 0]) 87)); (have hzv : v0.heap.size ≤ vs.heap.size := XB.size); (replace XB := XB.trans (NL.mono XB.size)); (clear NL); (generalize vs.alloc (.cells (#[.int .i64 0, .int .i64 0]) 87) = vy at *); (generalize vs.heap.size = jz at *); (have hst : (storeCells ⟨jz, 0, none⟩ ([.int .i64 lN, .int .i64 hN])).run Tryz.prog vy = .ok () (putA vy jz 0 (#[.int .i64 lN, .int .i64 hN] : Array Value).toList) := Bo.store (P := Tryz.prog) (b := 0) (#[.int .i64 lN, .int .i64 hN] : Array Value).toList 0 0 Z rfl (show 0 + 2 ≤ 2 by decide) (show ∀ u ∈ ([.int .i64 lN, .int .i64 hN] : List Value), u.oneCell' = true from (List.forall_mem_cons.2 ⟨rfl, (List.forall_mem_cons.2 ⟨rfl, fun _ h => nomatch h⟩)⟩))); (have XF := putA_below (k := jz) (#[.int .i64 lN, .int .i64 hN] : Array Value).toList v0 vy 0 XB hzv); (have ZF := Z.putW (U := #[.int .i64 lN, .int .i64 hN]) rfl); (generalize putA vy jz 0 (#[.int .i64 lN, .int .i64 hN] : Array Value).toList = vf at *)
   refine hK.out _ _ ?_ (fun hHeld => ?_)
   ·first | exact SK.out _ XB | exact SK.out _ (Below.drew (Below.refl _ _)) | exact SK.out _ XF
   clear hK K
   (try simp only [Act.put, zSb, zS0, zS1])
   refine wpAnyH_ready (rs := [17]) (by kernel_rfl) (by simp) ?_
   refine (AllReadyH.cons (by rw [List.getElem?_toArray]; rfl) (fun K hK => ?_) AllReadyH.nil)
   go_simp
   refine hK.out _ _ ?_ (fun hHeld => ?_)
   ·first | exact SK.out _ XB | exact SK.out _ (Below.drew (Below.refl _ _)) | exact SK.out _ XF
   clear hK K
   (try simp only [Act.put, zSb, zS0, zS1])
   refine zTk 18 ?_
   refine wpAnyH_done (by kernel_rfl) ?_ _
   go_wp2_with (rw [hst])
   go_meet
   case rel => exact ⟨jz, rfl, rfl, ZF, hzv, XF⟩
  ·go_simp
   (have Z := Bo.new vx (#[.int .i64 0, .int .i64 0]) 87); (have NL := Below.nw vx (.cells (#[.int .i64 0, .int .i64 0]) 87)); (have hzv : v0.heap.size ≤ vx.heap.size := XB.size); (replace XB := XB.trans (NL.mono XB.size)); (clear NL); (generalize vx.alloc (.cells (#[.int .i64 0, .int .i64 0]) 87) = vy at *); (generalize vx.heap.size = jz at *)
   refine hK.out _ _ ?_ (fun hHeld => ?_)
   ·first | exact SK.out _ XB | exact SK.out _ (Below.drew (Below.refl _ _)) | exact SK.out _ XF
   clear hK K
   (try simp only [Act.put, zSb, zS0, zS1])
   refine wpAnyH_ready (rs := [12]) (by kernel_rfl) (by simp) ?_
   refine (AllReadyH.cons (by rw [List.getElem?_toArray]; rfl) (fun K hK => ?_) AllReadyH.nil)
   go_simp
   refine (CN vy (B.trans (XB.mono B.size))).mono ?_; rintro ee vs ⟨rfl, hbl⟩; (replace XB := XB.trans (hbl.mono XB.size)); (replace Z := Z.below hbl); (clear hbl); (have hst : (storeCells ⟨jz, 0, none⟩ ([.int .i64 lN, .int .i64 hN])).run Tryz.prog vs = .ok () (putA vs jz 0 (#[.int .i64 lN, .int .i64 hN] : Array Value).toList) := Bo.store (P := Tryz.prog) (b := 0) (#[.int .i64 lN, .int .i64 hN] : Array Value).toList 0 0 Z rfl (show 0 + 2 ≤ 2 by decide) (show ∀ u ∈ ([.int .i64 lN, .int .i64 hN] : List Value), u.oneCell' = true from (List.forall_mem_cons.2 ⟨rfl, (List.forall_mem_cons.2 ⟨rfl, fun _ h => nomatch h⟩)⟩))); (have XF := putA_below (k := jz) (#[.int .i64 lN, .int .i64 hN] : Array Value).toList v0 vs 0 XB hzv); (have ZF := Z.putW (U := #[.int .i64 lN, .int .i64 hN]) rfl); (generalize putA vs jz 0 (#[.int .i64 lN, .int .i64 hN] : Array Value).toList = vf at *)
   (try go_wp2_with fail)
   refine hK.out _ _ ?_ (fun hHeld => ?_)
   ·first | exact SK.out _ XB | exact SK.out _ (Below.drew (Below.refl _ _)) | exact SK.out _ XF
   clear hK K
   (try simp only [Act.put, zSb, zS0, zS1])
   refine zTk 13 ?_
   refine zTk 14 ?_
   refine zTk 15 ?_
   refine wpAnyH_ready (rs := [17]) (by kernel_rfl) (by simp) ?_
   refine (AllReadyH.cons (by rw [List.getElem?_toArray]; rfl) (fun K hK => ?_) AllReadyH.nil)
   go_simp
   refine hK.out _ _ ?_ (fun hHeld => ?_)
   ·first | exact SK.out _ XB | exact SK.out _ (Below.drew (Below.refl _ _)) | exact SK.out _ XF
   clear hK K
   (try simp only [Act.put, zSb, zS0, zS1])
   refine zTk 18 ?_
   refine wpAnyH_done (by kernel_rfl) ?_ _
   go_wp2_with (rw [hst])
   go_meet
   case rel => exact ⟨jz, rfl, rfl, ZF, hzv, XF⟩
 case rest =>
 obtain ⟨kQ, rfl, rfl, Q, hjQ, hb⟩ := hcut
 clear SK
 have gQL : w.heap.size < v0.heap.size := L.1
 have gQR : w.heap.size + 1 < v0.heap.size := R.1
 generalize wc = v1 at *
 replace B := B.trans (hb.mono B.size)
 replace L := L.below hb
 replace R := R.below hb
 clear hb
 have hL0 := Q.load (P := Tryz.prog) (show (#[.int .i64 lN, .int .i64 hN] : Array Value).size = 2 from rfl)
 have hst := Bo.store (P := Tryz.prog) (b := 0) ([.bool (cN == 0), .int .i64 lN, .int .i64 hN]) 0 0 R rfl (show 0 + 3 ≤ 3 by decide) (List.forall_mem_cons.2 ⟨rfl, (List.forall_mem_cons.2 ⟨rfl, (List.forall_mem_cons.2 ⟨rfl, fun _ h => nomatch h⟩)⟩)⟩)
 have hb : Btw (w.heap.size + 1) (w.heap.size + 1 + 1) v1 _ := putA_btw ([.bool (cN == 0), .int .i64 lN, .int .i64 hN]) v1 0 (w.heap.size + 1)
 have B1 := putA_below (k := w.heap.size + 1) ([.bool (cN == 0), .int .i64 lN, .int .i64 hN]) w v1 0 B (by omega)
 have N1 : Bo (putA v1 (w.heap.size + 1) 0 ([.bool (cN == 0), .int .i64 lN, .int .i64 hN])) (w.heap.size + 1) (#[.bool (cN == 0), .int .i64 lN, .int .i64 hN]) := Bo.put ([.bool (cN == 0), .int .i64 lN, .int .i64 hN]) 0 R
 go_wp2_with (first | rw [hL0] | rw [hst])
 clear hst hL0 R B
 replace L := L.btw hb (by omega)
 replace Q := Q.btw hb (by omega)
 clear hb
 generalize putA v1 (w.heap.size + 1) 0 ([.bool (cN == 0), .int .i64 lN, .int .i64 hN]) = v2 at *
 have B := B1
 have R := N1
 clear B1 N1
 have hL0 := R.load (P := Tryz.prog) (show (#[.bool (cN == 0), .int .i64 lN, .int .i64 hN] : Array Value).size = 3 from rfl)
 exact bodyPost_ret (v := .agg #[.bool (cN == 0), .int .i64 lN, .int .i64 hN]) (by simp [results, Tryz.results76, go_sem]; rw [hL0]; rfl) rfl ⟨rfl, B⟩
attribute [-go_sem] loadCells storeCells in
set_option maxRecDepth 100000 in
set_option maxHeartbeats 16000000 in
theorem implLookW (A : Array Value) (x : WdX) (i : Nat) (w : World) (h : WdS w A x) (hi : i < x.nn) (hc : i < x.nc) (hwf : wfWd x) :
 Calls Tryz.prog 77 #[.agg A, .int .i64 (i : Int)] w fun e w' => e = .returned (.agg #[.bool (nowC x.y (x.XM i) (x.CM i) == 0), .int .i64 (nowL x.y (x.XM i) (x.CM i)), .int .i64 (nowH x.y (x.XM i) (x.CM i))]) ∧ Below w.heap.size w w' := by
 obtain ⟨p, d, la, lc, ca, cc, na, nk, fa, fc, ba, bc, rfl, hm, h1, h2, h3, h4, h5, h6⟩ := h
 obtain ⟨nb, no, AM, rfl, hcs, hq⟩ := h4.resolve_left (show ¬ x.nn = 0 by omega)
 obtain ⟨cb, co, rfl, hcc⟩ := h3.resolve_left (show ¬ x.nc = 0 by omega)
 have HC : CfS w (cfV x.y p d) x.y := ⟨p, d, rfl, hm.1, h1⟩
 have CN := fun (v : World) (hv : Below w.heap.size w v) => implNowX (cfV x.y p d) (AM i) x.y (x.XM i) (x.CM i) v (HC.below hv) ((hq i hi).below hv) (hwf.1 i hi)
 have hsz : (AM i).size = 16 := (hq i hi).size
 have HN : Hid (∀ v, Below w.heap.size w v → (loadCells ⟨nb, no + i * 16, none⟩ 16).run Tryz.prog v = .ok (AM i) v) := fun v hv => (hcs.below hv).load hi hsz
 have HK : Hid (∀ v, Below w.heap.size w v → v.cell? ⟨cb, co + i, none⟩ = some (.int .i64 (x.CM i))) := fun v hv => (hcc.below hv hcc.1).2 i hc
 have hl1 : (i : Int) < (x.nn : Int) := by omega
 have hl2 : (i : Int) < (x.nc : Int) := by omega
 clear h1 h2 h3 h4 h5 h6 HC hcs hq hcc hsz hi hc hm hwf
 generalize nowC x.y (x.XM i) (x.CM i) = cN at *
 generalize nowL x.y (x.XM i) (x.CM i) = lN at *
 generalize nowH x.y (x.XM i) (x.CM i) = hN at *
 generalize x.CM i = ct at *
 generalize AM i = AN at *
 have A0 := Below.nw w (.cells (wdV x p d la lc (some ⟨cb, co, none⟩) cc (some ⟨nb, no, none⟩) nk fa fc ba bc) 52)
 have A1 := Below.nw (w.alloc (.cells (wdV x p d la lc (some ⟨cb, co, none⟩) cc (some ⟨nb, no, none⟩) nk fa fc ba bc) 52)) (.cells #[.bool false, .int .i64 0, .int .i64 0] 126)
 have L := (Bo.new w (wdV x p d la lc (some ⟨cb, co, none⟩) cc (some ⟨nb, no, none⟩) nk fa fc ba bc) 52).below A1
 have R := Bo.new (w.alloc (.cells (wdV x p d la lc (some ⟨cb, co, none⟩) cc (some ⟨nb, no, none⟩) nk fa fc ba bc) 52)) #[.bool false, .int .i64 0, .int .i64 0] 126
 have B := A0
 replace B := B.trans (A1.mono B.size)
 simp only [World.size_alloc] at R
 clear A0 A1
 go_enter Tryz.func77, Tryz.ntmps77
 go_upto_region 1 with fail
 generalize ((w.alloc (.cells (wdV x p d la lc (some ⟨cb, co, none⟩) cc (some ⟨nb, no, none⟩) nk fa fc ba bc) 52))).alloc (.cells #[.bool false, .int .i64 0, .int .i64 0] 126) = v0 at *
 go_upto_region 1 with fail
 have SK : Hid (∀ w', Below v0.heap.size v0 w' → (fun w' => (loadCells ⟨w.heap.size, 0, none⟩ 11).run Tryz.prog w' = .ok (cfV x.y p d) w' ∧ w'.cell? ⟨w.heap.size, 14, none⟩ = some (.slice (some ⟨nb, no, none⟩) x.nn nk) ∧ w'.cell? ⟨w.heap.size, 13, none⟩ = some (.slice (some ⟨cb, co, none⟩) x.nc cc) ∧ (loadCells ⟨nb, no + i * 16, none⟩ 16).run Tryz.prog w' = .ok AN w' ∧ w'.cell? ⟨cb, co + i, none⟩ = some (.int .i64 ct)) w') := fun w' hw => ⟨(L.below hw).loadAt (P := Tryz.prog) 0 11 (show 0 + 11 ≤ 18 by decide), (L.below hw).cell rfl, (L.below hw).cell rfl, HN.out _ (B.trans (hw.mono B.size)), HK.out _ (B.trans (hw.mono B.size))⟩
 go_cut [5, 6] (fun s5 s6 wx => ∃ (j : Nat), s5 = .pointer (some ⟨j, 0, none⟩) ∧ s6 = .int .i64 cN ∧ Bo wx j (#[.int .i64 lN, .int .i64 hN]) ∧ v0.heap.size ≤ j ∧ Below v0.heap.size v0 wx)
 case first => as_aux_lemma =>
  refine wp_region_held_drew (S := (fun w' => (loadCells ⟨w.heap.size, 0, none⟩ 11).run Tryz.prog w' = .ok (cfV x.y p d) w' ∧ w'.cell? ⟨w.heap.size, 14, none⟩ = some (.slice (some ⟨nb, no, none⟩) x.nn nk) ∧ w'.cell? ⟨w.heap.size, 13, none⟩ = some (.slice (some ⟨cb, co, none⟩) x.nc cc) ∧ (loadCells ⟨nb, no + i * 16, none⟩ 16).run Tryz.prog w' = .ok AN w' ∧ w'.cell? ⟨cb, co + i, none⟩ = some (.int .i64 ct))) (by kernel_rfl) ?_ (fun hHeld => ?_)
  ·first | exact SK.out _ XB | exact SK.out _ (Below.drew (Below.refl _ _)) | exact SK.out _ XF
  have XB : Below v0.heap.size v0 v0.drew := Below.drew (Below.refl _ _)
  generalize v0.drew = vx at *
  refine zTk 0 ?_
  refine zTk 1 ?_
  refine zTk 2 ?_
  refine zTk 3 ?_
  refine zTk 4 ?_
  refine zTk 5 ?_
  refine zTk 6 ?_
  refine zTk 7 ?_
  refine zTk 8 ?_
  refine zTk 9 ?_
  refine zTk 10 ?_
  refine zTk 11 ?_
  refine wpAnyH_ready (rs := [12, 16]) (by kernel_rfl) (by simp) ?_
  refine (AllReadyH.cons (by rw [List.getElem?_toArray]; rfl) (fun K hK => ?_) (AllReadyH.cons (by rw [List.getElem?_toArray]; rfl) (fun K hK => ?_) AllReadyH.nil))
  ·go_simp
   refine (CN vx (B.trans (XB.mono B.size))).mono ?_; rintro ee vs ⟨rfl, hbl⟩; (replace XB := XB.trans (hbl.mono XB.size)); (clear hbl)
   (try go_wp2_with fail)
   refine hK.out _ _ ?_ (fun hHeld => ?_)
   ·first | exact SK.out _ XB | exact SK.out _ (Below.drew (Below.refl _ _)) | exact SK.out _ XF
   clear hK K
   (try simp only [Act.put, zSb, zS0, zS1])
   refine zTk 13 ?_
   refine zTk 14 ?_
   refine zTk 15 ?_
   refine wpAnyH_ready (rs := [16]) (by kernel_rfl) (by simp) ?_
   refine (AllReadyH.cons (by rw [List.getElem?_toArray]; rfl) (fun K hK => ?_) AllReadyH.nil)
   go_simp
   (have Z := Bo.new vs (#[.int .i64 0, .int .i64 0]) 87); (have NL := Below.nw vs (.cells (#[.int .i64 0, .int .i64 0]) 87)); (have hzv : v0.heap.size ≤ vs.heap.size := XB.size); (replace XB := XB.trans (NL.mono XB.size)); (clear NL); (generalize vs.alloc (.cells (#[.int .i64 0, .int .i64 0]) 87) = vy at *); (generalize vs.heap.size = jz at *); (have hst : (storeCells ⟨jz, 0, none⟩ ([.int .i64 lN, .int .i64 hN])).run Tryz.prog vy = .ok () (putA vy jz 0 (#[.int .i64 lN, .int .i64 hN] : Array Value).toList) := Bo.store (P := Tryz.prog) (b := 0) (#[.int .i64 lN, .int .i64 hN] : Array Value).toList 0 0 Z rfl (show 0 + 2 ≤ 2 by decide) (show ∀ u ∈ ([.int .i64 lN, .int .i64 hN] : List Value), u.oneCell' = true from (List.forall_mem_cons.2 ⟨rfl, (List.forall_mem_cons.2 ⟨rfl, fun _ h => nomatch h⟩)⟩))); (have XF := putA_below (k := jz) (#[.int .i64 lN, .int .i64 hN] : Array Value).toList v0 vy 0 XB hzv); (have ZF := Z.putW (U := #[.int .i64 lN, .int .i64 hN]) rfl); (generalize putA vy jz 0 (#[.int .i64 lN, .int .i64 hN] : Array Value).toList = vf at *)
   refine hK.out _ _ ?_ (fun hHeld => ?_)
   ·first | exact SK.out _ XB | exact SK.out _ (Below.drew (Below.refl _ _)) | exact SK.out _ XF
   clear hK K
   (try simp only [Act.put, zSb, zS0, zS1])
   refine wpAnyH_ready (rs := [17]) (by kernel_rfl) (by simp) ?_
   refine (AllReadyH.cons (by rw [List.getElem?_toArray]; rfl) (fun K hK => ?_) AllReadyH.nil)
   go_simp
   refine hK.out _ _ ?_ (fun hHeld => ?_)
   ·first | exact SK.out _ XB | exact SK.out _ (Below.drew (Below.refl _ _)) | exact SK.out _ XF
   clear hK K
   (try simp only [Act.put, zSb, zS0, zS1])
   refine zTk 18 ?_
   refine wpAnyH_done (by kernel_rfl) ?_ _
   go_wp2_with (rw [hst])
   go_meet
   case rel => exact ⟨jz, rfl, rfl, ZF, hzv, XF⟩
  ·go_simp
   (have Z := Bo.new vx (#[.int .i64 0, .int .i64 0]) 87); (have NL := Below.nw vx (.cells (#[.int .i64 0, .int .i64 0]) 87)); (have hzv : v0.heap.size ≤ vx.heap.size := XB.size); (replace XB := XB.trans (NL.mono XB.size)); (clear NL); (generalize vx.alloc (.cells (#[.int .i64 0, .int .i64 0]) 87) = vy at *); (generalize vx.heap.size = jz at *)
   refine hK.out _ _ ?_ (fun hHeld => ?_)
   ·first | exact SK.out _ XB | exact SK.out _ (Below.drew (Below.refl _ _)) | exact SK.out _ XF
   clear hK K
   (try simp only [Act.put, zSb, zS0, zS1])
   refine wpAnyH_ready (rs := [12]) (by kernel_rfl) (by simp) ?_
   refine (AllReadyH.cons (by rw [List.getElem?_toArray]; rfl) (fun K hK => ?_) AllReadyH.nil)
   go_simp
   refine (CN vy (B.trans (XB.mono B.size))).mono ?_; rintro ee vs ⟨rfl, hbl⟩; (replace XB := XB.trans (hbl.mono XB.size)); (replace Z := Z.below hbl); (clear hbl); (have hst : (storeCells ⟨jz, 0, none⟩ ([.int .i64 lN, .int .i64 hN])).run Tryz.prog vs = .ok () (putA vs jz 0 (#[.int .i64 lN, .int .i64 hN] : Array Value).toList) := Bo.store (P := Tryz.prog) (b := 0) (#[.int .i64 lN, .int .i64 hN] : Array Value).toList 0 0 Z rfl (show 0 + 2 ≤ 2 by decide) (show ∀ u ∈ ([.int .i64 lN, .int .i64 hN] : List Value), u.oneCell' = true from (List.forall_mem_cons.2 ⟨rfl, (List.forall_mem_cons.2 ⟨rfl, fun _ h => nomatch h⟩)⟩))); (have XF := putA_below (k := jz) (#[.int .i64 lN, .int .i64 hN] : Array Value).toList v0 vs 0 XB hzv); (have ZF := Z.putW (U := #[.int .i64 lN, .int .i64 hN]) rfl); (generalize putA vs jz 0 (#[.int .i64 lN, .int .i64 hN] : Array Value).toList = vf at *)
   (try go_wp2_with fail)
   refine hK.out _ _ ?_ (fun hHeld => ?_)
   ·first | exact SK.out _ XB | exact SK.out _ (Below.drew (Below.refl _ _)) | exact SK.out _ XF
   clear hK K
   (try simp only [Act.put, zSb, zS0, zS1])
   refine zTk 13 ?_
   refine zTk 14 ?_
   refine zTk 15 ?_
   refine wpAnyH_ready (rs := [17]) (by kernel_rfl) (by simp) ?_
   refine (AllReadyH.cons (by rw [List.getElem?_toArray]; rfl) (fun K hK => ?_) AllReadyH.nil)
   go_simp
   refine hK.out _ _ ?_ (fun hHeld => ?_)
   ·first | exact SK.out _ XB | exact SK.out _ (Below.drew (Below.refl _ _)) | exact SK.out _ XF
   clear hK K
   (try simp only [Act.put, zSb, zS0, zS1])
   refine zTk 18 ?_
   refine wpAnyH_done (by kernel_rfl) ?_ _
   go_wp2_with (rw [hst])
   go_meet
   case rel => exact ⟨jz, rfl, rfl, ZF, hzv, XF⟩
 case rest =>
 obtain ⟨kQ, rfl, rfl, Q, hjQ, hb⟩ := hcut
 clear SK
 have gQL : w.heap.size < v0.heap.size := L.1
 have gQR : w.heap.size + 1 < v0.heap.size := R.1
 generalize wc = v1 at *
 replace B := B.trans (hb.mono B.size)
 replace L := L.below hb
 replace R := R.below hb
 clear hb
 have hL0 := Q.load (P := Tryz.prog) (show (#[.int .i64 lN, .int .i64 hN] : Array Value).size = 2 from rfl)
 have hst := Bo.store (P := Tryz.prog) (b := 0) ([.bool (cN == 0), .int .i64 lN, .int .i64 hN]) 0 0 R rfl (show 0 + 3 ≤ 3 by decide) (List.forall_mem_cons.2 ⟨rfl, (List.forall_mem_cons.2 ⟨rfl, (List.forall_mem_cons.2 ⟨rfl, fun _ h => nomatch h⟩)⟩)⟩)
 have hb : Btw (w.heap.size + 1) (w.heap.size + 1 + 1) v1 _ := putA_btw ([.bool (cN == 0), .int .i64 lN, .int .i64 hN]) v1 0 (w.heap.size + 1)
 have B1 := putA_below (k := w.heap.size + 1) ([.bool (cN == 0), .int .i64 lN, .int .i64 hN]) w v1 0 B (by omega)
 have N1 : Bo (putA v1 (w.heap.size + 1) 0 ([.bool (cN == 0), .int .i64 lN, .int .i64 hN])) (w.heap.size + 1) (#[.bool (cN == 0), .int .i64 lN, .int .i64 hN]) := Bo.put ([.bool (cN == 0), .int .i64 lN, .int .i64 hN]) 0 R
 go_wp2_with (first | rw [hL0] | rw [hst])
 clear hst hL0 R B
 replace L := L.btw hb (by omega)
 replace Q := Q.btw hb (by omega)
 clear hb
 generalize putA v1 (w.heap.size + 1) 0 ([.bool (cN == 0), .int .i64 lN, .int .i64 hN]) = v2 at *
 have B := B1
 have R := N1
 clear B1 N1
 have hL0 := R.load (P := Tryz.prog) (show (#[.bool (cN == 0), .int .i64 lN, .int .i64 hN] : Array Value).size = 3 from rfl)
 exact bodyPost_ret (v := .agg #[.bool (cN == 0), .int .i64 lN, .int .i64 hN]) (by simp [results, Tryz.results77, go_sem]; rw [hL0]; rfl) rfl ⟨rfl, B⟩
end Go.Proofs.YtddijpjgkifngaaGreat
