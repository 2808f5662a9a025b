/- A node while a call works on it: what it knows, learns, is told and reads (the program). -/
import Derived.Laws.EntriesVeiled
import Derived.Test.YtfhappkeipcemaaGreatM0
import Derived.Test.YtfhappkeipcemaaGreatM51
import Derived.Test.YtfhappkeipcemaaGreatM52
namespace Go.Proofs.YtfhappkeipcemaaGreat
open Go.RowKit
set_option linter.unusedVariables false
theorem wk_life (y : CfX) (x : NdX) (ct : Int) (p : Option Addr) (d : Nat) (aa : Option Addr) (ac : Nat) (pa : Option Addr) (pc : Nat) (ha : Option Addr) (hc : Nat) (a b c : Int) : spl (wkV y x ct p d aa ac pa pc ha hc) 18 [.int .i64 a, .int .i64 b, .int .i64 c] = wkV y { x with mo := a, ep := b, si := c } ct p d aa ac pa pc ha hc := by
  simp only [wkV, spl, List.setIfInBounds_toArray, List.set_cons_zero, List.set_cons_succ]
theorem wk_local (y : CfX) (x : NdX) (ct : Int) (p : Option Addr) (d : Nat) (aa : Option Addr) (ac : Nat) (pa : Option Addr) (pc : Nat) (ha : Option Addr) (hc : Nat) (lk : Bool) (ll lh lt : Int) : spl (wkV y x ct p d aa ac pa pc ha hc) 21 [.bool lk, .int .i64 ll, .int .i64 lh, .int .i64 lt] = wkV y { x with kn := lk, lo := ll, hi := lh, la := lt } ct p d aa ac pa pc ha hc := by
  simp only [wkV, spl, List.setIfInBounds_toArray, List.set_cons_zero, List.set_cons_succ]
attribute [-go_sem] loadCells storeCells in
set_option maxRecDepth 100000 in
set_option maxHeartbeats 8000000 in
theorem wkGo (y : CfX) (x : NdX) (ct : Int) (p : Option Addr) (d : Nat) (aa : Option Addr) (ac : Nat) (pa : Option Addr) (pc : Nat) (ha : Option Addr) (hc k : Nat) (kd : Int) (w : World) (HK : Bo w k (wkV y x ct p d aa ac pa pc ha hc)) :
    Calls Tryz.prog 134 #[.pointer (some ⟨k, 0, none⟩), .int .i64 kd] w fun e w' => e = .returned (.tuple #[]) ∧ Bo w' k (wkV y { x with mo := stM x.mo x.ep x.si kd ct, ep := stE x.mo x.ep x.si kd ct, si := stS x.mo x.ep x.si kd ct } ct p d aa ac pa pc ha hc) ∧ Btw k (k + 1) w w' := by
  have CL := fun v => implLifeStep_any x.mo x.ep x.si kd ct v
  go_enter Tryz.func134, Tryz.ntmps134
  go_upto_region 0 with fail
  refine wp_region_held_drew (S := (fun w' => w'.cell? ⟨k, 16, none⟩ = some (.int .i64 ct))) (by kernel_rfl) ?_ (fun hHeld => ?_)
  · first | exact hS2 | exact hS1 | exact hS | exact HK.cell rfl
  have XB : Below w.heap.size w w.drew := Below.drew (Below.refl _ _)
  have KW := HK.below XB
  clear HK
  generalize w.drew = vx at *
  have hS := KW.cell (i := 16) (u := .int .i64 ct) rfl
  have hL : (loadCells ⟨k, 18, none⟩ 3).run Tryz.prog vx = .ok #[.int .i64 x.mo, .int .i64 x.ep, .int .i64 x.si] vx := KW.loadAt (P := Tryz.prog) 18 3 (show 18 + 3 ≤ 28 by decide)
  refine zTk 0 ?_
  (try simp only [Act.put, zSb, zS0, zS1])
  refine zTk 1 ?_
  (try simp only [Act.put, zSb, zS0, zS1])
  refine zTk 2 ?_
  (try simp only [Act.put, zSb, zS0, zS1])
  refine zTk 3 ?_
  (try simp only [Act.put, zSb, zS0, zS1])
  refine zTk 5 ?_
  (try simp only [Act.put, zSb, zS0, zS1])
  refine zTk 6 ?_
  (try simp only [Act.put, zSb, zS0, zS1])
  refine zTk 7 ?_
  (try simp only [Act.put, zSb, zS0, zS1])
  refine zTk 8 ?_
  (try simp only [Act.put, zSb, zS0, zS1])
  refine zTk 9 ?_
  (try simp only [Act.put, zSb, zS0, zS1])
  refine zTk 10 ?_
  (try simp only [Act.put, zSb, zS0, zS1])
  refine wpAnyH_ready (rs := [4]) (by kernel_rfl) (by simp) ?_
  refine (AllReadyH.cons (by rw [List.getElem?_toArray]; rfl) (fun K hK => ?_) AllReadyH.nil)
  go_simp
  refine hK.out _ _ ?_ (fun hHeld => ?_)
  · first | exact hS2 | exact hS1 | exact hS | exact HK.cell rfl
  clear hK K
  (try simp only [Act.put, zSb, zS0, zS1])
  refine wpAnyH_ready (rs := [11]) (by kernel_rfl) (by simp) ?_
  refine (AllReadyH.cons (by rw [List.getElem?_toArray]; rfl) (fun K hK => ?_) AllReadyH.nil)
  go_simp
  refine (CL vx).mono ?_; rintro ee vs ⟨rfl, hbl⟩; (replace XB := XB.trans (hbl.mono XB.size)); (have K1 := KW.below hbl); (have hS1 := K1.cell (i := 16) (u := .int .i64 ct) rfl); (have hst := Bo.store (P := Tryz.prog) (b := 18) ([.int .i64 (stM x.mo x.ep x.si kd ct), .int .i64 (stE x.mo x.ep x.si kd ct), .int .i64 (stS x.mo x.ep x.si kd ct)]) 18 0 K1 rfl (show 18 + 3 ≤ 28 by decide) (List.forall_mem_cons.2 ⟨rfl, (List.forall_mem_cons.2 ⟨rfl, (List.forall_mem_cons.2 ⟨rfl, fun _ h => nomatch h⟩)⟩)⟩)); (have KF := Bo.put ([.int .i64 (stM x.mo x.ep x.si kd ct), .int .i64 (stE x.mo x.ep x.si kd ct), .int .i64 (stS x.mo x.ep x.si kd ct)]) 18 K1); (rw [wk_life] at KF); (have XF : Btw k (k + 1) w (putA vs k 18 ([.int .i64 (stM x.mo x.ep x.si kd ct), .int .i64 (stE x.mo x.ep x.si kd ct), .int .i64 (stS x.mo x.ep x.si kd ct)])) := (Btw.ofBelow XB).trans (putA_btw ([.int .i64 (stM x.mo x.ep x.si kd ct), .int .i64 (stE x.mo x.ep x.si kd ct), .int .i64 (stS x.mo x.ep x.si kd ct)]) vs 18 k)); (clear hbl hL KW); (generalize putA vs k 18 ([.int .i64 (stM x.mo x.ep x.si kd ct), .int .i64 (stE x.mo x.ep x.si kd ct), .int .i64 (stS x.mo x.ep x.si kd ct)]) = vf at *); (have hS2 := KF.cell (i := 16) (u := .int .i64 ct) rfl)
  (try go_wp2_with fail)
  refine hK.out _ _ ?_ (fun hHeld => ?_)
  · first | exact hS2 | exact hS1 | exact hS | exact HK.cell rfl
  clear hK K
  (try simp only [Act.put, zSb, zS0, zS1])
  refine zTk 12 ?_
  (try simp only [Act.put, zSb, zS0, zS1])
  refine zTk 13 ?_
  (try simp only [Act.put, zSb, zS0, zS1])
  refine zTk 14 ?_
  (try simp only [Act.put, zSb, zS0, zS1])
  refine zTk 15 ?_
  (try simp only [Act.put, zSb, zS0, zS1])
  refine zTk 16 ?_
  (try simp only [Act.put, zSb, zS0, zS1])
  refine wpAnyH_ready (rs := [17]) (by kernel_rfl) (by simp) ?_
  refine (AllReadyH.cons (by rw [List.getElem?_toArray]; rfl) (fun K hK => ?_) AllReadyH.nil)
  go_simp
  refine hK.out _ _ ?_ (fun hHeld => ?_)
  · first | exact hS2 | exact hS1 | exact hS | exact HK.cell rfl
  clear hK K
  (try simp only [Act.put, zSb, zS0, zS1])
  refine wpAnyH_done (by kernel_rfl) ?_ _
  go_wp2_with (rw [hst])
  exact bodyPost_end (v := .tuple #[]) (by simp [results, Tryz.results134, go_sem]) rfl ⟨rfl, KF, XF⟩
attribute [-go_sem] loadCells storeCells in
set_option maxRecDepth 100000 in
set_option maxHeartbeats 8000000 in
theorem wkLearn (y : CfX) (x : NdX) (ct : Int) (p : Option Addr) (d : Nat) (aa : Option Addr) (ac : Nat) (pa : Option Addr) (pc : Nat) (ha : Option Addr) (hc k : Nat) (lk : Bool) (ll lh lt : Int) (w : World) (HK : Bo w k (wkV y x ct p d aa ac pa pc ha hc)) :
    Calls Tryz.prog 124 #[.pointer (some ⟨k, 0, none⟩), .agg #[.bool lk, .int .i64 ll, .int .i64 lh, .int .i64 lt]] w fun e w' => e = .returned (.tuple #[]) ∧ Bo w' k (wkV y { x with kn := lk, lo := ll, hi := lh, la := lt, mo := stM x.mo x.ep x.si 3 ct, ep := stE x.mo x.ep x.si 3 ct, si := stS x.mo x.ep x.si 3 ct } ct p d aa ac pa pc ha hc) ∧ Btw k (k + 1) w w' := by
  have hk := HK.1
  have A0 := Below.nw w (.cells #[.bool lk, .int .i64 ll, .int .i64 lh, .int .i64 lt] 58)
  have I := Bo.new w #[.bool lk, .int .i64 ll, .int .i64 lh, .int .i64 lt] 58
  have K := HK.below A0
  have X := Btw.ofBelow (lo := k) (hi := k + 1) A0
  clear A0 HK
  go_enter Tryz.func124, Tryz.ntmps124
  go_upto_region 1 with fail
  generalize w.alloc (.cells #[.bool lk, .int .i64 ll, .int .i64 lh, .int .i64 lt] 58) = v0 at *
  have hL := I.load (P := Tryz.prog) (show (#[.bool lk, .int .i64 ll, .int .i64 lh, .int .i64 lt] : Array Value).size = 4 from rfl)
  have hst := Bo.store (P := Tryz.prog) (b := 21) ([.bool lk, .int .i64 ll, .int .i64 lh, .int .i64 lt]) 21 0 K rfl (show 21 + 4 ≤ 28 by decide) (List.forall_mem_cons.2 ⟨rfl, (List.forall_mem_cons.2 ⟨rfl, (List.forall_mem_cons.2 ⟨rfl, (List.forall_mem_cons.2 ⟨rfl, fun _ h => nomatch h⟩)⟩)⟩)⟩)
  have KF := Bo.put ([.bool lk, .int .i64 ll, .int .i64 lh, .int .i64 lt]) 21 K
  rw [wk_local] at KF
  have XF := X.trans (putA_btw ([.bool lk, .int .i64 ll, .int .i64 lh, .int .i64 lt]) v0 21 k)
  go_upto_region 2 with (first | rw [hL] | rw [hst])
  clear hL hst K X I
  generalize putA v0 k 21 ([.bool lk, .int .i64 ll, .int .i64 lh, .int .i64 lt]) = v1 at *
  go_wp2_with fail
  refine (wkGo y ({ x with kn := lk, lo := ll, hi := lh, la := lt }) ct p d aa ac pa pc ha hc k 3 v1 KF).mono ?_
  rintro e v2 ⟨rfl, KG, XG⟩
  go_wp2_with fail
  exact bodyPost_end (v := .tuple #[]) (by simp [results, Tryz.results124, go_sem]) rfl ⟨rfl, KG, XF.trans XG⟩
def pfC (y : CfX) (x : NdX) (ct ia ib : Int) : Int := match nwC x.kn x.lo x.hi x.la y.dn y.dd ct ia ib == 4 with | true => 10 | false => (match nwC x.kn x.lo x.hi x.la y.dn y.dd ct ia ib == 5 with | true => 3 | false => 0)
def pfX (y : CfX) (x : NdX) (ct ia ib : Int) : NdX := match nwC x.kn x.lo x.hi x.la y.dn y.dd ct ia ib == 4 with | true => x | false => (match nwC x.kn x.lo x.hi x.la y.dn y.dd ct ia ib == 5 with | true => x | false => { x with kn := nwK x.kn x.lo x.hi x.la y.dn y.dd ct ia ib, lo := nwLo x.kn x.lo x.hi x.la y.dn y.dd ct ia ib, hi := nwH x.kn x.lo x.hi x.la y.dn y.dd ct ia ib, la := nwA x.kn x.lo x.hi x.la y.dn y.dd ct ia ib, mo := stM x.mo x.ep x.si 3 ct, ep := stE x.mo x.ep x.si 3 ct, si := stS x.mo x.ep x.si 3 ct })
attribute [-go_sem] loadCells storeCells in
set_option maxRecDepth 100000 in
set_option maxHeartbeats 8000000 in
theorem wkFix (y : CfX) (x : NdX) (ct : Int) (p : Option Addr) (d : Nat) (aa : Option Addr) (ac : Nat) (pa : Option Addr) (pc : Nat) (ha : Option Addr) (hc k : Nat) (ia ib : Int) (w : World) (HK : Bo w k (wkV y x ct p d aa ac pa pc ha hc)) :
    Calls Tryz.prog 71 #[.pointer (some ⟨k, 0, none⟩), .agg #[.int .i64 ia, .int .i64 ib]] w fun e w' => e = .returned (.int .i64 (pfC y x ct ia ib)) ∧ Bo w' k (wkV y (pfX y x ct ia ib) ct p d aa ac pa pc ha hc) ∧ Btw k (k + 1) w w' := by
  have CN := fun v => implNarrow_any x.kn x.lo x.hi x.la y.dn y.dd ct ia ib v
  cases h4 : nwC x.kn x.lo x.hi x.la y.dn y.dd ct ia ib == 4
  rotate_left
  · skip
    have e1 : pfC y x ct ia ib = 10 := by unfold pfC; rw [h4]
    have e2 : pfX y x ct ia ib = x := by unfold pfX; rw [h4]
    rw [e1, e2]
    clear e1 e2
    have hk := HK.1
    have A0 := Below.nw w (.cells #[.int .i64 ia, .int .i64 ib] 46)
    have I := Bo.new w #[.int .i64 ia, .int .i64 ib] 46
    have B := A0
    clear A0
    have KW := (HK.below (Below.nw w (.cells #[.int .i64 ia, .int .i64 ib] 46)))
    clear HK
    go_enter Tryz.func71, Tryz.ntmps71
    go_upto_region 1 with fail
    generalize w.alloc (.cells #[.int .i64 ia, .int .i64 ib] 46) = v0 at *
    go_upto_region 1 with fail
    have SK : Hid (∀ w', Below v0.heap.size v0 w' → (fun w' => (loadCells ⟨k, 21, none⟩ 4).run Tryz.prog w' = .ok #[.bool x.kn, .int .i64 x.lo, .int .i64 x.hi, .int .i64 x.la] w' ∧ (loadCells ⟨k, 5, none⟩ 2).run Tryz.prog w' = .ok #[.int .i64 y.dn, .int .i64 y.dd] w' ∧ w'.cell? ⟨k, 16, none⟩ = some (.int .i64 ct) ∧ (loadCells ⟨w.heap.size, 0, none⟩ 2).run Tryz.prog w' = .ok #[.int .i64 ia, .int .i64 ib] w') w') := fun w' hw => ⟨(KW.below hw).loadAt (P := Tryz.prog) 21 4 (show 21 + 4 ≤ 28 by decide), (KW.below hw).loadAt (P := Tryz.prog) 5 2 (show 5 + 2 ≤ 28 by decide), (KW.below hw).cell rfl, (I.below hw).loadAt (P := Tryz.prog) 0 2 (show 0 + 2 ≤ 2 by decide)⟩
    go_cut [5, 6] (fun s5 s6 wx => ∃ (j : Nat), s5 = .pointer (some ⟨j, 0, none⟩) ∧ s6 = .int .i64 (nwC x.kn x.lo x.hi x.la y.dn y.dd ct ia ib) ∧ Bo wx j (#[.bool (nwK x.kn x.lo x.hi x.la y.dn y.dd ct ia ib), .int .i64 (nwLo x.kn x.lo x.hi x.la y.dn y.dd ct ia ib), .int .i64 (nwH x.kn x.lo x.hi x.la y.dn y.dd ct ia ib), .int .i64 (nwA x.kn x.lo x.hi x.la y.dn y.dd ct ia ib)]) ∧ v0.heap.size ≤ j ∧ Below v0.heap.size v0 wx)
    case first => as_aux_lemma =>
      refine wp_region_held_drew (S := (fun w' => (loadCells ⟨k, 21, none⟩ 4).run Tryz.prog w' = .ok #[.bool x.kn, .int .i64 x.lo, .int .i64 x.hi, .int .i64 x.la] w' ∧ (loadCells ⟨k, 5, none⟩ 2).run Tryz.prog w' = .ok #[.int .i64 y.dn, .int .i64 y.dd] w' ∧ w'.cell? ⟨k, 16, none⟩ = some (.int .i64 ct) ∧ (loadCells ⟨w.heap.size, 0, none⟩ 2).run Tryz.prog w' = .ok #[.int .i64 ia, .int .i64 ib] w')) (by kernel_rfl) ?_ (fun hHeld => ?_)
      · first | exact SK.out _ XB | exact SK.out _ (Below.drew (Below.refl _ _)) | exact SK.out _ XF
      have XB : Below v0.heap.size v0 v0.drew := Below.drew (Below.refl _ _)
      generalize v0.drew = vx at *
      refine zTk 0 ?_
      (try simp only [Act.put, zSb, zS0, zS1])
      refine zTk 1 ?_
      (try simp only [Act.put, zSb, zS0, zS1])
      refine zTk 2 ?_
      (try simp only [Act.put, zSb, zS0, zS1])
      refine zTk 3 ?_
      (try simp only [Act.put, zSb, zS0, zS1])
      refine zTk 4 ?_
      (try simp only [Act.put, zSb, zS0, zS1])
      refine zTk 5 ?_
      (try simp only [Act.put, zSb, zS0, zS1])
      refine zTk 6 ?_
      (try simp only [Act.put, zSb, zS0, zS1])
      refine zTk 7 ?_
      (try simp only [Act.put, zSb, zS0, zS1])
      refine zTk 8 ?_
      (try simp only [Act.put, zSb, zS0, zS1])
      refine zTk 9 ?_
      (try simp only [Act.put, zSb, zS0, zS1])
      refine zTk 10 ?_
      (try simp only [Act.put, zSb, zS0, zS1])
      refine zTk 11 ?_
      (try simp only [Act.put, zSb, zS0, zS1])
      refine zTk 12 ?_
      (try simp only [Act.put, zSb, zS0, zS1])
      refine zTk 13 ?_
      (try simp only [Act.put, zSb, zS0, zS1])
      refine wpAnyH_ready (rs := [14, 18]) (by kernel_rfl) (by simp) ?_
      refine (AllReadyH.cons (by rw [List.getElem?_toArray]; rfl) (fun K hK => ?_) (AllReadyH.cons (by rw [List.getElem?_toArray]; rfl) (fun K hK => ?_) AllReadyH.nil))
      · go_simp
        refine (CN vx).mono ?_; rintro ee vs ⟨rfl, hbl⟩; (replace XB := XB.trans (hbl.mono XB.size)); (clear hbl)
        (try go_wp2_with fail)
        refine hK.out _ _ ?_ (fun hHeld => ?_)
        · first | exact SK.out _ XB | exact SK.out _ (Below.drew (Below.refl _ _)) | exact SK.out _ XF
        clear hK K
        (try simp only [Act.put, zSb, zS0, zS1])
        refine zTk 15 ?_
        (try simp only [Act.put, zSb, zS0, zS1])
        refine zTk 16 ?_
        (try simp only [Act.put, zSb, zS0, zS1])
        refine zTk 17 ?_
        (try simp only [Act.put, zSb, zS0, zS1])
        refine wpAnyH_ready (rs := [18]) (by kernel_rfl) (by simp) ?_
        refine (AllReadyH.cons (by rw [List.getElem?_toArray]; rfl) (fun K hK => ?_) AllReadyH.nil)
        go_simp
        (have Z := Bo.new vs (#[.bool false, .int .i64 0, .int .i64 0, .int .i64 0]) 58); (have NL := Below.nw vs (.cells (#[.bool false, .int .i64 0, .int .i64 0, .int .i64 0]) 58)); (have hzv : v0.heap.size ≤ vs.heap.size := XB.size); (replace XB := XB.trans (NL.mono XB.size)); (clear NL); (generalize vs.alloc (.cells (#[.bool false, .int .i64 0, .int .i64 0, .int .i64 0]) 58) = vy at *); (generalize vs.heap.size = jz at *); (have hst : (storeCells ⟨jz, 0, none⟩ ([.bool (nwK x.kn x.lo x.hi x.la y.dn y.dd ct ia ib), .int .i64 (nwLo x.kn x.lo x.hi x.la y.dn y.dd ct ia ib), .int .i64 (nwH x.kn x.lo x.hi x.la y.dn y.dd ct ia ib), .int .i64 (nwA x.kn x.lo x.hi x.la y.dn y.dd ct ia ib)])).run Tryz.prog vy = .ok () (putA vy jz 0 (#[.bool (nwK x.kn x.lo x.hi x.la y.dn y.dd ct ia ib), .int .i64 (nwLo x.kn x.lo x.hi x.la y.dn y.dd ct ia ib), .int .i64 (nwH x.kn x.lo x.hi x.la y.dn y.dd ct ia ib), .int .i64 (nwA x.kn x.lo x.hi x.la y.dn y.dd ct ia ib)] : Array Value).toList) := Bo.store (P := Tryz.prog) (b := 0) (#[.bool (nwK x.kn x.lo x.hi x.la y.dn y.dd ct ia ib), .int .i64 (nwLo x.kn x.lo x.hi x.la y.dn y.dd ct ia ib), .int .i64 (nwH x.kn x.lo x.hi x.la y.dn y.dd ct ia ib), .int .i64 (nwA x.kn x.lo x.hi x.la y.dn y.dd ct ia ib)] : Array Value).toList 0 0 Z rfl (show 0 + 4 ≤ 4 by decide) (show ∀ u ∈ ([.bool (nwK x.kn x.lo x.hi x.la y.dn y.dd ct ia ib), .int .i64 (nwLo x.kn x.lo x.hi x.la y.dn y.dd ct ia ib), .int .i64 (nwH x.kn x.lo x.hi x.la y.dn y.dd ct ia ib), .int .i64 (nwA x.kn x.lo x.hi x.la y.dn y.dd ct ia ib)] : List Value), u.oneCell' = true from (List.forall_mem_cons.2 ⟨rfl, (List.forall_mem_cons.2 ⟨rfl, (List.forall_mem_cons.2 ⟨rfl, (List.forall_mem_cons.2 ⟨rfl, fun _ h => nomatch h⟩)⟩)⟩)⟩))); (have XF := putA_below (k := jz) (#[.bool (nwK x.kn x.lo x.hi x.la y.dn y.dd ct ia ib), .int .i64 (nwLo x.kn x.lo x.hi x.la y.dn y.dd ct ia ib), .int .i64 (nwH x.kn x.lo x.hi x.la y.dn y.dd ct ia ib), .int .i64 (nwA x.kn x.lo x.hi x.la y.dn y.dd ct ia ib)] : Array Value).toList v0 vy 0 XB hzv); (have ZF := Z.putW (U := #[.bool (nwK x.kn x.lo x.hi x.la y.dn y.dd ct ia ib), .int .i64 (nwLo x.kn x.lo x.hi x.la y.dn y.dd ct ia ib), .int .i64 (nwH x.kn x.lo x.hi x.la y.dn y.dd ct ia ib), .int .i64 (nwA x.kn x.lo x.hi x.la y.dn y.dd ct ia ib)]) rfl); (generalize putA vy jz 0 (#[.bool (nwK x.kn x.lo x.hi x.la y.dn y.dd ct ia ib), .int .i64 (nwLo x.kn x.lo x.hi x.la y.dn y.dd ct ia ib), .int .i64 (nwH x.kn x.lo x.hi x.la y.dn y.dd ct ia ib), .int .i64 (nwA x.kn x.lo x.hi x.la y.dn y.dd ct ia ib)] : Array Value).toList = vf at *)
        refine hK.out _ _ ?_ (fun hHeld => ?_)
        · first | exact SK.out _ XB | exact SK.out _ (Below.drew (Below.refl _ _)) | exact SK.out _ XF
        clear hK K
        (try simp only [Act.put, zSb, zS0, zS1])
        refine wpAnyH_ready (rs := [19]) (by kernel_rfl) (by simp) ?_
        refine (AllReadyH.cons (by rw [List.getElem?_toArray]; rfl) (fun K hK => ?_) AllReadyH.nil)
        go_simp
        refine hK.out _ _ ?_ (fun hHeld => ?_)
        · first | exact SK.out _ XB | exact SK.out _ (Below.drew (Below.refl _ _)) | exact SK.out _ XF
        clear hK K
        (try simp only [Act.put, zSb, zS0, zS1])
        refine zTk 20 ?_
        (try simp only [Act.put, zSb, zS0, zS1])
        refine wpAnyH_done (by kernel_rfl) ?_ _
        go_wp2_with (rw [hst])
        go_meet
        case rel => exact ⟨jz, rfl, rfl, ZF, hzv, XF⟩
      · go_simp
        (have Z := Bo.new vx (#[.bool false, .int .i64 0, .int .i64 0, .int .i64 0]) 58); (have NL := Below.nw vx (.cells (#[.bool false, .int .i64 0, .int .i64 0, .int .i64 0]) 58)); (have hzv : v0.heap.size ≤ vx.heap.size := XB.size); (replace XB := XB.trans (NL.mono XB.size)); (clear NL); (generalize vx.alloc (.cells (#[.bool false, .int .i64 0, .int .i64 0, .int .i64 0]) 58) = vy at *); (generalize vx.heap.size = jz at *)
        refine hK.out _ _ ?_ (fun hHeld => ?_)
        · first | exact SK.out _ XB | exact SK.out _ (Below.drew (Below.refl _ _)) | exact SK.out _ XF
        clear hK K
        (try simp only [Act.put, zSb, zS0, zS1])
        refine wpAnyH_ready (rs := [14]) (by kernel_rfl) (by simp) ?_
        refine (AllReadyH.cons (by rw [List.getElem?_toArray]; rfl) (fun K hK => ?_) AllReadyH.nil)
        go_simp
        refine (CN vy).mono ?_; rintro ee vs ⟨rfl, hbl⟩; (replace XB := XB.trans (hbl.mono XB.size)); (replace Z := Z.below hbl); (clear hbl); (have hst : (storeCells ⟨jz, 0, none⟩ ([.bool (nwK x.kn x.lo x.hi x.la y.dn y.dd ct ia ib), .int .i64 (nwLo x.kn x.lo x.hi x.la y.dn y.dd ct ia ib), .int .i64 (nwH x.kn x.lo x.hi x.la y.dn y.dd ct ia ib), .int .i64 (nwA x.kn x.lo x.hi x.la y.dn y.dd ct ia ib)])).run Tryz.prog vs = .ok () (putA vs jz 0 (#[.bool (nwK x.kn x.lo x.hi x.la y.dn y.dd ct ia ib), .int .i64 (nwLo x.kn x.lo x.hi x.la y.dn y.dd ct ia ib), .int .i64 (nwH x.kn x.lo x.hi x.la y.dn y.dd ct ia ib), .int .i64 (nwA x.kn x.lo x.hi x.la y.dn y.dd ct ia ib)] : Array Value).toList) := Bo.store (P := Tryz.prog) (b := 0) (#[.bool (nwK x.kn x.lo x.hi x.la y.dn y.dd ct ia ib), .int .i64 (nwLo x.kn x.lo x.hi x.la y.dn y.dd ct ia ib), .int .i64 (nwH x.kn x.lo x.hi x.la y.dn y.dd ct ia ib), .int .i64 (nwA x.kn x.lo x.hi x.la y.dn y.dd ct ia ib)] : Array Value).toList 0 0 Z rfl (show 0 + 4 ≤ 4 by decide) (show ∀ u ∈ ([.bool (nwK x.kn x.lo x.hi x.la y.dn y.dd ct ia ib), .int .i64 (nwLo x.kn x.lo x.hi x.la y.dn y.dd ct ia ib), .int .i64 (nwH x.kn x.lo x.hi x.la y.dn y.dd ct ia ib), .int .i64 (nwA x.kn x.lo x.hi x.la y.dn y.dd ct ia ib)] : List Value), u.oneCell' = true from (List.forall_mem_cons.2 ⟨rfl, (List.forall_mem_cons.2 ⟨rfl, (List.forall_mem_cons.2 ⟨rfl, (List.forall_mem_cons.2 ⟨rfl, fun _ h => nomatch h⟩)⟩)⟩)⟩))); (have XF := putA_below (k := jz) (#[.bool (nwK x.kn x.lo x.hi x.la y.dn y.dd ct ia ib), .int .i64 (nwLo x.kn x.lo x.hi x.la y.dn y.dd ct ia ib), .int .i64 (nwH x.kn x.lo x.hi x.la y.dn y.dd ct ia ib), .int .i64 (nwA x.kn x.lo x.hi x.la y.dn y.dd ct ia ib)] : Array Value).toList v0 vs 0 XB hzv); (have ZF := Z.putW (U := #[.bool (nwK x.kn x.lo x.hi x.la y.dn y.dd ct ia ib), .int .i64 (nwLo x.kn x.lo x.hi x.la y.dn y.dd ct ia ib), .int .i64 (nwH x.kn x.lo x.hi x.la y.dn y.dd ct ia ib), .int .i64 (nwA x.kn x.lo x.hi x.la y.dn y.dd ct ia ib)]) rfl); (generalize putA vs jz 0 (#[.bool (nwK x.kn x.lo x.hi x.la y.dn y.dd ct ia ib), .int .i64 (nwLo x.kn x.lo x.hi x.la y.dn y.dd ct ia ib), .int .i64 (nwH x.kn x.lo x.hi x.la y.dn y.dd ct ia ib), .int .i64 (nwA x.kn x.lo x.hi x.la y.dn y.dd ct ia ib)] : Array Value).toList = vf at *)
        (try go_wp2_with fail)
        refine hK.out _ _ ?_ (fun hHeld => ?_)
        · first | exact SK.out _ XB | exact SK.out _ (Below.drew (Below.refl _ _)) | exact SK.out _ XF
        clear hK K
        (try simp only [Act.put, zSb, zS0, zS1])
        refine zTk 15 ?_
        (try simp only [Act.put, zSb, zS0, zS1])
        refine zTk 16 ?_
        (try simp only [Act.put, zSb, zS0, zS1])
        refine zTk 17 ?_
        (try simp only [Act.put, zSb, zS0, zS1])
        refine wpAnyH_ready (rs := [19]) (by kernel_rfl) (by simp) ?_
        refine (AllReadyH.cons (by rw [List.getElem?_toArray]; rfl) (fun K hK => ?_) AllReadyH.nil)
        go_simp
        refine hK.out _ _ ?_ (fun hHeld => ?_)
        · first | exact SK.out _ XB | exact SK.out _ (Below.drew (Below.refl _ _)) | exact SK.out _ XF
        clear hK K
        (try simp only [Act.put, zSb, zS0, zS1])
        refine zTk 20 ?_
        (try simp only [Act.put, zSb, zS0, zS1])
        refine wpAnyH_done (by kernel_rfl) ?_ _
        go_wp2_with (rw [hst])
        go_meet
        case rel => exact ⟨jz, rfl, rfl, ZF, hzv, XF⟩
    case rest =>
    obtain ⟨kQ, rfl, rfl, Q, hjQ, hb⟩ := hcut
    clear SK
    have gQI : w.heap.size < v0.heap.size := I.1
    have gQKW : k < v0.heap.size := KW.1
    generalize wc = v1 at *
    replace B := B.trans (hb.mono B.size)
    replace I := I.below hb
    replace KW := KW.below hb
    clear hb
    go_wp2_with fail
    go_ret
    exact ⟨rfl, KW, Btw.ofBelow B⟩
  cases h5 : nwC x.kn x.lo x.hi x.la y.dn y.dd ct ia ib == 5
  rotate_left
  · skip
    have e1 : pfC y x ct ia ib = 3 := by unfold pfC; rw [h4, h5]
    have e2 : pfX y x ct ia ib = x := by unfold pfX; rw [h4, h5]
    rw [e1, e2]
    clear e1 e2
    have hk := HK.1
    have A0 := Below.nw w (.cells #[.int .i64 ia, .int .i64 ib] 46)
    have I := Bo.new w #[.int .i64 ia, .int .i64 ib] 46
    have B := A0
    clear A0
    have KW := (HK.below (Below.nw w (.cells #[.int .i64 ia, .int .i64 ib] 46)))
    clear HK
    go_enter Tryz.func71, Tryz.ntmps71
    go_upto_region 1 with fail
    generalize w.alloc (.cells #[.int .i64 ia, .int .i64 ib] 46) = v0 at *
    go_upto_region 1 with fail
    have SK : Hid (∀ w', Below v0.heap.size v0 w' → (fun w' => (loadCells ⟨k, 21, none⟩ 4).run Tryz.prog w' = .ok #[.bool x.kn, .int .i64 x.lo, .int .i64 x.hi, .int .i64 x.la] w' ∧ (loadCells ⟨k, 5, none⟩ 2).run Tryz.prog w' = .ok #[.int .i64 y.dn, .int .i64 y.dd] w' ∧ w'.cell? ⟨k, 16, none⟩ = some (.int .i64 ct) ∧ (loadCells ⟨w.heap.size, 0, none⟩ 2).run Tryz.prog w' = .ok #[.int .i64 ia, .int .i64 ib] w') w') := fun w' hw => ⟨(KW.below hw).loadAt (P := Tryz.prog) 21 4 (show 21 + 4 ≤ 28 by decide), (KW.below hw).loadAt (P := Tryz.prog) 5 2 (show 5 + 2 ≤ 28 by decide), (KW.below hw).cell rfl, (I.below hw).loadAt (P := Tryz.prog) 0 2 (show 0 + 2 ≤ 2 by decide)⟩
    go_cut [5, 6] (fun s5 s6 wx => ∃ (j : Nat), s5 = .pointer (some ⟨j, 0, none⟩) ∧ s6 = .int .i64 (nwC x.kn x.lo x.hi x.la y.dn y.dd ct ia ib) ∧ Bo wx j (#[.bool (nwK x.kn x.lo x.hi x.la y.dn y.dd ct ia ib), .int .i64 (nwLo x.kn x.lo x.hi x.la y.dn y.dd ct ia ib), .int .i64 (nwH x.kn x.lo x.hi x.la y.dn y.dd ct ia ib), .int .i64 (nwA x.kn x.lo x.hi x.la y.dn y.dd ct ia ib)]) ∧ v0.heap.size ≤ j ∧ Below v0.heap.size v0 wx)
    case first => as_aux_lemma =>
      refine wp_region_held_drew (S := (fun w' => (loadCells ⟨k, 21, none⟩ 4).run Tryz.prog w' = .ok #[.bool x.kn, .int .i64 x.lo, .int .i64 x.hi, .int .i64 x.la] w' ∧ (loadCells ⟨k, 5, none⟩ 2).run Tryz.prog w' = .ok #[.int .i64 y.dn, .int .i64 y.dd] w' ∧ w'.cell? ⟨k, 16, none⟩ = some (.int .i64 ct) ∧ (loadCells ⟨w.heap.size, 0, none⟩ 2).run Tryz.prog w' = .ok #[.int .i64 ia, .int .i64 ib] w')) (by kernel_rfl) ?_ (fun hHeld => ?_)
      · first | exact SK.out _ XB | exact SK.out _ (Below.drew (Below.refl _ _)) | exact SK.out _ XF
      have XB : Below v0.heap.size v0 v0.drew := Below.drew (Below.refl _ _)
      generalize v0.drew = vx at *
      refine zTk 0 ?_
      (try simp only [Act.put, zSb, zS0, zS1])
      refine zTk 1 ?_
      (try simp only [Act.put, zSb, zS0, zS1])
      refine zTk 2 ?_
      (try simp only [Act.put, zSb, zS0, zS1])
      refine zTk 3 ?_
      (try simp only [Act.put, zSb, zS0, zS1])
      refine zTk 4 ?_
      (try simp only [Act.put, zSb, zS0, zS1])
      refine zTk 5 ?_
      (try simp only [Act.put, zSb, zS0, zS1])
      refine zTk 6 ?_
      (try simp only [Act.put, zSb, zS0, zS1])
      refine zTk 7 ?_
      (try simp only [Act.put, zSb, zS0, zS1])
      refine zTk 8 ?_
      (try simp only [Act.put, zSb, zS0, zS1])
      refine zTk 9 ?_
      (try simp only [Act.put, zSb, zS0, zS1])
      refine zTk 10 ?_
      (try simp only [Act.put, zSb, zS0, zS1])
      refine zTk 11 ?_
      (try simp only [Act.put, zSb, zS0, zS1])
      refine zTk 12 ?_
      (try simp only [Act.put, zSb, zS0, zS1])
      refine zTk 13 ?_
      (try simp only [Act.put, zSb, zS0, zS1])
      refine wpAnyH_ready (rs := [14, 18]) (by kernel_rfl) (by simp) ?_
      refine (AllReadyH.cons (by rw [List.getElem?_toArray]; rfl) (fun K hK => ?_) (AllReadyH.cons (by rw [List.getElem?_toArray]; rfl) (fun K hK => ?_) AllReadyH.nil))
      · go_simp
        refine (CN vx).mono ?_; rintro ee vs ⟨rfl, hbl⟩; (replace XB := XB.trans (hbl.mono XB.size)); (clear hbl)
        (try go_wp2_with fail)
        refine hK.out _ _ ?_ (fun hHeld => ?_)
        · first | exact SK.out _ XB | exact SK.out _ (Below.drew (Below.refl _ _)) | exact SK.out _ XF
        clear hK K
        (try simp only [Act.put, zSb, zS0, zS1])
        refine zTk 15 ?_
        (try simp only [Act.put, zSb, zS0, zS1])
        refine zTk 16 ?_
        (try simp only [Act.put, zSb, zS0, zS1])
        refine zTk 17 ?_
        (try simp only [Act.put, zSb, zS0, zS1])
        refine wpAnyH_ready (rs := [18]) (by kernel_rfl) (by simp) ?_
        refine (AllReadyH.cons (by rw [List.getElem?_toArray]; rfl) (fun K hK => ?_) AllReadyH.nil)
        go_simp
        (have Z := Bo.new vs (#[.bool false, .int .i64 0, .int .i64 0, .int .i64 0]) 58); (have NL := Below.nw vs (.cells (#[.bool false, .int .i64 0, .int .i64 0, .int .i64 0]) 58)); (have hzv : v0.heap.size ≤ vs.heap.size := XB.size); (replace XB := XB.trans (NL.mono XB.size)); (clear NL); (generalize vs.alloc (.cells (#[.bool false, .int .i64 0, .int .i64 0, .int .i64 0]) 58) = vy at *); (generalize vs.heap.size = jz at *); (have hst : (storeCells ⟨jz, 0, none⟩ ([.bool (nwK x.kn x.lo x.hi x.la y.dn y.dd ct ia ib), .int .i64 (nwLo x.kn x.lo x.hi x.la y.dn y.dd ct ia ib), .int .i64 (nwH x.kn x.lo x.hi x.la y.dn y.dd ct ia ib), .int .i64 (nwA x.kn x.lo x.hi x.la y.dn y.dd ct ia ib)])).run Tryz.prog vy = .ok () (putA vy jz 0 (#[.bool (nwK x.kn x.lo x.hi x.la y.dn y.dd ct ia ib), .int .i64 (nwLo x.kn x.lo x.hi x.la y.dn y.dd ct ia ib), .int .i64 (nwH x.kn x.lo x.hi x.la y.dn y.dd ct ia ib), .int .i64 (nwA x.kn x.lo x.hi x.la y.dn y.dd ct ia ib)] : Array Value).toList) := Bo.store (P := Tryz.prog) (b := 0) (#[.bool (nwK x.kn x.lo x.hi x.la y.dn y.dd ct ia ib), .int .i64 (nwLo x.kn x.lo x.hi x.la y.dn y.dd ct ia ib), .int .i64 (nwH x.kn x.lo x.hi x.la y.dn y.dd ct ia ib), .int .i64 (nwA x.kn x.lo x.hi x.la y.dn y.dd ct ia ib)] : Array Value).toList 0 0 Z rfl (show 0 + 4 ≤ 4 by decide) (show ∀ u ∈ ([.bool (nwK x.kn x.lo x.hi x.la y.dn y.dd ct ia ib), .int .i64 (nwLo x.kn x.lo x.hi x.la y.dn y.dd ct ia ib), .int .i64 (nwH x.kn x.lo x.hi x.la y.dn y.dd ct ia ib), .int .i64 (nwA x.kn x.lo x.hi x.la y.dn y.dd ct ia ib)] : List Value), u.oneCell' = true from (List.forall_mem_cons.2 ⟨rfl, (List.forall_mem_cons.2 ⟨rfl, (List.forall_mem_cons.2 ⟨rfl, (List.forall_mem_cons.2 ⟨rfl, fun _ h => nomatch h⟩)⟩)⟩)⟩))); (have XF := putA_below (k := jz) (#[.bool (nwK x.kn x.lo x.hi x.la y.dn y.dd ct ia ib), .int .i64 (nwLo x.kn x.lo x.hi x.la y.dn y.dd ct ia ib), .int .i64 (nwH x.kn x.lo x.hi x.la y.dn y.dd ct ia ib), .int .i64 (nwA x.kn x.lo x.hi x.la y.dn y.dd ct ia ib)] : Array Value).toList v0 vy 0 XB hzv); (have ZF := Z.putW (U := #[.bool (nwK x.kn x.lo x.hi x.la y.dn y.dd ct ia ib), .int .i64 (nwLo x.kn x.lo x.hi x.la y.dn y.dd ct ia ib), .int .i64 (nwH x.kn x.lo x.hi x.la y.dn y.dd ct ia ib), .int .i64 (nwA x.kn x.lo x.hi x.la y.dn y.dd ct ia ib)]) rfl); (generalize putA vy jz 0 (#[.bool (nwK x.kn x.lo x.hi x.la y.dn y.dd ct ia ib), .int .i64 (nwLo x.kn x.lo x.hi x.la y.dn y.dd ct ia ib), .int .i64 (nwH x.kn x.lo x.hi x.la y.dn y.dd ct ia ib), .int .i64 (nwA x.kn x.lo x.hi x.la y.dn y.dd ct ia ib)] : Array Value).toList = vf at *)
        refine hK.out _ _ ?_ (fun hHeld => ?_)
        · first | exact SK.out _ XB | exact SK.out _ (Below.drew (Below.refl _ _)) | exact SK.out _ XF
        clear hK K
        (try simp only [Act.put, zSb, zS0, zS1])
        refine wpAnyH_ready (rs := [19]) (by kernel_rfl) (by simp) ?_
        refine (AllReadyH.cons (by rw [List.getElem?_toArray]; rfl) (fun K hK => ?_) AllReadyH.nil)
        go_simp
        refine hK.out _ _ ?_ (fun hHeld => ?_)
        · first | exact SK.out _ XB | exact SK.out _ (Below.drew (Below.refl _ _)) | exact SK.out _ XF
        clear hK K
        (try simp only [Act.put, zSb, zS0, zS1])
        refine zTk 20 ?_
        (try simp only [Act.put, zSb, zS0, zS1])
        refine wpAnyH_done (by kernel_rfl) ?_ _
        go_wp2_with (rw [hst])
        go_meet
        case rel => exact ⟨jz, rfl, rfl, ZF, hzv, XF⟩
      · go_simp
        (have Z := Bo.new vx (#[.bool false, .int .i64 0, .int .i64 0, .int .i64 0]) 58); (have NL := Below.nw vx (.cells (#[.bool false, .int .i64 0, .int .i64 0, .int .i64 0]) 58)); (have hzv : v0.heap.size ≤ vx.heap.size := XB.size); (replace XB := XB.trans (NL.mono XB.size)); (clear NL); (generalize vx.alloc (.cells (#[.bool false, .int .i64 0, .int .i64 0, .int .i64 0]) 58) = vy at *); (generalize vx.heap.size = jz at *)
        refine hK.out _ _ ?_ (fun hHeld => ?_)
        · first | exact SK.out _ XB | exact SK.out _ (Below.drew (Below.refl _ _)) | exact SK.out _ XF
        clear hK K
        (try simp only [Act.put, zSb, zS0, zS1])
        refine wpAnyH_ready (rs := [14]) (by kernel_rfl) (by simp) ?_
        refine (AllReadyH.cons (by rw [List.getElem?_toArray]; rfl) (fun K hK => ?_) AllReadyH.nil)
        go_simp
        refine (CN vy).mono ?_; rintro ee vs ⟨rfl, hbl⟩; (replace XB := XB.trans (hbl.mono XB.size)); (replace Z := Z.below hbl); (clear hbl); (have hst : (storeCells ⟨jz, 0, none⟩ ([.bool (nwK x.kn x.lo x.hi x.la y.dn y.dd ct ia ib), .int .i64 (nwLo x.kn x.lo x.hi x.la y.dn y.dd ct ia ib), .int .i64 (nwH x.kn x.lo x.hi x.la y.dn y.dd ct ia ib), .int .i64 (nwA x.kn x.lo x.hi x.la y.dn y.dd ct ia ib)])).run Tryz.prog vs = .ok () (putA vs jz 0 (#[.bool (nwK x.kn x.lo x.hi x.la y.dn y.dd ct ia ib), .int .i64 (nwLo x.kn x.lo x.hi x.la y.dn y.dd ct ia ib), .int .i64 (nwH x.kn x.lo x.hi x.la y.dn y.dd ct ia ib), .int .i64 (nwA x.kn x.lo x.hi x.la y.dn y.dd ct ia ib)] : Array Value).toList) := Bo.store (P := Tryz.prog) (b := 0) (#[.bool (nwK x.kn x.lo x.hi x.la y.dn y.dd ct ia ib), .int .i64 (nwLo x.kn x.lo x.hi x.la y.dn y.dd ct ia ib), .int .i64 (nwH x.kn x.lo x.hi x.la y.dn y.dd ct ia ib), .int .i64 (nwA x.kn x.lo x.hi x.la y.dn y.dd ct ia ib)] : Array Value).toList 0 0 Z rfl (show 0 + 4 ≤ 4 by decide) (show ∀ u ∈ ([.bool (nwK x.kn x.lo x.hi x.la y.dn y.dd ct ia ib), .int .i64 (nwLo x.kn x.lo x.hi x.la y.dn y.dd ct ia ib), .int .i64 (nwH x.kn x.lo x.hi x.la y.dn y.dd ct ia ib), .int .i64 (nwA x.kn x.lo x.hi x.la y.dn y.dd ct ia ib)] : List Value), u.oneCell' = true from (List.forall_mem_cons.2 ⟨rfl, (List.forall_mem_cons.2 ⟨rfl, (List.forall_mem_cons.2 ⟨rfl, (List.forall_mem_cons.2 ⟨rfl, fun _ h => nomatch h⟩)⟩)⟩)⟩))); (have XF := putA_below (k := jz) (#[.bool (nwK x.kn x.lo x.hi x.la y.dn y.dd ct ia ib), .int .i64 (nwLo x.kn x.lo x.hi x.la y.dn y.dd ct ia ib), .int .i64 (nwH x.kn x.lo x.hi x.la y.dn y.dd ct ia ib), .int .i64 (nwA x.kn x.lo x.hi x.la y.dn y.dd ct ia ib)] : Array Value).toList v0 vs 0 XB hzv); (have ZF := Z.putW (U := #[.bool (nwK x.kn x.lo x.hi x.la y.dn y.dd ct ia ib), .int .i64 (nwLo x.kn x.lo x.hi x.la y.dn y.dd ct ia ib), .int .i64 (nwH x.kn x.lo x.hi x.la y.dn y.dd ct ia ib), .int .i64 (nwA x.kn x.lo x.hi x.la y.dn y.dd ct ia ib)]) rfl); (generalize putA vs jz 0 (#[.bool (nwK x.kn x.lo x.hi x.la y.dn y.dd ct ia ib), .int .i64 (nwLo x.kn x.lo x.hi x.la y.dn y.dd ct ia ib), .int .i64 (nwH x.kn x.lo x.hi x.la y.dn y.dd ct ia ib), .int .i64 (nwA x.kn x.lo x.hi x.la y.dn y.dd ct ia ib)] : Array Value).toList = vf at *)
        (try go_wp2_with fail)
        refine hK.out _ _ ?_ (fun hHeld => ?_)
        · first | exact SK.out _ XB | exact SK.out _ (Below.drew (Below.refl _ _)) | exact SK.out _ XF
        clear hK K
        (try simp only [Act.put, zSb, zS0, zS1])
        refine zTk 15 ?_
        (try simp only [Act.put, zSb, zS0, zS1])
        refine zTk 16 ?_
        (try simp only [Act.put, zSb, zS0, zS1])
        refine zTk 17 ?_
        (try simp only [Act.put, zSb, zS0, zS1])
        refine wpAnyH_ready (rs := [19]) (by kernel_rfl) (by simp) ?_
        refine (AllReadyH.cons (by rw [List.getElem?_toArray]; rfl) (fun K hK => ?_) AllReadyH.nil)
        go_simp
        refine hK.out _ _ ?_ (fun hHeld => ?_)
        · first | exact SK.out _ XB | exact SK.out _ (Below.drew (Below.refl _ _)) | exact SK.out _ XF
        clear hK K
        (try simp only [Act.put, zSb, zS0, zS1])
        refine zTk 20 ?_
        (try simp only [Act.put, zSb, zS0, zS1])
        refine wpAnyH_done (by kernel_rfl) ?_ _
        go_wp2_with (rw [hst])
        go_meet
        case rel => exact ⟨jz, rfl, rfl, ZF, hzv, XF⟩
    case rest =>
    obtain ⟨kQ, rfl, rfl, Q, hjQ, hb⟩ := hcut
    clear SK
    have gQI : w.heap.size < v0.heap.size := I.1
    have gQKW : k < v0.heap.size := KW.1
    generalize wc = v1 at *
    replace B := B.trans (hb.mono B.size)
    replace I := I.below hb
    replace KW := KW.below hb
    clear hb
    go_wp2_with fail
    go_ret
    exact ⟨rfl, KW, Btw.ofBelow B⟩
  · skip
    have e1 : pfC y x ct ia ib = 0 := by unfold pfC; rw [h4, h5]
    have e2 : pfX y x ct ia ib = { x with kn := nwK x.kn x.lo x.hi x.la y.dn y.dd ct ia ib, lo := nwLo x.kn x.lo x.hi x.la y.dn y.dd ct ia ib, hi := nwH x.kn x.lo x.hi x.la y.dn y.dd ct ia ib, la := nwA x.kn x.lo x.hi x.la y.dn y.dd ct ia ib, mo := stM x.mo x.ep x.si 3 ct, ep := stE x.mo x.ep x.si 3 ct, si := stS x.mo x.ep x.si 3 ct } := by unfold pfX; rw [h4, h5]
    rw [e1, e2]
    clear e1 e2
    have hk := HK.1
    have A0 := Below.nw w (.cells #[.int .i64 ia, .int .i64 ib] 46)
    have I := Bo.new w #[.int .i64 ia, .int .i64 ib] 46
    have B := A0
    clear A0
    have KW := (HK.below (Below.nw w (.cells #[.int .i64 ia, .int .i64 ib] 46)))
    clear HK
    go_enter Tryz.func71, Tryz.ntmps71
    go_upto_region 1 with fail
    generalize w.alloc (.cells #[.int .i64 ia, .int .i64 ib] 46) = v0 at *
    go_upto_region 1 with fail
    have SK : Hid (∀ w', Below v0.heap.size v0 w' → (fun w' => (loadCells ⟨k, 21, none⟩ 4).run Tryz.prog w' = .ok #[.bool x.kn, .int .i64 x.lo, .int .i64 x.hi, .int .i64 x.la] w' ∧ (loadCells ⟨k, 5, none⟩ 2).run Tryz.prog w' = .ok #[.int .i64 y.dn, .int .i64 y.dd] w' ∧ w'.cell? ⟨k, 16, none⟩ = some (.int .i64 ct) ∧ (loadCells ⟨w.heap.size, 0, none⟩ 2).run Tryz.prog w' = .ok #[.int .i64 ia, .int .i64 ib] w') w') := fun w' hw => ⟨(KW.below hw).loadAt (P := Tryz.prog) 21 4 (show 21 + 4 ≤ 28 by decide), (KW.below hw).loadAt (P := Tryz.prog) 5 2 (show 5 + 2 ≤ 28 by decide), (KW.below hw).cell rfl, (I.below hw).loadAt (P := Tryz.prog) 0 2 (show 0 + 2 ≤ 2 by decide)⟩
    go_cut [5, 6] (fun s5 s6 wx => ∃ (j : Nat), s5 = .pointer (some ⟨j, 0, none⟩) ∧ s6 = .int .i64 (nwC x.kn x.lo x.hi x.la y.dn y.dd ct ia ib) ∧ Bo wx j (#[.bool (nwK x.kn x.lo x.hi x.la y.dn y.dd ct ia ib), .int .i64 (nwLo x.kn x.lo x.hi x.la y.dn y.dd ct ia ib), .int .i64 (nwH x.kn x.lo x.hi x.la y.dn y.dd ct ia ib), .int .i64 (nwA x.kn x.lo x.hi x.la y.dn y.dd ct ia ib)]) ∧ v0.heap.size ≤ j ∧ Below v0.heap.size v0 wx)
    case first => as_aux_lemma =>
      refine wp_region_held_drew (S := (fun w' => (loadCells ⟨k, 21, none⟩ 4).run Tryz.prog w' = .ok #[.bool x.kn, .int .i64 x.lo, .int .i64 x.hi, .int .i64 x.la] w' ∧ (loadCells ⟨k, 5, none⟩ 2).run Tryz.prog w' = .ok #[.int .i64 y.dn, .int .i64 y.dd] w' ∧ w'.cell? ⟨k, 16, none⟩ = some (.int .i64 ct) ∧ (loadCells ⟨w.heap.size, 0, none⟩ 2).run Tryz.prog w' = .ok #[.int .i64 ia, .int .i64 ib] w')) (by kernel_rfl) ?_ (fun hHeld => ?_)
      · first | exact SK.out _ XB | exact SK.out _ (Below.drew (Below.refl _ _)) | exact SK.out _ XF
      have XB : Below v0.heap.size v0 v0.drew := Below.drew (Below.refl _ _)
      generalize v0.drew = vx at *
      refine zTk 0 ?_
      (try simp only [Act.put, zSb, zS0, zS1])
      refine zTk 1 ?_
      (try simp only [Act.put, zSb, zS0, zS1])
      refine zTk 2 ?_
      (try simp only [Act.put, zSb, zS0, zS1])
      refine zTk 3 ?_
      (try simp only [Act.put, zSb, zS0, zS1])
      refine zTk 4 ?_
      (try simp only [Act.put, zSb, zS0, zS1])
      refine zTk 5 ?_
      (try simp only [Act.put, zSb, zS0, zS1])
      refine zTk 6 ?_
      (try simp only [Act.put, zSb, zS0, zS1])
      refine zTk 7 ?_
      (try simp only [Act.put, zSb, zS0, zS1])
      refine zTk 8 ?_
      (try simp only [Act.put, zSb, zS0, zS1])
      refine zTk 9 ?_
      (try simp only [Act.put, zSb, zS0, zS1])
      refine zTk 10 ?_
      (try simp only [Act.put, zSb, zS0, zS1])
      refine zTk 11 ?_
      (try simp only [Act.put, zSb, zS0, zS1])
      refine zTk 12 ?_
      (try simp only [Act.put, zSb, zS0, zS1])
      refine zTk 13 ?_
      (try simp only [Act.put, zSb, zS0, zS1])
      refine wpAnyH_ready (rs := [14, 18]) (by kernel_rfl) (by simp) ?_
      refine (AllReadyH.cons (by rw [List.getElem?_toArray]; rfl) (fun K hK => ?_) (AllReadyH.cons (by rw [List.getElem?_toArray]; rfl) (fun K hK => ?_) AllReadyH.nil))
      · go_simp
        refine (CN vx).mono ?_; rintro ee vs ⟨rfl, hbl⟩; (replace XB := XB.trans (hbl.mono XB.size)); (clear hbl)
        (try go_wp2_with fail)
        refine hK.out _ _ ?_ (fun hHeld => ?_)
        · first | exact SK.out _ XB | exact SK.out _ (Below.drew (Below.refl _ _)) | exact SK.out _ XF
        clear hK K
        (try simp only [Act.put, zSb, zS0, zS1])
        refine zTk 15 ?_
        (try simp only [Act.put, zSb, zS0, zS1])
        refine zTk 16 ?_
        (try simp only [Act.put, zSb, zS0, zS1])
        refine zTk 17 ?_
        (try simp only [Act.put, zSb, zS0, zS1])
        refine wpAnyH_ready (rs := [18]) (by kernel_rfl) (by simp) ?_
        refine (AllReadyH.cons (by rw [List.getElem?_toArray]; rfl) (fun K hK => ?_) AllReadyH.nil)
        go_simp
        (have Z := Bo.new vs (#[.bool false, .int .i64 0, .int .i64 0, .int .i64 0]) 58); (have NL := Below.nw vs (.cells (#[.bool false, .int .i64 0, .int .i64 0, .int .i64 0]) 58)); (have hzv : v0.heap.size ≤ vs.heap.size := XB.size); (replace XB := XB.trans (NL.mono XB.size)); (clear NL); (generalize vs.alloc (.cells (#[.bool false, .int .i64 0, .int .i64 0, .int .i64 0]) 58) = vy at *); (generalize vs.heap.size = jz at *); (have hst : (storeCells ⟨jz, 0, none⟩ ([.bool (nwK x.kn x.lo x.hi x.la y.dn y.dd ct ia ib), .int .i64 (nwLo x.kn x.lo x.hi x.la y.dn y.dd ct ia ib), .int .i64 (nwH x.kn x.lo x.hi x.la y.dn y.dd ct ia ib), .int .i64 (nwA x.kn x.lo x.hi x.la y.dn y.dd ct ia ib)])).run Tryz.prog vy = .ok () (putA vy jz 0 (#[.bool (nwK x.kn x.lo x.hi x.la y.dn y.dd ct ia ib), .int .i64 (nwLo x.kn x.lo x.hi x.la y.dn y.dd ct ia ib), .int .i64 (nwH x.kn x.lo x.hi x.la y.dn y.dd ct ia ib), .int .i64 (nwA x.kn x.lo x.hi x.la y.dn y.dd ct ia ib)] : Array Value).toList) := Bo.store (P := Tryz.prog) (b := 0) (#[.bool (nwK x.kn x.lo x.hi x.la y.dn y.dd ct ia ib), .int .i64 (nwLo x.kn x.lo x.hi x.la y.dn y.dd ct ia ib), .int .i64 (nwH x.kn x.lo x.hi x.la y.dn y.dd ct ia ib), .int .i64 (nwA x.kn x.lo x.hi x.la y.dn y.dd ct ia ib)] : Array Value).toList 0 0 Z rfl (show 0 + 4 ≤ 4 by decide) (show ∀ u ∈ ([.bool (nwK x.kn x.lo x.hi x.la y.dn y.dd ct ia ib), .int .i64 (nwLo x.kn x.lo x.hi x.la y.dn y.dd ct ia ib), .int .i64 (nwH x.kn x.lo x.hi x.la y.dn y.dd ct ia ib), .int .i64 (nwA x.kn x.lo x.hi x.la y.dn y.dd ct ia ib)] : List Value), u.oneCell' = true from (List.forall_mem_cons.2 ⟨rfl, (List.forall_mem_cons.2 ⟨rfl, (List.forall_mem_cons.2 ⟨rfl, (List.forall_mem_cons.2 ⟨rfl, fun _ h => nomatch h⟩)⟩)⟩)⟩))); (have XF := putA_below (k := jz) (#[.bool (nwK x.kn x.lo x.hi x.la y.dn y.dd ct ia ib), .int .i64 (nwLo x.kn x.lo x.hi x.la y.dn y.dd ct ia ib), .int .i64 (nwH x.kn x.lo x.hi x.la y.dn y.dd ct ia ib), .int .i64 (nwA x.kn x.lo x.hi x.la y.dn y.dd ct ia ib)] : Array Value).toList v0 vy 0 XB hzv); (have ZF := Z.putW (U := #[.bool (nwK x.kn x.lo x.hi x.la y.dn y.dd ct ia ib), .int .i64 (nwLo x.kn x.lo x.hi x.la y.dn y.dd ct ia ib), .int .i64 (nwH x.kn x.lo x.hi x.la y.dn y.dd ct ia ib), .int .i64 (nwA x.kn x.lo x.hi x.la y.dn y.dd ct ia ib)]) rfl); (generalize putA vy jz 0 (#[.bool (nwK x.kn x.lo x.hi x.la y.dn y.dd ct ia ib), .int .i64 (nwLo x.kn x.lo x.hi x.la y.dn y.dd ct ia ib), .int .i64 (nwH x.kn x.lo x.hi x.la y.dn y.dd ct ia ib), .int .i64 (nwA x.kn x.lo x.hi x.la y.dn y.dd ct ia ib)] : Array Value).toList = vf at *)
        refine hK.out _ _ ?_ (fun hHeld => ?_)
        · first | exact SK.out _ XB | exact SK.out _ (Below.drew (Below.refl _ _)) | exact SK.out _ XF
        clear hK K
        (try simp only [Act.put, zSb, zS0, zS1])
        refine wpAnyH_ready (rs := [19]) (by kernel_rfl) (by simp) ?_
        refine (AllReadyH.cons (by rw [List.getElem?_toArray]; rfl) (fun K hK => ?_) AllReadyH.nil)
        go_simp
        refine hK.out _ _ ?_ (fun hHeld => ?_)
        · first | exact SK.out _ XB | exact SK.out _ (Below.drew (Below.refl _ _)) | exact SK.out _ XF
        clear hK K
        (try simp only [Act.put, zSb, zS0, zS1])
        refine zTk 20 ?_
        (try simp only [Act.put, zSb, zS0, zS1])
        refine wpAnyH_done (by kernel_rfl) ?_ _
        go_wp2_with (rw [hst])
        go_meet
        case rel => exact ⟨jz, rfl, rfl, ZF, hzv, XF⟩
      · go_simp
        (have Z := Bo.new vx (#[.bool false, .int .i64 0, .int .i64 0, .int .i64 0]) 58); (have NL := Below.nw vx (.cells (#[.bool false, .int .i64 0, .int .i64 0, .int .i64 0]) 58)); (have hzv : v0.heap.size ≤ vx.heap.size := XB.size); (replace XB := XB.trans (NL.mono XB.size)); (clear NL); (generalize vx.alloc (.cells (#[.bool false, .int .i64 0, .int .i64 0, .int .i64 0]) 58) = vy at *); (generalize vx.heap.size = jz at *)
        refine hK.out _ _ ?_ (fun hHeld => ?_)
        · first | exact SK.out _ XB | exact SK.out _ (Below.drew (Below.refl _ _)) | exact SK.out _ XF
        clear hK K
        (try simp only [Act.put, zSb, zS0, zS1])
        refine wpAnyH_ready (rs := [14]) (by kernel_rfl) (by simp) ?_
        refine (AllReadyH.cons (by rw [List.getElem?_toArray]; rfl) (fun K hK => ?_) AllReadyH.nil)
        go_simp
        refine (CN vy).mono ?_; rintro ee vs ⟨rfl, hbl⟩; (replace XB := XB.trans (hbl.mono XB.size)); (replace Z := Z.below hbl); (clear hbl); (have hst : (storeCells ⟨jz, 0, none⟩ ([.bool (nwK x.kn x.lo x.hi x.la y.dn y.dd ct ia ib), .int .i64 (nwLo x.kn x.lo x.hi x.la y.dn y.dd ct ia ib), .int .i64 (nwH x.kn x.lo x.hi x.la y.dn y.dd ct ia ib), .int .i64 (nwA x.kn x.lo x.hi x.la y.dn y.dd ct ia ib)])).run Tryz.prog vs = .ok () (putA vs jz 0 (#[.bool (nwK x.kn x.lo x.hi x.la y.dn y.dd ct ia ib), .int .i64 (nwLo x.kn x.lo x.hi x.la y.dn y.dd ct ia ib), .int .i64 (nwH x.kn x.lo x.hi x.la y.dn y.dd ct ia ib), .int .i64 (nwA x.kn x.lo x.hi x.la y.dn y.dd ct ia ib)] : Array Value).toList) := Bo.store (P := Tryz.prog) (b := 0) (#[.bool (nwK x.kn x.lo x.hi x.la y.dn y.dd ct ia ib), .int .i64 (nwLo x.kn x.lo x.hi x.la y.dn y.dd ct ia ib), .int .i64 (nwH x.kn x.lo x.hi x.la y.dn y.dd ct ia ib), .int .i64 (nwA x.kn x.lo x.hi x.la y.dn y.dd ct ia ib)] : Array Value).toList 0 0 Z rfl (show 0 + 4 ≤ 4 by decide) (show ∀ u ∈ ([.bool (nwK x.kn x.lo x.hi x.la y.dn y.dd ct ia ib), .int .i64 (nwLo x.kn x.lo x.hi x.la y.dn y.dd ct ia ib), .int .i64 (nwH x.kn x.lo x.hi x.la y.dn y.dd ct ia ib), .int .i64 (nwA x.kn x.lo x.hi x.la y.dn y.dd ct ia ib)] : List Value), u.oneCell' = true from (List.forall_mem_cons.2 ⟨rfl, (List.forall_mem_cons.2 ⟨rfl, (List.forall_mem_cons.2 ⟨rfl, (List.forall_mem_cons.2 ⟨rfl, fun _ h => nomatch h⟩)⟩)⟩)⟩))); (have XF := putA_below (k := jz) (#[.bool (nwK x.kn x.lo x.hi x.la y.dn y.dd ct ia ib), .int .i64 (nwLo x.kn x.lo x.hi x.la y.dn y.dd ct ia ib), .int .i64 (nwH x.kn x.lo x.hi x.la y.dn y.dd ct ia ib), .int .i64 (nwA x.kn x.lo x.hi x.la y.dn y.dd ct ia ib)] : Array Value).toList v0 vs 0 XB hzv); (have ZF := Z.putW (U := #[.bool (nwK x.kn x.lo x.hi x.la y.dn y.dd ct ia ib), .int .i64 (nwLo x.kn x.lo x.hi x.la y.dn y.dd ct ia ib), .int .i64 (nwH x.kn x.lo x.hi x.la y.dn y.dd ct ia ib), .int .i64 (nwA x.kn x.lo x.hi x.la y.dn y.dd ct ia ib)]) rfl); (generalize putA vs jz 0 (#[.bool (nwK x.kn x.lo x.hi x.la y.dn y.dd ct ia ib), .int .i64 (nwLo x.kn x.lo x.hi x.la y.dn y.dd ct ia ib), .int .i64 (nwH x.kn x.lo x.hi x.la y.dn y.dd ct ia ib), .int .i64 (nwA x.kn x.lo x.hi x.la y.dn y.dd ct ia ib)] : Array Value).toList = vf at *)
        (try go_wp2_with fail)
        refine hK.out _ _ ?_ (fun hHeld => ?_)
        · first | exact SK.out _ XB | exact SK.out _ (Below.drew (Below.refl _ _)) | exact SK.out _ XF
        clear hK K
        (try simp only [Act.put, zSb, zS0, zS1])
        refine zTk 15 ?_
        (try simp only [Act.put, zSb, zS0, zS1])
        refine zTk 16 ?_
        (try simp only [Act.put, zSb, zS0, zS1])
        refine zTk 17 ?_
        (try simp only [Act.put, zSb, zS0, zS1])
        refine wpAnyH_ready (rs := [19]) (by kernel_rfl) (by simp) ?_
        refine (AllReadyH.cons (by rw [List.getElem?_toArray]; rfl) (fun K hK => ?_) AllReadyH.nil)
        go_simp
        refine hK.out _ _ ?_ (fun hHeld => ?_)
        · first | exact SK.out _ XB | exact SK.out _ (Below.drew (Below.refl _ _)) | exact SK.out _ XF
        clear hK K
        (try simp only [Act.put, zSb, zS0, zS1])
        refine zTk 20 ?_
        (try simp only [Act.put, zSb, zS0, zS1])
        refine wpAnyH_done (by kernel_rfl) ?_ _
        go_wp2_with (rw [hst])
        go_meet
        case rel => exact ⟨jz, rfl, rfl, ZF, hzv, XF⟩
    case rest =>
    obtain ⟨kQ, rfl, rfl, Q, hjQ, hb⟩ := hcut
    clear SK
    have gQI : w.heap.size < v0.heap.size := I.1
    have gQKW : k < v0.heap.size := KW.1
    generalize wc = v1 at *
    replace B := B.trans (hb.mono B.size)
    replace I := I.below hb
    replace KW := KW.below hb
    clear hb
    have X := Btw.ofBelow (lo := k) (hi := k + 1) B
    clear B
    have hL0 := Q.load (P := Tryz.prog) (show (#[.bool (nwK x.kn x.lo x.hi x.la y.dn y.dd ct ia ib), .int .i64 (nwLo x.kn x.lo x.hi x.la y.dn y.dd ct ia ib), .int .i64 (nwH x.kn x.lo x.hi x.la y.dn y.dd ct ia ib), .int .i64 (nwA x.kn x.lo x.hi x.la y.dn y.dd ct ia ib)] : Array Value).size = 4 from rfl)
    go_wp2_with (rw [hL0])
    refine (wkLearn y x ct p d aa ac pa pc ha hc k _ _ _ _ v1 KW).mono ?_
    rintro e vz ⟨rfl, KG, XG⟩
    clear hL0 KW Q I
    go_wp2_with fail
    go_ret
    exact ⟨rfl, KG, X.trans XG⟩
end Go.Proofs.YtfhappkeipcemaaGreat
