/- A node while a call works on it: what it knows, learns, is told and re -/
import Derived.Laws.EntriesVeiled
import Derived.Test.YtikbjljkakabdaaGreatMB0
import Derived.Test.YtikbjljkakabdaaGreatMB29
import Derived.Test.YtikbjljkakabdaaGreatMB30
import Derived.Test.YtikbjljkakabdaaGreatMB32
import Derived.Test.YtikbjljkakabdaaGreatMB33
namespace Go.Proofs.YtikbjljkakabdaaGreat
open Go.RowKit
set_option linter.unusedVariables false
set_option maxRecDepth 100000
set_option maxHeartbeats 16000000
def pnC (y : CfX) (x : NdX) (ct : Int) : Int := match x.kn with | false => 8 | true => (match crC x.kn x.lo x.hi x.la y.dn y.dd ct == 0 with | true => 0 | false => 10)
def pnL (y : CfX) (x : NdX) (ct : Int) : Int := match pnC y x ct == 0 with | true => crL x.kn x.lo x.hi x.la y.dn y.dd ct | false => 0
def pnH (y : CfX) (x : NdX) (ct : Int) : Int := match pnC y x ct == 0 with | true => crH x.kn x.lo x.hi x.la y.dn y.dd ct | false => 0
theorem pj {y : CfX} {x : NdX} {ct : Int} (h : cw y x ct ≠ 1) : dI y = true ∧ okX x = true ∧ cmX x ct = true := by
 unfold cw at h
 cases h1 : dI y
 ·rw [h1] at h; exact absurd rfl h
 ·rw [h1] at h
  unfold fiI at h
  cases h2 : okX x
  ·rw [h2] at h; exact absurd rfl h
  ·cases h3 : cmX x ct
   ·rw [h2, h3] at h; exact absurd rfl h
   ·exact ⟨rfl, rfl, rfl⟩
theorem sy {y : CfX} {x : NdX} {ct : Int} (h : cw y x ct ≠ 1) : dg y x ct = pnC y x ct ∧ aq y x ct = pnL y x ct ∧ ap y x ct = pnH y x ct := by
 obtain ⟨h1, h2, h3⟩ := pj h
 have e : dg y x ct = pnC y x ct := by
  unfold dg pnC
  rw [h1, h2, h3]
  have hd : okD y.dn y.dd = true := by
   unfold dI cfB at h1
   simp only [Bool.and_eq_true] at h1
   exact h1.1
  have hL : okL x.kn x.lo x.hi x.la = true := by
   unfold okX ndB ndA at h2
   simp only [Bool.and_eq_true] at h2
   exact h2.1.2.2.1
  have ht : okT ct = true := by
   unfold cmX cmB at h3
   simp only [Bool.and_eq_true] at h3
   exact h3.1.1
  rcases j6 x.kn x.lo x.hi x.la y.dn y.dd ct with ⟨q, _⟩ | ⟨_, q, r⟩ | ⟨_, q, r⟩
  ·unfold crP at q; rw [hL, hd, ht] at q; exact absurd q (by decide)
  ·rw [q] at r ⊢; rw [r]; rfl
  ·rw [q] at r ⊢
   rcases r with r | r | r <;> (rw [r]; rfl)
 refine ⟨e, ?_, ?_⟩
 ·unfold aq pnL; rw [e]; cases pnC y x ct == 0 <;> rfl
 ·unfold ap pnH; rw [e]; cases pnC y x ct == 0 <;> rfl
theorem rD (y : CfX) (x : NdX) (ct : Int) (p : Option Addr) (d : Nat) (aa : Option Addr) (ac : Nat) (pa : Option Addr) (pc : Nat) (ha : Option Addr) (hc : Nat) (a b c : Int) : spl (wkV y x ct p d aa ac pa pc ha hc) 18 [.int .i64 a, .int .i64 b, .int .i64 c] = wkV y { x with mo := a, ep := b, si := c } ct p d aa ac pa pc ha hc := by
 simp only [wkV, spl, List.setIfInBounds_toArray, List.set_cons_zero, List.set_cons_succ]
theorem qR (y : CfX) (x : NdX) (ct : Int) (p : Option Addr) (d : Nat) (aa : Option Addr) (ac : Nat) (pa : Option Addr) (pc : Nat) (ha : Option Addr) (hc : Nat) (lk : Bool) (ll lh lt : Int) : spl (wkV y x ct p d aa ac pa pc ha hc) 21 [.bool lk, .int .i64 ll, .int .i64 lh, .int .i64 lt] = wkV y { x with kn := lk, lo := ll, hi := lh, la := lt } ct p d aa ac pa pc ha hc := by
 simp only [wkV, spl, List.setIfInBounds_toArray, List.set_cons_zero, List.set_cons_succ]
attribute [-go_sem] loadCells storeCells in
theorem wkNow (y : CfX) (x : NdX) (ct : Int) (p : Option Addr) (d : Nat) (aa : Option Addr) (ac : Nat) (pa : Option Addr) (pc : Nat) (ha : Option Addr) (hc k : Nat) (w : World) (HK : Bo w k (wkV y x ct p d aa ac pa pc ha hc)) :
 Calls Tryz.prog 90 #[.pointer (some ⟨k, 0, none⟩)] w fun e w' => e = .returned (.tuple #[.agg #[.int .i64 (pnL y x ct), .int .i64 (pnH y x ct)], .int .i64 (pnC y x ct)]) ∧ Below w.heap.size w w' := by
 have CA := fun v => dp x.kn x.lo x.hi x.la y.dn y.dd ct v
 rcases Bool.eq_false_or_eq_true x.kn with hkn | hkn
 rotate_left
 ·skip
  have hC' : pnC y x ct = 8 := by unfold pnC; rw [hkn]
  have hL' : pnL y x ct = 0 := by unfold pnL; rw [hC']; rfl
  have hH' : pnH y x ct = 0 := by unfold pnH; rw [hC']; rfl
  have HKN : Hid (x.kn = false) := hkn
  clear hkn
  have hk := HK.1
  have A0 := Below.nw w (.cells #[.int .i64 0, .int .i64 0] 47)
  have R := Bo.new w #[.int .i64 0, .int .i64 0] 47
  have B := A0
  clear A0
  have KW := (HK.below (Below.nw w (.cells #[.int .i64 0, .int .i64 0] 47)))
  clear HK
  go_enter Tryz.func90, Tryz.ntmps90
  go_upto_region 1 with fail
  generalize w.alloc (.cells #[.int .i64 0, .int .i64 0] 47) = v0 at *
  have c21 : v0.cell? ⟨k, 21, none⟩ = some (.bool false) := KW.cell (show ((wkV y x ct p d aa ac pa pc ha hc))[21]? = _ by rw [← HKN.out]; rfl)
  have hst := Bo.store (P := Tryz.prog) (b := 0) ([.int .i64 0, .int .i64 0]) 0 0 R rfl (show 0 + 2 ≤ 2 by decide) (List.forall_mem_cons.2 ⟨rfl, (List.forall_mem_cons.2 ⟨rfl, fun _ h => nomatch h⟩)⟩)
  have hb : Btw (w.heap.size) (w.heap.size + 1) v0 _ := ay ([.int .i64 0, .int .i64 0]) v0 0 (w.heap.size)
  have B1 := an (k := w.heap.size) ([.int .i64 0, .int .i64 0]) w v0 0 B (by omega)
  have N1 : Bo (aF v0 (w.heap.size) 0 ([.int .i64 0, .int .i64 0])) (w.heap.size) (#[.int .i64 0, .int .i64 0]) := Bo.put ([.int .i64 0, .int .i64 0]) 0 R
  go_wp2_with (rw [hst])
  clear hst  R B
  replace KW := KW.btw hb (by omega)
  clear hb
  generalize aF v0 (w.heap.size) 0 ([.int .i64 0, .int .i64 0]) = v1 at *
  have B := B1
  have R := N1
  clear B1 N1
  have hL0 := R.load (P := Tryz.prog) (show (#[.int .i64 0, .int .i64 0] : Array Value).size = 2 from rfl)
  exact bodyPost_ret (v := .tuple #[.agg #[.int .i64 0, .int .i64 0], .int .i64 8]) (by simp [results, Tryz.results90, go_sem]; rw [hL0]; rfl) rfl ⟨by rw [hC', hL', hH'], B⟩
 cases h0 : crC x.kn x.lo x.hi x.la y.dn y.dd ct == 0
 ·skip
  have hC' : pnC y x ct = 10 := by unfold pnC; rw [h0, hkn]
  have hL' : pnL y x ct = 0 := by unfold pnL; rw [hC']; rfl
  have hH' : pnH y x ct = 0 := by unfold pnH; rw [hC']; rfl
  have HKN : Hid (x.kn = true) := hkn
  clear hkn
  have h0n : (crC x.kn x.lo x.hi x.la y.dn y.dd ct != 0) = true := by rw [bne, h0]; rfl
  have hk := HK.1
  have A0 := Below.nw w (.cells #[.int .i64 0, .int .i64 0] 47)
  have R := Bo.new w #[.int .i64 0, .int .i64 0] 47
  have B := A0
  clear A0
  have KW := (HK.below (Below.nw w (.cells #[.int .i64 0, .int .i64 0] 47)))
  clear HK
  go_enter Tryz.func90, Tryz.ntmps90
  go_upto_region 1 with fail
  generalize w.alloc (.cells #[.int .i64 0, .int .i64 0] 47) = v0 at *
  have c21 : v0.cell? ⟨k, 21, none⟩ = some (.bool true) := KW.cell (show ((wkV y x ct p d aa ac pa pc ha hc))[21]? = _ by rw [← HKN.out]; rfl)
  go_upto_region 3 with fail
  clear c21
  go_upto_region 3 with fail
  have SK : Hid (∀ w', Below v0.heap.size v0 w' → (fun w' => (loadCells ⟨k, 21, none⟩ 4).run Tryz.prog w' = .ok #[.bool x.kn, .int .i64 x.lo, .int .i64 x.hi, .int .i64 x.la] w' ∧ (loadCells ⟨k, 5, none⟩ 2).run Tryz.prog w' = .ok #[.int .i64 y.dn, .int .i64 y.dd] w' ∧ w'.cell? ⟨k, 16, none⟩ = some (.int .i64 ct)) w') := fun w' hw => ⟨(KW.below hw).loadAt (P := Tryz.prog) 21 4 (show 21 + 4 ≤ 28 by decide), (KW.below hw).loadAt (P := Tryz.prog) 5 2 (show 5 + 2 ≤ 28 by decide), (KW.below hw).cell rfl⟩
  go_cut [4, 5] (fun s4 s5 wx => ∃ (j : Nat), s4 = .pointer (some ⟨j, 0, none⟩) ∧ s5 = .int .i64 (crC x.kn x.lo x.hi x.la y.dn y.dd ct) ∧ Bo wx j (#[.int .i64 (crL x.kn x.lo x.hi x.la y.dn y.dd ct), .int .i64 (crH x.kn x.lo x.hi x.la y.dn y.dd ct)]) ∧ v0.heap.size ≤ j ∧ Below v0.heap.size v0 wx)
  case first => as_aux_lemma =>
   refine wp_region_held_drew (S := (fun w' => (loadCells ⟨k, 21, none⟩ 4).run Tryz.prog w' = .ok #[.bool x.kn, .int .i64 x.lo, .int .i64 x.hi, .int .i64 x.la] w' ∧ (loadCells ⟨k, 5, none⟩ 2).run Tryz.prog w' = .ok #[.int .i64 y.dn, .int .i64 y.dd] w' ∧ w'.cell? ⟨k, 16, none⟩ = some (.int .i64 ct))) (by kernel_rfl) ?_ (fun hHeld => ?_)
   ·first | exact SK.out _ XB | exact SK.out _ zD | exact SK.out _ XF
   have XB : Below v0.heap.size v0 v0.drew := Below.drew (Below.refl _ _)
   generalize v0.drew = vx at *
   refine zT8 0 ?_
   refine zT4 8 ?_
   refine zTk 12 ?_
   refine wpAnyH_ready (rs := [13, 17]) (by kernel_rfl) (by simp) ?_
   refine (zCc (fun K hK => ?_) (zR fun K hK => ?_))
   ·go_simp
    refine (CA vx).mono ?_; rintro ee vs ⟨rfl, hbl⟩; (replace XB := XB.trans (hbl.mono XB.size)); (clear hbl)
    (try go_wp2_with fail)
    refine hK.out _ _ ?_ (fun hHeld => ?_)
    ·first | exact SK.out _ XB | exact SK.out _ zD | exact SK.out _ XF
    clear hK K
    (try simp only [zA])
    refine zT2 14 ?_
    refine zTk 16 ?_
    refine zQ 17 fun K hK => ?_
    go_simp
    (have Z := Bo.new vs (#[.int .i64 0, .int .i64 0]) 47); (have NL := Below.nw vs (.cells (#[.int .i64 0, .int .i64 0]) 47)); (have hzv : v0.heap.size ≤ vs.heap.size := XB.size); (replace XB := XB.trans (NL.mono XB.size)); (clear NL); (generalize vs.alloc (.cells (#[.int .i64 0, .int .i64 0]) 47) = vy at *); (generalize vs.heap.size = jz at *); (have hst : (storeCells ⟨jz, 0, none⟩ ([.int .i64 (crL x.kn x.lo x.hi x.la y.dn y.dd ct), .int .i64 (crH x.kn x.lo x.hi x.la y.dn y.dd ct)])).run Tryz.prog vy = .ok () (aF vy jz 0 (#[.int .i64 (crL x.kn x.lo x.hi x.la y.dn y.dd ct), .int .i64 (crH x.kn x.lo x.hi x.la y.dn y.dd ct)] : Array Value).toList) := Bo.store (P := Tryz.prog) (b := 0) (#[.int .i64 (crL x.kn x.lo x.hi x.la y.dn y.dd ct), .int .i64 (crH x.kn x.lo x.hi x.la y.dn y.dd ct)] : Array Value).toList 0 0 Z rfl (show 0 + 2 ≤ 2 by decide) (show ∀ u ∈ ([.int .i64 (crL x.kn x.lo x.hi x.la y.dn y.dd ct), .int .i64 (crH x.kn x.lo x.hi x.la y.dn y.dd ct)] : List Value), u.oneCell' = true from (List.forall_mem_cons.2 ⟨rfl, (List.forall_mem_cons.2 ⟨rfl, fun _ h => nomatch h⟩)⟩))); (have XF := an (k := jz) (#[.int .i64 (crL x.kn x.lo x.hi x.la y.dn y.dd ct), .int .i64 (crH x.kn x.lo x.hi x.la y.dn y.dd ct)] : Array Value).toList v0 vy 0 XB hzv); (have ZF := Z.putW (U := #[.int .i64 (crL x.kn x.lo x.hi x.la y.dn y.dd ct), .int .i64 (crH x.kn x.lo x.hi x.la y.dn y.dd ct)]) rfl); (generalize aF vy jz 0 (#[.int .i64 (crL x.kn x.lo x.hi x.la y.dn y.dd ct), .int .i64 (crH x.kn x.lo x.hi x.la y.dn y.dd ct)] : Array Value).toList = vf at *)
    refine hK.out _ _ ?_ (fun hHeld => ?_)
    ·first | exact SK.out _ XB | exact SK.out _ zD | exact SK.out _ XF
    clear hK K
    (try simp only [zA])
    refine zQ 18 fun K hK => ?_
    go_simp
    refine hK.out _ _ ?_ (fun hHeld => ?_)
    ·first | exact SK.out _ XB | exact SK.out _ zD | exact SK.out _ XF
    clear hK K
    (try simp only [zA])
    refine zTk 19 ?_
    refine wpAnyH_done (by kernel_rfl) ?_ _
    go_wp2_with (rw [hst])
    go_meet
    case rel => exact ⟨jz, rfl, rfl, ZF, hzv, XF⟩
   ·go_simp
    (have Z := Bo.new vx (#[.int .i64 0, .int .i64 0]) 47); (have NL := Below.nw vx (.cells (#[.int .i64 0, .int .i64 0]) 47)); (have hzv : v0.heap.size ≤ vx.heap.size := XB.size); (replace XB := XB.trans (NL.mono XB.size)); (clear NL); (generalize vx.alloc (.cells (#[.int .i64 0, .int .i64 0]) 47) = vy at *); (generalize vx.heap.size = jz at *)
    refine hK.out _ _ ?_ (fun hHeld => ?_)
    ·first | exact SK.out _ XB | exact SK.out _ zD | exact SK.out _ XF
    clear hK K
    (try simp only [zA])
    refine zQ 13 fun K hK => ?_
    go_simp
    refine (CA vy).mono ?_; rintro ee vs ⟨rfl, hbl⟩; (replace XB := XB.trans (hbl.mono XB.size)); (replace Z := Z.below hbl); (clear hbl); (have hst : (storeCells ⟨jz, 0, none⟩ ([.int .i64 (crL x.kn x.lo x.hi x.la y.dn y.dd ct), .int .i64 (crH x.kn x.lo x.hi x.la y.dn y.dd ct)])).run Tryz.prog vs = .ok () (aF vs jz 0 (#[.int .i64 (crL x.kn x.lo x.hi x.la y.dn y.dd ct), .int .i64 (crH x.kn x.lo x.hi x.la y.dn y.dd ct)] : Array Value).toList) := Bo.store (P := Tryz.prog) (b := 0) (#[.int .i64 (crL x.kn x.lo x.hi x.la y.dn y.dd ct), .int .i64 (crH x.kn x.lo x.hi x.la y.dn y.dd ct)] : Array Value).toList 0 0 Z rfl (show 0 + 2 ≤ 2 by decide) (show ∀ u ∈ ([.int .i64 (crL x.kn x.lo x.hi x.la y.dn y.dd ct), .int .i64 (crH x.kn x.lo x.hi x.la y.dn y.dd ct)] : List Value), u.oneCell' = true from (List.forall_mem_cons.2 ⟨rfl, (List.forall_mem_cons.2 ⟨rfl, fun _ h => nomatch h⟩)⟩))); (have XF := an (k := jz) (#[.int .i64 (crL x.kn x.lo x.hi x.la y.dn y.dd ct), .int .i64 (crH x.kn x.lo x.hi x.la y.dn y.dd ct)] : Array Value).toList v0 vs 0 XB hzv); (have ZF := Z.putW (U := #[.int .i64 (crL x.kn x.lo x.hi x.la y.dn y.dd ct), .int .i64 (crH x.kn x.lo x.hi x.la y.dn y.dd ct)]) rfl); (generalize aF vs jz 0 (#[.int .i64 (crL x.kn x.lo x.hi x.la y.dn y.dd ct), .int .i64 (crH x.kn x.lo x.hi x.la y.dn y.dd ct)] : Array Value).toList = vf at *)
    (try go_wp2_with fail)
    refine hK.out _ _ ?_ (fun hHeld => ?_)
    ·first | exact SK.out _ XB | exact SK.out _ zD | exact SK.out _ XF
    clear hK K
    (try simp only [zA])
    refine zT2 14 ?_
    refine zTk 16 ?_
    refine zQ 18 fun K hK => ?_
    go_simp
    refine hK.out _ _ ?_ (fun hHeld => ?_)
    ·first | exact SK.out _ XB | exact SK.out _ zD | exact SK.out _ XF
    clear hK K
    (try simp only [zA])
    refine zTk 19 ?_
    refine wpAnyH_done (by kernel_rfl) ?_ _
    go_wp2_with (rw [hst])
    go_meet
    case rel => exact ⟨jz, rfl, rfl, ZF, hzv, XF⟩
  case rest =>
  obtain ⟨kQ, rfl, rfl, Q, hjQ, hb⟩ := hcut
  clear SK
  have gQR : w.heap.size < v0.heap.size := R.1
  have gQKW : k < v0.heap.size := KW.1
  generalize wc = v1 at *
  replace B := B.trans (hb.mono B.size)
  replace R := R.below hb
  replace KW := KW.below hb
  clear hb
  have hst := Bo.store (P := Tryz.prog) (b := 0) ([.int .i64 0, .int .i64 0]) 0 0 R rfl (show 0 + 2 ≤ 2 by decide) (List.forall_mem_cons.2 ⟨rfl, (List.forall_mem_cons.2 ⟨rfl, fun _ h => nomatch h⟩)⟩)
  have hb : Btw (w.heap.size) (w.heap.size + 1) v1 _ := ay ([.int .i64 0, .int .i64 0]) v1 0 (w.heap.size)
  have B1 := an (k := w.heap.size) ([.int .i64 0, .int .i64 0]) w v1 0 B (by omega)
  have N1 : Bo (aF v1 (w.heap.size) 0 ([.int .i64 0, .int .i64 0])) (w.heap.size) (#[.int .i64 0, .int .i64 0]) := Bo.put ([.int .i64 0, .int .i64 0]) 0 R
  go_wp2_with (rw [hst])
  clear hst  R B
  replace KW := KW.btw hb (by omega)
  replace Q := Q.btw hb (by omega)
  clear hb
  generalize aF v1 (w.heap.size) 0 ([.int .i64 0, .int .i64 0]) = v2 at *
  have B := B1
  have R := N1
  clear B1 N1
  have hL0 := R.load (P := Tryz.prog) (show (#[.int .i64 0, .int .i64 0] : Array Value).size = 2 from rfl)
  exact bodyPost_ret (v := .tuple #[.agg #[.int .i64 0, .int .i64 0], .int .i64 10]) (by simp [results, Tryz.results90, go_sem]; rw [hL0]; rfl) rfl ⟨by rw [hC', hL', hH'], B⟩
 ·skip
  have hC' : pnC y x ct = 0 := by unfold pnC; rw [h0, hkn]
  have hL' : pnL y x ct = crL x.kn x.lo x.hi x.la y.dn y.dd ct := by unfold pnL; rw [hC']; rfl
  have hH' : pnH y x ct = crH x.kn x.lo x.hi x.la y.dn y.dd ct := by unfold pnH; rw [hC']; rfl
  have HKN : Hid (x.kn = true) := hkn
  clear hkn
  have h0n : (crC x.kn x.lo x.hi x.la y.dn y.dd ct != 0) = false := by rw [bne, h0]; rfl
  have hk := HK.1
  have A0 := Below.nw w (.cells #[.int .i64 0, .int .i64 0] 47)
  have R := Bo.new w #[.int .i64 0, .int .i64 0] 47
  have B := A0
  clear A0
  have KW := (HK.below (Below.nw w (.cells #[.int .i64 0, .int .i64 0] 47)))
  clear HK
  go_enter Tryz.func90, Tryz.ntmps90
  go_upto_region 1 with fail
  generalize w.alloc (.cells #[.int .i64 0, .int .i64 0] 47) = v0 at *
  have c21 : v0.cell? ⟨k, 21, none⟩ = some (.bool true) := KW.cell (show ((wkV y x ct p d aa ac pa pc ha hc))[21]? = _ by rw [← HKN.out]; rfl)
  go_upto_region 3 with fail
  clear c21
  go_upto_region 3 with fail
  have SK : Hid (∀ w', Below v0.heap.size v0 w' → (fun w' => (loadCells ⟨k, 21, none⟩ 4).run Tryz.prog w' = .ok #[.bool x.kn, .int .i64 x.lo, .int .i64 x.hi, .int .i64 x.la] w' ∧ (loadCells ⟨k, 5, none⟩ 2).run Tryz.prog w' = .ok #[.int .i64 y.dn, .int .i64 y.dd] w' ∧ w'.cell? ⟨k, 16, none⟩ = some (.int .i64 ct)) w') := fun w' hw => ⟨(KW.below hw).loadAt (P := Tryz.prog) 21 4 (show 21 + 4 ≤ 28 by decide), (KW.below hw).loadAt (P := Tryz.prog) 5 2 (show 5 + 2 ≤ 28 by decide), (KW.below hw).cell rfl⟩
  go_cut [4, 5] (fun s4 s5 wx => ∃ (j : Nat), s4 = .pointer (some ⟨j, 0, none⟩) ∧ s5 = .int .i64 (crC x.kn x.lo x.hi x.la y.dn y.dd ct) ∧ Bo wx j (#[.int .i64 (crL x.kn x.lo x.hi x.la y.dn y.dd ct), .int .i64 (crH x.kn x.lo x.hi x.la y.dn y.dd ct)]) ∧ v0.heap.size ≤ j ∧ Below v0.heap.size v0 wx)
  case first => as_aux_lemma =>
   refine wp_region_held_drew (S := (fun w' => (loadCells ⟨k, 21, none⟩ 4).run Tryz.prog w' = .ok #[.bool x.kn, .int .i64 x.lo, .int .i64 x.hi, .int .i64 x.la] w' ∧ (loadCells ⟨k, 5, none⟩ 2).run Tryz.prog w' = .ok #[.int .i64 y.dn, .int .i64 y.dd] w' ∧ w'.cell? ⟨k, 16, none⟩ = some (.int .i64 ct))) (by kernel_rfl) ?_ (fun hHeld => ?_)
   ·first | exact SK.out _ XB | exact SK.out _ zD | exact SK.out _ XF
   have XB : Below v0.heap.size v0 v0.drew := Below.drew (Below.refl _ _)
   generalize v0.drew = vx at *
   refine zT8 0 ?_
   refine zT4 8 ?_
   refine zTk 12 ?_
   refine wpAnyH_ready (rs := [13, 17]) (by kernel_rfl) (by simp) ?_
   refine (zCc (fun K hK => ?_) (zR fun K hK => ?_))
   ·go_simp
    refine (CA vx).mono ?_; rintro ee vs ⟨rfl, hbl⟩; (replace XB := XB.trans (hbl.mono XB.size)); (clear hbl)
    (try go_wp2_with fail)
    refine hK.out _ _ ?_ (fun hHeld => ?_)
    ·first | exact SK.out _ XB | exact SK.out _ zD | exact SK.out _ XF
    clear hK K
    (try simp only [zA])
    refine zT2 14 ?_
    refine zTk 16 ?_
    refine zQ 17 fun K hK => ?_
    go_simp
    (have Z := Bo.new vs (#[.int .i64 0, .int .i64 0]) 47); (have NL := Below.nw vs (.cells (#[.int .i64 0, .int .i64 0]) 47)); (have hzv : v0.heap.size ≤ vs.heap.size := XB.size); (replace XB := XB.trans (NL.mono XB.size)); (clear NL); (generalize vs.alloc (.cells (#[.int .i64 0, .int .i64 0]) 47) = vy at *); (generalize vs.heap.size = jz at *); (have hst : (storeCells ⟨jz, 0, none⟩ ([.int .i64 (crL x.kn x.lo x.hi x.la y.dn y.dd ct), .int .i64 (crH x.kn x.lo x.hi x.la y.dn y.dd ct)])).run Tryz.prog vy = .ok () (aF vy jz 0 (#[.int .i64 (crL x.kn x.lo x.hi x.la y.dn y.dd ct), .int .i64 (crH x.kn x.lo x.hi x.la y.dn y.dd ct)] : Array Value).toList) := Bo.store (P := Tryz.prog) (b := 0) (#[.int .i64 (crL x.kn x.lo x.hi x.la y.dn y.dd ct), .int .i64 (crH x.kn x.lo x.hi x.la y.dn y.dd ct)] : Array Value).toList 0 0 Z rfl (show 0 + 2 ≤ 2 by decide) (show ∀ u ∈ ([.int .i64 (crL x.kn x.lo x.hi x.la y.dn y.dd ct), .int .i64 (crH x.kn x.lo x.hi x.la y.dn y.dd ct)] : List Value), u.oneCell' = true from (List.forall_mem_cons.2 ⟨rfl, (List.forall_mem_cons.2 ⟨rfl, fun _ h => nomatch h⟩)⟩))); (have XF := an (k := jz) (#[.int .i64 (crL x.kn x.lo x.hi x.la y.dn y.dd ct), .int .i64 (crH x.kn x.lo x.hi x.la y.dn y.dd ct)] : Array Value).toList v0 vy 0 XB hzv); (have ZF := Z.putW (U := #[.int .i64 (crL x.kn x.lo x.hi x.la y.dn y.dd ct), .int .i64 (crH x.kn x.lo x.hi x.la y.dn y.dd ct)]) rfl); (generalize aF vy jz 0 (#[.int .i64 (crL x.kn x.lo x.hi x.la y.dn y.dd ct), .int .i64 (crH x.kn x.lo x.hi x.la y.dn y.dd ct)] : Array Value).toList = vf at *)
    refine hK.out _ _ ?_ (fun hHeld => ?_)
    ·first | exact SK.out _ XB | exact SK.out _ zD | exact SK.out _ XF
    clear hK K
    (try simp only [zA])
    refine zQ 18 fun K hK => ?_
    go_simp
    refine hK.out _ _ ?_ (fun hHeld => ?_)
    ·first | exact SK.out _ XB | exact SK.out _ zD | exact SK.out _ XF
    clear hK K
    (try simp only [zA])
    refine zTk 19 ?_
    refine wpAnyH_done (by kernel_rfl) ?_ _
    go_wp2_with (rw [hst])
    go_meet
    case rel => exact ⟨jz, rfl, rfl, ZF, hzv, XF⟩
   ·go_simp
    (have Z := Bo.new vx (#[.int .i64 0, .int .i64 0]) 47); (have NL := Below.nw vx (.cells (#[.int .i64 0, .int .i64 0]) 47)); (have hzv : v0.heap.size ≤ vx.heap.size := XB.size); (replace XB := XB.trans (NL.mono XB.size)); (clear NL); (generalize vx.alloc (.cells (#[.int .i64 0, .int .i64 0]) 47) = vy at *); (generalize vx.heap.size = jz at *)
    refine hK.out _ _ ?_ (fun hHeld => ?_)
    ·first | exact SK.out _ XB | exact SK.out _ zD | exact SK.out _ XF
    clear hK K
    (try simp only [zA])
    refine zQ 13 fun K hK => ?_
    go_simp
    refine (CA vy).mono ?_; rintro ee vs ⟨rfl, hbl⟩; (replace XB := XB.trans (hbl.mono XB.size)); (replace Z := Z.below hbl); (clear hbl); (have hst : (storeCells ⟨jz, 0, none⟩ ([.int .i64 (crL x.kn x.lo x.hi x.la y.dn y.dd ct), .int .i64 (crH x.kn x.lo x.hi x.la y.dn y.dd ct)])).run Tryz.prog vs = .ok () (aF vs jz 0 (#[.int .i64 (crL x.kn x.lo x.hi x.la y.dn y.dd ct), .int .i64 (crH x.kn x.lo x.hi x.la y.dn y.dd ct)] : Array Value).toList) := Bo.store (P := Tryz.prog) (b := 0) (#[.int .i64 (crL x.kn x.lo x.hi x.la y.dn y.dd ct), .int .i64 (crH x.kn x.lo x.hi x.la y.dn y.dd ct)] : Array Value).toList 0 0 Z rfl (show 0 + 2 ≤ 2 by decide) (show ∀ u ∈ ([.int .i64 (crL x.kn x.lo x.hi x.la y.dn y.dd ct), .int .i64 (crH x.kn x.lo x.hi x.la y.dn y.dd ct)] : List Value), u.oneCell' = true from (List.forall_mem_cons.2 ⟨rfl, (List.forall_mem_cons.2 ⟨rfl, fun _ h => nomatch h⟩)⟩))); (have XF := an (k := jz) (#[.int .i64 (crL x.kn x.lo x.hi x.la y.dn y.dd ct), .int .i64 (crH x.kn x.lo x.hi x.la y.dn y.dd ct)] : Array Value).toList v0 vs 0 XB hzv); (have ZF := Z.putW (U := #[.int .i64 (crL x.kn x.lo x.hi x.la y.dn y.dd ct), .int .i64 (crH x.kn x.lo x.hi x.la y.dn y.dd ct)]) rfl); (generalize aF vs jz 0 (#[.int .i64 (crL x.kn x.lo x.hi x.la y.dn y.dd ct), .int .i64 (crH x.kn x.lo x.hi x.la y.dn y.dd ct)] : Array Value).toList = vf at *)
    (try go_wp2_with fail)
    refine hK.out _ _ ?_ (fun hHeld => ?_)
    ·first | exact SK.out _ XB | exact SK.out _ zD | exact SK.out _ XF
    clear hK K
    (try simp only [zA])
    refine zT2 14 ?_
    refine zTk 16 ?_
    refine zQ 18 fun K hK => ?_
    go_simp
    refine hK.out _ _ ?_ (fun hHeld => ?_)
    ·first | exact SK.out _ XB | exact SK.out _ zD | exact SK.out _ XF
    clear hK K
    (try simp only [zA])
    refine zTk 19 ?_
    refine wpAnyH_done (by kernel_rfl) ?_ _
    go_wp2_with (rw [hst])
    go_meet
    case rel => exact ⟨jz, rfl, rfl, ZF, hzv, XF⟩
  case rest =>
  obtain ⟨kQ, rfl, rfl, Q, hjQ, hb⟩ := hcut
  clear SK
  have gQR : w.heap.size < v0.heap.size := R.1
  have gQKW : k < v0.heap.size := KW.1
  generalize wc = v1 at *
  replace B := B.trans (hb.mono B.size)
  replace R := R.below hb
  replace KW := KW.below hb
  clear hb
  have hL0 := Q.load (P := Tryz.prog) (show (#[.int .i64 (crL x.kn x.lo x.hi x.la y.dn y.dd ct), .int .i64 (crH x.kn x.lo x.hi x.la y.dn y.dd ct)] : Array Value).size = 2 from rfl)
  have hst := Bo.store (P := Tryz.prog) (b := 0) ([.int .i64 (crL x.kn x.lo x.hi x.la y.dn y.dd ct), .int .i64 (crH x.kn x.lo x.hi x.la y.dn y.dd ct)]) 0 0 R rfl (show 0 + 2 ≤ 2 by decide) (List.forall_mem_cons.2 ⟨rfl, (List.forall_mem_cons.2 ⟨rfl, fun _ h => nomatch h⟩)⟩)
  have hb : Btw (w.heap.size) (w.heap.size + 1) v1 _ := ay ([.int .i64 (crL x.kn x.lo x.hi x.la y.dn y.dd ct), .int .i64 (crH x.kn x.lo x.hi x.la y.dn y.dd ct)]) v1 0 (w.heap.size)
  have B1 := an (k := w.heap.size) ([.int .i64 (crL x.kn x.lo x.hi x.la y.dn y.dd ct), .int .i64 (crH x.kn x.lo x.hi x.la y.dn y.dd ct)]) w v1 0 B (by omega)
  have N1 : Bo (aF v1 (w.heap.size) 0 ([.int .i64 (crL x.kn x.lo x.hi x.la y.dn y.dd ct), .int .i64 (crH x.kn x.lo x.hi x.la y.dn y.dd ct)])) (w.heap.size) (#[.int .i64 (crL x.kn x.lo x.hi x.la y.dn y.dd ct), .int .i64 (crH x.kn x.lo x.hi x.la y.dn y.dd ct)]) := Bo.put ([.int .i64 (crL x.kn x.lo x.hi x.la y.dn y.dd ct), .int .i64 (crH x.kn x.lo x.hi x.la y.dn y.dd ct)]) 0 R
  go_wp2_with (first | rw [hL0] | rw [hst])
  clear hst hL0 R B
  replace KW := KW.btw hb (by omega)
  replace Q := Q.btw hb (by omega)
  clear hb
  generalize aF v1 (w.heap.size) 0 ([.int .i64 (crL x.kn x.lo x.hi x.la y.dn y.dd ct), .int .i64 (crH x.kn x.lo x.hi x.la y.dn y.dd ct)]) = v2 at *
  have B := B1
  have R := N1
  clear B1 N1
  have hL0 := R.load (P := Tryz.prog) (show (#[.int .i64 (crL x.kn x.lo x.hi x.la y.dn y.dd ct), .int .i64 (crH x.kn x.lo x.hi x.la y.dn y.dd ct)] : Array Value).size = 2 from rfl)
  exact bodyPost_ret (v := .tuple #[.agg #[.int .i64 (crL x.kn x.lo x.hi x.la y.dn y.dd ct), .int .i64 (crH x.kn x.lo x.hi x.la y.dn y.dd ct)], .int .i64 0]) (by simp [results, Tryz.results90, go_sem]; rw [hL0]; rfl) rfl ⟨by rw [hC', hL', hH'], B⟩
attribute [-go_sem] loadCells storeCells in
theorem wkGo (y : CfX) (x : NdX) (ct : Int) (p : Option Addr) (d : Nat) (aa : Option Addr) (ac : Nat) (pa : Option Addr) (pc : Nat) (ha : Option Addr) (hc k : Nat) (kd : Int) (w : World) (HK : Bo w k (wkV y x ct p d aa ac pa pc ha hc)) :
 Calls Tryz.prog 91 #[.pointer (some ⟨k, 0, none⟩), .int .i64 kd] w fun e w' => e = .returned (.tuple #[]) ∧ Bo w' k (wkV y { x with mo := stM x.mo x.ep x.si kd ct, ep := stE x.mo x.ep x.si kd ct, si := stS x.mo x.ep x.si kd ct } ct p d aa ac pa pc ha hc) ∧ Btw k (k + 1) w w' := by
 have CL := fun v => et x.mo x.ep x.si kd ct v
 go_enter Tryz.func91, Tryz.ntmps91
 go_upto_region 0 with fail
 refine wp_region_held_drew (S := (fun w' => w'.cell? ⟨k, 16, none⟩ = some (.int .i64 ct))) (by kernel_rfl) ?_ (fun hHeld => ?_)
 ·first | exact hS2 | exact hS1 | exact hS | exact HK.cell rfl
 have XB : Below w.heap.size w w.drew := Below.drew (Below.refl _ _)
 have KW := HK.below XB
 clear HK
 generalize w.drew = vx at *
 have hS := KW.cell (i := 16) (u := .int .i64 ct) rfl
 have hL : (loadCells ⟨k, 18, none⟩ 3).run Tryz.prog vx = .ok #[.int .i64 x.mo, .int .i64 x.ep, .int .i64 x.si] vx := KW.loadAt (P := Tryz.prog) 18 3 (show 18 + 3 ≤ 28 by decide)
 refine zT4 0 ?_
 refine zT4 5 ?_
 refine zT2 9 ?_
 refine zQ 4 fun K hK => ?_
 go_simp
 refine hK.out _ _ ?_ (fun hHeld => ?_)
 ·first | exact hS2 | exact hS1 | exact hS | exact HK.cell rfl
 clear hK K
 (try simp only [zA])
 refine zQ 11 fun K hK => ?_
 go_simp
 refine (CL vx).mono ?_; rintro ee vs ⟨rfl, hbl⟩; (replace XB := XB.trans (hbl.mono XB.size)); (have K1 := KW.below hbl); (have hS1 := K1.cell (i := 16) (u := .int .i64 ct) rfl); (have hst := Bo.store (P := Tryz.prog) (b := 18) ([.int .i64 (stM x.mo x.ep x.si kd ct), .int .i64 (stE x.mo x.ep x.si kd ct), .int .i64 (stS x.mo x.ep x.si kd ct)]) 18 0 K1 rfl (show 18 + 3 ≤ 28 by decide) (List.forall_mem_cons.2 ⟨rfl, (List.forall_mem_cons.2 ⟨rfl, (List.forall_mem_cons.2 ⟨rfl, fun _ h => nomatch h⟩)⟩)⟩)); (have KF := Bo.put ([.int .i64 (stM x.mo x.ep x.si kd ct), .int .i64 (stE x.mo x.ep x.si kd ct), .int .i64 (stS x.mo x.ep x.si kd ct)]) 18 K1); (rw [rD] at KF); (have XF : Btw k (k + 1) w (aF vs k 18 ([.int .i64 (stM x.mo x.ep x.si kd ct), .int .i64 (stE x.mo x.ep x.si kd ct), .int .i64 (stS x.mo x.ep x.si kd ct)])) := (Btw.ofBelow XB).trans (ay ([.int .i64 (stM x.mo x.ep x.si kd ct), .int .i64 (stE x.mo x.ep x.si kd ct), .int .i64 (stS x.mo x.ep x.si kd ct)]) vs 18 k)); (clear hbl hL KW); (generalize aF vs k 18 ([.int .i64 (stM x.mo x.ep x.si kd ct), .int .i64 (stE x.mo x.ep x.si kd ct), .int .i64 (stS x.mo x.ep x.si kd ct)]) = vf at *); (have hS2 := KF.cell (i := 16) (u := .int .i64 ct) rfl)
 (try go_wp2_with fail)
 refine hK.out _ _ ?_ (fun hHeld => ?_)
 ·first | exact hS2 | exact hS1 | exact hS | exact HK.cell rfl
 clear hK K
 (try simp only [zA])
 refine zT4 12 ?_
 refine zTk 16 ?_
 refine zQ 17 fun K hK => ?_
 go_simp
 refine hK.out _ _ ?_ (fun hHeld => ?_)
 ·first | exact hS2 | exact hS1 | exact hS | exact HK.cell rfl
 clear hK K
 (try simp only [zA])
 refine wpAnyH_done (by kernel_rfl) ?_ _
 go_wp2_with (rw [hst])
 exact bodyPost_end (v := .tuple #[]) (by simp [results, Tryz.results91, go_sem]) rfl ⟨rfl, KF, XF⟩
attribute [-go_sem] loadCells storeCells in
theorem rC (y : CfX) (x : NdX) (ct : Int) (p : Option Addr) (d : Nat) (aa : Option Addr) (ac : Nat) (pa : Option Addr) (pc : Nat) (ha : Option Addr) (hc k : Nat) (lk : Bool) (ll lh lt : Int) (w : World) (HK : Bo w k (wkV y x ct p d aa ac pa pc ha hc)) :
 Calls Tryz.prog 109 #[.pointer (some ⟨k, 0, none⟩), .agg #[.bool lk, .int .i64 ll, .int .i64 lh, .int .i64 lt]] w fun e w' => e = .returned (.tuple #[]) ∧ Bo w' k (wkV y { x with kn := lk, lo := ll, hi := lh, la := lt, mo := stM x.mo x.ep x.si 3 ct, ep := stE x.mo x.ep x.si 3 ct, si := stS x.mo x.ep x.si 3 ct } ct p d aa ac pa pc ha hc) ∧ Btw k (k + 1) w w' := by
 have hk := HK.1
 have A0 := Below.nw w (.cells #[.bool lk, .int .i64 ll, .int .i64 lh, .int .i64 lt] 49)
 have I := Bo.new w #[.bool lk, .int .i64 ll, .int .i64 lh, .int .i64 lt] 49
 have K := HK.below A0
 have X := Btw.ofBelow (lo := k) (hi := k + 1) A0
 clear A0 HK
 go_enter Tryz.func109, Tryz.ntmps109
 go_upto_region 1 with fail
 generalize w.alloc (.cells #[.bool lk, .int .i64 ll, .int .i64 lh, .int .i64 lt] 49) = v0 at *
 have hL := I.load (P := Tryz.prog) (show (#[.bool lk, .int .i64 ll, .int .i64 lh, .int .i64 lt] : Array Value).size = 4 from rfl)
 have hst := Bo.store (P := Tryz.prog) (b := 21) ([.bool lk, .int .i64 ll, .int .i64 lh, .int .i64 lt]) 21 0 K rfl (show 21 + 4 ≤ 28 by decide) (List.forall_mem_cons.2 ⟨rfl, (List.forall_mem_cons.2 ⟨rfl, (List.forall_mem_cons.2 ⟨rfl, (List.forall_mem_cons.2 ⟨rfl, fun _ h => nomatch h⟩)⟩)⟩)⟩)
 have KF := Bo.put ([.bool lk, .int .i64 ll, .int .i64 lh, .int .i64 lt]) 21 K
 rw [qR] at KF
 have XF := X.trans (ay ([.bool lk, .int .i64 ll, .int .i64 lh, .int .i64 lt]) v0 21 k)
 go_upto_region 2 with (first | rw [hL] | rw [hst])
 clear hL hst K X I
 generalize aF v0 k 21 ([.bool lk, .int .i64 ll, .int .i64 lh, .int .i64 lt]) = v1 at *
 go_wp2_with fail
 refine (wkGo y ({ x with kn := lk, lo := ll, hi := lh, la := lt }) ct p d aa ac pa pc ha hc k 3 v1 KF).mono ?_
 rintro e v2 ⟨rfl, KG, XG⟩
 go_wp2_with fail
 exact bodyPost_end (v := .tuple #[]) (by simp [results, Tryz.results109, go_sem]) rfl ⟨rfl, KG, XF.trans XG⟩
end Go.Proofs.YtikbjljkakabdaaGreat
