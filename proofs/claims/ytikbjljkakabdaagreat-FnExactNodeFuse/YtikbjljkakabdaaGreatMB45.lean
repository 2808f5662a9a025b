/- A node while a call works on it: it fuses (the program). -/
import Derived.Test.YtikbjljkakabdaaGreatMB0
import Derived.Test.YtikbjljkakabdaaGreatMB34
import Derived.Test.YtikbjljkakabdaaGreatMB44
namespace Go.Proofs.YtikbjljkakabdaaGreat
open Go.RowKit
set_option linter.unusedVariables false
set_option maxRecDepth 100000
set_option maxHeartbeats 16000000
theorem qS (y : CfX) (x : NdX) (ct : Int) (p : Option Addr) (d : Nat) (aa : Option Addr) (ac : Nat) (pa : Option Addr) (pc : Nat) (ha : Option Addr) (hc : Nat) (qa : Option Addr) (qc m : Nat) (F : Nat → PT) : spl (wkV y x ct p d aa ac pa pc ha hc) 25 [.slice qa m qc] = wkV y { x with QM := F, np := m } ct p d aa ac qa qc ha hc := by
 simp only [wkV, spl, List.setIfInBounds_toArray, List.set_cons_zero, List.set_cons_succ]
def pzR (y : CfX) (x : NdX) (ct : Int) : NdX × Int := match pnC y x ct == 10 with
 | true => (x, 10)
 | false => match fuC (pnL y x ct) (pnH y x ct) x.kn (gV ((caL x.QM x.np y.dn y.dd ct y.ag).map cV)) ((caL x.QM x.np y.dn y.dd ct y.ag).map cV).length y.li y.le == 2 with
  | true => (x, 11)
  | false => match fuC (pnL y x ct) (pnH y x ct) x.kn (gV ((caL x.QM x.np y.dn y.dd ct y.ag).map cV)) ((caL x.QM x.np y.dn y.dd ct y.ag).map cV).length y.li y.le == 3 with
   | true => (x, 12)
   | false => match fuC (pnL y x ct) (pnH y x ct) x.kn (gV ((caL x.QM x.np y.dn y.dd ct y.ag).map cV)) ((caL x.QM x.np y.dn y.dd ct y.ag).map cV).length y.li y.le == 4 with
    | true => (x, 3)
    | false => ({ x with kn := true, lo := fuL (pnL y x ct) (pnH y x ct) x.kn (gV ((caL x.QM x.np y.dn y.dd ct y.ag).map cV)) ((caL x.QM x.np y.dn y.dd ct y.ag).map cV).length y.li y.le, hi := fuH (pnL y x ct) (pnH y x ct) x.kn (gV ((caL x.QM x.np y.dn y.dd ct y.ag).map cV)) ((caL x.QM x.np y.dn y.dd ct y.ag).map cV).length y.li y.le, la := ct, mo := stM x.mo x.ep x.si 3 ct, ep := stE x.mo x.ep x.si 3 ct, si := stS x.mo x.ep x.si 3 ct, QM := gP (mrL x.QM x.np y.dn y.dd ct y.ag (fuL (pnL y x ct) (pnH y x ct) x.kn (gV ((caL x.QM x.np y.dn y.dd ct y.ag).map cV)) ((caL x.QM x.np y.dn y.dd ct y.ag).map cV).length y.li y.le) (fuH (pnL y x ct) (pnH y x ct) x.kn (gV ((caL x.QM x.np y.dn y.dd ct y.ag).map cV)) ((caL x.QM x.np y.dn y.dd ct y.ag).map cV).length y.li y.le)), np := (mrL x.QM x.np y.dn y.dd ct y.ag (fuL (pnL y x ct) (pnH y x ct) x.kn (gV ((caL x.QM x.np y.dn y.dd ct y.ag).map cV)) ((caL x.QM x.np y.dn y.dd ct y.ag).map cV).length y.li y.le) (fuH (pnL y x ct) (pnH y x ct) x.kn (gV ((caL x.QM x.np y.dn y.dd ct y.ag).map cV)) ((caL x.QM x.np y.dn y.dd ct y.ag).map cV).length y.li y.le)).length }, 0)
theorem pz_eq (y : CfX) (x : NdX) (ct : Int) : pzR y x ct = (match pnC y x ct == 10 with
 | true => (x, 10)
 | false => match fuC (pnL y x ct) (pnH y x ct) x.kn (gV ((caL x.QM x.np y.dn y.dd ct y.ag).map cV)) ((caL x.QM x.np y.dn y.dd ct y.ag).map cV).length y.li y.le == 2 with
  | true => (x, 11)
  | false => match fuC (pnL y x ct) (pnH y x ct) x.kn (gV ((caL x.QM x.np y.dn y.dd ct y.ag).map cV)) ((caL x.QM x.np y.dn y.dd ct y.ag).map cV).length y.li y.le == 3 with
   | true => (x, 12)
   | false => match fuC (pnL y x ct) (pnH y x ct) x.kn (gV ((caL x.QM x.np y.dn y.dd ct y.ag).map cV)) ((caL x.QM x.np y.dn y.dd ct y.ag).map cV).length y.li y.le == 4 with
    | true => (x, 3)
    | false => ({ x with kn := true, lo := fuL (pnL y x ct) (pnH y x ct) x.kn (gV ((caL x.QM x.np y.dn y.dd ct y.ag).map cV)) ((caL x.QM x.np y.dn y.dd ct y.ag).map cV).length y.li y.le, hi := fuH (pnL y x ct) (pnH y x ct) x.kn (gV ((caL x.QM x.np y.dn y.dd ct y.ag).map cV)) ((caL x.QM x.np y.dn y.dd ct y.ag).map cV).length y.li y.le, la := ct, mo := stM x.mo x.ep x.si 3 ct, ep := stE x.mo x.ep x.si 3 ct, si := stS x.mo x.ep x.si 3 ct, QM := gP (mrL x.QM x.np y.dn y.dd ct y.ag (fuL (pnL y x ct) (pnH y x ct) x.kn (gV ((caL x.QM x.np y.dn y.dd ct y.ag).map cV)) ((caL x.QM x.np y.dn y.dd ct y.ag).map cV).length y.li y.le) (fuH (pnL y x ct) (pnH y x ct) x.kn (gV ((caL x.QM x.np y.dn y.dd ct y.ag).map cV)) ((caL x.QM x.np y.dn y.dd ct y.ag).map cV).length y.li y.le)), np := (mrL x.QM x.np y.dn y.dd ct y.ag (fuL (pnL y x ct) (pnH y x ct) x.kn (gV ((caL x.QM x.np y.dn y.dd ct y.ag).map cV)) ((caL x.QM x.np y.dn y.dd ct y.ag).map cV).length y.li y.le) (fuH (pnL y x ct) (pnH y x ct) x.kn (gV ((caL x.QM x.np y.dn y.dd ct y.ag).map cV)) ((caL x.QM x.np y.dn y.dd ct y.ag).map cV).length y.li y.le)).length }, 0)) := rfl
theorem rn (y : CfX) (x : NdX) (ct : Int) (h : x.np ≤ 1048576) : (pzR y x ct).1.na = x.na ∧ (pzR y x ct).1.AM = x.AM ∧ (pzR y x ct).1.nh = x.nh ∧ (pzR y x ct).1.HM = x.HM ∧ (pzR y x ct).1.np ≤ 1048576 := by
 have hml : (mrL x.QM x.np y.dn y.dd ct y.ag (fuL (pnL y x ct) (pnH y x ct) x.kn (gV ((caL x.QM x.np y.dn y.dd ct y.ag).map cV)) ((caL x.QM x.np y.dn y.dd ct y.ag).map cV).length y.li y.le) (fuH (pnL y x ct) (pnH y x ct) x.kn (gV ((caL x.QM x.np y.dn y.dd ct y.ag).map cV)) ((caL x.QM x.np y.dn y.dd ct y.ag).map cV).length y.li y.le)).length ≤ 1048576 := Nat.le_trans (dK ..) (by decide)
 unfold pzR
 cases pnC y x ct == 10
 ·cases fuC (pnL y x ct) (pnH y x ct) x.kn (gV ((caL x.QM x.np y.dn y.dd ct y.ag).map cV)) ((caL x.QM x.np y.dn y.dd ct y.ag).map cV).length y.li y.le == 2
  ·cases fuC (pnL y x ct) (pnH y x ct) x.kn (gV ((caL x.QM x.np y.dn y.dd ct y.ag).map cV)) ((caL x.QM x.np y.dn y.dd ct y.ag).map cV).length y.li y.le == 3
   ·cases fuC (pnL y x ct) (pnH y x ct) x.kn (gV ((caL x.QM x.np y.dn y.dd ct y.ag).map cV)) ((caL x.QM x.np y.dn y.dd ct y.ag).map cV).length y.li y.le == 4
    ·exact ⟨rfl, rfl, rfl, rfl, hml⟩
    ·exact ⟨rfl, rfl, rfl, rfl, h⟩
   ·exact ⟨rfl, rfl, rfl, rfl, h⟩
  ·exact ⟨rfl, rfl, rfl, rfl, h⟩
 ·exact ⟨rfl, rfl, rfl, rfl, h⟩
attribute [-go_sem] loadCells storeCells in
theorem sO (y : CfX) (x : NdX) (ct : Int) (p : Option Addr) (d : Nat) (aa : Option Addr) (ac : Nat) (pa : Option Addr) (pc : Nat) (ha : Option Addr) (hc k lp up : Nat) (lo : Nat) (hnp : x.np ≤ 1048576) (w : World) (hup : up ≤ w.heap.size) (hko : k < lp ∨ up ≤ k) (hlo : lo ≤ lp) (hlw : lo ≤ w.heap.size) (HK : Bo w k (wkV y x ct p d aa ac pa pc ha hc)) (HP : Rwo w lp up 154 5 pa x.np pc (am x.QM)) :
 Calls Tryz.prog 65 #[.pointer (some ⟨k, 0, none⟩)] w fun e w' => ∃ qa qc, e = .returned (.int .i64 (pzR y x ct).2) ∧ Bo w' k (wkV y (pzR y x ct).1 ct p d aa ac qa qc ha hc) ∧ Rwo w' lo w'.heap.size 154 5 qa (pzR y x ct).1.np qc (am (pzR y x ct).1.QM) ∧ Btw k (k + 1) w w' := by
 have hk := HK.1
 have B := Below.refl w.heap.size w
 have KW := HK
 have P2 := HP
 have hm : x.np ≤ maxLen := Nat.le_trans hnp (by decide)
 clear HK HP hnp
 have hfn : ((caL x.QM x.np y.dn y.dd ct y.ag).map cV).length ≤ maxLen := by rw [List.length_map]; exact Nat.le_trans (fk ..) (by decide)
 have CPC := fun (v : World) (h : az v pa (x.np * 5) (am x.QM)) => cC pa x.np pc x.QM y.dn y.dd ct y.ag v hm h
 have CPM := fun (v : World) (h : az v pa (x.np * 5) (am x.QM)) => e9 pa x.np pc x.QM y.dn y.dd ct y.ag (fuL (pnL y x ct) (pnH y x ct) x.kn (gV ((caL x.QM x.np y.dn y.dd ct y.ag).map cV)) ((caL x.QM x.np y.dn y.dd ct y.ag).map cV).length y.li y.le) (fuH (pnL y x ct) (pnH y x ct) x.kn (gV ((caL x.QM x.np y.dn y.dd ct y.ag).map cV)) ((caL x.QM x.np y.dn y.dd ct y.ag).map cV).length y.li y.le) v hm h
 have HFX := pz_eq y x ct
 generalize pzR y x ct = FX at *
 generalize ((caL x.QM x.np y.dn y.dd ct y.ag).map cV) = LL at *
 go_enter Tryz.func65, Tryz.ntmps65
 go_upto_region 1 with fail
 have hu2 : up ≤ w.heap.size := hup
 go_wp2_with fail
 refine (wkNow y x ct p d aa ac pa pc ha hc k w KW).mono ?_
 rintro e v1 ⟨rfl, hb⟩
 have zv1 : w.heap.size ≤ v1.heap.size := hb.size
 replace B := B.trans (hb.mono B.size)
 replace KW := KW.below hb
 replace P2 := P2.below hb
 clear hb
 have hst := bg (P := Tryz.prog) v1 (#[.int .i64 0, .int .i64 0]) (#[.int .i64 (pnL y x ct), .int .i64 (pnH y x ct)]) 47 rfl (List.forall_mem_cons.2 ⟨rfl, (List.forall_mem_cons.2 ⟨rfl, fun _ h => nomatch h⟩)⟩)
 have gQKW : k < v1.heap.size := KW.1
 have gQP2 : up ≤ v1.heap.size := by omega
 have hb := Below.nw v1 (.cells #[.int .i64 (pnL y x ct), .int .i64 (pnH y x ct)] 47)
 have Q := Bo.new v1 #[.int .i64 (pnL y x ct), .int .i64 (pnH y x ct)] 47
 go_upto_region 2 with (rw [hst])
 clear hst
 replace B := B.trans (hb.mono B.size)
 replace KW := KW.below hb
 replace P2 := P2.below hb
 clear hb
 generalize v1.alloc (.cells #[.int .i64 (pnL y x ct), .int .i64 (pnH y x ct)] 47) = v2 at *
 generalize v1.heap.size = kQ at *
 have zv2 : kQ ≤ v2.heap.size := Nat.le_of_lt Q.1
 cases h10 : pnC y x ct == 10
 rotate_left
 ·have hF : FX = (x, 10) := by rw [HFX]; simp only [h10]
  go_wp2_with fail
  go_ret
  exact ⟨pa, pc, by (rw [hF]; try rfl), by rw [hF]; exact KW, by rw [hF]; exact P2.low hlo, Btw.ofBelow B⟩
 go_upto_region 4 with fail
 have SK : Hid (∀ w', Below v2.heap.size v2 w' → (fun w' => w'.cell? ⟨k, 25, none⟩ = some (.slice pa x.np pc) ∧ (loadCells ⟨k, 5, none⟩ 2).run Tryz.prog w' = .ok #[.int .i64 y.dn, .int .i64 y.dd] w' ∧ w'.cell? ⟨k, 16, none⟩ = some (.int .i64 ct) ∧ w'.cell? ⟨k, 10, none⟩ = some (.int .i64 y.ag)) w') := fun w' hw => ⟨(KW.below hw).cell rfl, (KW.below hw).loadAt (P := Tryz.prog) 5 2 (show 5 + 2 ≤ 28 by decide), (KW.below hw).cell rfl, (KW.below hw).cell rfl⟩
 refine wp_region_held_drew (S := (fun w' => w'.cell? ⟨k, 25, none⟩ = some (.slice pa x.np pc) ∧ (loadCells ⟨k, 5, none⟩ 2).run Tryz.prog w' = .ok #[.int .i64 y.dn, .int .i64 y.dd] w' ∧ w'.cell? ⟨k, 16, none⟩ = some (.int .i64 ct) ∧ w'.cell? ⟨k, 10, none⟩ = some (.int .i64 y.ag))) (by kernel_rfl) ?_ (fun hHeld => ?_)
 ·first | exact SK.out _ XB | exact SK.out _ zD
 have XB : Below v2.heap.size v2 v2.drew := Below.drew (Below.refl _ _)
 generalize v2.drew = vx at *
 refine zT8 0 ?_
 refine zT8 8 ?_
 refine zT2 16 ?_
 refine zQ 18 fun K hK => ?_
 go_simp
 refine (CPC vx (P2.below XB).rw.src).mono ?_; rintro ee vq ⟨b0, b1, rfl, OB, OI, AP, hbl⟩; (replace XB := XB.trans (hbl.mono XB.size)); (clear hbl)
 (try go_wp2_with fail)
 refine hK.out _ _ ?_ (fun hHeld => ?_)
 ·first | exact SK.out _ XB | exact SK.out _ zD
 clear hK K
 (try simp only [zA])
 refine zT4 19 ?_
 refine zTk 23 ?_
 refine wpAnyH_done (by kernel_rfl) ?_ _
 have hb := XB
 clear XB SK
 have r4KW : k < v2.heap.size := KW.1
 have r4Q : kQ < v2.heap.size := Q.1
 have zv3 : v2.heap.size ≤ vq.heap.size := hb.size
 obtain ⟨fa, fcp, rfl, RB⟩ := fx OB
 clear OB OI AP
 replace B := B.trans (hb.mono B.size)
 replace KW := KW.below hb
 replace Q := Q.below hb
 replace P2 := P2.below hb
 clear hb
 have CFU := fun (v : World) (h : Src v fa LL.length (gV LL)) => p7 (pnL y x ct) (pnH y x ct) x.kn fa LL.length fcp (gV LL) y.li y.le v hfn h
 go_upto_region 5 with fail
 have SK : Hid (∀ w', Below vq.heap.size vq w' → (fun w' => (loadCells ⟨kQ, 0, none⟩ 2).run Tryz.prog w' = .ok #[.int .i64 (pnL y x ct), .int .i64 (pnH y x ct)] w' ∧ w'.cell? ⟨k, 21, none⟩ = some (.bool x.kn) ∧ w'.cell? ⟨k, 7, none⟩ = some (.int .i64 y.li) ∧ w'.cell? ⟨k, 8, none⟩ = some (.int .i64 y.le)) w') := fun w' hw => ⟨(Q.below hw).loadAt (P := Tryz.prog) 0 2 (show 0 + 2 ≤ 2 by decide), (KW.below hw).cell rfl, (KW.below hw).cell rfl, (KW.below hw).cell rfl⟩
 go_cut [7, 8] (fun s7 s8 wx => ∃ (j : Nat), s7 = .pointer (some ⟨j, 0, none⟩) ∧ s8 = .int .i64 (fuC (pnL y x ct) (pnH y x ct) x.kn (gV LL) LL.length y.li y.le) ∧ Bo wx j (#[.int .i64 (fuL (pnL y x ct) (pnH y x ct) x.kn (gV LL) LL.length y.li y.le), .int .i64 (fuH (pnL y x ct) (pnH y x ct) x.kn (gV LL) LL.length y.li y.le)]) ∧ vq.heap.size ≤ j ∧ Below vq.heap.size vq wx)
 case first => as_aux_lemma =>
  refine wp_region_held_drew (S := (fun w' => (loadCells ⟨kQ, 0, none⟩ 2).run Tryz.prog w' = .ok #[.int .i64 (pnL y x ct), .int .i64 (pnH y x ct)] w' ∧ w'.cell? ⟨k, 21, none⟩ = some (.bool x.kn) ∧ w'.cell? ⟨k, 7, none⟩ = some (.int .i64 y.li) ∧ w'.cell? ⟨k, 8, none⟩ = some (.int .i64 y.le))) (by kernel_rfl) ?_ (fun hHeld => ?_)
  ·first | exact SK.out _ XB | exact SK.out _ zD | exact SK.out _ XF
  have XB : Below vq.heap.size vq vq.drew := Below.drew (Below.refl _ _)
  generalize vq.drew = vx at *
  refine zT8 0 ?_
  refine zT8 8 ?_
  refine zTk 16 ?_
  refine wpAnyH_ready (rs := [17, 21]) (by kernel_rfl) (by simp) ?_
  refine (zCc (fun K hK => ?_) (zR fun K hK => ?_))
  ·go_simp
   refine (CFU vx (m9 (RB.below XB).rw.src)).mono ?_; rintro ee vs ⟨rfl, hbl⟩; (replace XB := XB.trans (hbl.mono XB.size)); (clear hbl)
   (try go_wp2_with fail)
   refine hK.out _ _ ?_ (fun hHeld => ?_)
   ·first | exact SK.out _ XB | exact SK.out _ zD | exact SK.out _ XF
   clear hK K
   (try simp only [zA])
   refine zT2 18 ?_
   refine zTk 20 ?_
   refine zQ 21 fun K hK => ?_
   go_simp
   (have Z := Bo.new vs (#[.int .i64 0, .int .i64 0]) 47); (have NL := Below.nw vs (.cells (#[.int .i64 0, .int .i64 0]) 47)); (have hzv : vq.heap.size ≤ vs.heap.size := XB.size); (replace XB := XB.trans (NL.mono XB.size)); (clear NL); (generalize vs.alloc (.cells (#[.int .i64 0, .int .i64 0]) 47) = vy at *); (generalize vs.heap.size = jz at *); (have hst : (storeCells ⟨jz, 0, none⟩ ([.int .i64 (fuL (pnL y x ct) (pnH y x ct) x.kn (gV LL) LL.length y.li y.le), .int .i64 (fuH (pnL y x ct) (pnH y x ct) x.kn (gV LL) LL.length y.li y.le)])).run Tryz.prog vy = .ok () (aF vy jz 0 (#[.int .i64 (fuL (pnL y x ct) (pnH y x ct) x.kn (gV LL) LL.length y.li y.le), .int .i64 (fuH (pnL y x ct) (pnH y x ct) x.kn (gV LL) LL.length y.li y.le)] : Array Value).toList) := Bo.store (P := Tryz.prog) (b := 0) (#[.int .i64 (fuL (pnL y x ct) (pnH y x ct) x.kn (gV LL) LL.length y.li y.le), .int .i64 (fuH (pnL y x ct) (pnH y x ct) x.kn (gV LL) LL.length y.li y.le)] : Array Value).toList 0 0 Z rfl (show 0 + 2 ≤ 2 by decide) (show ∀ u ∈ ([.int .i64 (fuL (pnL y x ct) (pnH y x ct) x.kn (gV LL) LL.length y.li y.le), .int .i64 (fuH (pnL y x ct) (pnH y x ct) x.kn (gV LL) LL.length y.li y.le)] : List Value), u.oneCell' = true from (List.forall_mem_cons.2 ⟨rfl, (List.forall_mem_cons.2 ⟨rfl, fun _ h => nomatch h⟩)⟩))); (have XF := an (k := jz) (#[.int .i64 (fuL (pnL y x ct) (pnH y x ct) x.kn (gV LL) LL.length y.li y.le), .int .i64 (fuH (pnL y x ct) (pnH y x ct) x.kn (gV LL) LL.length y.li y.le)] : Array Value).toList vq vy 0 XB hzv); (have ZF := Z.putW (U := #[.int .i64 (fuL (pnL y x ct) (pnH y x ct) x.kn (gV LL) LL.length y.li y.le), .int .i64 (fuH (pnL y x ct) (pnH y x ct) x.kn (gV LL) LL.length y.li y.le)]) rfl); (generalize aF vy jz 0 (#[.int .i64 (fuL (pnL y x ct) (pnH y x ct) x.kn (gV LL) LL.length y.li y.le), .int .i64 (fuH (pnL y x ct) (pnH y x ct) x.kn (gV LL) LL.length y.li y.le)] : Array Value).toList = vf at *)
   refine hK.out _ _ ?_ (fun hHeld => ?_)
   ·first | exact SK.out _ XB | exact SK.out _ zD | exact SK.out _ XF
   clear hK K
   (try simp only [zA])
   refine zQ 22 fun K hK => ?_
   go_simp
   refine hK.out _ _ ?_ (fun hHeld => ?_)
   ·first | exact SK.out _ XB | exact SK.out _ zD | exact SK.out _ XF
   clear hK K
   (try simp only [zA])
   refine zTk 23 ?_
   refine wpAnyH_done (by kernel_rfl) ?_ _
   go_wp2_with (rw [hst])
   go_meet
   case rel => exact ⟨jz, rfl, rfl, ZF, hzv, XF⟩
  ·go_simp
   (have Z := Bo.new vx (#[.int .i64 0, .int .i64 0]) 47); (have NL := Below.nw vx (.cells (#[.int .i64 0, .int .i64 0]) 47)); (have hzv : vq.heap.size ≤ vx.heap.size := XB.size); (replace XB := XB.trans (NL.mono XB.size)); (clear NL); (generalize vx.alloc (.cells (#[.int .i64 0, .int .i64 0]) 47) = vy at *); (generalize vx.heap.size = jz at *)
   refine hK.out _ _ ?_ (fun hHeld => ?_)
   ·first | exact SK.out _ XB | exact SK.out _ zD | exact SK.out _ XF
   clear hK K
   (try simp only [zA])
   refine zQ 17 fun K hK => ?_
   go_simp
   refine (CFU vy (m9 (RB.below XB).rw.src)).mono ?_; rintro ee vs ⟨rfl, hbl⟩; (replace XB := XB.trans (hbl.mono XB.size)); (replace Z := Z.below hbl); (clear hbl); (have hst : (storeCells ⟨jz, 0, none⟩ ([.int .i64 (fuL (pnL y x ct) (pnH y x ct) x.kn (gV LL) LL.length y.li y.le), .int .i64 (fuH (pnL y x ct) (pnH y x ct) x.kn (gV LL) LL.length y.li y.le)])).run Tryz.prog vs = .ok () (aF vs jz 0 (#[.int .i64 (fuL (pnL y x ct) (pnH y x ct) x.kn (gV LL) LL.length y.li y.le), .int .i64 (fuH (pnL y x ct) (pnH y x ct) x.kn (gV LL) LL.length y.li y.le)] : Array Value).toList) := Bo.store (P := Tryz.prog) (b := 0) (#[.int .i64 (fuL (pnL y x ct) (pnH y x ct) x.kn (gV LL) LL.length y.li y.le), .int .i64 (fuH (pnL y x ct) (pnH y x ct) x.kn (gV LL) LL.length y.li y.le)] : Array Value).toList 0 0 Z rfl (show 0 + 2 ≤ 2 by decide) (show ∀ u ∈ ([.int .i64 (fuL (pnL y x ct) (pnH y x ct) x.kn (gV LL) LL.length y.li y.le), .int .i64 (fuH (pnL y x ct) (pnH y x ct) x.kn (gV LL) LL.length y.li y.le)] : List Value), u.oneCell' = true from (List.forall_mem_cons.2 ⟨rfl, (List.forall_mem_cons.2 ⟨rfl, fun _ h => nomatch h⟩)⟩))); (have XF := an (k := jz) (#[.int .i64 (fuL (pnL y x ct) (pnH y x ct) x.kn (gV LL) LL.length y.li y.le), .int .i64 (fuH (pnL y x ct) (pnH y x ct) x.kn (gV LL) LL.length y.li y.le)] : Array Value).toList vq vs 0 XB hzv); (have ZF := Z.putW (U := #[.int .i64 (fuL (pnL y x ct) (pnH y x ct) x.kn (gV LL) LL.length y.li y.le), .int .i64 (fuH (pnL y x ct) (pnH y x ct) x.kn (gV LL) LL.length y.li y.le)]) rfl); (generalize aF vs jz 0 (#[.int .i64 (fuL (pnL y x ct) (pnH y x ct) x.kn (gV LL) LL.length y.li y.le), .int .i64 (fuH (pnL y x ct) (pnH y x ct) x.kn (gV LL) LL.length y.li y.le)] : Array Value).toList = vf at *)
   (try go_wp2_with fail)
   refine hK.out _ _ ?_ (fun hHeld => ?_)
   ·first | exact SK.out _ XB | exact SK.out _ zD | exact SK.out _ XF
   clear hK K
   (try simp only [zA])
   refine zT2 18 ?_
   refine zTk 20 ?_
   refine zQ 22 fun K hK => ?_
   go_simp
   refine hK.out _ _ ?_ (fun hHeld => ?_)
   ·first | exact SK.out _ XB | exact SK.out _ zD | exact SK.out _ XF
   clear hK K
   (try simp only [zA])
   refine zTk 23 ?_
   refine wpAnyH_done (by kernel_rfl) ?_ _
   go_wp2_with (rw [hst])
   go_meet
   case rel => exact ⟨jz, rfl, rfl, ZF, hzv, XF⟩
 case rest =>
 obtain ⟨kP, rfl, rfl, P, hjP, hb⟩ := hcut
 clear SK
 have gPKW : k < vq.heap.size := KW.1
 have gPQ : kQ < vq.heap.size := Q.1
 generalize wc = v4 at *
 have zv4 : vq.heap.size ≤ v4.heap.size := hb.size
 replace B := B.trans (hb.mono B.size)
 replace KW := KW.below hb
 replace Q := Q.below hb
 replace P2 := P2.below hb
 replace RB := RB.below hb
 clear hb
 clear CFU RB Q
 cases h2 : fuC (pnL y x ct) (pnH y x ct) x.kn (gV LL) LL.length y.li y.le == 2
 rotate_left
 ·have hF : FX = (x, 11) := by rw [HFX]; simp only [h10, h2]
  go_wp2_with fail
  go_ret
  exact ⟨pa, pc, by (rw [hF]; try rfl), by rw [hF]; exact KW, by rw [hF]; exact P2.low hlo, Btw.ofBelow B⟩
 cases h3 : fuC (pnL y x ct) (pnH y x ct) x.kn (gV LL) LL.length y.li y.le == 3
 rotate_left
 ·have hF : FX = (x, 12) := by rw [HFX]; simp only [h10, h2, h3]
  go_wp2_with fail
  go_ret
  exact ⟨pa, pc, by (rw [hF]; try rfl), by rw [hF]; exact KW, by rw [hF]; exact P2.low hlo, Btw.ofBelow B⟩
 cases h4 : fuC (pnL y x ct) (pnH y x ct) x.kn (gV LL) LL.length y.li y.le == 4
 rotate_left
 ·have hF : FX = (x, 3) := by rw [HFX]; simp only [h10, h2, h3, h4]
  go_wp2_with fail
  go_ret
  exact ⟨pa, pc, by (rw [hF]; try rfl), by rw [hF]; exact KW, by rw [hF]; exact P2.low hlo, Btw.ofBelow B⟩
 go_upto_region 13 with fail
 have SK : Hid (∀ w', Below v4.heap.size v4 w' → (fun w' => (loadCells ⟨kP, 0, none⟩ 2).run Tryz.prog w' = .ok #[.int .i64 (fuL (pnL y x ct) (pnH y x ct) x.kn (gV LL) LL.length y.li y.le), .int .i64 (fuH (pnL y x ct) (pnH y x ct) x.kn (gV LL) LL.length y.li y.le)] w' ∧ w'.cell? ⟨k, 16, none⟩ = some (.int .i64 ct)) w') := fun w' hw => ⟨(P.below hw).loadAt (P := Tryz.prog) 0 2 (show 0 + 2 ≤ 2 by decide), (KW.below hw).cell rfl⟩
 have hPk : kP ≠ k := by omega
 refine wp_region_held_drew (S := (fun w' => (loadCells ⟨kP, 0, none⟩ 2).run Tryz.prog w' = .ok #[.int .i64 (fuL (pnL y x ct) (pnH y x ct) x.kn (gV LL) LL.length y.li y.le), .int .i64 (fuH (pnL y x ct) (pnH y x ct) x.kn (gV LL) LL.length y.li y.le)] w' ∧ w'.cell? ⟨k, 16, none⟩ = some (.int .i64 ct))) (by kernel_rfl) ?_ (fun hHeld => ?_)
 ·first | exact ⟨PN.loadAt (P := Tryz.prog) 0 2 (show 0 + 2 ≤ 2 by decide), KN.cell rfl⟩ | exact SK.out _ XB | exact SK.out _ zD
 have XB : Below v4.heap.size v4 v4.drew := Below.drew (Below.refl _ _)
 generalize v4.drew = vx at *
 refine zT4 0 ?_
 refine zT2 4 ?_
 refine zQ 6 fun K hK => ?_
 go_simp
 refine (du _ _ _ vx).mono ?_; rintro ee vs1 ⟨rfl, hbl⟩; (replace XB := XB.trans (hbl.mono XB.size)); (clear hbl)
 (try go_wp2_with fail)
 refine hK.out _ _ ?_ (fun hHeld => ?_)
 ·first | exact ⟨PN.loadAt (P := Tryz.prog) 0 2 (show 0 + 2 ≤ 2 by decide), KN.cell rfl⟩ | exact SK.out _ XB | exact SK.out _ zD
 clear hK K
 (try simp only [zA])
 refine zQ 7 fun K hK => ?_
 go_simp
 refine (rC y x ct p d aa ac pa pc ha hc k _ _ _ _ vs1 (KW.below XB)).mono ?_; rintro ee vt ⟨rfl, KN, XN⟩; (have PN := (P.below XB).btw XN (by omega)); (have QN := (P2.below XB).btw XN (by omega)); (have BN := (Btw.ofBelow (lo := k) (hi := k + 1) (B.trans (XB.mono B.size))).trans XN); (clear XN)
 (try go_wp2_with fail)
 refine hK.out _ _ ?_ (fun hHeld => ?_)
 ·first | exact ⟨PN.loadAt (P := Tryz.prog) 0 2 (show 0 + 2 ≤ 2 by decide), KN.cell rfl⟩ | exact SK.out _ XB | exact SK.out _ zD
 clear hK K
 (try simp only [zA])
 refine wpAnyH_done (by kernel_rfl) ?_ _
 clear XB SK KW P P2 B
 go_upto_region 14 with fail
 refine wp_region_held_drew (S := (fun w' => (loadCells ⟨k, 5, none⟩ 2).run Tryz.prog w' = .ok #[.int .i64 y.dn, .int .i64 y.dd] w' ∧ w'.cell? ⟨k, 16, none⟩ = some (.int .i64 ct) ∧ w'.cell? ⟨k, 10, none⟩ = some (.int .i64 y.ag) ∧ (loadCells ⟨kP, 0, none⟩ 2).run Tryz.prog w' = .ok #[.int .i64 (fuL (pnL y x ct) (pnH y x ct) x.kn (gV LL) LL.length y.li y.le), .int .i64 (fuH (pnL y x ct) (pnH y x ct) x.kn (gV LL) LL.length y.li y.le)] w')) (by kernel_rfl) ?_ (fun hHeld => ?_)
 ·first | exact hS2 | exact hS1 | exact hS | exact ⟨(Bo.drew KN).loadAt (P := Tryz.prog) 5 2 (show 5 + 2 ≤ 28 by decide), (Bo.drew KN).cell rfl, (Bo.drew KN).cell rfl, (Bo.drew PN).loadAt (P := Tryz.prog) 0 2 (show 0 + 2 ≤ 2 by decide)⟩
 have XB : Below vt.heap.size vt vt.drew := Below.drew (Below.refl _ _)
 replace KN := KN.below XB
 replace PN := PN.below XB
 replace QN := QN.below XB
 replace BN := BN.trans (Btw.ofBelow XB)
 clear XB
 generalize vt.drew = vy at *
 have hS : (fun w' => (loadCells ⟨k, 5, none⟩ 2).run Tryz.prog w' = .ok #[.int .i64 y.dn, .int .i64 y.dd] w' ∧ w'.cell? ⟨k, 16, none⟩ = some (.int .i64 ct) ∧ w'.cell? ⟨k, 10, none⟩ = some (.int .i64 y.ag) ∧ (loadCells ⟨kP, 0, none⟩ 2).run Tryz.prog w' = .ok #[.int .i64 (fuL (pnL y x ct) (pnH y x ct) x.kn (gV LL) LL.length y.li y.le), .int .i64 (fuH (pnL y x ct) (pnH y x ct) x.kn (gV LL) LL.length y.li y.le)] w') vy := ⟨KN.loadAt (P := Tryz.prog) 5 2 (show 5 + 2 ≤ 28 by decide), KN.cell rfl, KN.cell rfl, PN.loadAt (P := Tryz.prog) 0 2 (show 0 + 2 ≤ 2 by decide)⟩
 have hL : vy.cell? ⟨k, 25, none⟩ = some (.slice pa x.np pc) := KN.cell rfl
 refine zT4 0 ?_
 refine zT8 5 ?_
 refine zT4 13 ?_
 refine zT2 17 ?_
 refine zTk 19 ?_
 refine zQ 4 fun K hK => ?_
 go_simp
 refine hK.out _ _ ?_ (fun hHeld => ?_)
 ·first | exact hS2 | exact hS1 | exact hS | exact ⟨(Bo.drew KN).loadAt (P := Tryz.prog) 5 2 (show 5 + 2 ≤ 28 by decide), (Bo.drew KN).cell rfl, (Bo.drew KN).cell rfl, (Bo.drew PN).loadAt (P := Tryz.prog) 0 2 (show 0 + 2 ≤ 2 by decide)⟩
 clear hK K
 (try simp only [zA])
 refine zQ 20 fun K hK => ?_
 go_simp
 refine (CPM vy QN.rw.src).mono ?_; rintro ee vs2 ⟨pv, rfl, OP, hbl⟩; (obtain ⟨qa, qc, rfl, RP⟩ := fx OP); (clear OP); (have K1 := KN.below hbl); (have P1 := PN.below hbl); (have X1 := BN.trans (Btw.ofBelow hbl)); (have hkv : k < vy.heap.size := KN.1); (have hwv : w.heap.size ≤ vy.heap.size := BN.2.2.2.1); (have hS1 : (fun w' => (loadCells ⟨k, 5, none⟩ 2).run Tryz.prog w' = .ok #[.int .i64 y.dn, .int .i64 y.dd] w' ∧ w'.cell? ⟨k, 16, none⟩ = some (.int .i64 ct) ∧ w'.cell? ⟨k, 10, none⟩ = some (.int .i64 y.ag) ∧ (loadCells ⟨kP, 0, none⟩ 2).run Tryz.prog w' = .ok #[.int .i64 (fuL (pnL y x ct) (pnH y x ct) x.kn (gV LL) LL.length y.li y.le), .int .i64 (fuH (pnL y x ct) (pnH y x ct) x.kn (gV LL) LL.length y.li y.le)] w') vs2 := ⟨K1.loadAt (P := Tryz.prog) 5 2 (show 5 + 2 ≤ 28 by decide), K1.cell rfl, K1.cell rfl, P1.loadAt (P := Tryz.prog) 0 2 (show 0 + 2 ≤ 2 by decide)⟩); (have hst := Bo.store (P := Tryz.prog) (b := 25) ([.slice qa (mrL x.QM x.np y.dn y.dd ct y.ag (fuL (pnL y x ct) (pnH y x ct) x.kn (gV LL) LL.length y.li y.le) (fuH (pnL y x ct) (pnH y x ct) x.kn (gV LL) LL.length y.li y.le)).length qc]) 25 0 K1 rfl (show 25 + 1 ≤ 28 by decide) (List.forall_mem_cons.2 ⟨rfl, fun _ h => nomatch h⟩)); (have KF := Bo.put ([.slice qa (mrL x.QM x.np y.dn y.dd ct y.ag (fuL (pnL y x ct) (pnH y x ct) x.kn (gV LL) LL.length y.li y.le) (fuH (pnL y x ct) (pnH y x ct) x.kn (gV LL) LL.length y.li y.le)).length qc]) 25 K1); (rw [qS _ _ _ _ _ _ _ _ _ _ _ _ _ _ (gP (mrL x.QM x.np y.dn y.dd ct y.ag (fuL (pnL y x ct) (pnH y x ct) x.kn (gV LL) LL.length y.li y.le) (fuH (pnL y x ct) (pnH y x ct) x.kn (gV LL) LL.length y.li y.le)))] at KF); (have hbt := ay ([.slice qa (mrL x.QM x.np y.dn y.dd ct y.ag (fuL (pnL y x ct) (pnH y x ct) x.kn (gV LL) LL.length y.li y.le) (fuH (pnL y x ct) (pnH y x ct) x.kn (gV LL) LL.length y.li y.le)).length qc]) vs2 25 k); (have PF := P1.btw hbt (by omega)); (have RF := RP.btw hbt (.inr hkv)); (have XF := X1.trans hbt); (clear hbt hbl hL KN PN BN QN); (generalize aF vs2 k 25 ([.slice qa (mrL x.QM x.np y.dn y.dd ct y.ag (fuL (pnL y x ct) (pnH y x ct) x.kn (gV LL) LL.length y.li y.le) (fuH (pnL y x ct) (pnH y x ct) x.kn (gV LL) LL.length y.li y.le)).length qc]) = vf at *); (have hS2 : (fun w' => (loadCells ⟨k, 5, none⟩ 2).run Tryz.prog w' = .ok #[.int .i64 y.dn, .int .i64 y.dd] w' ∧ w'.cell? ⟨k, 16, none⟩ = some (.int .i64 ct) ∧ w'.cell? ⟨k, 10, none⟩ = some (.int .i64 y.ag) ∧ (loadCells ⟨kP, 0, none⟩ 2).run Tryz.prog w' = .ok #[.int .i64 (fuL (pnL y x ct) (pnH y x ct) x.kn (gV LL) LL.length y.li y.le), .int .i64 (fuH (pnL y x ct) (pnH y x ct) x.kn (gV LL) LL.length y.li y.le)] w') vf := ⟨KF.loadAt (P := Tryz.prog) 5 2 (show 5 + 2 ≤ 28 by decide), KF.cell rfl, KF.cell rfl, PF.loadAt (P := Tryz.prog) 0 2 (show 0 + 2 ≤ 2 by decide)⟩)
 (try go_wp2_with fail)
 refine hK.out _ _ ?_ (fun hHeld => ?_)
 ·first | exact hS2 | exact hS1 | exact hS | exact ⟨(Bo.drew KN).loadAt (P := Tryz.prog) 5 2 (show 5 + 2 ≤ 28 by decide), (Bo.drew KN).cell rfl, (Bo.drew KN).cell rfl, (Bo.drew PN).loadAt (P := Tryz.prog) 0 2 (show 0 + 2 ≤ 2 by decide)⟩
 clear hK K
 (try simp only [zA])
 refine zT2 21 ?_
 refine zQ 23 fun K hK => ?_
 go_simp
 refine hK.out _ _ ?_ (fun hHeld => ?_)
 ·first | exact hS2 | exact hS1 | exact hS | exact ⟨(Bo.drew KN).loadAt (P := Tryz.prog) 5 2 (show 5 + 2 ≤ 28 by decide), (Bo.drew KN).cell rfl, (Bo.drew KN).cell rfl, (Bo.drew PN).loadAt (P := Tryz.prog) 0 2 (show 0 + 2 ≤ 2 by decide)⟩
 clear hK K
 (try simp only [zA])
 refine wpAnyH_done (by kernel_rfl) ?_ _
 go_wp2_with (rw [hst])
 go_ret
 have hF : FX = ({ x with kn := true, lo := fuL (pnL y x ct) (pnH y x ct) x.kn (gV LL) LL.length y.li y.le, hi := fuH (pnL y x ct) (pnH y x ct) x.kn (gV LL) LL.length y.li y.le, la := ct, mo := stM x.mo x.ep x.si 3 ct, ep := stE x.mo x.ep x.si 3 ct, si := stS x.mo x.ep x.si 3 ct, QM := gP (mrL x.QM x.np y.dn y.dd ct y.ag (fuL (pnL y x ct) (pnH y x ct) x.kn (gV LL) LL.length y.li y.le) (fuH (pnL y x ct) (pnH y x ct) x.kn (gV LL) LL.length y.li y.le)), np := (mrL x.QM x.np y.dn y.dd ct y.ag (fuL (pnL y x ct) (pnH y x ct) x.kn (gV LL) LL.length y.li y.le) (fuH (pnL y x ct) (pnH y x ct) x.kn (gV LL) LL.length y.li y.le)).length }, 0) := by rw [HFX]; simp only [h10, h2, h3, h4]
 exact ⟨qa, qc, by (rw [hF]; try rfl), by rw [hF]; exact KF, by rw [hF]; exact RF.low (Nat.le_trans hlw hwv), XF⟩
end Go.Proofs.YtikbjljkakabdaaGreat
