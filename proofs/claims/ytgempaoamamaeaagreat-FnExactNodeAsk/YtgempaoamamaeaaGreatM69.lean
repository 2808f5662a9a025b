/- A node while a call works on it: it asks (the program). -/
import Derived.Laws.EntriesVeiled
import Derived.Test.YtgempaoamamaeaaGreatM0
import Derived.Test.YtgempaoamamaeaaGreatM33
import Derived.Test.YtgempaoamamaeaaGreatM68
namespace Go.Proofs.YtgempaoamamaeaaGreat
open Go.RowKit
set_option linter.unusedVariables false
theorem wk_table (y : CfX) (x : NdX) (ct : Int) (p : Option Addr) (d : Nat) (aa : Option Addr) (ac : Nat) (pa : Option Addr) (pc : Nat) (ha : Option Addr) (hc : Nat) (te us : Int) (a : Option Addr) (n c : Nat) (F : Nat → KT) : spl (wkV y x ct p d aa ac pa pc ha hc) 0 [.int .i64 te, .int .i64 us, .slice a n c] = wkV y { x with te := te, us := us, AM := F, na := n } ct p d a c pa pc ha hc := by
  simp only [wkV, spl, List.setIfInBounds_toArray, List.set_cons_zero, List.set_cons_succ]
attribute [-go_sem] loadCells storeCells in
set_option maxRecDepth 100000 in
set_option maxHeartbeats 8000000 in
theorem wkProbe (y : CfX) (x : NdX) (ct : Int) (p : Option Addr) (d : Nat) (aa : Option Addr) (ac : Nat) (pa : Option Addr) (pc : Nat) (ha : Option Addr) (hc k : Nat) (xt nn : Int) (w : World) (HK : Bo w k (wkV y x ct p d aa ac pa pc ha hc)) :
    Calls Tryz.prog 92 #[.pointer (some ⟨k, 0, none⟩), .int .i64 xt, .int .i64 nn] w fun e w' => e = .returned (.agg #[.int .i64 1, .int .i64 x.ni, .int .i64 xt, .int .i64 nn, .int .i64 0, .int .i64 0, .int .i64 0, .string ⟨#[]⟩]) ∧ Below w.heap.size w w' := by
  have hk := HK.1
  have A0 := Below.nw w (.cells #[.int .i64 0, .int .i64 0, .int .i64 0, .int .i64 0, .int .i64 0, .int .i64 0, .int .i64 0, .string ⟨#[]⟩] 59)
  have R := Bo.new w #[.int .i64 0, .int .i64 0, .int .i64 0, .int .i64 0, .int .i64 0, .int .i64 0, .int .i64 0, .string ⟨#[]⟩] 59
  have B := A0
  clear A0
  have KW := HK.below (Below.nw w (.cells #[.int .i64 0, .int .i64 0, .int .i64 0, .int .i64 0, .int .i64 0, .int .i64 0, .int .i64 0, .string ⟨#[]⟩] 59))
  clear HK
  go_enter Tryz.func92, Tryz.ntmps92
  go_upto_region 1 with fail
  generalize w.alloc (.cells #[.int .i64 0, .int .i64 0, .int .i64 0, .int .i64 0, .int .i64 0, .int .i64 0, .int .i64 0, .string ⟨#[]⟩] 59) = v0 at *
  have hL0 : v0.cell? ⟨k, 17, none⟩ = some (.int .i64 x.ni) := KW.cell rfl
  have hst := Bo.store (P := Tryz.prog) (b := 0) ([.int .i64 1, .int .i64 x.ni, .int .i64 xt, .int .i64 nn, .int .i64 0, .int .i64 0, .int .i64 0, .string ⟨#[]⟩]) 0 0 R rfl (show 0 + 8 ≤ 8 by decide) (List.forall_mem_cons.2 ⟨rfl, (List.forall_mem_cons.2 ⟨rfl, (List.forall_mem_cons.2 ⟨rfl, (List.forall_mem_cons.2 ⟨rfl, (List.forall_mem_cons.2 ⟨rfl, (List.forall_mem_cons.2 ⟨rfl, (List.forall_mem_cons.2 ⟨rfl, (List.forall_mem_cons.2 ⟨rfl, fun _ h => nomatch h⟩)⟩)⟩)⟩)⟩)⟩)⟩)⟩)
  have hb : Btw (w.heap.size) (w.heap.size + 1) v0 _ := putA_btw ([.int .i64 1, .int .i64 x.ni, .int .i64 xt, .int .i64 nn, .int .i64 0, .int .i64 0, .int .i64 0, .string ⟨#[]⟩]) v0 0 (w.heap.size)
  have B1 := putA_below (k := w.heap.size) ([.int .i64 1, .int .i64 x.ni, .int .i64 xt, .int .i64 nn, .int .i64 0, .int .i64 0, .int .i64 0, .string ⟨#[]⟩]) w v0 0 B (by omega)
  have N1 : Bo (putA v0 (w.heap.size) 0 ([.int .i64 1, .int .i64 x.ni, .int .i64 xt, .int .i64 nn, .int .i64 0, .int .i64 0, .int .i64 0, .string ⟨#[]⟩])) (w.heap.size) (#[.int .i64 1, .int .i64 x.ni, .int .i64 xt, .int .i64 nn, .int .i64 0, .int .i64 0, .int .i64 0, .string ⟨#[]⟩]) := R.putW (U := #[.int .i64 1, .int .i64 x.ni, .int .i64 xt, .int .i64 nn, .int .i64 0, .int .i64 0, .int .i64 0, .string ⟨#[]⟩]) rfl
  go_wp2_with (rw [hst])
  clear hst hL0 R B
  replace KW := KW.btw hb (by omega)
  clear hb
  generalize putA v0 (w.heap.size) 0 ([.int .i64 1, .int .i64 x.ni, .int .i64 xt, .int .i64 nn, .int .i64 0, .int .i64 0, .int .i64 0, .string ⟨#[]⟩]) = v1 at *
  have B := B1
  have R := N1
  clear B1 N1
  have hL0 := R.load (P := Tryz.prog) (show (#[.int .i64 1, .int .i64 x.ni, .int .i64 xt, .int .i64 nn, .int .i64 0, .int .i64 0, .int .i64 0, .string ⟨#[]⟩] : Array Value).size = 8 from rfl)
  exact bodyPost_ret (v := .agg #[.int .i64 1, .int .i64 x.ni, .int .i64 xt, .int .i64 nn, .int .i64 0, .int .i64 0, .int .i64 0, .string ⟨#[]⟩]) (by simp [results, Tryz.results92, go_sem]; rw [hL0]; rfl) rfl ⟨rfl, B⟩
attribute [-go_sem] loadCells storeCells in
set_option maxRecDepth 100000 in
set_option maxHeartbeats 8000000 in
theorem wkIssuespent (y : CfX) (x : NdX) (ct : Int) (p : Option Addr) (d : Nat) (aa : Option Addr) (ac : Nat) (pa : Option Addr) (pc : Nat) (ha : Option Addr) (hc k : Nat) (lp up : Nat) (xt : Int) (w : World) (hm : x.na ≤ maxLen) (hup : up ≤ w.heap.size) (hko : k < lp ∨ up ≤ k) (HP : Rwo w lp up 125 4 aa x.na ac (MFAsk x.AM)) (hwf : ∀ i, i < x.na → (Lit.int .i64 (x.AM i).1).wf = true) (htb : tabB x.te x.us x.AM x.na = true) (hnd : nodB xt = true) (htm : tmB ct = true) (hus : x.us = 1000) (HK : Bo w k (wkV y x ct p d aa ac pa pc ha hc)) :
    Calls Tryz.prog 91 #[.pointer (some ⟨k, 0, none⟩), .int .i64 xt, .int .i64 ct] w fun e w' => ∃ ta tc, e = .returned (.tuple #[.int .i64 0, .int .i64 2]) ∧ Bo w' k (wkV y x ct p d ta tc pa pc ha hc) ∧ Rwo w' w.heap.size w'.heap.size 125 4 ta x.na tc (MFAsk x.AM) ∧ Btw k (k + 1) w w' := by
  have CI := implIssue_spent x.te x.us aa x.na ac x.AM xt ct w hm (HP.rw.src) hwf htb hnd htm hus
  have hk := HK.1
  have hL : (loadCells ⟨k, 0, none⟩ 3).run Tryz.prog w = .ok #[.int .i64 x.te, .int .i64 x.us, .slice aa x.na ac] w := HK.loadAt (P := Tryz.prog) 0 3 (show 0 + 3 ≤ 28 by decide)
  clear hm HP hwf htb hnd htm hus
  go_enter Tryz.func91, Tryz.ntmps91
  go_wp2_with (rw [hL])
  refine CI.mono ?_
  rintro e v1 ⟨ta, tc, rfl, OT, hb⟩
  have RT := own_rwA OT
  have K1 := HK.below hb
  have X1 := Btw.ofBelow (lo := k) (hi := k + 1) hb
  clear hL OT hb HK CI
  have hst := Bo.store (P := Tryz.prog) (b := 0) ([.int .i64 x.te, .int .i64 x.us, .slice ta x.na tc]) 0 0 K1 rfl (show 0 + 3 ≤ 28 by decide) (List.forall_mem_cons.2 ⟨rfl, (List.forall_mem_cons.2 ⟨rfl, (List.forall_mem_cons.2 ⟨rfl, fun _ h => nomatch h⟩)⟩)⟩)
  have KF := Bo.put ([.int .i64 x.te, .int .i64 x.us, .slice ta x.na tc]) 0 K1
  rw [wk_table y x ct p d aa ac pa pc ha hc x.te x.us ta x.na tc x.AM] at KF
  have hbt := putA_btw ([.int .i64 x.te, .int .i64 x.us, .slice ta x.na tc]) v1 0 k
  have RF := RT.btw hbt (.inr hk)
  have XF := X1.trans hbt
  go_wp2_with (rw [hst])
  clear hst hbt K1 RT X1
  generalize putA v1 k 0 ([.int .i64 x.te, .int .i64 x.us, .slice ta x.na tc]) = v2 at *
  go_ret2
  exact ⟨ta, tc, rfl, KF, RF.low (Nat.le_refl _), XF⟩
attribute [-go_sem] loadCells storeCells in
set_option maxRecDepth 100000 in
set_option maxHeartbeats 8000000 in
theorem wkIssuefull (y : CfX) (x : NdX) (ct : Int) (p : Option Addr) (d : Nat) (aa : Option Addr) (ac : Nat) (pa : Option Addr) (pc : Nat) (ha : Option Addr) (hc k : Nat) (lp up : Nat) (xt : Int) (w : World) (hm : x.na ≤ maxLen) (hup : up ≤ w.heap.size) (hko : k < lp ∨ up ≤ k) (HP : Rwo w lp up 125 4 aa x.na ac (MFAsk x.AM)) (hwf : ∀ i, i < x.na → (Lit.int .i64 (x.AM i).1).wf = true) (htb : tabB x.te x.us x.AM x.na = true) (hnd : nodB xt = true) (htm : tmB ct = true) (hus : x.us ≠ 1000) (hn16 : x.na = 16) (HK : Bo w k (wkV y x ct p d aa ac pa pc ha hc)) :
    Calls Tryz.prog 91 #[.pointer (some ⟨k, 0, none⟩), .int .i64 xt, .int .i64 ct] w fun e w' => ∃ ta tc, e = .returned (.tuple #[.int .i64 0, .int .i64 3]) ∧ Bo w' k (wkV y x ct p d ta tc pa pc ha hc) ∧ Rwo w' w.heap.size w'.heap.size 125 4 ta x.na tc (MFAsk x.AM) ∧ Btw k (k + 1) w w' := by
  have CI := implIssue_full x.te x.us aa x.na ac x.AM xt ct w hm (HP.rw.src) hwf htb hnd htm hus hn16
  have hk := HK.1
  have hL : (loadCells ⟨k, 0, none⟩ 3).run Tryz.prog w = .ok #[.int .i64 x.te, .int .i64 x.us, .slice aa x.na ac] w := HK.loadAt (P := Tryz.prog) 0 3 (show 0 + 3 ≤ 28 by decide)
  clear hm HP hwf htb hnd htm hus hn16
  go_enter Tryz.func91, Tryz.ntmps91
  go_wp2_with (rw [hL])
  refine CI.mono ?_
  rintro e v1 ⟨ta, tc, rfl, OT, hb⟩
  have RT := own_rwA OT
  have K1 := HK.below hb
  have X1 := Btw.ofBelow (lo := k) (hi := k + 1) hb
  clear hL OT hb HK CI
  have hst := Bo.store (P := Tryz.prog) (b := 0) ([.int .i64 x.te, .int .i64 x.us, .slice ta x.na tc]) 0 0 K1 rfl (show 0 + 3 ≤ 28 by decide) (List.forall_mem_cons.2 ⟨rfl, (List.forall_mem_cons.2 ⟨rfl, (List.forall_mem_cons.2 ⟨rfl, fun _ h => nomatch h⟩)⟩)⟩)
  have KF := Bo.put ([.int .i64 x.te, .int .i64 x.us, .slice ta x.na tc]) 0 K1
  rw [wk_table y x ct p d aa ac pa pc ha hc x.te x.us ta x.na tc x.AM] at KF
  have hbt := putA_btw ([.int .i64 x.te, .int .i64 x.us, .slice ta x.na tc]) v1 0 k
  have RF := RT.btw hbt (.inr hk)
  have XF := X1.trans hbt
  go_wp2_with (rw [hst])
  clear hst hbt K1 RT X1
  generalize putA v1 k 0 ([.int .i64 x.te, .int .i64 x.us, .slice ta x.na tc]) = v2 at *
  go_ret2
  exact ⟨ta, tc, rfl, KF, RF.low (Nat.le_refl _), XF⟩
attribute [-go_sem] loadCells storeCells in
set_option maxRecDepth 100000 in
set_option maxHeartbeats 8000000 in
theorem wkIssuedone (y : CfX) (x : NdX) (ct : Int) (p : Option Addr) (d : Nat) (aa : Option Addr) (ac : Nat) (pa : Option Addr) (pc : Nat) (ha : Option Addr) (hc k : Nat) (lp up : Nat) (xt : Int) (w : World) (hm : x.na ≤ maxLen) (hup : up ≤ w.heap.size) (hko : k < lp ∨ up ≤ k) (HP : Rwo w lp up 125 4 aa x.na ac (MFAsk x.AM)) (hwf : ∀ i, i < x.na → (Lit.int .i64 (x.AM i).1).wf = true) (htb : tabB x.te x.us x.AM x.na = true) (hnd : nodB xt = true) (htm : tmB ct = true) (hus : x.us ≠ 1000) (hn16 : x.na ≠ 16) (HK : Bo w k (wkV y x ct p d aa ac pa pc ha hc)) :
    Calls Tryz.prog 91 #[.pointer (some ⟨k, 0, none⟩), .int .i64 xt, .int .i64 ct] w fun e w' => ∃ ta tc, e = .returned (.tuple #[.int .i64 (x.te * 1000 + x.us), .int .i64 0]) ∧ Bo w' k (wkV y { x with us := x.us + 1, AM := addG x.AM x.na (kT (x.te * 1000 + x.us) xt ct 1), na := x.na + 1 } ct p d ta tc pa pc ha hc) ∧ Rwo w' w.heap.size w'.heap.size 125 4 ta (x.na + 1) tc (MFAsk (addG x.AM x.na (kT (x.te * 1000 + x.us) xt ct 1))) ∧ Btw k (k + 1) w w' := by
  have CI := implIssue_done x.te x.us aa x.na ac x.AM xt ct w hm (HP.rw.src) hwf htb hnd htm hus hn16 (x.te * 1000 + x.us) rfl
  have hk := HK.1
  have hL : (loadCells ⟨k, 0, none⟩ 3).run Tryz.prog w = .ok #[.int .i64 x.te, .int .i64 x.us, .slice aa x.na ac] w := HK.loadAt (P := Tryz.prog) 0 3 (show 0 + 3 ≤ 28 by decide)
  clear hm HP hwf htb hnd htm hus hn16
  go_enter Tryz.func91, Tryz.ntmps91
  go_wp2_with (rw [hL])
  refine CI.mono ?_
  rintro e v1 ⟨ta, tc, rfl, OT, hb⟩
  have RT := own_rwA OT
  have K1 := HK.below hb
  have X1 := Btw.ofBelow (lo := k) (hi := k + 1) hb
  clear hL OT hb HK CI
  have hst := Bo.store (P := Tryz.prog) (b := 0) ([.int .i64 x.te, .int .i64 (x.us + 1), .slice ta (x.na + 1) tc]) 0 0 K1 rfl (show 0 + 3 ≤ 28 by decide) (List.forall_mem_cons.2 ⟨rfl, (List.forall_mem_cons.2 ⟨rfl, (List.forall_mem_cons.2 ⟨rfl, fun _ h => nomatch h⟩)⟩)⟩)
  have KF := Bo.put ([.int .i64 x.te, .int .i64 (x.us + 1), .slice ta (x.na + 1) tc]) 0 K1
  rw [wk_table y x ct p d aa ac pa pc ha hc x.te (x.us + 1) ta (x.na + 1) tc (addG x.AM x.na (kT (x.te * 1000 + x.us) xt ct 1))] at KF
  have hbt := putA_btw ([.int .i64 x.te, .int .i64 (x.us + 1), .slice ta (x.na + 1) tc]) v1 0 k
  have RF := RT.btw hbt (.inr hk)
  have XF := X1.trans hbt
  go_wp2_with (rw [hst])
  clear hst hbt K1 RT X1
  generalize putA v1 k 0 ([.int .i64 x.te, .int .i64 (x.us + 1), .slice ta (x.na + 1) tc]) = v2 at *
  go_ret2
  exact ⟨ta, tc, rfl, KF, RF.low (Nat.le_refl _), XF⟩
attribute [-go_sem] loadCells storeCells in
set_option maxRecDepth 100000 in
set_option maxHeartbeats 8000000 in
theorem wkAskspent (y : CfX) (x : NdX) (ct : Int) (p : Option Addr) (d : Nat) (aa : Option Addr) (ac : Nat) (pa : Option Addr) (pc : Nat) (ha : Option Addr) (hc k : Nat) (lp up : Nat) (xt : Int) (w : World) (hm : x.na ≤ maxLen) (hup : up ≤ w.heap.size) (hko : k < lp ∨ up ≤ k) (HP : Rwo w lp up 125 4 aa x.na ac (MFAsk x.AM)) (hwf : ∀ i, i < x.na → (Lit.int .i64 (x.AM i).1).wf = true) (htb : tabB x.te x.us x.AM x.na = true) (hnd : nodB xt = true) (htm : tmB ct = true) (hus : x.us = 1000) (HK : Bo w k (wkV y x ct p d aa ac pa pc ha hc)) :
    Calls Tryz.prog 44 #[.pointer (some ⟨k, 0, none⟩), .int .i64 xt] w fun e w' => ∃ ta tc, e = .returned (.tuple #[.agg #[.int .i64 0, .int .i64 0, .int .i64 0, .int .i64 0, .int .i64 0, .int .i64 0, .int .i64 0, .string ⟨#[]⟩], .int .i64 4]) ∧ Bo w' k (wkV y x ct p d ta tc pa pc ha hc) ∧ Rwo w' w.heap.size w'.heap.size 125 4 ta x.na tc (MFAsk x.AM) ∧ Btw k (k + 1) w w' := by
  have hk := HK.1
  have hkz : k + 1 ≤ w.heap.size := hk
  have A0 := Below.nw w (.cells #[.int .i64 0, .int .i64 0, .int .i64 0, .int .i64 0, .int .i64 0, .int .i64 0, .int .i64 0, .string ⟨#[]⟩] 59)
  have R := Bo.new w #[.int .i64 0, .int .i64 0, .int .i64 0, .int .i64 0, .int .i64 0, .int .i64 0, .int .i64 0, .string ⟨#[]⟩] 59
  have B := A0
  clear A0
  have A9 := Below.nw w (.cells #[.int .i64 0, .int .i64 0, .int .i64 0, .int .i64 0, .int .i64 0, .int .i64 0, .int .i64 0, .string ⟨#[]⟩] 59)
  have KW := HK.below A9
  have P1 := HP.below A9
  clear HK HP A9
  go_enter Tryz.func44, Tryz.ntmps44
  go_upto_region 1 with fail
  generalize w.alloc (.cells #[.int .i64 0, .int .i64 0, .int .i64 0, .int .i64 0, .int .i64 0, .int .i64 0, .int .i64 0, .string ⟨#[]⟩] 59) = v0 at *
  have hb : Below v0.heap.size v0 v0.drew := Below.drew (Below.refl _ _)
  have hwv : w.heap.size ≤ v0.heap.size := B.size
  go_upto_region 1 with fail
  refine wp_region_held_drew (S := (fun w' => w'.cell? ⟨k, 16, none⟩ = some (.int .i64 ct))) (by kernel_rfl) ?_ (fun hHeld => ?_)
  · first | exact hS1 | exact hS0 | exact (Bo.drew KW).cell rfl
  replace B := B.trans (hb.mono B.size)
  replace R := R.below hb
  replace KW := KW.below hb
  replace P1 := P1.below hb
  have hwv2 := hb.size
  clear hb
  generalize v0.drew = vx at *
  have hS0 : (fun w' => w'.cell? ⟨k, 16, none⟩ = some (.int .i64 ct)) vx := KW.cell rfl
  have hux : w.heap.size ≤ vx.heap.size := B.size
  refine zTk 0 ?_
  (try simp only [Act.put, zSb, zS0, zS1])
  refine zTk 1 ?_
  (try simp only [Act.put, zSb, zS0, zS1])
  refine zTk 2 ?_
  (try simp only [Act.put, zSb, zS0, zS1])
  refine zTk 3 ?_
  (try simp only [Act.put, zSb, zS0, zS1])
  refine zTk 4 ?_
  (try simp only [Act.put, zSb, zS0, zS1])
  refine zTk 5 ?_
  (try simp only [Act.put, zSb, zS0, zS1])
  refine zTk 6 ?_
  (try simp only [Act.put, zSb, zS0, zS1])
  refine zTk 7 ?_
  (try simp only [Act.put, zSb, zS0, zS1])
  refine wpAnyH_ready (rs := [8]) (by kernel_rfl) (by simp) ?_
  refine AllReadyH.cons (by rw [List.getElem?_toArray]; rfl) (fun K hK => ?_) AllReadyH.nil
  go_simp
  refine (wkIssuespent y x ct p d aa ac pa pc ha hc k lp up xt vx hm (by omega) hko P1 hwf htb hnd htm hus KW).mono ?_; rintro ee vs ⟨ta, tc, rfl, KN, RT, XN⟩; (have hS1 : (fun w' => w'.cell? ⟨k, 16, none⟩ = some (.int .i64 ct)) vs := KN.cell rfl)
  (try go_wp2_with fail)
  refine hK.out _ _ ?_ (fun hHeld => ?_)
  · first | exact hS1 | exact hS0 | exact (Bo.drew KW).cell rfl
  clear hK K
  (try simp only [Act.put, zSb, zS0, zS1])
  refine zTk 9 ?_
  (try simp only [Act.put, zSb, zS0, zS1])
  refine zTk 10 ?_
  (try simp only [Act.put, zSb, zS0, zS1])
  refine zTk 11 ?_
  (try simp only [Act.put, zSb, zS0, zS1])
  refine zTk 12 ?_
  (try simp only [Act.put, zSb, zS0, zS1])
  refine zTk 13 ?_
  (try simp only [Act.put, zSb, zS0, zS1])
  refine wpAnyH_done (by kernel_rfl) ?_ _
  have X := (Btw.ofBelow (lo := k) (hi := k + 1) B).trans XN
  have R9 := R.btw XN (by omega)
  have zs : vx.heap.size ≤ vs.heap.size := XN.2.2.2.1
  have hux1 : w.heap.size + 1 ≤ vx.heap.size := R.1
  have RT1 := RT.low hux1
  clear RT R B XN KW P1 hS0 hS1 hm hup hwf htb hnd htm hus
  have R := R9
  clear R9
  have hst := Bo.store (P := Tryz.prog) (b := 0) ([.int .i64 0, .int .i64 0, .int .i64 0, .int .i64 0, .int .i64 0, .int .i64 0, .int .i64 0, .string ⟨#[]⟩]) 0 0 R rfl (show 0 + 8 ≤ 8 by decide) (List.forall_mem_cons.2 ⟨rfl, (List.forall_mem_cons.2 ⟨rfl, (List.forall_mem_cons.2 ⟨rfl, (List.forall_mem_cons.2 ⟨rfl, (List.forall_mem_cons.2 ⟨rfl, (List.forall_mem_cons.2 ⟨rfl, (List.forall_mem_cons.2 ⟨rfl, (List.forall_mem_cons.2 ⟨rfl, fun _ h => nomatch h⟩)⟩)⟩)⟩)⟩)⟩)⟩)⟩)
  have hbt := putA_btw ([.int .i64 0, .int .i64 0, .int .i64 0, .int .i64 0, .int .i64 0, .int .i64 0, .int .i64 0, .string ⟨#[]⟩]) vs 0 w.heap.size
  have R1 : Bo (putA vs w.heap.size 0 ([.int .i64 0, .int .i64 0, .int .i64 0, .int .i64 0, .int .i64 0, .int .i64 0, .int .i64 0, .string ⟨#[]⟩])) w.heap.size (#[.int .i64 0, .int .i64 0, .int .i64 0, .int .i64 0, .int .i64 0, .int .i64 0, .int .i64 0, .string ⟨#[]⟩]) := R.putW (U := #[.int .i64 0, .int .i64 0, .int .i64 0, .int .i64 0, .int .i64 0, .int .i64 0, .int .i64 0, .string ⟨#[]⟩]) rfl
  have K1 := KN.btw hbt (.inl hk)
  have X1 : Btw k (k + 1) w (putA vs w.heap.size 0 ([.int .i64 0, .int .i64 0, .int .i64 0, .int .i64 0, .int .i64 0, .int .i64 0, .int .i64 0, .string ⟨#[]⟩])) := ⟨hbt.1.trans X.1, hbt.2.1.trans X.2.1, hbt.2.2.1.trans X.2.2.1, Nat.le_trans X.2.2.2.1 hbt.2.2.2.1, fun q hq ho => (hbt.2.2.2.2 q (Nat.lt_of_lt_of_le hq X.2.2.2.1) (.inl hq)).trans (X.2.2.2.2 q hq ho)⟩
  have RT2 : Rwo (putA vs w.heap.size 0 ([.int .i64 0, .int .i64 0, .int .i64 0, .int .i64 0, .int .i64 0, .int .i64 0, .int .i64 0, .string ⟨#[]⟩])) (w.heap.size + 1) (putA vs w.heap.size 0 ([.int .i64 0, .int .i64 0, .int .i64 0, .int .i64 0, .int .i64 0, .int .i64 0, .int .i64 0, .string ⟨#[]⟩])).heap.size 125 4 ta x.na tc (MFAsk x.AM) := (RT1.btw hbt (.inr (Nat.le_refl _))).low (Nat.le_refl _)
  go_wp2_with (rw [hst])
  clear hst hbt R KN X RT1
  generalize putA vs w.heap.size 0 ([.int .i64 0, .int .i64 0, .int .i64 0, .int .i64 0, .int .i64 0, .int .i64 0, .int .i64 0, .string ⟨#[]⟩]) = vz at *
  have hL0 := R1.load (P := Tryz.prog) (show (#[.int .i64 0, .int .i64 0, .int .i64 0, .int .i64 0, .int .i64 0, .int .i64 0, .int .i64 0, .string ⟨#[]⟩] : Array Value).size = 8 from rfl)
  exact bodyPost_ret (v := .tuple #[.agg #[.int .i64 0, .int .i64 0, .int .i64 0, .int .i64 0, .int .i64 0, .int .i64 0, .int .i64 0, .string ⟨#[]⟩], .int .i64 4]) (by simp [results, Tryz.results44, go_sem]; rw [hL0]; rfl) rfl ⟨ta, tc, rfl, K1, RT2.low (Nat.le_succ _), X1⟩
attribute [-go_sem] loadCells storeCells in
set_option maxRecDepth 100000 in
set_option maxHeartbeats 8000000 in
theorem wkAskfull (y : CfX) (x : NdX) (ct : Int) (p : Option Addr) (d : Nat) (aa : Option Addr) (ac : Nat) (pa : Option Addr) (pc : Nat) (ha : Option Addr) (hc k : Nat) (lp up : Nat) (xt : Int) (w : World) (hm : x.na ≤ maxLen) (hup : up ≤ w.heap.size) (hko : k < lp ∨ up ≤ k) (HP : Rwo w lp up 125 4 aa x.na ac (MFAsk x.AM)) (hwf : ∀ i, i < x.na → (Lit.int .i64 (x.AM i).1).wf = true) (htb : tabB x.te x.us x.AM x.na = true) (hnd : nodB xt = true) (htm : tmB ct = true) (hus : x.us ≠ 1000) (hn16 : x.na = 16) (HK : Bo w k (wkV y x ct p d aa ac pa pc ha hc)) :
    Calls Tryz.prog 44 #[.pointer (some ⟨k, 0, none⟩), .int .i64 xt] w fun e w' => ∃ ta tc, e = .returned (.tuple #[.agg #[.int .i64 0, .int .i64 0, .int .i64 0, .int .i64 0, .int .i64 0, .int .i64 0, .int .i64 0, .string ⟨#[]⟩], .int .i64 5]) ∧ Bo w' k (wkV y x ct p d ta tc pa pc ha hc) ∧ Rwo w' w.heap.size w'.heap.size 125 4 ta x.na tc (MFAsk x.AM) ∧ Btw k (k + 1) w w' := by
  have hk := HK.1
  have hkz : k + 1 ≤ w.heap.size := hk
  have A0 := Below.nw w (.cells #[.int .i64 0, .int .i64 0, .int .i64 0, .int .i64 0, .int .i64 0, .int .i64 0, .int .i64 0, .string ⟨#[]⟩] 59)
  have R := Bo.new w #[.int .i64 0, .int .i64 0, .int .i64 0, .int .i64 0, .int .i64 0, .int .i64 0, .int .i64 0, .string ⟨#[]⟩] 59
  have B := A0
  clear A0
  have A9 := Below.nw w (.cells #[.int .i64 0, .int .i64 0, .int .i64 0, .int .i64 0, .int .i64 0, .int .i64 0, .int .i64 0, .string ⟨#[]⟩] 59)
  have KW := HK.below A9
  have P1 := HP.below A9
  clear HK HP A9
  go_enter Tryz.func44, Tryz.ntmps44
  go_upto_region 1 with fail
  generalize w.alloc (.cells #[.int .i64 0, .int .i64 0, .int .i64 0, .int .i64 0, .int .i64 0, .int .i64 0, .int .i64 0, .string ⟨#[]⟩] 59) = v0 at *
  have hb : Below v0.heap.size v0 v0.drew := Below.drew (Below.refl _ _)
  have hwv : w.heap.size ≤ v0.heap.size := B.size
  go_upto_region 1 with fail
  refine wp_region_held_drew (S := (fun w' => w'.cell? ⟨k, 16, none⟩ = some (.int .i64 ct))) (by kernel_rfl) ?_ (fun hHeld => ?_)
  · first | exact hS1 | exact hS0 | exact (Bo.drew KW).cell rfl
  replace B := B.trans (hb.mono B.size)
  replace R := R.below hb
  replace KW := KW.below hb
  replace P1 := P1.below hb
  have hwv2 := hb.size
  clear hb
  generalize v0.drew = vx at *
  have hS0 : (fun w' => w'.cell? ⟨k, 16, none⟩ = some (.int .i64 ct)) vx := KW.cell rfl
  have hux : w.heap.size ≤ vx.heap.size := B.size
  refine zTk 0 ?_
  (try simp only [Act.put, zSb, zS0, zS1])
  refine zTk 1 ?_
  (try simp only [Act.put, zSb, zS0, zS1])
  refine zTk 2 ?_
  (try simp only [Act.put, zSb, zS0, zS1])
  refine zTk 3 ?_
  (try simp only [Act.put, zSb, zS0, zS1])
  refine zTk 4 ?_
  (try simp only [Act.put, zSb, zS0, zS1])
  refine zTk 5 ?_
  (try simp only [Act.put, zSb, zS0, zS1])
  refine zTk 6 ?_
  (try simp only [Act.put, zSb, zS0, zS1])
  refine zTk 7 ?_
  (try simp only [Act.put, zSb, zS0, zS1])
  refine wpAnyH_ready (rs := [8]) (by kernel_rfl) (by simp) ?_
  refine AllReadyH.cons (by rw [List.getElem?_toArray]; rfl) (fun K hK => ?_) AllReadyH.nil
  go_simp
  refine (wkIssuefull y x ct p d aa ac pa pc ha hc k lp up xt vx hm (by omega) hko P1 hwf htb hnd htm hus hn16 KW).mono ?_; rintro ee vs ⟨ta, tc, rfl, KN, RT, XN⟩; (have hS1 : (fun w' => w'.cell? ⟨k, 16, none⟩ = some (.int .i64 ct)) vs := KN.cell rfl)
  (try go_wp2_with fail)
  refine hK.out _ _ ?_ (fun hHeld => ?_)
  · first | exact hS1 | exact hS0 | exact (Bo.drew KW).cell rfl
  clear hK K
  (try simp only [Act.put, zSb, zS0, zS1])
  refine zTk 9 ?_
  (try simp only [Act.put, zSb, zS0, zS1])
  refine zTk 10 ?_
  (try simp only [Act.put, zSb, zS0, zS1])
  refine zTk 11 ?_
  (try simp only [Act.put, zSb, zS0, zS1])
  refine zTk 12 ?_
  (try simp only [Act.put, zSb, zS0, zS1])
  refine zTk 13 ?_
  (try simp only [Act.put, zSb, zS0, zS1])
  refine wpAnyH_done (by kernel_rfl) ?_ _
  have X := (Btw.ofBelow (lo := k) (hi := k + 1) B).trans XN
  have R9 := R.btw XN (by omega)
  have zs : vx.heap.size ≤ vs.heap.size := XN.2.2.2.1
  have hux1 : w.heap.size + 1 ≤ vx.heap.size := R.1
  have RT1 := RT.low hux1
  clear RT R B XN KW P1 hS0 hS1 hm hup hwf htb hnd htm hus hn16
  have R := R9
  clear R9
  have hst := Bo.store (P := Tryz.prog) (b := 0) ([.int .i64 0, .int .i64 0, .int .i64 0, .int .i64 0, .int .i64 0, .int .i64 0, .int .i64 0, .string ⟨#[]⟩]) 0 0 R rfl (show 0 + 8 ≤ 8 by decide) (List.forall_mem_cons.2 ⟨rfl, (List.forall_mem_cons.2 ⟨rfl, (List.forall_mem_cons.2 ⟨rfl, (List.forall_mem_cons.2 ⟨rfl, (List.forall_mem_cons.2 ⟨rfl, (List.forall_mem_cons.2 ⟨rfl, (List.forall_mem_cons.2 ⟨rfl, (List.forall_mem_cons.2 ⟨rfl, fun _ h => nomatch h⟩)⟩)⟩)⟩)⟩)⟩)⟩)⟩)
  have hbt := putA_btw ([.int .i64 0, .int .i64 0, .int .i64 0, .int .i64 0, .int .i64 0, .int .i64 0, .int .i64 0, .string ⟨#[]⟩]) vs 0 w.heap.size
  have R1 : Bo (putA vs w.heap.size 0 ([.int .i64 0, .int .i64 0, .int .i64 0, .int .i64 0, .int .i64 0, .int .i64 0, .int .i64 0, .string ⟨#[]⟩])) w.heap.size (#[.int .i64 0, .int .i64 0, .int .i64 0, .int .i64 0, .int .i64 0, .int .i64 0, .int .i64 0, .string ⟨#[]⟩]) := R.putW (U := #[.int .i64 0, .int .i64 0, .int .i64 0, .int .i64 0, .int .i64 0, .int .i64 0, .int .i64 0, .string ⟨#[]⟩]) rfl
  have K1 := KN.btw hbt (.inl hk)
  have X1 : Btw k (k + 1) w (putA vs w.heap.size 0 ([.int .i64 0, .int .i64 0, .int .i64 0, .int .i64 0, .int .i64 0, .int .i64 0, .int .i64 0, .string ⟨#[]⟩])) := ⟨hbt.1.trans X.1, hbt.2.1.trans X.2.1, hbt.2.2.1.trans X.2.2.1, Nat.le_trans X.2.2.2.1 hbt.2.2.2.1, fun q hq ho => (hbt.2.2.2.2 q (Nat.lt_of_lt_of_le hq X.2.2.2.1) (.inl hq)).trans (X.2.2.2.2 q hq ho)⟩
  have RT2 : Rwo (putA vs w.heap.size 0 ([.int .i64 0, .int .i64 0, .int .i64 0, .int .i64 0, .int .i64 0, .int .i64 0, .int .i64 0, .string ⟨#[]⟩])) (w.heap.size + 1) (putA vs w.heap.size 0 ([.int .i64 0, .int .i64 0, .int .i64 0, .int .i64 0, .int .i64 0, .int .i64 0, .int .i64 0, .string ⟨#[]⟩])).heap.size 125 4 ta x.na tc (MFAsk x.AM) := (RT1.btw hbt (.inr (Nat.le_refl _))).low (Nat.le_refl _)
  go_wp2_with (rw [hst])
  clear hst hbt R KN X RT1
  generalize putA vs w.heap.size 0 ([.int .i64 0, .int .i64 0, .int .i64 0, .int .i64 0, .int .i64 0, .int .i64 0, .int .i64 0, .string ⟨#[]⟩]) = vz at *
  have hL0 := R1.load (P := Tryz.prog) (show (#[.int .i64 0, .int .i64 0, .int .i64 0, .int .i64 0, .int .i64 0, .int .i64 0, .int .i64 0, .string ⟨#[]⟩] : Array Value).size = 8 from rfl)
  exact bodyPost_ret (v := .tuple #[.agg #[.int .i64 0, .int .i64 0, .int .i64 0, .int .i64 0, .int .i64 0, .int .i64 0, .int .i64 0, .string ⟨#[]⟩], .int .i64 5]) (by simp [results, Tryz.results44, go_sem]; rw [hL0]; rfl) rfl ⟨ta, tc, rfl, K1, RT2.low (Nat.le_succ _), X1⟩
attribute [-go_sem] loadCells storeCells in
set_option maxRecDepth 100000 in
set_option maxHeartbeats 8000000 in
theorem wkAskdone (y : CfX) (x : NdX) (ct : Int) (p : Option Addr) (d : Nat) (aa : Option Addr) (ac : Nat) (pa : Option Addr) (pc : Nat) (ha : Option Addr) (hc k : Nat) (lp up : Nat) (xt : Int) (w : World) (hm : x.na ≤ maxLen) (hup : up ≤ w.heap.size) (hko : k < lp ∨ up ≤ k) (HP : Rwo w lp up 125 4 aa x.na ac (MFAsk x.AM)) (hwf : ∀ i, i < x.na → (Lit.int .i64 (x.AM i).1).wf = true) (htb : tabB x.te x.us x.AM x.na = true) (hnd : nodB xt = true) (htm : tmB ct = true) (hus : x.us ≠ 1000) (hn16 : x.na ≠ 16) (HK : Bo w k (wkV y x ct p d aa ac pa pc ha hc)) :
    Calls Tryz.prog 44 #[.pointer (some ⟨k, 0, none⟩), .int .i64 xt] w fun e w' => ∃ ta tc, e = .returned (.tuple #[.agg #[.int .i64 1, .int .i64 x.ni, .int .i64 xt, .int .i64 (x.te * 1000 + x.us), .int .i64 0, .int .i64 0, .int .i64 0, .string ⟨#[]⟩], .int .i64 0]) ∧ Bo w' k (wkV y { x with us := x.us + 1, AM := addG x.AM x.na (kT (x.te * 1000 + x.us) xt ct 1), na := x.na + 1 } ct p d ta tc pa pc ha hc) ∧ Rwo w' w.heap.size w'.heap.size 125 4 ta (x.na + 1) tc (MFAsk (addG x.AM x.na (kT (x.te * 1000 + x.us) xt ct 1))) ∧ Btw k (k + 1) w w' := by
  have hk := HK.1
  have hkz : k + 1 ≤ w.heap.size := hk
  have A0 := Below.nw w (.cells #[.int .i64 0, .int .i64 0, .int .i64 0, .int .i64 0, .int .i64 0, .int .i64 0, .int .i64 0, .string ⟨#[]⟩] 59)
  have R := Bo.new w #[.int .i64 0, .int .i64 0, .int .i64 0, .int .i64 0, .int .i64 0, .int .i64 0, .int .i64 0, .string ⟨#[]⟩] 59
  have B := A0
  clear A0
  have A9 := Below.nw w (.cells #[.int .i64 0, .int .i64 0, .int .i64 0, .int .i64 0, .int .i64 0, .int .i64 0, .int .i64 0, .string ⟨#[]⟩] 59)
  have KW := HK.below A9
  have P1 := HP.below A9
  clear HK HP A9
  go_enter Tryz.func44, Tryz.ntmps44
  go_upto_region 1 with fail
  generalize w.alloc (.cells #[.int .i64 0, .int .i64 0, .int .i64 0, .int .i64 0, .int .i64 0, .int .i64 0, .int .i64 0, .string ⟨#[]⟩] 59) = v0 at *
  have hb : Below v0.heap.size v0 v0.drew := Below.drew (Below.refl _ _)
  have hwv : w.heap.size ≤ v0.heap.size := B.size
  go_upto_region 1 with fail
  refine wp_region_held_drew (S := (fun w' => w'.cell? ⟨k, 16, none⟩ = some (.int .i64 ct))) (by kernel_rfl) ?_ (fun hHeld => ?_)
  · first | exact hS1 | exact hS0 | exact (Bo.drew KW).cell rfl
  replace B := B.trans (hb.mono B.size)
  replace R := R.below hb
  replace KW := KW.below hb
  replace P1 := P1.below hb
  have hwv2 := hb.size
  clear hb
  generalize v0.drew = vx at *
  have hS0 : (fun w' => w'.cell? ⟨k, 16, none⟩ = some (.int .i64 ct)) vx := KW.cell rfl
  have hux : w.heap.size ≤ vx.heap.size := B.size
  refine zTk 0 ?_
  (try simp only [Act.put, zSb, zS0, zS1])
  refine zTk 1 ?_
  (try simp only [Act.put, zSb, zS0, zS1])
  refine zTk 2 ?_
  (try simp only [Act.put, zSb, zS0, zS1])
  refine zTk 3 ?_
  (try simp only [Act.put, zSb, zS0, zS1])
  refine zTk 4 ?_
  (try simp only [Act.put, zSb, zS0, zS1])
  refine zTk 5 ?_
  (try simp only [Act.put, zSb, zS0, zS1])
  refine zTk 6 ?_
  (try simp only [Act.put, zSb, zS0, zS1])
  refine zTk 7 ?_
  (try simp only [Act.put, zSb, zS0, zS1])
  refine wpAnyH_ready (rs := [8]) (by kernel_rfl) (by simp) ?_
  refine AllReadyH.cons (by rw [List.getElem?_toArray]; rfl) (fun K hK => ?_) AllReadyH.nil
  go_simp
  refine (wkIssuedone y x ct p d aa ac pa pc ha hc k lp up xt vx hm (by omega) hko P1 hwf htb hnd htm hus hn16 KW).mono ?_; rintro ee vs ⟨ta, tc, rfl, KN, RT, XN⟩; (have hS1 : (fun w' => w'.cell? ⟨k, 16, none⟩ = some (.int .i64 ct)) vs := KN.cell rfl)
  (try go_wp2_with fail)
  refine hK.out _ _ ?_ (fun hHeld => ?_)
  · first | exact hS1 | exact hS0 | exact (Bo.drew KW).cell rfl
  clear hK K
  (try simp only [Act.put, zSb, zS0, zS1])
  refine zTk 9 ?_
  (try simp only [Act.put, zSb, zS0, zS1])
  refine zTk 10 ?_
  (try simp only [Act.put, zSb, zS0, zS1])
  refine zTk 11 ?_
  (try simp only [Act.put, zSb, zS0, zS1])
  refine zTk 12 ?_
  (try simp only [Act.put, zSb, zS0, zS1])
  refine zTk 13 ?_
  (try simp only [Act.put, zSb, zS0, zS1])
  refine wpAnyH_done (by kernel_rfl) ?_ _
  have X := (Btw.ofBelow (lo := k) (hi := k + 1) B).trans XN
  have R9 := R.btw XN (by omega)
  have zs : vx.heap.size ≤ vs.heap.size := XN.2.2.2.1
  have hux1 : w.heap.size + 1 ≤ vx.heap.size := R.1
  have RT1 := RT.low hux1
  clear RT R B XN KW P1 hS0 hS1 hm hup hwf htb hnd htm hus hn16
  have R := R9
  clear R9
  go_wp2_with fail
  refine (wkProbe y ({ x with us := x.us + 1, AM := addG x.AM x.na (kT (x.te * 1000 + x.us) xt ct 1), na := x.na + 1 }) ct p d ta tc pa pc ha hc k xt (x.te * 1000 + x.us) vs KN).mono ?_
  rintro e vt ⟨rfl, hb⟩
  replace KN := KN.below hb
  replace R := R.below hb
  replace RT1 := RT1.below hb
  replace X := X.trans (Btw.ofBelow hb)
  clear hb
  have hst := Bo.store (P := Tryz.prog) (b := 0) ([.int .i64 1, .int .i64 x.ni, .int .i64 xt, .int .i64 (x.te * 1000 + x.us), .int .i64 0, .int .i64 0, .int .i64 0, .string ⟨#[]⟩]) 0 0 R rfl (show 0 + 8 ≤ 8 by decide) (List.forall_mem_cons.2 ⟨rfl, (List.forall_mem_cons.2 ⟨rfl, (List.forall_mem_cons.2 ⟨rfl, (List.forall_mem_cons.2 ⟨rfl, (List.forall_mem_cons.2 ⟨rfl, (List.forall_mem_cons.2 ⟨rfl, (List.forall_mem_cons.2 ⟨rfl, (List.forall_mem_cons.2 ⟨rfl, fun _ h => nomatch h⟩)⟩)⟩)⟩)⟩)⟩)⟩)⟩)
  have hbt := putA_btw ([.int .i64 1, .int .i64 x.ni, .int .i64 xt, .int .i64 (x.te * 1000 + x.us), .int .i64 0, .int .i64 0, .int .i64 0, .string ⟨#[]⟩]) vt 0 w.heap.size
  have R1 : Bo (putA vt w.heap.size 0 ([.int .i64 1, .int .i64 x.ni, .int .i64 xt, .int .i64 (x.te * 1000 + x.us), .int .i64 0, .int .i64 0, .int .i64 0, .string ⟨#[]⟩])) w.heap.size (#[.int .i64 1, .int .i64 x.ni, .int .i64 xt, .int .i64 (x.te * 1000 + x.us), .int .i64 0, .int .i64 0, .int .i64 0, .string ⟨#[]⟩]) := R.putW (U := #[.int .i64 1, .int .i64 x.ni, .int .i64 xt, .int .i64 (x.te * 1000 + x.us), .int .i64 0, .int .i64 0, .int .i64 0, .string ⟨#[]⟩]) rfl
  have K1 := KN.btw hbt (.inl hk)
  have X1 : Btw k (k + 1) w (putA vt w.heap.size 0 ([.int .i64 1, .int .i64 x.ni, .int .i64 xt, .int .i64 (x.te * 1000 + x.us), .int .i64 0, .int .i64 0, .int .i64 0, .string ⟨#[]⟩])) := ⟨hbt.1.trans X.1, hbt.2.1.trans X.2.1, hbt.2.2.1.trans X.2.2.1, Nat.le_trans X.2.2.2.1 hbt.2.2.2.1, fun q hq ho => (hbt.2.2.2.2 q (Nat.lt_of_lt_of_le hq X.2.2.2.1) (.inl hq)).trans (X.2.2.2.2 q hq ho)⟩
  have RT2 : Rwo (putA vt w.heap.size 0 ([.int .i64 1, .int .i64 x.ni, .int .i64 xt, .int .i64 (x.te * 1000 + x.us), .int .i64 0, .int .i64 0, .int .i64 0, .string ⟨#[]⟩])) (w.heap.size + 1) (putA vt w.heap.size 0 ([.int .i64 1, .int .i64 x.ni, .int .i64 xt, .int .i64 (x.te * 1000 + x.us), .int .i64 0, .int .i64 0, .int .i64 0, .string ⟨#[]⟩])).heap.size 125 4 ta (x.na + 1) tc (MFAsk (addG x.AM x.na (kT (x.te * 1000 + x.us) xt ct 1))) := (RT1.btw hbt (.inr (Nat.le_refl _))).low (Nat.le_refl _)
  go_wp2_with (rw [hst])
  clear hst hbt R KN X RT1
  generalize putA vt w.heap.size 0 ([.int .i64 1, .int .i64 x.ni, .int .i64 xt, .int .i64 (x.te * 1000 + x.us), .int .i64 0, .int .i64 0, .int .i64 0, .string ⟨#[]⟩]) = vz at *
  have hL0 := R1.load (P := Tryz.prog) (show (#[.int .i64 1, .int .i64 x.ni, .int .i64 xt, .int .i64 (x.te * 1000 + x.us), .int .i64 0, .int .i64 0, .int .i64 0, .string ⟨#[]⟩] : Array Value).size = 8 from rfl)
  exact bodyPost_ret (v := .tuple #[.agg #[.int .i64 1, .int .i64 x.ni, .int .i64 xt, .int .i64 (x.te * 1000 + x.us), .int .i64 0, .int .i64 0, .int .i64 0, .string ⟨#[]⟩], .int .i64 0]) (by simp [results, Tryz.results44, go_sem]; rw [hL0]; rfl) rfl ⟨ta, tc, rfl, K1, RT2.low (Nat.le_succ _), X1⟩
end Go.Proofs.YtgempaoamamaeaaGreat
