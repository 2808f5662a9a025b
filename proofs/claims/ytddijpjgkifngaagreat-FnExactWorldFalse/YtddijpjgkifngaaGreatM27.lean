/- Rows of nodes. A world as data; what the laws make of it, ask of it. Which worlds are right. -/
import Derived.Test.YtddijpjgkifngaaGreatM0
import Derived.Test.YtddijpjgkifngaaGreatM23
import Derived.Test.YtddijpjgkifngaaGreatM25
import Derived.Test.YtddijpjgkifngaaGreatM26
namespace Go.Proofs.YtddijpjgkifngaaGreat
open Go.RowKit
set_option linter.unusedVariables false
def CsN (w : World) (b off n : Nat) (AM : Nat → Array Value) : Prop := b < w.heap.size ∧ ∀ i, i < n → ∀ j u, (AM i)[j]? = some u → w.cell? ⟨b, off + i * 16 + j, none⟩ = some u
theorem CsN.below {w w' : World} {b off n : Nat} {AM : Nat → Array Value} (h : CsN w b off n AM) (hb : Below w.heap.size w w') : CsN w' b off n AM :=
 ⟨Nat.lt_of_lt_of_le h.1 hb.size, fun i hi j u hj => by rw [hb.cell (p := ⟨b, off + i * 16 + j, none⟩) h.1]; exact h.2 i hi j u hj⟩
theorem CsN.load {P : Program} {w : World} {b off n i : Nat} {AM : Nat → Array Value} (h : CsN w b off n AM) (hi : i < n) (hs : (AM i).size = 16) : (loadCells ⟨b, off + i * 16, none⟩ 16).run P w = .ok (AM i) w := by
 have e := run_loadCells_list (P := P) w ⟨b, off + i * 16, none⟩ (AM i).toList (fun j v hj => by rw [add_at]; exact h.2 i hi j v (by simpa using hj))
 have e2 : (AM i).toList.length = 16 := by simpa using hs
 rw [e2, Array.toArray_toList] at e
 exact e
def RwN (Q : World → Array Value → NdX → Prop) (w : World) (a : Option Addr) (n : Nat) (XM : Nat → NdX) : Prop := n = 0 ∨ ∃ b off AM, a = some ⟨b, off, none⟩ ∧ CsN w b off n AM ∧ ∀ i, i < n → Q w (AM i) (XM i)
theorem RwN.belowW {w w' : World} {a : Option Addr} {n : Nat} {XM : Nat → NdX} (h : RwN NdW w a n XM) (hb : Below w.heap.size w w') : RwN NdW w' a n XM := by
 rcases h with h | ⟨b, off, AM, e, hc, hq⟩
 ·exact .inl h
 ·exact .inr ⟨b, off, AM, e, hc.below hb, fun i hi => (hq i hi).below hb⟩
theorem RwN.belowS {w w' : World} {a : Option Addr} {n : Nat} {XM : Nat → NdX} (h : RwN NdS w a n XM) (hb : Below w.heap.size w w') : RwN NdS w' a n XM := by
 rcases h with h | ⟨b, off, AM, e, hc, hq⟩
 ·exact .inl h
 ·exact .inr ⟨b, off, AM, e, hc.below hb, fun i hi => (hq i hi).below hb⟩
theorem RwN.weak {w : World} {a : Option Addr} {n : Nat} {XM : Nat → NdX} (h : RwN NdS w a n XM) : RwN NdW w a n XM := by
 rcases h with h | ⟨b, off, AM, e, hc, hq⟩
 ·exact .inl h
 ·exact .inr ⟨b, off, AM, e, hc, fun i hi => (hq i hi).weak⟩
def shX (x : NdX) : Prop := x.na ≤ 1048576 ∧ x.np ≤ 1048576 ∧ x.nh ≤ 1048576
theorem eqNodeW (A A' : Array Value) (x : NdX) (w : World) (h : NdW w A x) (h' : NdW w A' x) :
 Calls Tryz.prog 103 #[.agg A, .agg A'] w fun e w' => e = .returned (.bool true) ∧ Below w.heap.size w w' := by
 obtain ⟨aa, ac, pa, pc, ha, hc, rfl, hl, h1, h2, h3⟩ := h
 obtain ⟨aa', ac', pa', pc', ha', hc', rfl, hl', h1', h2', h3'⟩ := h'
 exact eqNode_same x.ni x.mo x.ep x.si x.kn x.lo x.hi x.la x.te x.us aa x.na ac x.AM pa x.np pc x.QM x.hs x.ls ha x.nh hc x.HM x.se aa' pa' ha' ac' pc' hc' w hl.1 h1 hl.2.1 h2 hl.2.2 h3 h1' h2' h3'
def NvP (w : World) (g n k : Nat) (XM : Nat → NdX) : Prop := ∃ (A : Array Value) (AM : Nat → Array Value), Bo w g A ∧ A.size = n * 16 ∧ (∀ i, i < k → ∀ j u, (AM i)[j]? = some u → A[i * 16 + j]? = some u) ∧ ∀ i, i < k → NdO w (g + 1) w.heap.size (AM i) (XM i)
theorem NvP.below {w w' : World} {g n k : Nat} {XM : Nat → NdX} (h : NvP w g n k XM) (hb : Below w.heap.size w w') : NvP w' g n k XM := by
 obtain ⟨A, AM, h1, h2, h3, h4⟩ := h
 exact ⟨A, AM, h1.below hb, h2, h3, fun i hi => ((h4 i hi).below hb).wide (Nat.le_refl _) hb.size⟩
theorem NvP.bo {w : World} {g n k : Nat} {XM : Nat → NdX} (h : NvP w g n k XM) : ∃ A, Bo w g A ∧ A.size = n * 16 := by
 obtain ⟨A, AM, h1, h2, _⟩ := h
 exact ⟨A, h1, h2⟩
theorem NvP.put {w : World} {g n k l : Nat} {XM : Nat → NdX} {R : Array Value} (h : NvP w g n k XM) (hR : NdO w l w.heap.size R (XM k)) (hl : g + 1 ≤ l) (hk : k < n) : NvP (putA w g (k * 16) R.toList) g n (k + 1) XM := by
 obtain ⟨A, AM, h1, h2, h3, h4⟩ := h
 have hs := hR.size
 have hb : Btw g (g + 1) w (putA w g (k * 16) R.toList) := putA_btw R.toList w (k * 16) g
 have hz : (putA w g (k * 16) R.toList).heap.size = w.heap.size := putA_size g R.toList w (k * 16)
 refine ⟨spl A (k * 16) R.toList, fun i => if i = k then R else AM i, Bo.put R.toList (k * 16) h1, by rw [spl_size, h2], fun i hi j u hj => ?_, fun i hi => ?_⟩
 ·rw [spl_get _ _ _ _ (by simp [hs]; omega)]
  have hj : (if i = k then R else AM i)[j]? = some u := hj
  by_cases e : i = k
  ·subst e
   rw [if_pos rfl] at hj
   have hj16 : j < 16 := by have := (Array.getElem?_eq_some_iff.1 hj).1; omega
   rw [if_pos (by simp [hs]; omega), Array.getElem?_toList, show i * 16 + j - i * 16 = j by omega]
   exact hj
  ·rw [if_neg e] at hj
   have hj16 : j < 16 := by have := (Array.getElem?_eq_some_iff.1 hj).1; have := (h4 i (by omega)).size; omega
   rw [if_neg (by omega)]
   exact h3 i (by omega) j u hj
 ·rw [hz]
  show NdO _ _ _ (if i = k then R else AM i) (XM i)
  by_cases e : i = k
  ·subst e
   rw [if_pos rfl]
   exact (hR.wide hl (Nat.le_refl _)).btw hb (.inr (Nat.le_refl _))
  ·rw [if_neg e]
   exact (h4 i (by omega)).btw hb (.inr (Nat.le_refl _))
theorem NvP.done {w : World} {g n : Nat} {XM : Nat → NdX} (h : NvP w g n n XM) : ∃ AM, CsN w g 0 n AM ∧ ∀ i, i < n → NdO w (g + 1) w.heap.size (AM i) (XM i) := by
 obtain ⟨A, AM, h1, h2, h3, h4⟩ := h
 exact ⟨AM, ⟨h1.1, fun i hi j u hj => by rw [Nat.zero_add]; exact h1.cell (h3 i hi j u hj)⟩, h4⟩
def rowObjNd (n : Nat) : Obj := .cells (madeCells #[.int .i64 0, .int .i64 0, .int .i64 0, .int .i64 0, .bool false, .int .i64 0, .int .i64 0, .int .i64 0, .int .i64 0, .int .i64 0, .slice none 0 0, .slice none 0 0, .bool false, .int .i64 0, .slice none 0 0, .int .i64 0] (n * 16)) 98
theorem infoNd : (Tryz.prog.info? 98).map (fun i => (i.zero, i.size, i.bytes)) = some (some (.agg #[.int .i64 0, .int .i64 0, .int .i64 0, .int .i64 0, .bool false, .int .i64 0, .int .i64 0, .int .i64 0, .int .i64 0, .int .i64 0, .slice none 0 0, .slice none 0 0, .bool false, .int .i64 0, .slice none 0 0, .int .i64 0]), 16, 176) := by kernel_rfl
theorem mk_rowNd (n : Nat) (h : n ≤ 1048576) (w : World) : (Instr.makeSlice 46 (.int .i64 (n : Int)) (.int .i64 (n : Int))).run Tryz.prog w = .ok (.slice (some ⟨w.heap.size, 0, none⟩) n n) (w.alloc (rowObjNd n)) := by
 obtain ⟨i, hi, hz⟩ := Option.map_eq_some_iff.1 infoNd
 simp only [Prod.mk.injEq] at hz
 obtain ⟨h1, h2, h3⟩ := hz
 have hr := run_make (P := Tryz.prog) w 46 98 i _ Tryz.underlying46 hi h1 .i64 .i64 n n (by omega) (Int.le_refl _) (by rw [h3]; omega) (by omega)
 simp only [Int.toNat_natCast, h2] at hr
 exact hr
theorem NvP.new (w : World) (n : Nat) (XM : Nat → NdX) : NvP (w.alloc (rowObjNd n)) w.heap.size n 0 XM :=
 ⟨_, fun _ => #[], Bo.new w _ 98, size_madeCells _ _, fun i hi => absurd hi (Nat.not_lt_zero _), fun i hi => absurd hi (Nat.not_lt_zero _)⟩
theorem NvP.row {w : World} {g n : Nat} {XM : Nat → NdX} (h : NvP w g n n XM) : RwN NdS w (some ⟨g, 0, none⟩) n XM := by
 obtain ⟨AM, hc, hq⟩ := h.done
 exact .inr ⟨g, 0, AM, rfl, hc, fun i hi => (hq i hi).src⟩
attribute [-go_sem] loadCells storeCells in
set_option maxRecDepth 100000 in
set_option maxHeartbeats 8000000 in
theorem eqNodeN_some (b off b' off' n c c' : Nat) (XM : Nat → NdX) (AM BM : Nat → Array Value) (w : World) (hn : n ≤ maxLen) (hc : CsN w b off n AM) (hq : ∀ i, i < n → NdW w (AM i) (XM i)) (hc' : CsN w b' off' n BM) (hq' : ∀ i, i < n → NdW w (BM i) (XM i)) :
 Calls Tryz.prog 53 #[.slice (some ⟨b, off, none⟩) n c, .slice (some ⟨b', off', none⟩) n c'] w fun e w' => e = .returned (.bool true) ∧ Below w.heap.size w w' := by
 unfold maxLen at hn
 have HC : Hid (CsN w b off n AM) := hc
 have HQ : Hid (∀ i, i < n → NdW w (AM i) (XM i)) := hq
 have HC' : Hid (CsN w b' off' n BM) := hc'
 have HQ' : Hid (∀ i, i < n → NdW w (BM i) (XM i)) := hq'
 clear hc hq hc' hq'
 go_enter Tryz.func53, Tryz.ntmps53
 go_wp2_with fail
 go_loopw [5] (fun i wr => ∃ k : Nat, k ≤ n ∧ i = .int .i64 k ∧ Below w.heap.size w wr) (fun i _ => n - (intOf i).toNat)
 case atStart => exact ⟨0, Nat.zero_le _, rfl, Below.refl _ _⟩
 case round =>
  obtain ⟨k, hk, rfl, B⟩ := hrel
  by_cases hlt : k < n
  ·have hx := HQ.out k hlt
   have hx' := HQ'.out k hlt
   have hxs := hx.size
   have hxs' := hx'.size
   have hL := HC.out.below B
   have hL' := HC'.out.below B
   have hli : (k : Int) < (n : Int) := by omega
   have CE := fun (v : World) (h : Below wr.heap.size wr v) => eqNodeW (AM k) (BM k) (XM k) v ((hx.below B).below h) ((hx'.below B).below h)
   have SK : Hid (∀ w', Below wr.heap.size wr w' → (loadCells ⟨b, off + k * 16, none⟩ 16).run Tryz.prog w' = .ok (AM k) w' ∧ (loadCells ⟨b', off' + k * 16, none⟩ 16).run Tryz.prog w' = .ok (BM k) w') := fun w' hw => ⟨(hL.below hw).load (P := Tryz.prog) hlt hxs, (hL'.below hw).load (P := Tryz.prog) hlt hxs'⟩
   generalize AM k = Ak at *
   generalize BM k = Bk at *
   clear hx hx' hL hL' hxs hxs'
   go_wp2_with fail
   refine wp_region_held_drew (S := (fun w' => (loadCells ⟨b, off + k * 16, none⟩ 16).run Tryz.prog w' = .ok Ak w' ∧ (loadCells ⟨b', off' + k * 16, none⟩ 16).run Tryz.prog w' = .ok Bk w')) (by kernel_rfl) ?_ (fun hHeld => ?_)
   ·first | exact SK.out _ XB | exact SK.out _ (Below.drew (Below.refl _ _))
   have XB : Below wr.heap.size wr wr.drew := Below.drew (Below.refl _ _)
   generalize wr.drew = vx at *
   refine zTk 0 ?_
   refine zTk 1 ?_
   refine zTk 2 ?_
   refine zTk 3 ?_
   refine zTk 4 ?_
   refine zTk 5 ?_
   refine zTk 6 ?_
   refine zTk 7 ?_
   refine wpAnyH_ready (rs := [8]) (by kernel_rfl) (by simp) ?_
   refine AllReadyH.cons (by rw [List.getElem?_toArray]; rfl) (fun K hK => ?_) AllReadyH.nil
   go_simp
   refine (CE _ (XB)).mono ?_; rintro ee vx ⟨rfl, hbl⟩; (replace XB := XB.trans (hbl.mono XB.size)); (clear hbl)
   (try go_wp2_with fail)
   refine hK.out _ _ ?_ (fun hHeld => ?_)
   ·first | exact SK.out _ XB | exact SK.out _ (Below.drew (Below.refl _ _))
   clear hK K
   (try simp only [Act.put, zSb, zS0, zS1])
   refine zTk 9 ?_
   refine wpAnyH_done (by kernel_rfl) ?_ _
   have B2 := B.trans (XB.mono B.size)
   clear SK XB CE
   go_wp2_with fail
   go_roundw
   case rel => exact ⟨k + 1, by omega, by go_num, B2⟩
   case measure => simp [intOf]; omega
  ·have hli : ¬ (k : Int) < (n : Int) := by omega
   go_wp2_with fail
   go_ret
   exact ⟨rfl, B⟩
set_option maxHeartbeats 400000 in
theorem eqNodeN_zero (a a' : Option Addr) (c c' : Nat) (w : World) :
 Calls Tryz.prog 53 #[.slice a 0 c, .slice a' 0 c'] w fun e w' => e = .returned (.bool true) ∧ Below w.heap.size w w' := by
 go_enter Tryz.func53, Tryz.ntmps53
 go_wp2_with fail
 go_loopw [5] (fun i wr => i = .int .i64 0 ∧ w = wr) (fun i _ => 0)
 case atStart => exact ⟨rfl, by first | rfl | trivial⟩
 case round =>
  obtain ⟨rfl, rfl⟩ := hrel
  go_wp2_with fail
  go_ret
  exact ⟨rfl, Below.refl _ _⟩
theorem eqNodeN_any (a a' : Option Addr) (n c c' : Nat) (XM : Nat → NdX) (w : World) (hn : n ≤ maxLen) (h : RwN NdW w a n XM) (h' : RwN NdW w a' n XM) :
 Calls Tryz.prog 53 #[.slice a n c, .slice a' n c'] w fun e w' => e = .returned (.bool true) ∧ Below w.heap.size w w' := by
 by_cases h0 : n = 0
 ·subst h0; exact eqNodeN_zero a a' c c' w
 ·rcases h with h | ⟨b, off, AM, rfl, hc, hq⟩
  ·exact absurd h h0
  ·rcases h' with h | ⟨b', off', BM, rfl, hc', hq'⟩
   ·exact absurd h h0
   ·exact eqNodeN_some b off b' off' n c c' XM AM BM w hn hc hq hc' hq'
set_option maxHeartbeats 1000000 in
theorem szNodeN_long (a : Option Addr) (n c : Nat) (z0 : Int) (hz0 : 0 ≤ z0 ∧ z0 ≤ 1048576) (w : World) (hm : n ≤ maxLen) (h : z0 < (n : Int)) :
 Calls Tryz.prog 38 #[.slice a n c, .int .i64 z0] w fun e w' => e = .returned (.int .i64 (-1)) ∧ Below w.heap.size w w' := by
 unfold maxLen at hm
 have hd : decide (z0 - (n : Int) < 0) = true := by simp; omega
 go_enter Tryz.func38, Tryz.ntmps38
 go_wp2_with fail
 go_ret
 exact ⟨rfl, Below.refl _ _⟩
set_option maxHeartbeats 1000000 in
theorem szNodeN_zero (a : Option Addr) (c : Nat) (z0 : Int) (hz0 : 0 ≤ z0 ∧ z0 ≤ 1048576) (w : World) :
 Calls Tryz.prog 38 #[.slice a 0 c, .int .i64 z0] w fun e w' => e = .returned (.int .i64 z0) ∧ Below w.heap.size w w' := by
 have hd : decide (z0 < 0) = false := by simp; omega
 go_enter Tryz.func38, Tryz.ntmps38
 go_wp2_with fail
 go_loopw [1, 5] (fun l i wr => i = .int .i64 0 ∧ l = .int .i64 z0 ∧ w = wr) (fun _ i _ => 0)
 case atStart => exact ⟨rfl, by first | rfl | simp, by first | rfl | trivial⟩
 case round =>
  obtain ⟨rfl, rfl, rfl⟩ := hrel
  go_wp2_with fail
  go_ret
  exact ⟨rfl, Below.refl _ _⟩
end Go.Proofs.YtddijpjgkifngaaGreat
namespace Go.Proofs.YtddijpjgkifngaaGreat
open Go.RowKit
set_option linter.unusedVariables false
structure WdX where
 y : CfX
 LB : Nat → Bool
 nl : Nat
 ti : Int
 CM : Nat → Int
 nc : Nat
 XM : Nat → NdX
 nn : Nat
 nx : Int
 FM : Nat → FT
 nf : Nat
 BM : Nat → FrT
 nb : Nat
def wdV (x : WdX) (p : Option Addr) (d : Nat) (la : Option Addr) (lc : Nat) (ca : Option Addr) (cc : Nat) (na : Option Addr) (nk : Nat) (fa : Option Addr) (fc : Nat) (ba : Option Addr) (bc : Nat) : Array Value :=
 #[.int .i64 x.y.dn, .int .i64 x.y.dd, .int .i64 x.y.li, .int .i64 x.y.le, .int .i64 x.y.pt, .int .i64 x.y.ag, .int .i64 x.y.ke, .int .i64 x.y.lg, .int .i64 x.y.s, .int .i64 x.y.g, .slice p x.y.m d, .slice la x.nl lc, .int .i64 x.ti, .slice ca x.nc cc, .slice na x.nn nk, .int .i64 x.nx, .slice fa x.nf fc, .slice ba x.nb bc]
def mxW (x : WdX) : Prop := x.y.m ≤ maxLen ∧ x.nl ≤ maxLen ∧ x.nc ≤ maxLen ∧ x.nn ≤ maxLen ∧ x.nf ≤ maxLen ∧ x.nb ≤ maxLen
def txW (x : WdX) : Prop := (∀ i, i < x.nf → (x.FM i).2.2.2.1.size ≤ maxLen) ∧ ∀ i, i < x.nb → (x.BM i).2.2.2.2.2.size ≤ maxLen
def shW (x : WdX) : Prop := x.y.m ≤ 1048576 ∧ x.nl ≤ 1048576 ∧ x.nc ≤ 1048576 ∧ x.nn ≤ 1048576 ∧ (∀ i, i < x.nn → shX (x.XM i)) ∧ x.nf ≤ 1048576 ∧ x.nb ≤ 1048576
def WdW (w : World) (A : Array Value) (x : WdX) : Prop := ∃ p d la lc ca cc na nk fa fc ba bc, A = wdV x p d la lc ca cc na nk fa fc ba bc ∧ mxW x ∧ SrcC w p (x.y.m * 2) (MFSlot x.y.PM) ∧ SrcC w la x.nl (boG x.LB) ∧ SrcC w ca x.nc (itG x.CM) ∧ RwN NdW w na x.nn x.XM ∧ SrcC w fa (x.nf * 5) (MFFlight x.FM) ∧ SrcC w ba (x.nb * 6) (MFFrame x.BM)
def WdS (w : World) (A : Array Value) (x : WdX) : Prop := ∃ p d la lc ca cc na nk fa fc ba bc, A = wdV x p d la lc ca cc na nk fa fc ba bc ∧ mxW x ∧ RwO w p x.y.m d 2 (MFSlot x.y.PM) ∧ SrcC w la x.nl (boG x.LB) ∧ SrcC w ca x.nc (itG x.CM) ∧ RwN NdS w na x.nn x.XM ∧ SrcC w fa (x.nf * 5) (MFFlight x.FM) ∧ SrcC w ba (x.nb * 6) (MFFrame x.BM)
theorem WdW.below {w w' : World} {A : Array Value} {x : WdX} (h : WdW w A x) (hb : Below w.heap.size w w') : WdW w' A x := by
 obtain ⟨p, d, la, lc, ca, cc, na, nk, fa, fc, ba, bc, e, hm, h1, h2, h3, h4, h5, h6⟩ := h
 exact ⟨p, d, la, lc, ca, cc, na, nk, fa, fc, ba, bc, e, hm, h1.below hb, h2.below hb, h3.below hb, h4.belowW hb, h5.below hb, h6.below hb⟩
theorem WdS.below {w w' : World} {A : Array Value} {x : WdX} (h : WdS w A x) (hb : Below w.heap.size w w') : WdS w' A x := by
 obtain ⟨p, d, la, lc, ca, cc, na, nk, fa, fc, ba, bc, e, hm, h1, h2, h3, h4, h5, h6⟩ := h
 exact ⟨p, d, la, lc, ca, cc, na, nk, fa, fc, ba, bc, e, hm, h1.below hb, h2.below hb, h3.below hb, h4.belowS hb, h5.below hb, h6.below hb⟩
theorem WdS.weak {w : World} {A : Array Value} {x : WdX} (h : WdS w A x) : WdW w A x := by
 obtain ⟨p, d, la, lc, ca, cc, na, nk, fa, fc, ba, bc, e, hm, h1, h2, h3, h4, h5, h6⟩ := h
 exact ⟨p, d, la, lc, ca, cc, na, nk, fa, fc, ba, bc, e, hm, h1.src, h2, h3, h4.weak, h5, h6⟩
theorem WdW.size {w : World} {A : Array Value} {x : WdX} (h : WdW w A x) : A.size = 18 := by
 obtain ⟨p, d, la, lc, ca, cc, na, nk, fa, fc, ba, bc, e, _⟩ := h
 rw [e]; rfl
theorem wdV_one (x : WdX) (p : Option Addr) (d : Nat) (la : Option Addr) (lc : Nat) (ca : Option Addr) (cc : Nat) (na : Option Addr) (nk : Nat) (fa : Option Addr) (fc : Nat) (ba : Option Addr) (bc : Nat) : ∀ u ∈ (wdV x p d la lc ca cc na nk fa fc ba bc).toList, u.oneCell' = true := by
 intro u hu
 simp only [wdV, List.mem_cons, List.not_mem_nil, or_false] at hu
 rcases hu with h | h | h | h | h | h | h | h | h | h | h | h | h | h | h | h | h | h <;> (subst h; rfl)
theorem WdW.one {w : World} {A : Array Value} {x : WdX} (h : WdW w A x) : ∀ u ∈ A.toList, u.oneCell' = true := by
 obtain ⟨p, d, la, lc, ca, cc, na, nk, fa, fc, ba, bc, e, _⟩ := h
 rw [e]; exact wdV_one x p d la lc ca cc na nk fa fc ba bc
theorem Rwo.srcC {w : World} {lo hi : Nat} {T : TypeId} {sz : Nat} {a : Option Addr} {n c : Nat} {F : Nat → Value} (h : Rwo w lo hi T sz a n c F) : SrcC w a (n * sz) F := h.rw.src
theorem NvP.btw {w w' : World} {g n k l u : Nat} {XM : Nat → NdX} (h : NvP w g n k XM) (hb : Btw l u w w') (ho : u ≤ g) : NvP w' g n k XM := by
 obtain ⟨A, AM, h1, h2, h3, h4⟩ := h
 exact ⟨A, AM, h1.btw hb (.inr ho), h2, h3, fun i hi => ((h4 i hi).btw hb (.inr (by omega))).wide (Nat.le_refl _) hb.2.2.2.1⟩
theorem eqCfgW (A A' : Array Value) (y : CfX) (w : World) (h : CfW w A y) (h' : CfW w A' y) :
 Calls Tryz.prog 18 #[.agg A, .agg A'] w fun e w' => e = .returned (.bool true) ∧ Below w.heap.size w w' := by
 obtain ⟨p, d, rfl, hl, h1⟩ := h
 obtain ⟨p', d', rfl, hl', h1'⟩ := h'
 exact eqCfg_same y.dn y.dd y.li y.le y.pt y.ag y.ke y.lg y.s y.g p y.m d y.PM p' d' w hl h1 h1'
theorem toBoolW (a : Option Addr) (n c : Nat) (f : Nat → Bool) (w : World) (hn : n ≤ 1048576) (h : SrcC w a n (boG f)) :
 Calls Tryz.prog 16 #[.slice a n c] w fun e w' => ∃ g, e = .returned (.slice (some ⟨g, 0, none⟩) n n) ∧ Rwo w' w.heap.size w'.heap.size 4 1 (some ⟨g, 0, none⟩) n n (boG f) ∧ Below w.heap.size w w' :=
 (toBoolG_any a n c f w hn h).mono fun e w' ⟨h1, h2, h3⟩ => ⟨w.heap.size, h1, RowF.rwo (by rw [Nat.mul_one]; exact h2) hn (Nat.le_refl _), h3⟩
theorem toIntW (a : Option Addr) (n c : Nat) (f : Nat → Int) (w : World) (hn : n ≤ 1048576) (h : SrcC w a n (itG f)) :
 Calls Tryz.prog 48 #[.slice a n c] w fun e w' => ∃ g, e = .returned (.slice (some ⟨g, 0, none⟩) n n) ∧ Rwo w' w.heap.size w'.heap.size 3 1 (some ⟨g, 0, none⟩) n n (itG f) ∧ Below w.heap.size w w' :=
 (toIntG_any a n c f w hn h).mono fun e w' ⟨h1, h2, h3⟩ => ⟨w.heap.size, h1, RowF.rwo (by rw [Nat.mul_one]; exact h2) hn (Nat.le_refl _), h3⟩
theorem toNetW (nx : Int) (a : Option Addr) (n c : Nat) (M : Nat → FT) (w : World) (hn : n ≤ 1048576) (h : SrcC w a (n * 5) (MFFlight M)) :
 Calls Tryz.prog 50 #[.agg #[.int .i64 nx, .slice a n c]] w fun e w' => ∃ g, e = .returned (.agg #[.int .i64 nx, .slice (some ⟨g, 0, none⟩) n n]) ∧ Rwo w' w.heap.size w'.heap.size 101 5 (some ⟨g, 0, none⟩) n n (MFFlight M) ∧ Below w.heap.size w w' :=
 (toNet_any nx a n c M w hn h).mono fun e w' ⟨h1, h2, h3⟩ => ⟨w.heap.size + 3, h1, RowF.rwo h2 hn (by omega), h3⟩
theorem toFrameW (a : Option Addr) (n c : Nat) (M : Nat → FrT) (w : World) (hn : n ≤ 1048576) (h : SrcC w a (n * 6) (MFFrame M)) :
 Calls Tryz.prog 51 #[.slice a n c] w fun e w' => ∃ g, e = .returned (.slice (some ⟨g, 0, none⟩) n n) ∧ Rwo w' w.heap.size w'.heap.size 103 6 (some ⟨g, 0, none⟩) n n (MFFrame M) ∧ Below w.heap.size w w' :=
 (toFrameS_any a n c M w hn h).mono fun e w' ⟨h1, h2, h3⟩ => ⟨w.heap.size, h1, RowF.rwo h2 hn (Nat.le_refl _), h3⟩
def wdZ : Array Value := #[.int .i64 0, .int .i64 0, .int .i64 0, .int .i64 0, .int .i64 0, .int .i64 0, .int .i64 0, .int .i64 0, .int .i64 0, .int .i64 0, .slice none 0 0, .slice none 0 0, .int .i64 0, .slice none 0 0, .slice none 0 0, .int .i64 0, .slice none 0 0, .slice none 0 0]
theorem spl_cf (x : WdX) (p : Option Addr) (d : Nat) : spl wdZ 0 (cfV x.y p d).toList = #[.int .i64 x.y.dn, .int .i64 x.y.dd, .int .i64 x.y.li, .int .i64 x.y.le, .int .i64 x.y.pt, .int .i64 x.y.ag, .int .i64 x.y.ke, .int .i64 x.y.lg, .int .i64 x.y.s, .int .i64 x.y.g, .slice p x.y.m d, .slice none 0 0, .int .i64 0, .slice none 0 0, .slice none 0 0, .int .i64 0, .slice none 0 0, .slice none 0 0] := by
 simp only [cfV, wdZ, spl, List.setIfInBounds_toArray, List.set_cons_zero, List.set_cons_succ, Nat.zero_add, Nat.reduceAdd]
attribute [-go_sem] loadCells storeCells in
set_option maxRecDepth 100000 in
set_option maxHeartbeats 8000000 in
theorem eqWorldW (A A' : Array Value) (x : WdX) (w : World) (h : WdW w A x) (h' : WdW w A' x) :
 Calls Tryz.prog 12 #[.agg A, .agg A'] w fun e w' => e = .returned (.bool true) ∧ Below w.heap.size w w' := by
 obtain ⟨p, d, la, lc, ca, cc, na, nk, fa, fc, ba, bc, rfl, hm, h1, h2, h3, h4, h5, h6⟩ := h
 obtain ⟨p', d', la', lc', ca', cc', na', nk', fa', fc', ba', bc', rfl, -, k1, k2, k3, k4, k5, k6⟩ := h'
 obtain ⟨m1, m2, m3, m4, m5, m6⟩ := hm
 have CC := fun (v : World) (h : Below w.heap.size w v) => eqCfgW (cfV x.y p d) (cfV x.y p' d') x.y v ⟨p, d, rfl, m1, h1.below h⟩ ⟨p', d', rfl, m1, k1.below h⟩
 have CB := fun (v : World) (h : Below w.heap.size w v) => eqBoolG_src la la' x.nl lc lc' x.LB v m2 (h2.below h) (k2.below h)
 have CI := fun (v : World) (h : Below w.heap.size w v) => eqIntG_src ca ca' x.nc cc cc' x.CM v m3 (h3.below h) (k3.below h)
 have CN := fun (v : World) (h : Below w.heap.size w v) => eqNodeN_any na na' x.nn nk nk' x.XM v m4 (h4.belowW h) (k4.belowW h)
 have CF := fun (v : World) (h : Below w.heap.size w v) => eqNet_same x.nx fa fa' x.nf fc fc' x.FM v m5 (h5.below h) (k5.below h)
 have CR := fun (v : World) (h : Below w.heap.size w v) => eqFrameS_src ba ba' x.nb bc bc' x.BM v m6 (h6.below h) (k6.below h)
 have hti : (x.ti != x.ti) = false := by simp
 clear h1 h2 h3 h4 h5 h6 k1 k2 k3 k4 k5 k6 m1 m2 m3 m4 m5 m6
 have A0 := Below.nw w (.cells (wdV x p d la lc ca cc na nk fa fc ba bc) 52)
 have A1 := Below.nw (w.alloc (.cells (wdV x p d la lc ca cc na nk fa fc ba bc) 52)) (.cells (wdV x p' d' la' lc' ca' cc' na' nk' fa' fc' ba' bc') 52)
 have L := (Bo.new w (wdV x p d la lc ca cc na nk fa fc ba bc) 52).below A1
 have M := Bo.new (w.alloc (.cells (wdV x p d la lc ca cc na nk fa fc ba bc) 52)) (wdV x p' d' la' lc' ca' cc' na' nk' fa' fc' ba' bc') 52
 have B := A0
 replace B := B.trans (A1.mono B.size)
 simp only [World.size_alloc] at M
 clear A0 A1
 go_enter Tryz.func12, Tryz.ntmps12
 go_upto_region 1 with fail
 generalize ((w.alloc (.cells (wdV x p d la lc ca cc na nk fa fc ba bc) 52))).alloc (.cells (wdV x p' d' la' lc' ca' cc' na' nk' fa' fc' ba' bc') 52) = v0 at *
 have hL0 : (loadCells ⟨w.heap.size, 0, none⟩ 11).run Tryz.prog v0 = .ok (cfV x.y p d) v0 := L.loadAt (P := Tryz.prog) 0 11 (show 0 + 11 ≤ 18 by decide)
 have hL1 : (loadCells ⟨w.heap.size + 1, 0, none⟩ 11).run Tryz.prog v0 = .ok (cfV x.y p' d') v0 := M.loadAt (P := Tryz.prog) 0 11 (show 0 + 11 ≤ 18 by decide)
 go_wp2_with (first | rw [hL0] | rw [hL1])
 refine (CC v0 B).mono ?_
 rintro e v1 ⟨rfl, hb⟩
 clear hL0 hL1
 replace B := B.trans (hb.mono B.size)
 replace L := L.below hb
 replace M := M.below hb
 clear hb
 have hL0 : v1.cell? ⟨w.heap.size, 11, none⟩ = some (.slice la x.nl lc) := L.cell rfl
 have hL1 : v1.cell? ⟨w.heap.size + 1, 11, none⟩ = some (.slice la' x.nl lc') := M.cell rfl
 go_wp2_with fail
 refine (CB v1 B).mono ?_
 rintro e v2 ⟨rfl, hb⟩
 clear hL0 hL1
 replace B := B.trans (hb.mono B.size)
 replace L := L.below hb
 replace M := M.below hb
 clear hb
 have hT0 : v2.cell? ⟨w.heap.size, 12, none⟩ = some (.int .i64 x.ti) := L.cell rfl
 have hT1 : v2.cell? ⟨w.heap.size + 1, 12, none⟩ = some (.int .i64 x.ti) := M.cell rfl
 have hL0 : v2.cell? ⟨w.heap.size, 13, none⟩ = some (.slice ca x.nc cc) := L.cell rfl
 have hL1 : v2.cell? ⟨w.heap.size + 1, 13, none⟩ = some (.slice ca' x.nc cc') := M.cell rfl
 go_wp2_with fail
 refine (CI v2 B).mono ?_
 rintro e v3 ⟨rfl, hb⟩
 clear hL0 hL1
 replace B := B.trans (hb.mono B.size)
 replace L := L.below hb
 replace M := M.below hb
 clear hb
 clear hT0 hT1
 have hL0 : v3.cell? ⟨w.heap.size, 14, none⟩ = some (.slice na x.nn nk) := L.cell rfl
 have hL1 : v3.cell? ⟨w.heap.size + 1, 14, none⟩ = some (.slice na' x.nn nk') := M.cell rfl
 go_wp2_with fail
 refine (CN v3 B).mono ?_
 rintro e v4 ⟨rfl, hb⟩
 clear hL0 hL1
 replace B := B.trans (hb.mono B.size)
 replace L := L.below hb
 replace M := M.below hb
 clear hb
 have hL0 : (loadCells ⟨w.heap.size, 15, none⟩ 2).run Tryz.prog v4 = .ok #[.int .i64 x.nx, .slice fa x.nf fc] v4 := L.loadAt (P := Tryz.prog) 15 2 (show 15 + 2 ≤ 18 by decide)
 have hL1 : (loadCells ⟨w.heap.size + 1, 15, none⟩ 2).run Tryz.prog v4 = .ok #[.int .i64 x.nx, .slice fa' x.nf fc'] v4 := M.loadAt (P := Tryz.prog) 15 2 (show 15 + 2 ≤ 18 by decide)
 go_wp2_with (first | rw [hL0] | rw [hL1])
 refine (CF v4 B).mono ?_
 rintro e v5 ⟨rfl, hb⟩
 clear hL0 hL1
 replace B := B.trans (hb.mono B.size)
 replace L := L.below hb
 replace M := M.below hb
 clear hb
 have hL0 : v5.cell? ⟨w.heap.size, 17, none⟩ = some (.slice ba x.nb bc) := L.cell rfl
 have hL1 : v5.cell? ⟨w.heap.size + 1, 17, none⟩ = some (.slice ba' x.nb bc') := M.cell rfl
 go_wp2_with fail
 refine (CR v5 B).mono ?_
 rintro e v6 ⟨rfl, hb⟩
 clear hL0 hL1
 replace B := B.trans (hb.mono B.size)
 replace L := L.below hb
 replace M := M.below hb
 clear hb
 go_wp2_with fail
 go_ret
 exact ⟨rfl, B⟩
end Go.Proofs.YtddijpjgkifngaaGreat
namespace Go.Proofs.YtddijpjgkifngaaGreat
open Go.RowKit
set_option linter.unusedVariables false
def wdAll (f : Nat → Bool) : Nat → Bool
 | 0 => true
 | k + 1 => wdAll f k && f k
theorem wdAll_no {f : Nat → Bool} {k : Nat} (h : f k = false) : ∀ n, k < n → wdAll f n = false
 | 0, hk => absurd hk (Nat.not_lt_zero _)
 | n + 1, hk => by
  rw [wdAll]
  by_cases e : k = n
  ·subst e; rw [h]; simp
  ·rw [wdAll_no h n (by omega)]; rfl
theorem wdAll_get {f : Nat → Bool} : ∀ {n : Nat}, wdAll f n = true → ∀ i, i < n → f i = true
 | 0, _, i, hi => absurd hi (Nat.not_lt_zero _)
 | n + 1, h, i, hi => by
  rw [wdAll, Bool.and_eq_true] at h
  by_cases e : i = n
  ·subst e; exact h.2
  ·exact wdAll_get h.1 i (by omega)
theorem wdAll_more {f : Nat → Bool} {k : Nat} (h : wdAll f k = true) (hf : f k = true) : wdAll f (k + 1) = true := by rw [wdAll, h, hf]; rfl
def wdNo (x : WdX) (i : Nat) : Bool := okX (x.XM i) && (decide ((x.XM i).ni = (i : Int)) && cmX (x.XM i) (x.CM i))
def wdPl (x : WdX) (z : Int) : Bool := decide (0 ≤ z ∧ z < (x.nn : Int))
def wdFl (x : WdX) (i : Nat) : Bool := wdPl x (x.FM i).2.1 && (wdPl x (x.FM i).2.2.1 && decide ((x.FM i).2.2.2.2 ≤ x.ti))
def wdFr (x : WdX) (i : Nat) : Bool := wdPl x (x.BM i).1 && decide ((x.BM i).2.2.2.1 ≤ x.ti)
def wdNds (x : WdX) : Bool := decide (1 ≤ x.nn ∧ x.nn ≤ 8) && (decide (x.nl = x.nn) && (decide (x.nc = x.nn) && wdAll (wdNo x) x.nn))
def wdNeb (x : WdX) : Bool := wdAll (wdFl x) x.nf && netB x.nx x.FM x.nf
def wdBub (x : WdX) : Bool := wdAll (wdFr x) x.nb && buB x.BM x.nb
def wdOk (x : WdX) : Bool := cokX x.y && (okT x.ti && (wdNds x && (wdNeb x && wdBub x)))
theorem nOk_get {nx : Int} {M : Nat → FT} : ∀ {n : Nat}, nOk nx M n = true → ∀ i, i < n → flT (M i) = true
 | 0, _, i, hi => absurd hi (Nat.not_lt_zero _)
 | n + 1, h, i, hi => by
  rw [nOk, Bool.and_eq_true, Bool.and_eq_true, Bool.and_eq_true] at h
  by_cases e : i = n
  ·subst e; exact h.2.1.1
  ·exact nOk_get h.1 i (by omega)
theorem net_nod {nx : Int} {M : Nat → FT} {n i : Nat} (h : netB nx M n = true) (hi : i < n) : 0 ≤ (M i).2.1 ∧ 0 ≤ (M i).2.2.1 := by
 rw [netB, Bool.and_eq_true] at h
 have q := nOk_get h.2 i hi
 rw [flT, flB, Bool.and_eq_true, Bool.and_eq_true, Bool.and_eq_true] at q
 exact ⟨(of_decide_eq_true q.1.1.1).1, (of_decide_eq_true q.1.1.2).1⟩
theorem buA_get {M : Nat → FrT} : ∀ {n : Nat}, buA M n = true → ∀ i, i < n → frM (M i) = true
 | 0, _, i, hi => absurd hi (Nat.not_lt_zero _)
 | n + 1, h, i, hi => by
  rw [buA, Bool.and_eq_true, Bool.and_eq_true] at h
  by_cases e : i = n
  ·subst e; exact h.2.1
  ·exact buA_get h.1 i (by omega)
theorem bus_nod {M : Nat → FrT} {n i : Nat} (h : buB M n = true) (hi : i < n) : 0 ≤ (M i).1 := by
 rw [buB, Bool.and_eq_true] at h
 have q := buA_get h.2 i hi
 rw [frM, frB, Bool.and_eq_true] at q
 exact (of_decide_eq_true q.1).1
theorem wdOk_parts {x : WdX} (h : wdOk x = true) : cokX x.y = true ∧ okT x.ti = true ∧ (1 ≤ x.nn ∧ x.nn ≤ 8) ∧ x.nl = x.nn ∧ x.nc = x.nn ∧ (∀ i, i < x.nn → wdNo x i = true) ∧ (∀ i, i < x.nf → wdFl x i = true) ∧ netB x.nx x.FM x.nf = true ∧ (∀ i, i < x.nb → wdFr x i = true) ∧ buB x.BM x.nb = true := by
 unfold wdOk wdNds wdNeb wdBub at h
 simp only [Bool.and_eq_true] at h
 obtain ⟨h1, h2, ⟨h3, h4, h5, h6⟩, ⟨h7, h8⟩, h9, h10⟩ := h
 exact ⟨h1, h2, of_decide_eq_true h3, of_decide_eq_true h4, of_decide_eq_true h5, wdAll_get h6, wdAll_get h7, h8, wdAll_get h9, h10⟩
end Go.Proofs.YtddijpjgkifngaaGreat
