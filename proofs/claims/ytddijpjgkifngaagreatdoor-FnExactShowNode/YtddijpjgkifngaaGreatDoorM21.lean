/- Rows of nodes. -/
import Derived.Test.YtddijpjgkifngaaGreatDoorM0
import Derived.Test.YtddijpjgkifngaaGreatDoorM18
namespace Go.Proofs.YtddijpjgkifngaaGreatDoor
open Go.RowKit
set_option linter.unusedVariables false
def CsN (w : World) (b off n : Nat) (AM : Nat → Array Value) : Prop := b < w.heap.size ∧ ∀ i, i < n → ∀ j u, (AM i)[j]? = some u → w.cell? ⟨b, off + i * 16 + j, none⟩ = some u
theorem CsN.below {w w' : World} {b off n : Nat} {AM : Nat → Array Value} (h : CsN w b off n AM) (hb : Below w.heap.size w w') : CsN w' b off n AM :=
 ⟨Nat.lt_of_lt_of_le h.1 hb.size, fun i hi j u hj => by rw [hb.cell (p := ⟨b, off + i * 16 + j, none⟩) h.1]; exact h.2 i hi j u hj⟩
theorem CsN.load {P : Program} {w : World} {b off n i : Nat} {AM : Nat → Array Value} (h : CsN w b off n AM) (hi : i < n) (hs : (AM i).size = 16) : (loadCells ⟨b, off + i * 16, none⟩ 16).run P w = .ok (AM i) w := by
 have e := run_loadCells_list (P := P) w ⟨b, off + i * 16, none⟩ (AM i).toList (fun j v hj => by rw [add_at]; exact h.2 i hi j v (by simpa using hj))
 have e2 : (AM i).toList.length = 16 := by simpa using hs
 rw [e2, Array.toArray_toList] at e
 exact e
def RwN (Q : World → Array Value → NdX → Prop) (w : World) (a : Option Addr) (n : Nat) (XM : Nat → NdX) : Prop := n = 0 ∨ ∃ b off AM, a = some ⟨b, off, none⟩ ∧ CsN w b off n AM ∧ ∀ i, i < n → Q w (AM i) (XM i)
theorem RwN.belowW {w w' : World} {a : Option Addr} {n : Nat} {XM : Nat → NdX} (h : RwN NdW w a n XM) (hb : Below w.heap.size w w') : RwN NdW w' a n XM := by
 rcases h with h | ⟨b, off, AM, e, hc, hq⟩
 ·exact .inl h
 ·exact .inr ⟨b, off, AM, e, hc.below hb, fun i hi => (hq i hi).below hb⟩
theorem RwN.belowS {w w' : World} {a : Option Addr} {n : Nat} {XM : Nat → NdX} (h : RwN NdS w a n XM) (hb : Below w.heap.size w w') : RwN NdS w' a n XM := by
 rcases h with h | ⟨b, off, AM, e, hc, hq⟩
 ·exact .inl h
 ·exact .inr ⟨b, off, AM, e, hc.below hb, fun i hi => (hq i hi).below hb⟩
theorem RwN.weak {w : World} {a : Option Addr} {n : Nat} {XM : Nat → NdX} (h : RwN NdS w a n XM) : RwN NdW w a n XM := by
 rcases h with h | ⟨b, off, AM, e, hc, hq⟩
 ·exact .inl h
 ·exact .inr ⟨b, off, AM, e, hc, fun i hi => (hq i hi).weak⟩
def shX (x : NdX) : Prop := x.na ≤ 1048576 ∧ x.np ≤ 1048576 ∧ x.nh ≤ 1048576
theorem eqNodeW (A A' : Array Value) (x : NdX) (w : World) (h : NdW w A x) (h' : NdW w A' x) :
 Calls Tryz.prog 75 #[.agg A, .agg A'] w fun e w' => e = .returned (.bool true) ∧ Below w.heap.size w w' := by
 obtain ⟨aa, ac, pa, pc, ha, hc, rfl, hl, h1, h2, h3⟩ := h
 obtain ⟨aa', ac', pa', pc', ha', hc', rfl, hl', h1', h2', h3'⟩ := h'
 exact eqNode_same x.ni x.mo x.ep x.si x.kn x.lo x.hi x.la x.te x.us aa x.na ac x.AM pa x.np pc x.QM x.hs x.ls ha x.nh hc x.HM x.se aa' pa' ha' ac' pc' hc' w hl.1 h1 hl.2.1 h2 hl.2.2 h3 h1' h2' h3'
def NvP (w : World) (g n k : Nat) (XM : Nat → NdX) : Prop := ∃ (A : Array Value) (AM : Nat → Array Value), Bo w g A ∧ A.size = n * 16 ∧ (∀ i, i < k → ∀ j u, (AM i)[j]? = some u → A[i * 16 + j]? = some u) ∧ ∀ i, i < k → NdO w (g + 1) w.heap.size (AM i) (XM i)
theorem NvP.below {w w' : World} {g n k : Nat} {XM : Nat → NdX} (h : NvP w g n k XM) (hb : Below w.heap.size w w') : NvP w' g n k XM := by
 obtain ⟨A, AM, h1, h2, h3, h4⟩ := h
 exact ⟨A, AM, h1.below hb, h2, h3, fun i hi => ((h4 i hi).below hb).wide (Nat.le_refl _) hb.size⟩
theorem NvP.bo {w : World} {g n k : Nat} {XM : Nat → NdX} (h : NvP w g n k XM) : ∃ A, Bo w g A ∧ A.size = n * 16 := by
 obtain ⟨A, AM, h1, h2, _⟩ := h
 exact ⟨A, h1, h2⟩
theorem NvP.put {w : World} {g n k l : Nat} {XM : Nat → NdX} {R : Array Value} (h : NvP w g n k XM) (hR : NdO w l w.heap.size R (XM k)) (hl : g + 1 ≤ l) (hk : k < n) : NvP (putA w g (k * 16) R.toList) g n (k + 1) XM := by
 obtain ⟨A, AM, h1, h2, h3, h4⟩ := h
 have hs := hR.size
 have hb : Btw g (g + 1) w (putA w g (k * 16) R.toList) := putA_btw R.toList w (k * 16) g
 have hz : (putA w g (k * 16) R.toList).heap.size = w.heap.size := putA_size g R.toList w (k * 16)
 refine ⟨spl A (k * 16) R.toList, fun i => if i = k then R else AM i, Bo.put R.toList (k * 16) h1, by rw [spl_size, h2], fun i hi j u hj => ?_, fun i hi => ?_⟩
 ·rw [spl_get _ _ _ _ (by simp [hs]; omega)]
  have hj : (if i = k then R else AM i)[j]? = some u := hj
  by_cases e : i = k
  ·subst e
   rw [if_pos rfl] at hj
   have hj16 : j < 16 := by have := (Array.getElem?_eq_some_iff.1 hj).1; omega
   rw [if_pos (by simp [hs]; omega), Array.getElem?_toList, show i * 16 + j - i * 16 = j by omega]
   exact hj
  ·rw [if_neg e] at hj
   have hj16 : j < 16 := by have := (Array.getElem?_eq_some_iff.1 hj).1; have := (h4 i (by omega)).size; omega
   rw [if_neg (by omega)]
   exact h3 i (by omega) j u hj
 ·rw [hz]
  show NdO _ _ _ (if i = k then R else AM i) (XM i)
  by_cases e : i = k
  ·subst e
   rw [if_pos rfl]
   exact (hR.wide hl (Nat.le_refl _)).btw hb (.inr (Nat.le_refl _))
  ·rw [if_neg e]
   exact (h4 i (by omega)).btw hb (.inr (Nat.le_refl _))
theorem NvP.done {w : World} {g n : Nat} {XM : Nat → NdX} (h : NvP w g n n XM) : ∃ AM, CsN w g 0 n AM ∧ ∀ i, i < n → NdO w (g + 1) w.heap.size (AM i) (XM i) := by
 obtain ⟨A, AM, h1, h2, h3, h4⟩ := h
 exact ⟨AM, ⟨h1.1, fun i hi j u hj => by rw [Nat.zero_add]; exact h1.cell (h3 i hi j u hj)⟩, h4⟩
def rowObjNd (n : Nat) : Obj := .cells (madeCells #[.int .i64 0, .int .i64 0, .int .i64 0, .int .i64 0, .bool false, .int .i64 0, .int .i64 0, .int .i64 0, .int .i64 0, .int .i64 0, .slice none 0 0, .slice none 0 0, .bool false, .int .i64 0, .slice none 0 0, .int .i64 0] (n * 16)) 79
theorem infoNd : (Tryz.prog.info? 79).map (fun i => (i.zero, i.size, i.bytes)) = some (some (.agg #[.int .i64 0, .int .i64 0, .int .i64 0, .int .i64 0, .bool false, .int .i64 0, .int .i64 0, .int .i64 0, .int .i64 0, .int .i64 0, .slice none 0 0, .slice none 0 0, .bool false, .int .i64 0, .slice none 0 0, .int .i64 0]), 16, 176) := by kernel_rfl
theorem mk_rowNd (n : Nat) (h : n ≤ 1048576) (w : World) : (Instr.makeSlice 46 (.int .i64 (n : Int)) (.int .i64 (n : Int))).run Tryz.prog w = .ok (.slice (some ⟨w.heap.size, 0, none⟩) n n) (w.alloc (rowObjNd n)) := by
 obtain ⟨i, hi, hz⟩ := Option.map_eq_some_iff.1 infoNd
 simp only [Prod.mk.injEq] at hz
 obtain ⟨h1, h2, h3⟩ := hz
 have hr := run_make (P := Tryz.prog) w 46 79 i _ Tryz.underlying46 hi h1 .i64 .i64 n n (by omega) (Int.le_refl _) (by rw [h3]; omega) (by omega)
 simp only [Int.toNat_natCast, h2] at hr
 exact hr
theorem NvP.new (w : World) (n : Nat) (XM : Nat → NdX) : NvP (w.alloc (rowObjNd n)) w.heap.size n 0 XM :=
 ⟨_, fun _ => #[], Bo.new w _ 79, size_madeCells _ _, fun i hi => absurd hi (Nat.not_lt_zero _), fun i hi => absurd hi (Nat.not_lt_zero _)⟩
attribute [-go_sem] loadCells storeCells in
set_option maxRecDepth 100000 in
set_option maxHeartbeats 8000000 in
theorem toNodeN_some (b off n c : Nat) (XM : Nat → NdX) (AM : Nat → Array Value) (w : World) (hn : n ≤ 1048576) (hc : CsN w b off n AM) (hq : ∀ i, i < n → NdW w (AM i) (XM i)) (hz : ∀ i, i < n → shX (XM i)) :
 Calls Tryz.prog 29 #[.slice (some ⟨b, off, none⟩) n c] w fun e w' => e = .returned (.slice (some ⟨w.heap.size, 0, none⟩) n n) ∧ NvP w' w.heap.size n n XM ∧ Below w.heap.size w w' := by
 have hmk := mk_rowNd n hn
 have HC : Hid (CsN w b off n AM) := hc
 have HQ : Hid (∀ i, i < n → NdW w (AM i) (XM i)) := hq
 have HZ : Hid (∀ i, i < n → shX (XM i)) := hz
 clear hc hq hz
 go_enter Tryz.func29, Tryz.ntmps29
 go_wp2_with fail
 clear hmk
 go_loopw [4] (fun i wr => ∃ k : Nat, k ≤ n ∧ i = .int .i64 k ∧ NvP wr w.heap.size n k XM ∧ Below w.heap.size w wr) (fun i _ => n - (intOf i).toNat)
 case atStart => exact ⟨0, Nat.zero_le _, rfl, NvP.new w n XM, Below.nw _ _⟩
 case round =>
  obtain ⟨k, hk, rfl, N, B⟩ := hrel
  by_cases hlt : k < n
  ·have hx := HQ.out k hlt
   have hxs := hx.size
   have hL := (HC.out.below B).load (P := Tryz.prog) hlt hxs
   have hli : (k : Int) < (n : Int) := by omega
   have CT := toNodeW (AM k) (XM k) wr (hx.below B) (HZ.out k hlt)
   generalize AM k = Ak at *
   clear hx
   go_wp2_with (rw [hL])
   refine CT.mono ?_
   rintro e w2 ⟨R, rfl, O, hb⟩
   clear hL CT
   have hg1 : w.heap.size + 1 ≤ wr.heap.size := by obtain ⟨A, h1, _⟩ := N.bo; exact h1.1
   replace N := N.below hb
   replace B := B.trans (hb.mono B.size)
   clear hb
   have N2 := N.put O hg1 hlt
   obtain ⟨A, hA, hAs⟩ := N.bo
   have hRs := O.size
   have hst : (storeCells ⟨w.heap.size, k * 16, none⟩ R.toList 0).run Tryz.prog w2 = .ok () (putA w2 w.heap.size (k * 16) R.toList) := Bo.store (P := Tryz.prog) (b := k * 16) R.toList (k * 16) 0 hA rfl (by simp [hRs]; omega) O.one
   have B2 := putA_below (k := w.heap.size) R.toList w w2 (k * 16) B (Nat.le_refl _)
   clear hA hAs O N B hg1
   go_wp2_with (rw [hst])
   clear hst
   generalize putA w2 w.heap.size (k * 16) R.toList = w3 at *
   go_roundw
   case rel => exact ⟨k + 1, by omega, by go_num, N2, B2⟩
   case measure => simp [intOf]; omega
  ·have hkn : k = n := by omega
   subst hkn
   have hli : ¬ (k : Int) < (k : Int) := by omega
   go_wp2_with fail
   go_ret
   exact ⟨rfl, N, B⟩
set_option maxHeartbeats 1000000 in
theorem toNodeN_zero (a : Option Addr) (c : Nat) (XM : Nat → NdX) (w : World) :
 Calls Tryz.prog 29 #[.slice a 0 c] w fun e w' => e = .returned (.slice (some ⟨w.heap.size, 0, none⟩) 0 0) ∧ NvP w' w.heap.size 0 0 XM ∧ Below w.heap.size w w' := by
 have hmk := mk_rowNd 0 (by omega)
 simp only [Int.ofNat_zero] at hmk
 go_enter Tryz.func29, Tryz.ntmps29
 go_wp2_with fail
 clear hmk
 go_loopw [4] (fun i wr => i = .int .i64 0 ∧ NvP wr w.heap.size 0 0 XM ∧ Below w.heap.size w wr) (fun i _ => 0)
 case atStart => exact ⟨rfl, NvP.new w 0 XM, Below.nw _ _⟩
 case round =>
  obtain ⟨rfl, N, B⟩ := hrel
  go_wp2_with fail
  go_ret
  exact ⟨rfl, N, B⟩
theorem toNodeN_any (a : Option Addr) (n c : Nat) (XM : Nat → NdX) (w : World) (hn : n ≤ 1048576) (h : RwN NdW w a n XM) (hz : ∀ i, i < n → shX (XM i)) :
 Calls Tryz.prog 29 #[.slice a n c] w fun e w' => e = .returned (.slice (some ⟨w.heap.size, 0, none⟩) n n) ∧ NvP w' w.heap.size n n XM ∧ Below w.heap.size w w' := by
 rcases h with rfl | ⟨b, off, AM, rfl, hc, hq⟩
 ·exact toNodeN_zero a c XM w
 ·exact toNodeN_some b off n c XM AM w hn hc hq hz
theorem NvP.row {w : World} {g n : Nat} {XM : Nat → NdX} (h : NvP w g n n XM) : RwN NdS w (some ⟨g, 0, none⟩) n XM := by
 obtain ⟨AM, hc, hq⟩ := h.done
 exact .inr ⟨g, 0, AM, rfl, hc, fun i hi => (hq i hi).src⟩
attribute [-go_sem] loadCells storeCells in
set_option maxRecDepth 100000 in
set_option maxHeartbeats 8000000 in
theorem eqNodeN_some (b off b' off' n c c' : Nat) (XM : Nat → NdX) (AM BM : Nat → Array Value) (w : World) (hn : n ≤ maxLen) (hc : CsN w b off n AM) (hq : ∀ i, i < n → NdW w (AM i) (XM i)) (hc' : CsN w b' off' n BM) (hq' : ∀ i, i < n → NdW w (BM i) (XM i)) :
 Calls Tryz.prog 39 #[.slice (some ⟨b, off, none⟩) n c, .slice (some ⟨b', off', none⟩) n c'] w fun e w' => e = .returned (.bool true) ∧ Below w.heap.size w w' := by
 unfold maxLen at hn
 have HC : Hid (CsN w b off n AM) := hc
 have HQ : Hid (∀ i, i < n → NdW w (AM i) (XM i)) := hq
 have HC' : Hid (CsN w b' off' n BM) := hc'
 have HQ' : Hid (∀ i, i < n → NdW w (BM i) (XM i)) := hq'
 clear hc hq hc' hq'
 go_enter Tryz.func39, Tryz.ntmps39
 go_wp2_with fail
 go_loopw [5] (fun i wr => ∃ k : Nat, k ≤ n ∧ i = .int .i64 k ∧ Below w.heap.size w wr) (fun i _ => n - (intOf i).toNat)
 case atStart => exact ⟨0, Nat.zero_le _, rfl, Below.refl _ _⟩
 case round =>
  obtain ⟨k, hk, rfl, B⟩ := hrel
  by_cases hlt : k < n
  ·have hx := HQ.out k hlt
   have hx' := HQ'.out k hlt
   have hxs := hx.size
   have hxs' := hx'.size
   have hL := HC.out.below B
   have hL' := HC'.out.below B
   have hli : (k : Int) < (n : Int) := by omega
   have CE := fun (v : World) (h : Below wr.heap.size wr v) => eqNodeW (AM k) (BM k) (XM k) v ((hx.below B).below h) ((hx'.below B).below h)
   have SK : Hid (∀ w', Below wr.heap.size wr w' → (loadCells ⟨b, off + k * 16, none⟩ 16).run Tryz.prog w' = .ok (AM k) w' ∧ (loadCells ⟨b', off' + k * 16, none⟩ 16).run Tryz.prog w' = .ok (BM k) w') := fun w' hw => ⟨(hL.below hw).load (P := Tryz.prog) hlt hxs, (hL'.below hw).load (P := Tryz.prog) hlt hxs'⟩
   generalize AM k = Ak at *
   generalize BM k = Bk at *
   clear hx hx' hL hL' hxs hxs'
   go_wp2_with fail
   refine wp_region_held_drew (S := (fun w' => (loadCells ⟨b, off + k * 16, none⟩ 16).run Tryz.prog w' = .ok Ak w' ∧ (loadCells ⟨b', off' + k * 16, none⟩ 16).run Tryz.prog w' = .ok Bk w')) (by kernel_rfl) ?_ (fun hHeld => ?_)
   ·first | exact SK.out _ XB | exact SK.out _ (Below.drew (Below.refl _ _))
   have XB : Below wr.heap.size wr wr.drew := Below.drew (Below.refl _ _)
   generalize wr.drew = vx at *
   refine zTk 0 ?_
   refine zTk 1 ?_
   refine zTk 2 ?_
   refine zTk 3 ?_
   refine zTk 4 ?_
   refine zTk 5 ?_
   refine zTk 6 ?_
   refine zTk 7 ?_
   refine wpAnyH_ready (rs := [8]) (by kernel_rfl) (by simp) ?_
   refine AllReadyH.cons (by rw [List.getElem?_toArray]; rfl) (fun K hK => ?_) AllReadyH.nil
   go_simp
   refine (CE _ (XB)).mono ?_; rintro ee vx ⟨rfl, hbl⟩; (replace XB := XB.trans (hbl.mono XB.size)); (clear hbl)
   (try go_wp2_with fail)
   refine hK.out _ _ ?_ (fun hHeld => ?_)
   ·first | exact SK.out _ XB | exact SK.out _ (Below.drew (Below.refl _ _))
   clear hK K
   (try simp only [Act.put, zSb, zS0, zS1])
   refine zTk 9 ?_
   refine wpAnyH_done (by kernel_rfl) ?_ _
   have B2 := B.trans (XB.mono B.size)
   clear SK XB CE
   go_wp2_with fail
   go_roundw
   case rel => exact ⟨k + 1, by omega, by go_num, B2⟩
   case measure => simp [intOf]; omega
  ·have hli : ¬ (k : Int) < (n : Int) := by omega
   go_wp2_with fail
   go_ret
   exact ⟨rfl, B⟩
set_option maxHeartbeats 400000 in
theorem eqNodeN_zero (a a' : Option Addr) (c c' : Nat) (w : World) :
 Calls Tryz.prog 39 #[.slice a 0 c, .slice a' 0 c'] w fun e w' => e = .returned (.bool true) ∧ Below w.heap.size w w' := by
 go_enter Tryz.func39, Tryz.ntmps39
 go_wp2_with fail
 go_loopw [5] (fun i wr => i = .int .i64 0 ∧ w = wr) (fun i _ => 0)
 case atStart => exact ⟨rfl, by first | rfl | trivial⟩
 case round =>
  obtain ⟨rfl, rfl⟩ := hrel
  go_wp2_with fail
  go_ret
  exact ⟨rfl, Below.refl _ _⟩
theorem eqNodeN_any (a a' : Option Addr) (n c c' : Nat) (XM : Nat → NdX) (w : World) (hn : n ≤ maxLen) (h : RwN NdW w a n XM) (h' : RwN NdW w a' n XM) :
 Calls Tryz.prog 39 #[.slice a n c, .slice a' n c'] w fun e w' => e = .returned (.bool true) ∧ Below w.heap.size w w' := by
 by_cases h0 : n = 0
 ·subst h0; exact eqNodeN_zero a a' c c' w
 ·rcases h with h | ⟨b, off, AM, rfl, hc, hq⟩
  ·exact absurd h h0
  ·rcases h' with h | ⟨b', off', BM, rfl, hc', hq'⟩
   ·exact absurd h h0
   ·exact eqNodeN_some b off b' off' n c c' XM AM BM w hn hc hq hc' hq'
attribute [-go_sem] loadCells storeCells in
set_option maxRecDepth 100000 in
set_option maxHeartbeats 8000000 in
theorem szNodeN_some (b off n c : Nat) (XM : Nat → NdX) (AM : Nat → Array Value) (z0 : Int) (hz0 : 0 ≤ z0 ∧ z0 ≤ 1048576) (w : World) (hn : (n : Int) ≤ z0) (hc : CsN w b off n AM) (hq : ∀ i, i < n → NdW w (AM i) (XM i)) :
 Calls Tryz.prog 18 #[.slice (some ⟨b, off, none⟩) n c, .int .i64 z0] w fun e w' => ∃ L : Int, e = .returned (.int .i64 L) ∧ (0 ≤ L → L ≤ 1048576 ∧ ∀ i, i < n → shX (XM i)) ∧ Below w.heap.size w w' := by
 have hd : decide (z0 - (n : Int) < 0) = false := by simp; omega
 have HC : Hid (CsN w b off n AM) := hc
 have HQ : Hid (∀ i, i < n → NdW w (AM i) (XM i)) := hq
 clear hc hq
 go_enter Tryz.func18, Tryz.ntmps18
 go_wp2_with fail
 go_loopw [1, 5] (fun l i wr => ∃ (k : Nat) (Z : Int), k ≤ n ∧ i = .int .i64 k ∧ l = .int .i64 Z ∧ 0 ≤ Z ∧ Z ≤ 1048576 ∧ (∀ i, i < k → shX (XM i)) ∧ Below w.heap.size w wr) (fun _ i _ => n - (intOf i).toNat)
 case atStart => exact ⟨0, z0 - (n : Int), Nat.zero_le _, rfl, rfl, by omega, by omega, fun i hi => absurd hi (Nat.not_lt_zero _), Below.refl _ _⟩
 case round =>
  obtain ⟨k, Z, hk, rfl, rfl, Z0, Z1, hsh, B⟩ := hrel
  have HS : Hid (∀ i, i < k → shX (XM i)) := hsh
  clear hsh hd
  by_cases hlt : k < n
  ·have hx := HQ.out k hlt
   have hxs := hx.size
   have hL := (HC.out.below B).load (P := Tryz.prog) hlt hxs
   have hli : (k : Int) < (n : Int) := by omega
   have CZ := szNodeW (AM k) (XM k) Z wr (hx.below B) Z0 Z1
   generalize AM k = Ak at *
   clear hx
   go_wp2_with (rw [hL])
   refine CZ.mono ?_
   rintro e w2 ⟨L, rfl, hLs, hb⟩
   clear hL CZ
   replace B := B.trans (hb.mono B.size)
   clear hb
   by_cases hneg : L < 0
   ·have hdl : decide (L < 0) = true := by simp [hneg]
    clear hLs
    go_wp2_with fail
    go_ret
    exact ⟨-1, rfl, fun h => absurd h (by decide), B⟩
   ·have hdl : decide (L < 0) = false := by simp; omega
    obtain ⟨l1, l2⟩ := hLs (by omega)
    have HN : Hid (∀ i, i < k + 1 → shX (XM i)) := fun i hi => by
     by_cases e : i = k
     ·subst e; exact l1
     ·exact HS.out i (by omega)
    clear l1 HS hLs
    go_wp2_with fail
    go_roundw
    case rel => exact ⟨k + 1, L, by omega, by go_num, rfl, by omega, l2, HN.out, B⟩
    case measure => simp [intOf]; omega
  ·have hkn : k = n := by omega
   subst hkn
   have hli : ¬ (k : Int) < (k : Int) := by omega
   go_wp2_with fail
   go_ret
   exact ⟨Z, rfl, fun _ => ⟨Z1, HS.out⟩, B⟩
set_option maxHeartbeats 1000000 in
theorem szNodeN_long (a : Option Addr) (n c : Nat) (z0 : Int) (hz0 : 0 ≤ z0 ∧ z0 ≤ 1048576) (w : World) (hm : n ≤ maxLen) (h : z0 < (n : Int)) :
 Calls Tryz.prog 18 #[.slice a n c, .int .i64 z0] w fun e w' => e = .returned (.int .i64 (-1)) ∧ Below w.heap.size w w' := by
 unfold maxLen at hm
 have hd : decide (z0 - (n : Int) < 0) = true := by simp; omega
 go_enter Tryz.func18, Tryz.ntmps18
 go_wp2_with fail
 go_ret
 exact ⟨rfl, Below.refl _ _⟩
set_option maxHeartbeats 1000000 in
theorem szNodeN_zero (a : Option Addr) (c : Nat) (z0 : Int) (hz0 : 0 ≤ z0 ∧ z0 ≤ 1048576) (w : World) :
 Calls Tryz.prog 18 #[.slice a 0 c, .int .i64 z0] w fun e w' => e = .returned (.int .i64 z0) ∧ Below w.heap.size w w' := by
 have hd : decide (z0 < 0) = false := by simp; omega
 go_enter Tryz.func18, Tryz.ntmps18
 go_wp2_with fail
 go_loopw [1, 5] (fun l i wr => i = .int .i64 0 ∧ l = .int .i64 z0 ∧ w = wr) (fun _ i _ => 0)
 case atStart => exact ⟨rfl, by first | rfl | simp, by first | rfl | trivial⟩
 case round =>
  obtain ⟨rfl, rfl, rfl⟩ := hrel
  go_wp2_with fail
  go_ret
  exact ⟨rfl, Below.refl _ _⟩
theorem szNodeN_any (a : Option Addr) (n c : Nat) (XM : Nat → NdX) (z0 : Int) (hz0 : 0 ≤ z0 ∧ z0 ≤ 1048576) (w : World) (hm : n ≤ maxLen) (h : RwN NdW w a n XM) :
 Calls Tryz.prog 18 #[.slice a n c, .int .i64 z0] w fun e w' => ∃ L : Int, e = .returned (.int .i64 L) ∧ (0 ≤ L → L ≤ 1048576 ∧ n ≤ 1048576 ∧ ∀ i, i < n → shX (XM i)) ∧ Below w.heap.size w w' := by
 by_cases hl : z0 < (n : Int)
 ·exact (szNodeN_long a n c z0 hz0 w hm hl).mono fun e w' ⟨h1, h2⟩ => ⟨-1, h1, fun h => absurd h (by decide), h2⟩
 ·rcases h with rfl | ⟨b, off, AM, rfl, hc, hq⟩
  ·exact (szNodeN_zero a c z0 hz0 w).mono fun e w' ⟨h1, h2⟩ => ⟨z0, h1, fun _ => ⟨hz0.2, by omega, fun i hi => absurd hi (Nat.not_lt_zero _)⟩, h2⟩
  ·exact (szNodeN_some b off n c XM AM z0 hz0 w (by omega) hc hq).mono fun e w' ⟨L, h1, h2, h3⟩ => ⟨L, h1, fun h => ⟨(h2 h).1, by omega, (h2 h).2⟩, h3⟩
end Go.Proofs.YtddijpjgkifngaaGreatDoor
