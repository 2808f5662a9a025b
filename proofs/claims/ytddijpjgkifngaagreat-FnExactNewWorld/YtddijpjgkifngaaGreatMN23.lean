/- The cells of a box of a node, written at once. Rows of nodes. -/
import Derived.Test.YtddijpjgkifngaaGreatMN0
import Derived.Test.YtddijpjgkifngaaGreatMN22
namespace Go.Proofs.YtddijpjgkifngaaGreat
open Go.RowKit
set_option linter.unusedVariables false
set_option maxRecDepth 100000
set_option maxHeartbeats 16000000
theorem ar.put {w : World} {k : Nat} {a0 a1 a2 a3 a4 a5 a6 a7 a8 a9 a10 a11 a12 a13 a14 a15 : Value} (h : ar w k a0 a1 a2 a3 a4 a5 a6 a7 a8 a9 a10 a11 a12 a13 a14 a15) (u0 u1 u2 u3 u4 u5 u6 u7 u8 u9 u10 u11 u12 u13 u14 u15 : Value) : ar (((((((((((((((((w).setCell ⟨k, 0, none⟩ u0).setCell ⟨k, 1, none⟩ u1).setCell ⟨k, 2, none⟩ u2).setCell ⟨k, 3, none⟩ u3).setCell ⟨k, 4, none⟩ u4).setCell ⟨k, 5, none⟩ u5).setCell ⟨k, 6, none⟩ u6).setCell ⟨k, 7, none⟩ u7).setCell ⟨k, 8, none⟩ u8).setCell ⟨k, 9, none⟩ u9).setCell ⟨k, 10, none⟩ u10).setCell ⟨k, 11, none⟩ u11).setCell ⟨k, 12, none⟩ u12).setCell ⟨k, 13, none⟩ u13).setCell ⟨k, 14, none⟩ u14).setCell ⟨k, 15, none⟩ u15) k u0 u1 u2 u3 u4 u5 u6 u7 u8 u9 u10 u11 u12 u13 u14 u15 := ((((((((((((((((h.set0 u0).set1 u1).set2 u2).set3 u3).set4 u4).set5 u5).set6 u6).set7 u7).set8 u8).set9 u9).set10 u10).set11 u11).set12 u12).set13 u13).set14 u14).set15 u15)
theorem ar.load {P : Program} {w : World} {k : Nat} {u0 u1 u2 u3 u4 u5 u6 u7 u8 u9 u10 u11 u12 u13 u14 u15 : Value} (h : ar w k u0 u1 u2 u3 u4 u5 u6 u7 u8 u9 u10 u11 u12 u13 u14 u15) : (loadCells ⟨k, 0, none⟩ 16).run P w = .ok #[u0, u1, u2, u3, u4, u5, u6, u7, u8, u9, u10, u11, u12, u13, u14, u15] w := by
 obtain ⟨h0, h1, h2, h3, h4, h5, h6, h7, h8, h9, h10, h11, h12, h13, h14, h15, h16, f1, f2, f3, f4, f5, f6, f7, f8, f9, f10, f11, f12, f13, f14, f15, f16⟩ := h
 refine run_loadCells_list (P := P) w ⟨k, 0, none⟩ [u0, u1, u2, u3, u4, u5, u6, u7, u8, u9, u10, u11, u12, u13, u14, u15] (fun j v hj => ?_)
 rcases j with _|_|_|_|_|_|_|_|_|_|_|_|_|_|_|_|j
 all_goals (simp [Addr.add] at hj ⊢)
 all_goals (subst hj; assumption)
theorem aj {P : Program} {w : World} {k : Nat} {v : Value} {vs : List Value} {i : Nat} {u : Value} (hc : w.cell? ⟨k, i, none⟩ = some u) (hf : w.frozen? ⟨k, i, none⟩ = false) (hv : v.oneCell' = true) : (storeCells ⟨k, 0, none⟩ (v :: vs) i).run P w = (storeCells ⟨k, 0, none⟩ vs (i + 1)).run P (w.setCell ⟨k, i, none⟩ v) := by
 have e : (⟨k, 0, none⟩ : Addr).add i = ⟨k, i, none⟩ := by unfold Addr.add; split <;> simp_all
 rw [storeCells, Sem.run_bind, e, run_store _ _ _ _ _ hv, hc]
 simp [hf, Result.andThen]
theorem ar.store {P : Program} {w : World} {k : Nat} {a0 a1 a2 a3 a4 a5 a6 a7 a8 a9 a10 a11 a12 a13 a14 a15 : Value} (h : ar w k a0 a1 a2 a3 a4 a5 a6 a7 a8 a9 a10 a11 a12 a13 a14 a15) {u0 u1 u2 u3 u4 u5 u6 u7 u8 u9 u10 u11 u12 u13 u14 u15 : Value} (o0 : u0.oneCell' = true) (o1 : u1.oneCell' = true) (o2 : u2.oneCell' = true) (o3 : u3.oneCell' = true) (o4 : u4.oneCell' = true) (o5 : u5.oneCell' = true) (o6 : u6.oneCell' = true) (o7 : u7.oneCell' = true) (o8 : u8.oneCell' = true) (o9 : u9.oneCell' = true) (o10 : u10.oneCell' = true) (o11 : u11.oneCell' = true) (o12 : u12.oneCell' = true) (o13 : u13.oneCell' = true) (o14 : u14.oneCell' = true) (o15 : u15.oneCell' = true) : (storeCells ⟨k, 0, none⟩ [u0, u1, u2, u3, u4, u5, u6, u7, u8, u9, u10, u11, u12, u13, u14, u15]).run P w = .ok () (((((((((((((((((w).setCell ⟨k, 0, none⟩ u0).setCell ⟨k, 1, none⟩ u1).setCell ⟨k, 2, none⟩ u2).setCell ⟨k, 3, none⟩ u3).setCell ⟨k, 4, none⟩ u4).setCell ⟨k, 5, none⟩ u5).setCell ⟨k, 6, none⟩ u6).setCell ⟨k, 7, none⟩ u7).setCell ⟨k, 8, none⟩ u8).setCell ⟨k, 9, none⟩ u9).setCell ⟨k, 10, none⟩ u10).setCell ⟨k, 11, none⟩ u11).setCell ⟨k, 12, none⟩ u12).setCell ⟨k, 13, none⟩ u13).setCell ⟨k, 14, none⟩ u14).setCell ⟨k, 15, none⟩ u15) := by
 have c0 := (h).2.1
 have g0 := (h).2.2.2.2.2.2.2.2.2.2.2.2.2.2.2.2.2.1
 have H1 := (h).set0 u0
 have c1 := (H1).2.2.1
 have g1 := (H1).2.2.2.2.2.2.2.2.2.2.2.2.2.2.2.2.2.2.1
 have H2 := (H1).set1 u1
 have c2 := (H2).2.2.2.1
 have g2 := (H2).2.2.2.2.2.2.2.2.2.2.2.2.2.2.2.2.2.2.2.1
 have H3 := (H2).set2 u2
 have c3 := (H3).2.2.2.2.1
 have g3 := (H3).2.2.2.2.2.2.2.2.2.2.2.2.2.2.2.2.2.2.2.2.1
 have H4 := (H3).set3 u3
 have c4 := (H4).2.2.2.2.2.1
 have g4 := (H4).2.2.2.2.2.2.2.2.2.2.2.2.2.2.2.2.2.2.2.2.2.1
 have H5 := (H4).set4 u4
 have c5 := (H5).2.2.2.2.2.2.1
 have g5 := (H5).2.2.2.2.2.2.2.2.2.2.2.2.2.2.2.2.2.2.2.2.2.2.1
 have H6 := (H5).set5 u5
 have c6 := (H6).2.2.2.2.2.2.2.1
 have g6 := (H6).2.2.2.2.2.2.2.2.2.2.2.2.2.2.2.2.2.2.2.2.2.2.2.1
 have H7 := (H6).set6 u6
 have c7 := (H7).2.2.2.2.2.2.2.2.1
 have g7 := (H7).2.2.2.2.2.2.2.2.2.2.2.2.2.2.2.2.2.2.2.2.2.2.2.2.1
 have H8 := (H7).set7 u7
 have c8 := (H8).2.2.2.2.2.2.2.2.2.1
 have g8 := (H8).2.2.2.2.2.2.2.2.2.2.2.2.2.2.2.2.2.2.2.2.2.2.2.2.2.1
 have H9 := (H8).set8 u8
 have c9 := (H9).2.2.2.2.2.2.2.2.2.2.1
 have g9 := (H9).2.2.2.2.2.2.2.2.2.2.2.2.2.2.2.2.2.2.2.2.2.2.2.2.2.2.1
 have H10 := (H9).set9 u9
 have c10 := (H10).2.2.2.2.2.2.2.2.2.2.2.1
 have g10 := (H10).2.2.2.2.2.2.2.2.2.2.2.2.2.2.2.2.2.2.2.2.2.2.2.2.2.2.2.1
 have H11 := (H10).set10 u10
 have c11 := (H11).2.2.2.2.2.2.2.2.2.2.2.2.1
 have g11 := (H11).2.2.2.2.2.2.2.2.2.2.2.2.2.2.2.2.2.2.2.2.2.2.2.2.2.2.2.2.1
 have H12 := (H11).set11 u11
 have c12 := (H12).2.2.2.2.2.2.2.2.2.2.2.2.2.1
 have g12 := (H12).2.2.2.2.2.2.2.2.2.2.2.2.2.2.2.2.2.2.2.2.2.2.2.2.2.2.2.2.2.1
 have H13 := (H12).set12 u12
 have c13 := (H13).2.2.2.2.2.2.2.2.2.2.2.2.2.2.1
 have g13 := (H13).2.2.2.2.2.2.2.2.2.2.2.2.2.2.2.2.2.2.2.2.2.2.2.2.2.2.2.2.2.2.1
 have H14 := (H13).set13 u13
 have c14 := (H14).2.2.2.2.2.2.2.2.2.2.2.2.2.2.2.1
 have g14 := (H14).2.2.2.2.2.2.2.2.2.2.2.2.2.2.2.2.2.2.2.2.2.2.2.2.2.2.2.2.2.2.2.1
 have H15 := (H14).set14 u14
 have c15 := (H15).2.2.2.2.2.2.2.2.2.2.2.2.2.2.2.2.1
 have g15 := (H15).2.2.2.2.2.2.2.2.2.2.2.2.2.2.2.2.2.2.2.2.2.2.2.2.2.2.2.2.2.2.2.2
 have H16 := (H15).set15 u15
 rw [aj c0 g0 o0]
 rw [aj c1 g1 o1]
 rw [aj c2 g2 o2]
 rw [aj c3 g3 o3]
 rw [aj c4 g4 o4]
 rw [aj c5 g5 o5]
 rw [aj c6 g6 o6]
 rw [aj c7 g7 o7]
 rw [aj c8 g8 o8]
 rw [aj c9 g9 o9]
 rw [aj c10 g10 o10]
 rw [aj c11 g11 o11]
 rw [aj c12 g12 o12]
 rw [aj c13 g13 o13]
 rw [aj c14 g14 o14]
 rw [aj c15 g15 o15]
 rfl
def CsN (w : World) (b off n : Nat) (AM : Nat → Array Value) : Prop := b < w.heap.size ∧ ∀ i, i < n → ∀ j u, (AM i)[j]? = some u → w.cell? ⟨b, off + i * 16 + j, none⟩ = some u
theorem CsN.below {w w' : World} {b off n : Nat} {AM : Nat → Array Value} (h : CsN w b off n AM) (hb : Below w.heap.size w w') : CsN w' b off n AM :=
 ⟨Nat.lt_of_lt_of_le h.1 hb.size, fun i hi j u hj => by rw [hb.cell (p := ⟨b, off + i * 16 + j, none⟩) h.1]; exact h.2 i hi j u hj⟩
theorem CsN.load {P : Program} {w : World} {b off n i : Nat} {AM : Nat → Array Value} (h : CsN w b off n AM) (hi : i < n) (hs : (AM i).size = 16) : (loadCells ⟨b, off + i * 16, none⟩ 16).run P w = .ok (AM i) w := by
 have e := run_loadCells_list (P := P) w ⟨b, off + i * 16, none⟩ (AM i).toList (fun j v hj => by rw [add_at]; exact h.2 i hi j v (by simpa using hj))
 have e2 : (AM i).toList.length = 16 := by simpa using hs
 rw [e2, Array.toArray_toList] at e
 exact e
def RwN (Q : World → Array Value → NdX → Prop) (w : World) (a : Option Addr) (n : Nat) (XM : Nat → NdX) : Prop := n = 0 ∨ ∃ b off AM, a = some ⟨b, off, none⟩ ∧ CsN w b off n AM ∧ ∀ i, i < n → Q w (AM i) (XM i)
theorem RwN.belowW {w w' : World} {a : Option Addr} {n : Nat} {XM : Nat → NdX} (h : RwN NdW w a n XM) (hb : Below w.heap.size w w') : RwN NdW w' a n XM := by
 rcases h with h | ⟨b, off, AM, e, hc, hq⟩
 ·exact .inl h
 ·exact .inr ⟨b, off, AM, e, hc.below hb, fun i hi => (hq i hi).below hb⟩
theorem RwN.belowS {w w' : World} {a : Option Addr} {n : Nat} {XM : Nat → NdX} (h : RwN NdS w a n XM) (hb : Below w.heap.size w w') : RwN NdS w' a n XM := by
 rcases h with h | ⟨b, off, AM, e, hc, hq⟩
 ·exact .inl h
 ·exact .inr ⟨b, off, AM, e, hc.below hb, fun i hi => (hq i hi).below hb⟩
theorem RwN.weak {w : World} {a : Option Addr} {n : Nat} {XM : Nat → NdX} (h : RwN NdS w a n XM) : RwN NdW w a n XM := by
 rcases h with h | ⟨b, off, AM, e, hc, hq⟩
 ·exact .inl h
 ·exact .inr ⟨b, off, AM, e, hc, fun i hi => (hq i hi).weak⟩
def shX (x : NdX) : Prop := x.na ≤ 1048576 ∧ x.np ≤ 1048576 ∧ x.nh ≤ 1048576
theorem j1 (A A' : Array Value) (x : NdX) (w : World) (h : NdW w A x) (h' : NdW w A' x) :
 Calls Tryz.prog 103 #[.agg A, .agg A'] w fun e w' => e = .returned (.bool true) ∧ Below w.heap.size w w' := by
 obtain ⟨aa, ac, pa, pc, ha, hc, rfl, hl, h1, h2, h3⟩ := h
 obtain ⟨aa', ac', pa', pc', ha', hc', rfl, hl', h1', h2', h3'⟩ := h'
 exact fS x.ni x.mo x.ep x.si x.kn x.lo x.hi x.la x.te x.us aa x.na ac x.AM pa x.np pc x.QM x.hs x.ls ha x.nh hc x.HM x.se aa' pa' ha' ac' pc' hc' w hl.1 h1 hl.2.1 h2 hl.2.2 h3 h1' h2' h3'
def NvP (w : World) (g n k : Nat) (XM : Nat → NdX) : Prop := ∃ (A : Array Value) (AM : Nat → Array Value), Bo w g A ∧ A.size = n * 16 ∧ (∀ i, i < k → ∀ j u, (AM i)[j]? = some u → A[i * 16 + j]? = some u) ∧ ∀ i, i < k → NdO w (g + 1) w.heap.size (AM i) (XM i)
theorem NvP.below {w w' : World} {g n k : Nat} {XM : Nat → NdX} (h : NvP w g n k XM) (hb : Below w.heap.size w w') : NvP w' g n k XM := by
 obtain ⟨A, AM, h1, h2, h3, h4⟩ := h
 exact ⟨A, AM, h1.below hb, h2, h3, fun i hi => ((h4 i hi).below hb).wide (Nat.le_refl _) hb.size⟩
theorem NvP.bo {w : World} {g n k : Nat} {XM : Nat → NdX} (h : NvP w g n k XM) : ∃ A, Bo w g A ∧ A.size = n * 16 := by
 obtain ⟨A, AM, h1, h2, _⟩ := h
 exact ⟨A, h1, h2⟩
theorem NvP.put {w : World} {g n k l : Nat} {XM : Nat → NdX} {R : Array Value} (h : NvP w g n k XM) (hR : NdO w l w.heap.size R (XM k)) (hl : g + 1 ≤ l) (hk : k < n) : NvP (ah w g (k * 16) R.toList) g n (k + 1) XM := by
 obtain ⟨A, AM, h1, h2, h3, h4⟩ := h
 have hs := hR.size
 have hb : Btw g (g + 1) w (ah w g (k * 16) R.toList) := af R.toList w (k * 16) g
 have hz : (ah w g (k * 16) R.toList).heap.size = w.heap.size := eD g R.toList w (k * 16)
 refine ⟨spl A (k * 16) R.toList, fun i => if i = k then R else AM i, Bo.put R.toList (k * 16) h1, by rw [bV, h2], fun i hi j u hj => ?_, fun i hi => ?_⟩
 ·rw [bh _ _ _ _ (by simp [hs]; omega)]
  have hj : (if i = k then R else AM i)[j]? = some u := hj
  by_cases e : i = k
  ·subst e
   rw [if_pos rfl] at hj
   have hj16 : j < 16 := by have := (Array.getElem?_eq_some_iff.1 hj).1; omega
   rw [if_pos (by simp [hs]; omega), Array.getElem?_toList, show i * 16 + j - i * 16 = j by omega]
   exact hj
  ·rw [if_neg e] at hj
   have hj16 : j < 16 := by have := (Array.getElem?_eq_some_iff.1 hj).1; have := (h4 i (by omega)).size; omega
   rw [if_neg (by omega)]
   exact h3 i (by omega) j u hj
 ·rw [hz]
  show NdO _ _ _ (if i = k then R else AM i) (XM i)
  by_cases e : i = k
  ·subst e
   rw [if_pos rfl]
   exact (hR.wide hl (Nat.le_refl _)).btw hb (.inr (Nat.le_refl _))
  ·rw [if_neg e]
   exact (h4 i (by omega)).btw hb (.inr (Nat.le_refl _))
theorem NvP.done {w : World} {g n : Nat} {XM : Nat → NdX} (h : NvP w g n n XM) : ∃ AM, CsN w g 0 n AM ∧ ∀ i, i < n → NdO w (g + 1) w.heap.size (AM i) (XM i) := by
 obtain ⟨A, AM, h1, h2, h3, h4⟩ := h
 exact ⟨AM, ⟨h1.1, fun i hi j u hj => by rw [Nat.zero_add]; exact h1.cell (h3 i hi j u hj)⟩, h4⟩
def gB (n : Nat) : Obj := .cells (madeCells #[.int .i64 0, .int .i64 0, .int .i64 0, .int .i64 0, .bool false, .int .i64 0, .int .i64 0, .int .i64 0, .int .i64 0, .int .i64 0, .slice none 0 0, .slice none 0 0, .bool false, .int .i64 0, .slice none 0 0, .int .i64 0] (n * 16)) 98
theorem NvP.new (w : World) (n : Nat) (XM : Nat → NdX) : NvP (w.alloc (gB n)) w.heap.size n 0 XM :=
 ⟨_, fun _ => #[], Bo.new w _ 98, size_madeCells _ _, fun i hi => absurd hi (Nat.not_lt_zero _), fun i hi => absurd hi (Nat.not_lt_zero _)⟩
theorem NvP.row {w : World} {g n : Nat} {XM : Nat → NdX} (h : NvP w g n n XM) : RwN NdS w (some ⟨g, 0, none⟩) n XM := by
 obtain ⟨AM, hc, hq⟩ := h.done
 exact .inr ⟨g, 0, AM, rfl, hc, fun i hi => (hq i hi).src⟩
attribute [-go_sem] loadCells storeCells in
theorem eU (b off b' off' n c c' : Nat) (XM : Nat → NdX) (AM BM : Nat → Array Value) (w : World) (hn : n ≤ maxLen) (hc : CsN w b off n AM) (hq : ∀ i, i < n → NdW w (AM i) (XM i)) (hc' : CsN w b' off' n BM) (hq' : ∀ i, i < n → NdW w (BM i) (XM i)) :
 Calls Tryz.prog 53 #[.slice (some ⟨b, off, none⟩) n c, .slice (some ⟨b', off', none⟩) n c'] w fun e w' => e = .returned (.bool true) ∧ Below w.heap.size w w' := by
 unfold maxLen at hn
 have HC : Hid (CsN w b off n AM) := hc
 have HQ : Hid (∀ i, i < n → NdW w (AM i) (XM i)) := hq
 have HC' : Hid (CsN w b' off' n BM) := hc'
 have HQ' : Hid (∀ i, i < n → NdW w (BM i) (XM i)) := hq'
 clear hc hq hc' hq'
 go_enter Tryz.func53, Tryz.ntmps53
 go_wp2_with fail
 go_loopw [5] (fun i wr => ∃ k : Nat, k ≤ n ∧ i = .int .i64 k ∧ Below w.heap.size w wr) (fun i _ => n - (intOf i).toNat)
 case atStart => exact ⟨0, Nat.zero_le _, rfl, Below.refl _ _⟩
 case round =>
  obtain ⟨k, hk, rfl, B⟩ := hrel
  by_cases hlt : k < n
  ·have hx := HQ.out k hlt
   have hx' := HQ'.out k hlt
   have hxs := hx.size
   have hxs' := hx'.size
   have hL := HC.out.below B
   have hL' := HC'.out.below B
   have hli : (k : Int) < (n : Int) := by omega
   have CE := fun (v : World) (h : Below wr.heap.size wr v) => j1 (AM k) (BM k) (XM k) v ((hx.below B).below h) ((hx'.below B).below h)
   have SK : Hid (∀ w', Below wr.heap.size wr w' → (loadCells ⟨b, off + k * 16, none⟩ 16).run Tryz.prog w' = .ok (AM k) w' ∧ (loadCells ⟨b', off' + k * 16, none⟩ 16).run Tryz.prog w' = .ok (BM k) w') := fun w' hw => ⟨(hL.below hw).load (P := Tryz.prog) hlt hxs, (hL'.below hw).load (P := Tryz.prog) hlt hxs'⟩
   generalize AM k = Ak at *
   generalize BM k = Bk at *
   clear hx hx' hL hL' hxs hxs'
   go_wp2_with fail
   refine wp_region_held_drew (S := (fun w' => (loadCells ⟨b, off + k * 16, none⟩ 16).run Tryz.prog w' = .ok Ak w' ∧ (loadCells ⟨b', off' + k * 16, none⟩ 16).run Tryz.prog w' = .ok Bk w')) (by kernel_rfl) ?_ (fun hHeld => ?_)
   ·first | exact SK.out _ XB | exact SK.out _ zD
   have XB : Below wr.heap.size wr wr.drew := Below.drew (Below.refl _ _)
   generalize wr.drew = vx at *
   refine zT8 0 ?_
   refine zQ 8 fun K hK => ?_
   go_simp
   refine (CE _ (XB)).mono ?_; rintro ee vx ⟨rfl, hbl⟩; (replace XB := XB.trans (hbl.mono XB.size)); (clear hbl)
   (try go_wp2_with fail)
   refine hK.out _ _ ?_ (fun hHeld => ?_)
   ·first | exact SK.out _ XB | exact SK.out _ zD
   clear hK K
   (try simp only [zA])
   refine zTk 9 ?_
   refine wpAnyH_done (by kernel_rfl) ?_ _
   have B2 := B.trans (XB.mono B.size)
   clear SK XB CE
   go_wp2_with fail
   go_roundw
   case rel => exact ⟨k + 1, by omega, by go_num, B2⟩
   case measure => simp [intOf]; omega
  ·have hli : ¬ (k : Int) < (n : Int) := by omega
   go_wp2_with fail
   go_ret
   exact ⟨rfl, B⟩
theorem eV (a a' : Option Addr) (c c' : Nat) (w : World) :
 Calls Tryz.prog 53 #[.slice a 0 c, .slice a' 0 c'] w fun e w' => e = .returned (.bool true) ∧ Below w.heap.size w w' := by
 go_enter Tryz.func53, Tryz.ntmps53
 go_wp2_with fail
 go_loopw [5] (fun i wr => i = .int .i64 0 ∧ w = wr) (fun i _ => 0)
 case atStart => exact ⟨rfl, by first | rfl | trivial⟩
 case round =>
  obtain ⟨rfl, rfl⟩ := hrel
  go_wp2_with fail
  go_ret
  exact ⟨rfl, Below.refl _ _⟩
theorem fR (a a' : Option Addr) (n c c' : Nat) (XM : Nat → NdX) (w : World) (hn : n ≤ maxLen) (h : RwN NdW w a n XM) (h' : RwN NdW w a' n XM) :
 Calls Tryz.prog 53 #[.slice a n c, .slice a' n c'] w fun e w' => e = .returned (.bool true) ∧ Below w.heap.size w w' := by
 by_cases h0 : n = 0
 ·subst h0; exact eV a a' c c' w
 ·rcases h with h | ⟨b, off, AM, rfl, hc, hq⟩
  ·exact absurd h h0
  ·rcases h' with h | ⟨b', off', BM, rfl, hc', hq'⟩
   ·exact absurd h h0
   ·exact eU b off b' off' n c c' XM AM BM w hn hc hq hc' hq'
end Go.Proofs.YtddijpjgkifngaaGreat
