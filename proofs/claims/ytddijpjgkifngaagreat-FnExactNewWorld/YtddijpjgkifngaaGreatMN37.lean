/- The code that is looked at first (the program), over arrays of cells. -/
import Derived.Lib.MinMax
import Derived.Test.YtddijpjgkifngaaGreatMN23
namespace Go.Proofs.YtddijpjgkifngaaGreat
open Go.RowKit
set_option linter.unusedVariables false
set_option maxRecDepth 100000
set_option maxHeartbeats 16000000
def ctA (AM : Nat → KT) (k : Nat) : List Int := (List.range k).map fun i => (AM i).2.2.1
def ctP (QM : Nat → PT) (k : Nat) : List Int := (List.range k).map fun i => (QM i).2.2.2.1
def ctH (HM : Nat → VT) (k : Nat) : List Int := (List.range k).map fun i => (HM i).2
theorem fJ (AM : Nat → KT) (k : Nat) : ctA AM (k + 1) = ctA AM k ++ [(AM k).2.2.1] := by unfold ctA; rw [List.range_succ, List.map_append]; rfl
theorem fL (QM : Nat → PT) (k : Nat) : ctP QM (k + 1) = ctP QM k ++ [(QM k).2.2.2.1] := by unfold ctP; rw [List.range_succ, List.map_append]; rfl
theorem fK (HM : Nat → VT) (k : Nat) : ctH HM (k + 1) = ctH HM k ++ [(HM k).2] := by unfold ctH; rw [List.range_succ, List.map_append]; rfl
theorem cq (AM : Nat → KT) (k : Nat) : (ctA AM k).length = k := by simp [ctA]
theorem dc (QM : Nat → PT) (k : Nat) : (ctP QM k).length = k := by simp [ctP]
theorem eL (HM : Nat → VT) (k : Nat) : (ctH HM k).length = k := by simp [ctH]
def ctL (x : NdX) : List Int := [x.si, x.la, x.se] ++ ctA x.AM x.na ++ ctP x.QM x.np ++ ctH x.HM x.nh
def mxF (f : Nat → Int) : Nat → Int
 | 0 => f 0
 | k + 1 => max (mxF f k) (f (k + 1))
theorem jG (f : Nat → Int) (ct : Int) : ∀ k, decide (mxF f k ≤ ct) = true ↔ ∀ j, j ≤ k → f j ≤ ct
 | 0 => by
  rw [decide_eq_true_iff]
  exact ⟨fun h j hj => by (have e : j = 0 := by omega); (subst e); exact h, fun h => h 0 (Nat.le_refl _)⟩
 | k + 1 => by
  have ih := jG f ct k
  simp only [decide_eq_true_eq] at ih ⊢
  rw [mxF]
  constructor
  ·intro h j hj
   by_cases e : j = k + 1
   ·subst e; omega
   ·exact ih.1 (by omega) j (by omega)
  ·intro h
   have h1 := ih.2 (fun j hj => h j (by omega))
   have h2 := h (k + 1) (Nat.le_refl _)
   omega
theorem iG (AM : Nat → KT) (ct : Int) : ∀ k, cmA AM ct k = (ctA AM k).all fun z => decide (z ≤ ct)
 | 0 => rfl
 | k + 1 => by rw [cmA, iG AM ct k, fJ, List.all_append]; simp
theorem iI (QM : Nat → PT) (ct : Int) : ∀ k, cmP QM ct k = (ctP QM k).all fun z => decide (z ≤ ct)
 | 0 => rfl
 | k + 1 => by rw [cmP, iI QM ct k, fL, List.all_append]; simp
theorem iH (HM : Nat → VT) (ct : Int) : ∀ k, cmH HM ct k = (ctH HM k).all fun z => decide (z ≤ ct)
 | 0 => rfl
 | k + 1 => by rw [cmH, iH HM ct k, fK, List.all_append]; simp
theorem jm (x : NdX) (ct : Int) (m : Nat) (hm : (ctL x).length = m + 1) : cmX x ct = (okT ct && decide (mxF (fun j => (ctL x).getD j 0) m ≤ ct)) := by
 have e : cmX x ct = (okT ct && (ctL x).all fun z => decide (z ≤ ct)) := by
  unfold cmX cmB ctL
  rw [iG, iI, iH]
  simp only [List.all_append, List.all_cons, List.all_nil, Bool.and_true, Bool.and_assoc]
 rw [e]
 congr 1
 rw [Bool.eq_iff_iff, List.all_eq_true, jG]
 constructor
 ·intro h j hj
  have hj' : j < (ctL x).length := by omega
  have := h ((ctL x)[j]) (List.getElem_mem hj')
  rw [List.getD_eq_getElem?_getD, List.getElem?_eq_getElem hj']
  simpa using this
 ·intro h z hz
  obtain ⟨j, hj, rfl⟩ := List.getElem_of_mem hz
  have := h j (by omega)
  rw [List.getD_eq_getElem?_getD, List.getElem?_eq_getElem hj] at this
  simpa using this
theorem jy (L : List Int) (j : Nat) (hj : j < L.length) : (bC L)[j]? = some (.int .i64 (L.getD j 0)) := by
 unfold bC
 rw [List.getElem?_map, List.getElem?_range (by omega)]
 rfl
theorem maxX (b n c : Nat) (f : Nat → Int) (w : World) (hn1 : 1 ≤ n) (hn : n ≤ 64) (hf : ∀ j, j < n → w.cell? ⟨b, j, none⟩ = some (.int .i64 (f j))) :
 Calls Tryz.prog 182 #[.slice (some ⟨b, 0, none⟩) n c] w fun e w' => e = .returned (.int .i64 (mxF f (n - 1))) ∧ w = w' := by
 have c0 := hf 0 (by omega)
 have HF : Hid (∀ j, j < n → w.cell? ⟨b, j, none⟩ = some (.int .i64 (f j))) := hf
 have hlt1 : ¬ (n : Int) < 1 := by omega
 have h0n : (0 : Int) < (n : Int) := by omega
 have h0n' : 0 < n := by omega
 clear hf
 go_enter Tryz.func182, Tryz.ntmps182
 go_wp2_with fail
 clear c0
 go_loopw [3, 4] (fun m i wr => ∃ (q : Nat), 1 ≤ q ∧ q ≤ n ∧ m = .int .i64 (mxF f (q - 1)) ∧ i = .int .i64 (q : Int) ∧ w = wr) (fun _ i _ => n - (intOf i).toNat)
 case atStart => exact ⟨1, Nat.le_refl _, hn1, rfl, rfl, by first | rfl | trivial⟩
 case round =>
  obtain ⟨q, hq1, hq, rfl, rfl, rfl⟩ := hrel
  by_cases hlt : q < n
  ·have ck := HF.out q hlt
   have hli : (q : Int) < (n : Int) := by omega
   have HM : Hid (mxF f (q + 1 - 1) = max (mxF f (q - 1)) (f q)) := by
    obtain ⟨j, rfl⟩ : ∃ j, q = j + 1 := ⟨q - 1, by omega⟩
    rw [Hid, Nat.add_sub_cancel, Nat.add_sub_cancel]; rfl
   have HLT : Hid (q < n) := hlt
   generalize mxF f (q - 1) = m0 at *
   go_wp2_with fail
   go_roundw
   case rel => exact ⟨q + 1, Nat.le_add_left _ _, HLT.out, by rw [HM.out], by go_num, by first | rfl | trivial⟩
   case measure => have hlt' := HLT.out; simp [intOf]; omega
  ·obtain rfl : q = n := by omega
   have hli : ¬ (q : Int) < (q : Int) := by omega
   go_wp2_with fail
   go_ret
   exact ⟨rfl, rfl⟩
theorem made3 (w : World) (a b c : Int) {base : Nat} (hb : base ≤ w.heap.size) : (w.alloc (.cells #[.int .i64 a, .int .i64 b, .int .i64 c] 3)).ownsRow base 3 1 (.slice (some ⟨w.heap.size, 0, none⟩) 3 3) ([a, b, c] : List Int).length (bC [a, b, c]) :=
 ⟨by rfl, .inr ⟨w.heap.size, 3, #[.int .i64 a, .int .i64 b, .int .i64 c], rfl, hb, by first | exact heap_alloc_new w _ | exact World.heap_alloc_new w _ | simp, Nat.le_refl _, by simp [maxLen], rfl, by rfl⟩⟩
theorem gO (AN : Array Value) (x : NdX) (w : World) (HN : NdW w AN x) (hsh : x.na ≤ 16 ∧ x.np ≤ 8 ∧ x.nh ≤ 16) :
 Calls Tryz.prog 183 #[.agg AN] w fun e w' => ∃ v', e = .returned v' ∧ w'.ownsRow (w.heap.size + 1) 3 1 v' (ctL x).length (bC (ctL x)) ∧ Below w.heap.size w w' := by
 obtain ⟨aa, ac, pa, pc, ha, hc, rfl, -, sA, sP, sH⟩ := HN
 have HA : Hid (ae w aa (x.na * 4) (aA x.AM)) := sA
 have HQ : Hid (ae w pa (x.np * 5) (ay x.QM)) := sP
 have HH : Hid (ae w ha (x.nh * 2) (aC x.HM)) := sH
 clear sA sP sH
 obtain ⟨hna, hnp, hnh⟩ := hsh
 have A0 := Below.nw w (.cells (ndV x aa ac pa pc ha hc) 98)
 have N := Bo.new w (ndV x aa ac pa pc ha hc) 98
 have B := A0
 clear A0
 go_enter Tryz.func183, Tryz.ntmps183
 go_upto_region 1 with fail
 generalize w.alloc (.cells (ndV x aa ac pa pc ha hc) 98) = v0 at *
 have c3 : v0.cell? ⟨w.heap.size, 3, none⟩ = some (.int .i64 x.si) := N.cell rfl
 have c7 : v0.cell? ⟨w.heap.size, 7, none⟩ = some (.int .i64 x.la) := N.cell rfl
 have c15 : v0.cell? ⟨w.heap.size, 15, none⟩ = some (.int .i64 x.se) := N.cell rfl
 have hs0 : w.heap.size + 1 ≤ v0.heap.size := N.1
 have A1 := Below.nw v0 (.cells #[.int .i64 x.si, .int .i64 x.la, .int .i64 x.se] 3)
 have O0 : (v0.alloc (.cells #[.int .i64 x.si, .int .i64 x.la, .int .i64 x.se] 3)).ownsRow (w.heap.size + 1) 3 1 (.slice (some ⟨v0.heap.size, 0, none⟩) 3 3) ([x.si, x.la, x.se] : List Int).length (bC [x.si, x.la, x.se]) := made3 v0 x.si x.la x.se hs0
 go_upto_region 2 with fail
 clear c3 c7 c15
 have BJ : Below (w.heap.size + 1) v0 (v0.alloc (.cells #[.int .i64 x.si, .int .i64 x.la, .int .i64 x.se] 3)) := A1.mono hs0
 have hjs : w.heap.size + 1 ≤ (v0.alloc (.cells #[.int .i64 x.si, .int .i64 x.la, .int .i64 x.se] 3)).heap.size := Nat.le_trans hs0 A1.size
 clear A1
 generalize v0.alloc (.cells #[.int .i64 x.si, .int .i64 x.la, .int .i64 x.se] 3) = v1 at *
 have B0 : Hid (Below w.heap.size w v0) := B
 have N0 : Hid (Bo v0 w.heap.size (ndV x aa ac pa pc ha hc)) := N
 clear B N
 generalize (Value.slice (some ⟨v0.heap.size, 0, none⟩) 3 3) = vs at *
 have ck : v1.cell? ⟨w.heap.size, 10, none⟩ = some (.slice aa x.na ac) := (N0.out.belowB BJ (by omega)).cell rfl
 go_wp2_with fail
 clear ck
 go_loopw [3, 23] (fun sv i wr => ∃ (k : Nat), k ≤ x.na ∧ i = .int .i64 (k : Int) ∧ wr.ownsRow (w.heap.size + 1) 3 1 sv ([x.si, x.la, x.se] ++ ctA x.AM k).length (bC ([x.si, x.la, x.se] ++ ctA x.AM k)) ∧ w.heap.size + 1 ≤ wr.heap.size ∧ Below (w.heap.size + 1) v0 wr) (fun _ i _ => x.na - (intOf i).toNat)
 case atStart => exact ⟨0, Nat.zero_le _, rfl, by first | exact O0 | (rw [show ([x.si, x.la, x.se] ++ ctA x.AM 0) = [x.si, x.la, x.se] from List.append_nil _]; exact O0), hjs, BJ⟩
 case round =>
  clear O0 hjs BJ
  obtain ⟨k, hk, rfl, O0, hjs, BJ⟩ := hrel
  by_cases hlt : k < x.na
  ·obtain ⟨x0, x1, x2, x3, hM⟩ := bW x.AM k
   obtain ⟨b, off, rfl, hf⟩ : ∃ b off, aa = some ⟨b, off, none⟩ ∧ Cs w b off (x.na * 4) (aA x.AM) := by
    rcases HA.out with q | q
    ·exact absurd q (by omega)
    ·exact q
   have hf1 := hf.below B0.out hf.1
   obtain ⟨c0, c1, c2, c3⟩ := (hf1.below BJ (Nat.lt_succ_of_lt hf.1)).elAsk hlt hM
   have HLT : Hid (k < x.na) := hlt
   have hli : (k : Int) < (x.na : Int) := by omega
   have HE : Hid (([x.si, x.la, x.se] ++ ctA x.AM (k + 1)) = ([x.si, x.la, x.se] ++ ctA x.AM k) ++ [x2]) := by rw [Hid, fJ, hM]; exact (List.append_assoc _ _ _).symm
   have hlen : ([x.si, x.la, x.se] ++ ctA x.AM k).length ≤ 64 := by rw [List.length_append, cq]; simp only [List.length_cons, List.length_nil]; omega
   generalize ([x.si, x.la, x.se] ++ ctA x.AM k) = Lk at *
   have A1 := Below.nw wr (.cells #[.int .i64 x0, .int .i64 x1, .int .i64 x2, .int .i64 x3] 160)
   have K := Bo.new wr #[.int .i64 x0, .int .i64 x1, .int .i64 x2, .int .i64 x3] 160
   go_upto_region 5 with fail
   clear c0 c1 c2 c3 hf hf1 hM
   have O1 := World.ownsRow.alloc O0 (.cells #[.int .i64 x0, .int .i64 x1, .int .i64 x2, .int .i64 x3] 160)
   replace BJ := BJ.trans (A1.mono hjs)
   replace hjs := Nat.le_trans hjs A1.size
   clear A1 O0
   generalize wr.alloc (.cells #[.int .i64 x0, .int .i64 x1, .int .i64 x2, .int .i64 x3] 160) = v8 at *
   generalize wr.heap.size = bk at *
   have d0 : v8.cell? ⟨bk, 2, none⟩ = some (.int .i64 x2) := K.cell rfl
   clear K
   go_upto_region 6 with (at_builtin; refine eJ rfl _ _ rfl (w.heap.size + 1) Lk _ rfl O1 rfl hlen hjs ?_; intro v' w9 O9 hg9 hn9)
   have HO9 : Hid (w9.ownsRow (w.heap.size + 1) 3 1 v' (Lk ++ [x2]).length (bC (Lk ++ [x2]))) := O9
   replace BJ := BJ.trans (az O1 hg9 hjs)
   replace hjs : w.heap.size + 1 ≤ w9.heap.size := Nat.le_trans hjs hg9.size
   clear O9 O1 hg9 hn9 d0
   go_wp2_with fail
   go_roundw
   case rel => first | exact ⟨k + 1, HLT.out, by go_num, by rw [HE.out]; exact HO9.out, hjs, BJ⟩ | exact ⟨_, ⟨k + 1, HLT.out, by go_num, by rw [HE.out]; exact HO9.out, hjs, BJ⟩, rfl⟩
   case measure => have hlt' := HLT.out; simp [intOf]; omega
  ·obtain rfl : k = x.na := by omega
   have hli : ¬ (x.na : Int) < (x.na : Int) := by omega
   have ck : wr.cell? ⟨w.heap.size, 11, none⟩ = some (.slice pa x.np pc) := (N0.out.belowB BJ (by omega)).cell rfl
   go_wp2_with fail
   clear ck
   go_loopw [3, 36] (fun sv i wr => ∃ (k : Nat), k ≤ x.np ∧ i = .int .i64 (k : Int) ∧ wr.ownsRow (w.heap.size + 1) 3 1 sv (([x.si, x.la, x.se] ++ ctA x.AM x.na) ++ ctP x.QM k).length (bC (([x.si, x.la, x.se] ++ ctA x.AM x.na) ++ ctP x.QM k)) ∧ w.heap.size + 1 ≤ wr.heap.size ∧ Below (w.heap.size + 1) v0 wr) (fun _ i _ => x.np - (intOf i).toNat)
   case atStart => exact ⟨0, Nat.zero_le _, rfl, by first | exact O0 | (rw [show (([x.si, x.la, x.se] ++ ctA x.AM x.na) ++ ctP x.QM 0) = ([x.si, x.la, x.se] ++ ctA x.AM x.na) from List.append_nil _]; exact O0), hjs, BJ⟩
   case round =>
    clear O0 hjs BJ
    obtain ⟨k, hk, rfl, O0, hjs, BJ⟩ := hrel
    by_cases hlt : k < x.np
    ·obtain ⟨x0, x1, x2, x3, x4, hM⟩ := bz x.QM k
     obtain ⟨b, off, rfl, hf⟩ : ∃ b off, pa = some ⟨b, off, none⟩ ∧ Cs w b off (x.np * 5) (ay x.QM) := by
      rcases HQ.out with q | q
      ·exact absurd q (by omega)
      ·exact q
     have hf1 := hf.below B0.out hf.1
     obtain ⟨c0, c1, c2, c3, c4⟩ := (hf1.below BJ (Nat.lt_succ_of_lt hf.1)).elPeer hlt hM
     have HLT : Hid (k < x.np) := hlt
     have hli : (k : Int) < (x.np : Int) := by omega
     have HE : Hid ((([x.si, x.la, x.se] ++ ctA x.AM x.na) ++ ctP x.QM (k + 1)) = (([x.si, x.la, x.se] ++ ctA x.AM x.na) ++ ctP x.QM k) ++ [x3]) := by rw [Hid, fL, hM]; exact (List.append_assoc _ _ _).symm
     have hlen : (([x.si, x.la, x.se] ++ ctA x.AM x.na) ++ ctP x.QM k).length ≤ 64 := by rw [List.length_append, dc, List.length_append, cq]; simp only [List.length_cons, List.length_nil]; omega
     generalize (([x.si, x.la, x.se] ++ ctA x.AM x.na) ++ ctP x.QM k) = Lk at *
     have A1 := Below.nw wr (.cells #[.int .i64 x0, .int .i64 x1, .int .i64 x2, .int .i64 x3, .bool x4] 157)
     have K := Bo.new wr #[.int .i64 x0, .int .i64 x1, .int .i64 x2, .int .i64 x3, .bool x4] 157
     go_upto_region 10 with fail
     clear c0 c1 c2 c3 c4 hf hf1 hM
     have O1 := World.ownsRow.alloc O0 (.cells #[.int .i64 x0, .int .i64 x1, .int .i64 x2, .int .i64 x3, .bool x4] 157)
     replace BJ := BJ.trans (A1.mono hjs)
     replace hjs := Nat.le_trans hjs A1.size
     clear A1 O0
     generalize wr.alloc (.cells #[.int .i64 x0, .int .i64 x1, .int .i64 x2, .int .i64 x3, .bool x4] 157) = v8 at *
     generalize wr.heap.size = bk at *
     have d0 : v8.cell? ⟨bk, 3, none⟩ = some (.int .i64 x3) := K.cell rfl
     clear K
     go_upto_region 11 with (at_builtin; refine eJ rfl _ _ rfl (w.heap.size + 1) Lk _ rfl O1 rfl hlen hjs ?_; intro v' w9 O9 hg9 hn9)
     have HO9 : Hid (w9.ownsRow (w.heap.size + 1) 3 1 v' (Lk ++ [x3]).length (bC (Lk ++ [x3]))) := O9
     replace BJ := BJ.trans (az O1 hg9 hjs)
     replace hjs : w.heap.size + 1 ≤ w9.heap.size := Nat.le_trans hjs hg9.size
     clear O9 O1 hg9 hn9 d0
     go_wp2_with fail
     go_roundw
     case rel => first | exact ⟨k + 1, HLT.out, by go_num, by rw [HE.out]; exact HO9.out, hjs, BJ⟩ | exact ⟨_, ⟨k + 1, HLT.out, by go_num, by rw [HE.out]; exact HO9.out, hjs, BJ⟩, rfl⟩
     case measure => have hlt' := HLT.out; simp [intOf]; omega
    ·obtain rfl : k = x.np := by omega
     have hli : ¬ (x.np : Int) < (x.np : Int) := by omega
     have ck : wr.cell? ⟨w.heap.size, 14, none⟩ = some (.slice ha x.nh hc) := (N0.out.belowB BJ (by omega)).cell rfl
     go_wp2_with fail
     clear ck
     go_loopw [3, 49] (fun sv i wr => ∃ (k : Nat), k ≤ x.nh ∧ i = .int .i64 (k : Int) ∧ wr.ownsRow (w.heap.size + 1) 3 1 sv (([x.si, x.la, x.se] ++ ctA x.AM x.na ++ ctP x.QM x.np) ++ ctH x.HM k).length (bC (([x.si, x.la, x.se] ++ ctA x.AM x.na ++ ctP x.QM x.np) ++ ctH x.HM k)) ∧ w.heap.size + 1 ≤ wr.heap.size ∧ Below (w.heap.size + 1) v0 wr) (fun _ i _ => x.nh - (intOf i).toNat)
     case atStart => exact ⟨0, Nat.zero_le _, rfl, by first | exact O0 | (rw [show (([x.si, x.la, x.se] ++ ctA x.AM x.na ++ ctP x.QM x.np) ++ ctH x.HM 0) = ([x.si, x.la, x.se] ++ ctA x.AM x.na ++ ctP x.QM x.np) from List.append_nil _]; exact O0), hjs, BJ⟩
     case round =>
      clear O0 hjs BJ
      obtain ⟨k, hk, rfl, O0, hjs, BJ⟩ := hrel
      by_cases hlt : k < x.nh
      ·obtain ⟨x0, x1, hM⟩ := bY x.HM k
       obtain ⟨b, off, rfl, hf⟩ : ∃ b off, ha = some ⟨b, off, none⟩ ∧ Cs w b off (x.nh * 2) (aC x.HM) := by
        rcases HH.out with q | q
        ·exact absurd q (by omega)
        ·exact q
       have hf1 := hf.below B0.out hf.1
       obtain ⟨c0, c1⟩ := (hf1.below BJ (Nat.lt_succ_of_lt hf.1)).elIval hlt hM
       have HLT : Hid (k < x.nh) := hlt
       have hli : (k : Int) < (x.nh : Int) := by omega
       have HE : Hid ((([x.si, x.la, x.se] ++ ctA x.AM x.na ++ ctP x.QM x.np) ++ ctH x.HM (k + 1)) = (([x.si, x.la, x.se] ++ ctA x.AM x.na ++ ctP x.QM x.np) ++ ctH x.HM k) ++ [x1]) := by rw [Hid, fK, hM]; exact (List.append_assoc _ _ _).symm
       have hlen : (([x.si, x.la, x.se] ++ ctA x.AM x.na ++ ctP x.QM x.np) ++ ctH x.HM k).length ≤ 64 := by rw [List.length_append, eL, List.length_append, dc, List.length_append, cq]; simp only [List.length_cons, List.length_nil]; omega
       generalize (([x.si, x.la, x.se] ++ ctA x.AM x.na ++ ctP x.QM x.np) ++ ctH x.HM k) = Lk at *
       have A1 := Below.nw wr (.cells #[.int .i64 x0, .int .i64 x1] 162)
       have K := Bo.new wr #[.int .i64 x0, .int .i64 x1] 162
       go_upto_region 15 with fail
       clear c0 c1 hf hf1 hM
       have O1 := World.ownsRow.alloc O0 (.cells #[.int .i64 x0, .int .i64 x1] 162)
       replace BJ := BJ.trans (A1.mono hjs)
       replace hjs := Nat.le_trans hjs A1.size
       clear A1 O0
       generalize wr.alloc (.cells #[.int .i64 x0, .int .i64 x1] 162) = v8 at *
       generalize wr.heap.size = bk at *
       have d0 : v8.cell? ⟨bk, 1, none⟩ = some (.int .i64 x1) := K.cell rfl
       clear K
       go_upto_region 16 with (at_builtin; refine eJ rfl _ _ rfl (w.heap.size + 1) Lk _ rfl O1 rfl hlen hjs ?_; intro v' w9 O9 hg9 hn9)
       have HO9 : Hid (w9.ownsRow (w.heap.size + 1) 3 1 v' (Lk ++ [x1]).length (bC (Lk ++ [x1]))) := O9
       replace BJ := BJ.trans (az O1 hg9 hjs)
       replace hjs : w.heap.size + 1 ≤ w9.heap.size := Nat.le_trans hjs hg9.size
       clear O9 O1 hg9 hn9 d0
       go_wp2_with fail
       go_roundw
       case rel => first | exact ⟨k + 1, HLT.out, by go_num, by rw [HE.out]; exact HO9.out, hjs, BJ⟩ | exact ⟨_, ⟨k + 1, HLT.out, by go_num, by rw [HE.out]; exact HO9.out, hjs, BJ⟩, rfl⟩
       case measure => have hlt' := HLT.out; simp [intOf]; omega
      ·obtain rfl : k = x.nh := by omega
       have hli : ¬ (x.nh : Int) < (x.nh : Int) := by omega
       go_wp2_with fail
       go_ret
       exact ⟨_, rfl, O0, B0.out.trans (BJ.mono (Nat.le_succ _))⟩
theorem jQ {w : World} {base m : Nat} {v : Value} {L : List Int} (h : w.ownsRow base 3 1 v (m + 1) (bC L)) : ∃ g c, v = .slice (some ⟨g, 0, none⟩) (m + 1) c ∧ ∀ j, j < m + 1 → w.cell? ⟨g, j, none⟩ = some (.int .i64 (L.getD j 0)) := by
 have hl : L.length = m + 1 := by
  have := h.1
  unfold bC at this
  first | (simpa using this) | (simp at this; omega)
 rcases h.2 with ⟨_, q⟩ | ⟨g, cap, cur, rfl, hrest⟩
 ·omega
 ·refine ⟨g, cap, rfl, fun j hj => ?_⟩
  have e := h.cells (g := g) rfl j _ (jy L j (by omega))
  rw [add_at, Nat.zero_add] at e
  exact e
attribute [-go_sem] loadCells storeCells in
theorem gb (AN : Array Value) (x : NdX) (ct : Int) (w : World) (HN : NdW w AN x) (hsh : x.na ≤ 16 ∧ x.np ≤ 8 ∧ x.nh ≤ 16) :
 Calls Tryz.prog 149 #[.agg AN, .int .i64 ct] w fun e w' => e = .returned (.bool (cmX x ct)) ∧ Below w.heap.size w w' := by
 have hN := HN.size
 have C1 := fun v => aD ct v
 have C2 := fun (v : World) (h : Below w.heap.size w v) => gO AN x v (HN.below h) hsh
 obtain ⟨m, hm⟩ : ∃ m, (ctL x).length = m + 1 := ⟨2 + x.na + x.np + x.nh, by simp only [ctL, List.length_append, List.length_cons, List.length_nil, cq, dc, eL]; omega⟩
 have hm64 : m + 1 ≤ 64 := by rw [← hm]; simp only [ctL, List.length_append, List.length_cons, List.length_nil, cq, dc, eL]; omega
 have HR : Hid (cmX x ct = (okT ct && decide (mxF (fun j => (ctL x).getD j 0) m ≤ ct))) := jm x ct m hm
 generalize cmX x ct = R at *
 clear HN hsh
 have A0 := Below.nw w (.cells AN 98)
 have N := Bo.new w AN 98
 have B := A0
 clear A0
 go_enter Tryz.func149, Tryz.ntmps149
 go_upto_region 1 with fail
 generalize w.alloc (.cells AN 98) = v0 at *
 go_wp2_with fail
 refine (C1 _).mono ?_
 rintro e v1 ⟨rfl, rfl⟩
 cases h1 : okT ct
 ·replace HR : Hid (R = false) := by (show R = false; rw [HR.out, h1]; rfl)
  clear C2
  go_wp2_with fail
  go_ret
  exact ⟨ab HR.out.symm, B⟩
 have hL0 := N.load (P := Tryz.prog) hN
 go_wp2_with (rw [hL0])
 refine (C2 v0 B).mono ?_
 rintro e v2 ⟨v', rfl, OW, hb⟩
 clear hL0
 replace B := B.trans (hb.mono B.size)
 replace N := N.below hb
 clear hb
 rw [hm] at OW
 obtain ⟨g, c', rfl, hcell⟩ := jQ OW
 have C3 := fun (v : World) (h : ∀ j, j < m + 1 → v.cell? ⟨g, j, none⟩ = some (.int .i64 ((ctL x).getD j 0))) => maxX g (m + 1) c' (fun j => (ctL x).getD j 0) v (Nat.le_add_left _ _) hm64 h
 rw [Nat.add_sub_cancel] at C3
 generalize mxF (fun j => (ctL x).getD j 0) m = mx at *
 go_wp2_with fail
 refine (C3 _ hcell).mono ?_
 rintro e v3 ⟨rfl, rfl⟩
 replace HR : Hid (R = decide (mx ≤ ct)) := by (show R = _; rw [HR.out, h1]; rfl)
 clear C3 hcell OW
 go_wp2_with fail
 go_ret
 exact ⟨ab HR.out.symm, B⟩
end Go.Proofs.YtddijpjgkifngaaGreat
