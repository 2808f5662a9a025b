/- Rows of ops of one's own; what a script says. A row of drawn ops of one's own. -/
import Derived.Test.YtddjiamollfplaaGreatDoorMC31
namespace Go.Proofs.YtddjiamollfplaaGreatDoor
open Go.RowKit
set_option linter.unusedVariables false

def flA (AM : Nat → Array Value) : Nat → List Value
 | 0 => []
 | n + 1 => flA AM n ++ (AM n).toList
theorem jw {AM : Nat → Array Value} : ∀ n, (∀ i, i < n → (AM i).size = 7) → (flA AM n).length = n * 7
 | 0, _ => rfl
 | n + 1, h => by
  rw [flA, List.length_append, jw n (fun i hi => h i (by omega)), Array.length_toList, h n (by omega)]
  omega
theorem iO {AM : Nat → Array Value} : ∀ n, (∀ i, i < n → (AM i).size = 7) → ∀ i, i < n → ∀ (j : Nat) u, (AM i)[j]? = some u → (flA AM n)[i * 7 + j]? = some u
 | 0, _, i, hi, _, _, _ => by omega
 | n + 1, h, i, hi, j, u, hu => by
  have hl := jw n (fun i hi => h i (by omega))
  have hj : j < 7 := by
   have q := (Array.getElem?_eq_some_iff.1 hu).1
   rw [h i hi] at q
   exact q
  rw [flA]
  by_cases e : i = n
  ·subst e
   rw [List.getElem?_append_right (by omega), hl, show i * 7 + j - i * 7 = j by omega, Array.getElem?_toList]
   exact hu
  ·rw [List.getElem?_append_left (by omega)]
   exact iO n (fun i hi => h i (by omega)) i (by omega) j u hu
theorem iP {AM BM : Nat → Array Value} : ∀ n, (∀ i, i < n → AM i = BM i) → flA AM n = flA BM n
 | 0, _ => rfl
 | n + 1, h => by rw [flA, flA, iP n (fun i hi => h i (by omega)), h n (by omega)]
def LsR (rf : Bool) (w : World) (base : Nat) (p : Option Addr) (n : Nat) (f : Nat → Int) : Prop := n = 0 ∨ ∃ g, p = some ⟨g, 0, none⟩ ∧ base ≤ g ∧ g < w.heap.size ∧ Cs w g 0 n (itG f) ∧ (rf = true → bA w g 3 n n (itG f))
theorem LsR.blk {rf : Bool} {w w' : World} {base : Nat} {p : Option Addr} {n : Nat} {f : Nat → Int} (h : LsR rf w base p n f) (hs : w.heap.size ≤ w'.heap.size) (hb : ∀ g, p = some ⟨g, 0, none⟩ → n ≠ 0 → w'.heap[g]? = w.heap[g]?) : LsR rf w' base p n f := by
 by_cases hn : n = 0
 ·exact .inl hn
 ·rcases h with h | ⟨g, e, h1, h2, h3, h4⟩
  ·exact absurd h hn
  ·have hh := hb g e hn
   refine .inr ⟨g, e, h1, Nat.lt_of_lt_of_le h2 hs, ⟨Nat.lt_of_lt_of_le h2 hs, fun j hj => (World.cell?_of_block (w := w) hh).trans (h3.2 j hj)⟩, fun hr => ?_⟩
   obtain ⟨G, hG, hj⟩ := h4 hr
   exact ⟨G, hG.of_block hh, hj⟩
theorem LsR.low {rf : Bool} {w : World} {base base' : Nat} {p : Option Addr} {n : Nat} {f : Nat → Int} (h : LsR rf w base p n f) (hb : base' ≤ base) : LsR rf w base' p n f := by
 rcases h with h | ⟨g, e, h1, h2⟩
 ·exact .inl h
 ·exact .inr ⟨g, e, Nat.le_trans hb h1, h2⟩
theorem LsR.src {rf : Bool} {w : World} {base : Nat} {p : Option Addr} {n : Nat} {f : Nat → Int} (h : LsR rf w base p n f) : ci w p n (itG f) := by
 rcases h with h | ⟨g, e, _, _, h, _⟩
 ·exact .inl h
 ·exact .inr ⟨g, 0, e, h⟩
theorem LsR.at {rf : Bool} {w : World} {base : Nat} {p : Option Addr} {n : Nat} {f : Nat → Int} (h : LsR rf w base p n f) (hn : n ≠ 0) : ∃ g, p = some ⟨g, 0, none⟩ ∧ base ≤ g ∧ g < w.heap.size := by
 rcases h with h | ⟨g, e, h1, h2, _⟩
 ·exact absurd h hn
 ·exact ⟨g, e, h1, h2⟩
theorem LsA.lsr {w : World} {base : Nat} {p : Option Addr} {n c : Nat} {f : Nat → Int} (h : LsA w base p n c f) : LsR false w base p n f := by
 rcases h with h | ⟨g, e, h1, h | h⟩
 ·exact .inl h.2.1
 ·exact .inl h
 ·exact .inr ⟨g, e, h1, h.1, h, fun q => by cases q⟩
theorem RwA.lsr {w : World} {base : Nat} {p : Option Addr} {n c : Nat} {f : Nat → Int} (h : RwA w base p n c f) : LsR true w base p n f := by
 rcases h with h | ⟨g, e, h1, _, h⟩
 ·exact .inl h.2.1
 ·exact .inr ⟨g, e, h1, h.lt, h.cs (Nat.le_refl _), fun _ => h⟩
def opM (XM : Nat → OpD) (PM : Nat → Option Addr) (CM : Nat → Nat) (i : Nat) : Array Value := opV (XM i) (PM i) (CM i)
theorem gY (XM : Nat → OpD) (PM : Nat → Option Addr) (CM : Nat → Nat) (i : Nat) : (opM XM PM CM i).size = 7 := rfl
def bN (rf : Bool) (w : World) (base : Nat) (v : Value) (n : Nat) (XM : Nat → OpD) : Prop := ∃ (PM : Nat → Option Addr) (CM : Nat → Nat), w.ownsRow base 26 7 v n (flA (opM XM PM CM) n) ∧
 (∀ i, i < n → (XM i).tx.size ≤ maxLen ∧ (XM i).n ≤ 8 ∧ LsR rf w base (PM i) (XM i).n (XM i).f ∧ ∀ g, PM i = some ⟨g, 0, none⟩ → (XM i).n ≠ 0 → v.ownBlock ≠ some g) ∧
 ∀ i j, i < n → j < n → i ≠ j → (XM i).n ≠ 0 → (XM j).n ≠ 0 → PM i ≠ PM j
theorem bN.below {rf : Bool} {w w' : World} {base : Nat} {v : Value} {n : Nat} {XM : Nat → OpD} (h : bN rf w base v n XM) (hb : Below w.heap.size w w') : bN rf w' base v n XM := by
 obtain ⟨PM, CM, h1, h2, h3⟩ := h
 refine ⟨PM, CM, ax h1 hb, fun i hi => ?_, h3⟩
 obtain ⟨q1, q2, q3, q4⟩ := h2 i hi
 refine ⟨q1, q2, q3.blk hb.size (fun g e hn => ?_), q4⟩
 obtain ⟨g', e', _, hl⟩ := q3.at hn
 rw [e] at e'
 cases e'
 exact hb.block g hl
theorem bN.low {rf : Bool} {w : World} {base base' : Nat} {v : Value} {n : Nat} {XM : Nat → OpD} (h : bN rf w base v n XM) (hb : base' ≤ base) : bN rf w base' v n XM := by
 obtain ⟨PM, CM, h1, h2, h3⟩ := h
 exact ⟨PM, CM, ah h1 hb, fun i hi => ⟨(h2 i hi).1, (h2 i hi).2.1, (h2 i hi).2.2.1.low hb, (h2 i hi).2.2.2⟩, h3⟩
theorem bN.rwp {rf : Bool} {w : World} {base : Nat} {v : Value} {n : Nat} {XM : Nat → OpD} (h : bN rf w base v n XM) : ∃ a c, v = .slice a n c ∧ RwP OdW w a n XM := by
 obtain ⟨PM, CM, h1, h2, h3⟩ := h
 rcases h1.2 with ⟨e, h0⟩ | ⟨g, cap, cur, e, b1, b2, b3, b4, b5, b6⟩
 ·exact ⟨none, 0, by rw [h0]; exact e, .inl h0⟩
 ·refine ⟨_, cap, e, .inr ⟨g, 0, opM XM PM CM, rfl, ⟨(Array.getElem?_eq_some_iff.1 b2).1, fun i hi j u hu => ?_⟩, fun i hi => ⟨PM i, CM i, rfl, ⟨(h2 i hi).1, Nat.le_trans (h2 i hi).2.1 (by decide)⟩, (h2 i hi).2.2.1.src⟩⟩⟩
  have q := iO n (fun i _ => gY XM PM CM i) i hi j u hu
  rw [← b6, List.getElem?_take] at q
  split at q
  ·simp only [World.cell?, b2, Nat.zero_add]
   simpa using q
  ·cases q
theorem bN.none (rf : Bool) (w : World) (base : Nat) (XM : Nat → OpD) (hb : base ≤ w.heap.size) : bN rf w base (.slice none 0 0) 0 XM :=
 ⟨fun _ => Option.none, fun _ => 0, World.ownsRow_nil w base _ _, fun i hi => absurd hi (Nat.not_lt_zero _), fun i _ hi => absurd hi (Nat.not_lt_zero _)⟩
theorem bN.made (rf : Bool) (w : World) (XM : Nat → OpD) : bN rf (w.alloc (.cells #[] 26)) w.heap.size (.slice (some ⟨w.heap.size, 0, Option.none⟩) 0 0) 0 XM :=
 ⟨fun _ => Option.none, fun _ => 0, World.ownsRow_made w #[] 0 (Nat.le_refl _) (by simp [maxLen]) (by simp), fun i hi => absurd hi (Nat.not_lt_zero _), fun i _ hi => absurd hi (Nat.not_lt_zero _)⟩
def upX (XM : Nat → OpD) (n : Nat) (x : OpD) (i : Nat) : OpD := if i = n then x else XM i
theorem du : ∃ i, Tryz.prog.info? 26 = some i ∧ i.zero = some (.agg #[.int .i64 0, .int .i64 0, .int .i64 0, .int .i64 0, .int .i64 0, .string ⟨#[]⟩, .slice none 0 0]) ∧ i.size = 7 ∧ i.bytes = 80 := by
 obtain ⟨i, hi, hz⟩ := Option.map_eq_some_iff.1 mU
 simp only [Prod.mk.injEq] at hz
 exact ⟨i, hi, hz.1, hz.2.1, hz.2.2⟩
theorem kr (w : World) (A : Array Value) (T : TypeId) : ∀ j u, A.toList[j]? = some u → (w.alloc (.cells A T)).cell? ((⟨w.heap.size, 0, none⟩ : Addr).add j) = some u := by
 intro j u h
 rw [add_at, Nat.zero_add]
 rw [Array.getElem?_toList] at h
 exact (Bo.new w A T).2.1 j u h
theorem iK {rf : Bool} {w w0 : World} {ops : Array Oper} {rest : List Oper} {o : Oper} {a : Act} {Q : Exit → Act → World → Prop} (hgd : o.guard = none) (s x : Operand)
 (ho : o.op = .call { callee := .builtin .append, args := #[s, x], argTypes := #[35, 35] }) (base : Nat) (XM : Nat → OpD) (n : Nat) (v : Value) (hs : a.eval s = v) (A : Array Value) (y : OpD) (p : Option Addr) (c : Nat) (hA : A = opV y p c)
 (hO : bN rf w0 base v n XM) (hB : Below w0.heap.size w0 w) (hyt : y.tx.size ≤ maxLen) (hyn : y.n ≤ 8) (hy : LsR rf w w0.heap.size p y.n y.f)
 (hx : a.eval x = .slice (some ⟨w.heap.size, 0, none⟩) 1 1) (hL : n ≤ 4096) (hbase : base ≤ w0.heap.size)
 (h : ∀ v' w', bN rf w' base v' (n + 1) (upX XM n y) → Below base w w' → wpList Tryz.prog ops Q rest (a.put o.dst v') w') :
 wpList Tryz.prog ops Q (o :: rest) a (w.alloc (.cells A 26)) := by
 obtain ⟨PM, CM, h1, h2, h3⟩ := hO
 obtain ⟨i0, hi, hz0, hz1, hz2⟩ := du
 have hAs : A.size = 7 := by rw [hA]; rfl
 have hA1 : ∀ u ∈ A.toList, u.oneCell' = true := by rw [hA]; exact be y p c
 have hvl : ∀ g, v.ownBlock = some g → base ≤ g ∧ g < w0.heap.size := fun g hg => World.ownsRow.lt h1 g hg
 refine cy hgd s x 35 ho base 26 i0 _ 7 80 Tryz.underlying35 hi hz0 hz1 hz2 rfl (by decide) v n (flA (opM XM PM CM) n) hs (World.ownsRow.alloc (ax h1 hB) _) ⟨w.heap.size, 0, none⟩ 1 1 A.toList hx (by rw [Array.length_toList, hAs]) (kr w A 26) hA1 (by unfold maxLen; omega) (by omega) (by have := hB.size; simp; omega) ?_
 intro v' w' r1 r2 r3
 have hsz : w0.heap.size ≤ w'.heap.size := Nat.le_trans hB.size (Nat.le_trans (by simp) r2.size)
 have gw : w.grownBy w' v.ownBlock := ⟨r2.os, r2.tape, r2.output, Nat.le_trans (by simp) r2.size, fun k hk hne => (r2.block k (by simp; omega) hne).trans ((World.grownBy_alloc w _ none).block k hk (by simp))⟩
 refine h v' w' ⟨fun i => if i = n then p else PM i, fun i => if i = n then c else CM i, ?_, fun i hin => ?_, fun i j hin hjn hij hni hnj => ?_⟩ (aT (ax h1 hB) gw (Nat.le_trans hbase hB.size))
 ·have e1 : opM (upX XM n y) (fun i => if i = n then p else PM i) (fun i => if i = n then c else CM i) n = A := by simp [opM, upX, hA]
  have e2 : flA (opM (upX XM n y) (fun i => if i = n then p else PM i) (fun i => if i = n then c else CM i)) n = flA (opM XM PM CM) n := iP n fun i hi => by simp [opM, upX, Nat.ne_of_lt hi]
  rw [flA, e1, e2]
  exact r1
 ·by_cases e : i = n
  ·subst e
   simp only [upX, if_true]
   refine ⟨hyt, hyn, (hy.blk gw.size (fun g e hn => ?_)).low hbase, fun g e hn hv => ?_⟩
   ·obtain ⟨g', e', q1, q2⟩ := hy.at hn
    rw [e] at e'
    cases e'
    exact gw.block g q2 (fun hv => by have := (hvl g hv.symm).2; omega)
   ·obtain ⟨g', e', q1, q2⟩ := hy.at hn
    rw [e] at e'
    cases e'
    rcases r3 g hv with hv | hv
    ·have := (hvl g hv).2; omega
    ·simp at hv; omega
  ·have hin2 : i < n := by omega
   obtain ⟨q1, q2, q3, q4⟩ := h2 i hin2
   simp only [upX, if_neg e]
   refine ⟨q1, q2, q3.blk hsz (fun g e hn => ?_), fun g e hn hv => ?_⟩
   ·obtain ⟨g', e', _, ql⟩ := q3.at hn
    have e2 := e
    rw [e] at e'
    cases e'
    exact (gw.block g (Nat.lt_of_lt_of_le ql hB.size) (fun hv => q4 g e2 hn hv.symm)).trans (hB.block g ql)
   ·obtain ⟨g', e', _, ql⟩ := q3.at hn
    have e2 := e
    rw [e] at e'
    cases e'
    rcases r3 g hv with hv | hv
    ·exact q4 g e2 hn hv
    ·have := hB.size; simp at hv; omega
 ·by_cases ei : i = n
  ·by_cases ej : j = n
   ·exact absurd (ei.trans ej.symm) hij
   ·simp only [upX, if_neg ej, if_pos ei] at hni hnj ⊢
    obtain ⟨g, e1, q1, _⟩ := hy.at hni
    obtain ⟨g', e2, _, q2⟩ := (h2 j (by omega)).2.2.1.at hnj
    rw [e1, e2]
    intro e
    cases e
    omega
  ·by_cases ej : j = n
   ·simp only [upX, if_neg ei, if_pos ej] at hni hnj ⊢
    obtain ⟨g, e1, q1, _⟩ := hy.at hnj
    obtain ⟨g', e2, _, q2⟩ := (h2 i (by omega)).2.2.1.at hni
    rw [e1, e2]
    intro e
    cases e
    omega
   ·simp only [upX, if_neg ei, if_neg ej] at hni hnj ⊢
    exact h3 i j (by omega) (by omega) hij hni hnj
def gX (D : List OpD) (i : Nat) : OpD := D.getD i bf
theorem iQ (D : List OpD) (x : OpD) : upX (gX D) D.length x = gX (D ++ [x]) := by
 funext i
 unfold upX gX
 rw [List.getD_eq_getElem?_getD, List.getD_eq_getElem?_getD]
 by_cases e : i = D.length
 ·subst e; simp
 ·rw [if_neg e]
  rcases Nat.lt_or_ge i D.length with h | h
  ·rw [List.getElem?_append_left h]
  ·rw [List.getElem?_eq_none (by omega), List.getElem?_eq_none (by simp; omega)]
def dO (s : ByteArray) : ByteArray := s.extract (av s 10 s.size).1 s.size
def dw (s : ByteArray) : List ByteArray := (av s 10 s.size).2 ++ (if (dO s).size = 0 then [] else [dO s])
def psF (L : List ByteArray) (e : Nat) : Nat → List OpD × Int
 | 0 => ([], 0)
 | k + 1 => if (psF L e k).2 = 0 then
  (if k = 200 then ((psF L e k).1, 1) else if k < e then (if (paS (L.getD k ⟨#[]⟩)).2 = 0 then ((psF L e k).1 ++ [(paS (L.getD k ⟨#[]⟩)).1], 0) else ((psF L e k).1, (paS (L.getD k ⟨#[]⟩)).2)) else ((psF L e k).1, 7))
  else psF L e k
theorem hZ {L : List ByteArray} {e k : Nat} (h : (psF L e k).2 ≠ 0) : ∀ d, psF L e (k + d) = psF L e k
 | 0 => rfl
 | d + 1 => by
  have q := hZ h d
  rw [← Nat.add_assoc, psF, if_neg (by rw [q]; exact h)]
  exact q
theorem gb {L : List ByteArray} {e k n : Nat} {D : List OpD} {c : Int} (h : psF L e (k + 1) = (D, c)) (hc : c ≠ 0) (hn : k + 1 ≤ n) : psF L e n = (D, c) := by
 have q := hZ (L := L) (e := e) (k := k + 1) (by rw [h]; exact hc) (n - (k + 1))
 rw [show k + 1 + (n - (k + 1)) = n by omega, h] at q
 exact q
theorem lm {L : List ByteArray} {e k : Nat} {D : List OpD} (h : psF L e k = (D, 0)) (h2 : k = 200) : psF L e (k + 1) = (D, 1) := by
 rw [psF, h, if_pos rfl, if_pos h2]
theorem ms {L : List ByteArray} {e k : Nat} {D : List OpD} (h : psF L e k = (D, 0)) (h2 : k ≠ 200) (h3 : ¬ k < e) : psF L e (k + 1) = (D, 7) := by
 rw [psF, h, if_pos rfl, if_neg h2, if_neg h3]
theorem nf {L : List ByteArray} {e k : Nat} {D : List OpD} {l : ByteArray} (h : psF L e k = (D, 0)) (h2 : k ≠ 200) (h3 : k < e) (hl : L.getD k ⟨#[]⟩ = l) (hb : (paS l).2 = 0) : psF L e (k + 1) = (D ++ [(paS l).1], 0) := by
 rw [psF, h, if_pos rfl, if_neg h2, if_pos h3, hl, if_pos hb]
def psS (s : ByteArray) : List OpD × Int := if 20000 < s.size then ([], 1) else psF (dw s) (av s 10 s.size).2.length (dw s).length
theorem lu {s : ByteArray} (h : 20000 < s.size) : psS s = ([], 1) := by rw [psS, if_pos h]
theorem jN {s : ByteArray} (h : ¬ 20000 < s.size) : psS s = psF (dw s) (av s 10 s.size).2.length (dw s).length := by rw [psS, if_neg h]
theorem gL (s : ByteArray) (c : Int) (i : Nat) : ∀ d, ∃ t, (av s c (i + d)).2 = (av s c i).2 ++ t
 | 0 => ⟨[], by simp⟩
 | d + 1 => by
  obtain ⟨t, ht⟩ := gL s c i d
  by_cases h : bt s (i + d) = c
  ·rw [← Nat.add_assoc, bH h]
   exact ⟨t ++ [s.extract (av s c (i + d)).1 (i + d)], by show (av s c (i + d)).2 ++ _ = _; rw [ht, List.append_assoc]⟩
  ·rw [← Nat.add_assoc, cx h]
   exact ⟨t, ht⟩
theorem eb {L : List ByteArray} {e : Nat} : ∀ k, (psF L e k).1.length ≤ k ∧ ((psF L e k).2 = 0 → (psF L e k).1.length = k ∧ k ≤ 200)
 | 0 => ⟨Nat.le_refl _, fun _ => ⟨rfl, Nat.zero_le _⟩⟩
 | k + 1 => by
  obtain ⟨q1, q2⟩ := eb (L := L) (e := e) k
  rw [psF]
  by_cases h0 : (psF L e k).2 = 0
  ·obtain ⟨q3, q4⟩ := q2 h0
   rw [if_pos h0]
   by_cases h1 : k = 200
   ·rw [if_pos h1]; exact ⟨Nat.le_succ_of_le q1, fun h => by cases h⟩
   ·rw [if_neg h1]
    by_cases h2 : k < e
    ·rw [if_pos h2]
     by_cases h3 : (paS (L.getD k ⟨#[]⟩)).2 = 0
     ·rw [if_pos h3]
      have hl : ((psF L e k).1 ++ [(paS (L.getD k ⟨#[]⟩)).1]).length = k + 1 := by rw [List.length_append, q3]; rfl
      exact ⟨Nat.le_of_eq hl, fun _ => ⟨hl, by omega⟩⟩
     ·rw [if_neg h3]; exact ⟨Nat.le_succ_of_le q1, fun h => absurd h h3⟩
    ·rw [if_neg h2]; exact ⟨Nat.le_succ_of_le q1, fun h => by cases h⟩
  ·rw [if_neg h0]; exact ⟨Nat.le_succ_of_le q1, fun h => absurd h h0⟩

end Go.Proofs.YtddjiamollfplaaGreatDoor
namespace Go.Proofs.YtddjiamollfplaaGreatDoor
open Go.RowKit
set_option linter.unusedVariables false
def LsZ (w : World) (lo hi : Nat) (p : Option Addr) (c n : Nat) (f : Nat → Int) : Prop := (p = none ∧ n = 0 ∧ c = 0) ∨ ∃ g, p = some ⟨g, 0, none⟩ ∧ lo ≤ g ∧ g < hi ∧ (n = 0 ∨ Cs w g 0 n (itG f))
theorem LsZ.lso {w : World} {lo hi : Nat} {p : Option Addr} {c n : Nat} {f : Nat → Int} (h : LsZ w lo hi p c n f) : LsO w p n c f := by
 rcases h with h | ⟨g, h1, _, _, h2⟩
 ·exact .inl h
 ·exact .inr ⟨g, 0, h1, h2⟩
theorem LsZ.blk {w w' : World} {lo hi : Nat} {p : Option Addr} {c n : Nat} {f : Nat → Int} (h : LsZ w lo hi p c n f) (hs : w.heap.size ≤ w'.heap.size) (hb : ∀ g, p = some ⟨g, 0, none⟩ → lo ≤ g → g < hi → w'.heap[g]? = w.heap[g]?) : LsZ w' lo hi p c n f := by
 rcases h with h | ⟨g, h1, h2, h3, h4⟩
 ·exact .inl h
 ·refine .inr ⟨g, h1, h2, h3, ?_⟩
  rcases h4 with h4 | ⟨h5, h6⟩
  ·exact .inl h4
  ·exact .inr ⟨Nat.lt_of_lt_of_le h5 hs, fun j hj => (World.cell?_of_block (w := w) (a := ⟨g, 0 + j, none⟩) (hb g h1 h2 h3)).trans (h6 j hj)⟩
theorem LsZ.wide {w : World} {lo hi lo' hi' : Nat} {p : Option Addr} {c n : Nat} {f : Nat → Int} (h : LsZ w lo hi p c n f) (h1 : lo' ≤ lo) (h2 : hi ≤ hi') : LsZ w lo' hi' p c n f := by
 rcases h with h | ⟨g, q1, q2, q3, q4⟩
 ·exact .inl h
 ·exact .inr ⟨g, q1, by omega, by omega, q4⟩
theorem LsZ.at {w : World} {lo hi : Nat} {p : Option Addr} {c n : Nat} {f : Nat → Int} (h : LsZ w lo hi p c n f) {g : Nat} (e : p = some ⟨g, 0, none⟩) : lo ≤ g ∧ g < hi := by
 rcases h with h | ⟨g', h1, h2, h3, _⟩
 ·rw [h.1] at e; cases e
 ·rw [h1] at e; cases e; exact ⟨h2, h3⟩
theorem f8 {w : World} {lo hi : Nat} {P : Option Addr} {L : List Int} {c : Nat} (h : w.ownsRow lo 3 1 (.slice P L.length c) L.length (aG L)) (hh : ∀ q, (Value.slice P L.length c).ownBlock = some q → q < hi) : LsZ w lo hi P c L.length (gI L) := by
 by_cases h0 : 0 < L.length
 ·have hl := World.ownsRow.lt h
  obtain ⟨g, cap, hv, hc⟩ := fD h h0
  simp only [Value.slice.injEq] at hv
  obtain ⟨rfl, _, rfl⟩ := hv
  exact .inr ⟨g, rfl, (hl g rfl).1, hh g rfl, .inr hc⟩
 ·have hl : L.length = 0 := by omega
  have hlt := World.ownsRow.lt h
  obtain ⟨_, ⟨hv, _⟩ | ⟨g, cap, cs, hv, _⟩⟩ := h
  ·simp only [Value.slice.injEq] at hv
   exact .inl ⟨hv.1, hl, hv.2.2⟩
  ·simp only [Value.slice.injEq] at hv
   obtain ⟨rfl, _, rfl⟩ := hv
   exact .inr ⟨g, rfl, (hlt g rfl).1, hh g rfl, .inl hl⟩
def bD (w : World) (base top : Nat) (v : Value) (n : Nat) (XM : Nat → OpD) : Prop := ∃ (PM : Nat → Option Addr) (CM : Nat → Nat), w.ownsRow base 26 7 v n (flA (opM XM PM CM) n) ∧ (∀ g, v.ownBlock = some g → g < top) ∧ top ≤ w.heap.size ∧
 ∀ i, i < n → (XM i).tx.size ≤ maxLen ∧ (XM i).n ≤ 8 ∧ LsZ w base top (PM i) (CM i) (XM i).n (XM i).f ∧ ∀ g, PM i = some ⟨g, 0, none⟩ → v.ownBlock ≠ some g
theorem bD.kp {w w' : World} {base top : Nat} {v : Value} {n : Nat} {XM : Nat → OpD} (h : bD w base top v n XM) (hs : w.heap.size ≤ w'.heap.size) (hb : ∀ g, base ≤ g → g < top → w'.heap[g]? = w.heap[g]?) : bD w' base top v n XM := by
 obtain ⟨PM, CM, ⟨h0, h1⟩, ht, htw, h2⟩ := h
 refine ⟨PM, CM, ⟨h0, ?_⟩, ht, Nat.le_trans htw hs, fun i hi => ⟨(h2 i hi).1, (h2 i hi).2.1, (h2 i hi).2.2.1.blk hs (fun g _ q1 q2 => hb g q1 q2), (h2 i hi).2.2.2⟩⟩
 rcases h1 with h1 | ⟨g, cap, cur, e, b1, b2, b3⟩
 ·exact .inl h1
 ·exact .inr ⟨g, cap, cur, e, b1, (hb g b1 (ht g (by rw [e]; rfl))).trans b2, b3⟩
theorem bD.top {w : World} {base top top' : Nat} {v : Value} {n : Nat} {XM : Nat → OpD} (h : bD w base top v n XM) (h1 : top ≤ top') (h2 : top' ≤ w.heap.size) : bD w base top' v n XM := by
 obtain ⟨PM, CM, q1, ht, htw, q2⟩ := h
 exact ⟨PM, CM, q1, fun g hg => Nat.lt_of_lt_of_le (ht g hg) h1, h2, fun i hi => ⟨(q2 i hi).1, (q2 i hi).2.1, (q2 i hi).2.2.1.wide (Nat.le_refl _) h1, (q2 i hi).2.2.2⟩⟩
theorem bD.low {w : World} {base base' top : Nat} {v : Value} {n : Nat} {XM : Nat → OpD} (h : bD w base top v n XM) (h1 : base' ≤ base) : bD w base' top v n XM := by
 obtain ⟨PM, CM, q1, ht, htw, q2⟩ := h
 exact ⟨PM, CM, ah q1 h1, ht, htw, fun i hi => ⟨(q2 i hi).1, (q2 i hi).2.1, (q2 i hi).2.2.1.wide h1 (Nat.le_refl _), (q2 i hi).2.2.2⟩⟩
theorem bD.made (w : World) (XM : Nat → OpD) : bD (w.alloc (.cells #[] 26)) w.heap.size (w.heap.size + 1) (.slice (some ⟨w.heap.size, 0, Option.none⟩) 0 0) 0 XM :=
 ⟨fun _ => Option.none, fun _ => 0, World.ownsRow_made w #[] 0 (Nat.le_refl _) (by simp [maxLen]) (by simp), fun g hg => by cases hg; exact Nat.lt_succ_self _, by simp, fun i hi => absurd hi (Nat.not_lt_zero _)⟩
theorem bD.rwp {w : World} {base top : Nat} {v : Value} {n : Nat} {XM : Nat → OpD} (h : bD w base top v n XM) : ∃ a c, v = .slice a n c ∧ RwP OdS w a n XM := by
 obtain ⟨PM, CM, h1, _, _, h2⟩ := h
 rcases h1.2 with ⟨e, h0⟩ | ⟨g, cap, cur, e, b1, b2, b3, b4, b5, b6⟩
 ·exact ⟨none, 0, by rw [h0]; exact e, .inl h0⟩
 ·refine ⟨_, cap, e, .inr ⟨g, 0, opM XM PM CM, rfl, ⟨(Array.getElem?_eq_some_iff.1 b2).1, fun i hi j u hu => ?_⟩, fun i hi => ⟨PM i, CM i, rfl, ⟨(h2 i hi).1, Nat.le_trans (h2 i hi).2.1 (by decide)⟩, (h2 i hi).2.2.1.lso⟩⟩⟩
  have q := iO n (fun i _ => gY XM PM CM i) i hi j u hu
  rw [← b6, List.getElem?_take] at q
  split at q
  ·simp only [World.cell?, b2, Nat.zero_add]
   simpa using q
  ·cases q
theorem cF {w : World} {ops : Array Oper} {rest : List Oper} {o : Oper} {a : Act} {Q : Exit → Act → World → Prop} (hgd : o.guard = none) (s x : Operand)
 (ho : o.op = .call { callee := .builtin .append, args := #[s, x], argTypes := #[35, 35] }) (base top hi : Nat) (XM : Nat → OpD) (n : Nat) (v : Value) (hs : a.eval s = v) (A : Array Value) (y : OpD) (p : Option Addr) (c : Nat) (hA : A = opV y p c)
 (hO : bD w base top v n XM) (hyt : y.tx.size ≤ maxLen) (hyn : y.n ≤ 8) (hy : LsZ w top hi p c y.n y.f) (hhi : hi ≤ w.heap.size)
 (hx : a.eval x = .slice (some ⟨w.heap.size, 0, none⟩) 1 1) (hL : n ≤ 4096) (hbt : base ≤ top)
 (h : ∀ v' w', bD w' base w'.heap.size v' (n + 1) (upX XM n y) → Below base w w' → wpList Tryz.prog ops Q rest (a.put o.dst v') w') :
 wpList Tryz.prog ops Q (o :: rest) a (w.alloc (.cells A 26)) := by
 obtain ⟨PM, CM, h1, ht, htw, h2⟩ := hO
 obtain ⟨i0, hi0, hz0, hz1, hz2⟩ := du
 have hAs : A.size = 7 := by rw [hA]; rfl
 have hA1 : ∀ u ∈ A.toList, u.oneCell' = true := by rw [hA]; exact be y p c
 refine cy hgd s x 35 ho base 26 i0 _ 7 80 Tryz.underlying35 hi0 hz0 hz1 hz2 rfl (by decide) v n (flA (opM XM PM CM) n) hs (World.ownsRow.alloc h1 _) ⟨w.heap.size, 0, none⟩ 1 1 A.toList hx (by rw [Array.length_toList, hAs]) (kr w A 26) hA1 (by unfold maxLen; omega) (by omega) (by simp; omega) ?_
 intro v' w' r1 r2 r3
 have hsz : w.heap.size ≤ w'.heap.size := Nat.le_trans (by simp) r2.size
 have gw : w.grownBy w' v.ownBlock := ⟨r2.os, r2.tape, r2.output, Nat.le_trans (by simp) r2.size, fun k hk hne => (r2.block k (by simp; omega) hne).trans ((World.grownBy_alloc w _ none).block k hk (by simp))⟩
 refine h v' w' ⟨fun i => if i = n then p else PM i, fun i => if i = n then c else CM i, ?_, fun g hg => (World.ownsRow.lt r1 g hg).2, Nat.le_refl _, fun i hin => ?_⟩ (aT h1 gw (by omega))
 ·have e1 : opM (upX XM n y) (fun i => if i = n then p else PM i) (fun i => if i = n then c else CM i) n = A := by simp [opM, upX, hA]
  have e2 : flA (opM (upX XM n y) (fun i => if i = n then p else PM i) (fun i => if i = n then c else CM i)) n = flA (opM XM PM CM) n := iP n fun i hi => by simp [opM, upX, Nat.ne_of_lt hi]
  rw [flA, e1, e2]
  exact r1
 ·by_cases e : i = n
  ·subst e
   simp only [upX, if_true]
   refine ⟨hyt, hyn, (hy.blk gw.size (fun g e q1 q2 => gw.block g (by omega) (fun hv => by have := ht g hv.symm; omega))).wide hbt (by omega), fun g e hv => ?_⟩
   obtain ⟨q1, q2⟩ := hy.at e
   rcases r3 g hv with hv | hv
   ·have := ht g hv; omega
   ·simp at hv; omega
  ·have hin2 : i < n := by omega
   obtain ⟨q1, q2, q3, q4⟩ := h2 i hin2
   simp only [upX, if_neg e]
   refine ⟨q1, q2, (q3.blk hsz (fun g e _ ql => gw.block g (by omega) (fun hv => q4 g e hv.symm))).wide (Nat.le_refl _) (by omega), fun g e hv => ?_⟩
   obtain ⟨_, ql⟩ := q3.at e
   rcases r3 g hv with hv | hv
   ·exact q4 g e hv
   ·simp at hv; omega

end Go.Proofs.YtddjiamollfplaaGreatDoor
