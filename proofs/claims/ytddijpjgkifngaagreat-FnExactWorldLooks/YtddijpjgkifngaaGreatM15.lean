/- A struct in memory, told by the array of its cells. A node as data, and arrays of cells that read as it. All cells of a new struct written at once. Rows of a lower base; a struct written at once. -/
import Derived.Test.YtddijpjgkifngaaGreatM14
namespace Go.Proofs.YtddijpjgkifngaaGreat
open Go.RowKit
set_option linter.unusedVariables false
def Bo (w : World) (k : Nat) (A : Array Value) : Prop := k < w.heap.size ∧ (∀ i u, A[i]? = some u → w.cell? ⟨k, i, none⟩ = some u) ∧ ∀ i, i < A.size → w.frozen? ⟨k, i, none⟩ = false
theorem Bo.belowB {k B : Nat} {w w' : World} {A : Array Value} (h : Bo w k A) (hw : Below B w w') (hk : k < B) : Bo w' k A :=
 ⟨Nat.lt_of_lt_of_le h.1 hw.size, fun i u hi => by rw [hw.cell (p := ⟨k, i, none⟩) hk]; exact h.2.1 i u hi, fun i hi => by rw [hw.frozen (p := ⟨k, i, none⟩) hk]; exact h.2.2 i hi⟩
theorem Bo.below {k : Nat} {w w' : World} {A : Array Value} (h : Bo w k A) (hw : Below w.heap.size w w') : Bo w' k A := h.belowB hw h.1
theorem Bo.new (w : World) (A : Array Value) (T : TypeId) : Bo (w.alloc (.cells A T)) w.heap.size A :=
 ⟨by simp, fun i u hi => by simp [hi], fun i hi => by simp⟩
theorem Bo.drew {k : Nat} {w : World} {A : Array Value} (h : Bo w k A) : Bo w.drew k A := h
theorem add_at (k o i : Nat) : (⟨k, o, none⟩ : Addr).add i = ⟨k, o + i, none⟩ := by
 unfold Addr.add; split <;> simp_all
theorem Bo.load {P : Program} {w : World} {k n : Nat} {A : Array Value} (h : Bo w k A) (hn : A.size = n) : (loadCells ⟨k, 0, none⟩ n).run P w = .ok A w := by
 have e := run_loadCells_list (P := P) w ⟨k, 0, none⟩ A.toList (fun j v hj => by rw [add_at, Nat.zero_add]; exact h.2.1 j v (by simpa using hj))
 rw [← hn]
 simpa using e
theorem Bo.loadAt {P : Program} {w : World} {k : Nat} {A : Array Value} (h : Bo w k A) (o n : Nat) (hn : o + n ≤ A.size) : (loadCells ⟨k, o, none⟩ n).run P w = .ok (A.extract o (o + n)) w := by
 have e := run_loadCells_list (P := P) w ⟨k, o, none⟩ (A.extract o (o + n)).toList (fun j v hj => by
  rw [add_at]
  refine h.2.1 _ v ?_
  rw [Array.getElem?_toList, Array.getElem?_extract] at hj
  split at hj
  ·exact hj
  ·cases hj)
 have hl : (A.extract o (o + n)).toList.length = n := by simp; omega
 rw [hl, Array.toArray_toList] at e
 exact e
def putA (w : World) (k : Nat) : Nat → List Value → World
 | _, [] => w
 | o, u :: us => putA (w.setCell ⟨k, o, none⟩ u) k (o + 1) us
theorem putA_size (k : Nat) : ∀ (us : List Value) (w : World) (o : Nat), (putA w k o us).heap.size = w.heap.size
 | [], _, _ => rfl
 | u :: us, w, o => by rw [putA, putA_size k us]; simp
theorem putA_but {j : Nat} : ∀ (us : List Value) (v w : World) (o : Nat), But j v w → But j v (putA w j o us)
 | [], _, _, _, h => h
 | u :: us, v, w, o, h => putA_but us v _ (o + 1) (h.setCell o u)
theorem putA_below {k B : Nat} : ∀ (us : List Value) (v w : World) (o : Nat), Below B v w → B ≤ k → Below B v (putA w k o us)
 | [], _, _, _, h, _ => h
 | u :: us, v, w, o, h, hk => putA_below us v _ (o + 1) (h.setCell (p := ⟨k, o, none⟩) hk u) hk
def spl (A : Array Value) : Nat → List Value → Array Value
 | _, [] => A
 | o, u :: us => spl (A.setIfInBounds o u) (o + 1) us
theorem spl_size : ∀ (us : List Value) (A : Array Value) (o : Nat), (spl A o us).size = A.size
 | [], _, _ => rfl
 | u :: us, A, o => by rw [spl, spl_size us]; simp
theorem Bo.set {w : World} {k : Nat} {A : Array Value} (h : Bo w k A) (o : Nat) (u : Value) : Bo (w.setCell ⟨k, o, none⟩ u) k (A.setIfInBounds o u) := by
 refine ⟨by simpa using h.1, fun i x hi => ?_, fun i hi => ?_⟩
 ·by_cases e : o = i
  ·subst e
   by_cases ho : o < A.size
   ·rw [Array.getElem?_setIfInBounds_self_of_lt ho] at hi
    cases hi
    exact World.cell?_setCell_same _ _ _ (h.2.1 o A[o] (Array.getElem?_eq_getElem ho))
   ·rw [Array.getElem?_eq_none (by simp; omega)] at hi
    cases hi
  ·rw [Array.getElem?_setIfInBounds_ne e] at hi
   rw [World.cell?_setCell_other _ _ _ _ (by simp)]
   exact h.2.1 i x hi
 ·have := h.2.2 i (by simpa using hi)
  simpa using this
theorem Bo.put {k : Nat} : ∀ (us : List Value) {w : World} {A : Array Value} (o : Nat), Bo w k A → Bo (putA w k o us) k (spl A o us)
 | [], _, _, _, h => h
 | u :: us, _, _, o, h => Bo.put us (o + 1) (h.set o u)
theorem spl_get : ∀ (us : List Value) (A : Array Value) (o i : Nat), o + us.length ≤ A.size → (spl A o us)[i]? = if o ≤ i ∧ i < o + us.length then us[i - o]? else A[i]?
 | [], A, o, i, _ => by rw [spl, if_neg (by simp)]
 | u :: us, A, o, i, h => by
  simp only [List.length_cons] at h
  rw [spl, spl_get us _ (o + 1) i (by simp; omega)]
  by_cases e : i = o
  ·subst e
   rw [if_neg (by omega), if_pos (by simp), Array.getElem?_setIfInBounds_self_of_lt (by omega), Nat.sub_self]
   rfl
  ·by_cases h1 : o + 1 ≤ i ∧ i < o + 1 + us.length
   ·rw [if_pos h1, if_pos (by simp; omega)]
    obtain ⟨d, hd⟩ : ∃ d, i - o = d + 1 := ⟨i - o - 1, by omega⟩
    rw [hd, show i - (o + 1) = d by omega]
    rfl
   ·rw [if_neg h1, if_neg (by simp; omega), Array.getElem?_setIfInBounds_ne (by omega)]
theorem spl_whole (A U : Array Value) (h : U.size = A.size) : spl A 0 U.toList = U := by
 apply Array.ext_getElem?
 intro i
 rw [spl_get _ _ _ _ (by simp; omega)]
 by_cases hi : i < U.size
 ·rw [if_pos (by simpa using hi)]; simp
 ·rw [if_neg (by simpa using hi), Array.getElem?_eq_none (by omega), Array.getElem?_eq_none (by omega)]
theorem Bo.putW {k : Nat} {w : World} {A U : Array Value} (h : Bo w k A) (hU : U.size = A.size) : Bo (putA w k 0 U.toList) k U := by
 have e := Bo.put U.toList 0 h
 rw [spl_whole A U hU] at e
 exact e
theorem Bo.store {P : Program} {k b : Nat} : ∀ (us : List Value) {w : World} {A : Array Value} (o i : Nat), Bo w k A → b + i = o → o + us.length ≤ A.size → (∀ u ∈ us, u.oneCell' = true) → (storeCells ⟨k, b, none⟩ us i).run P w = .ok () (putA w k o us)
 | [], _, _, _, _, _, _, _, _ => rfl
 | u :: us, w, A, o, i, h, hb, hl, hu => by
  simp only [List.length_cons] at hl
  have hc := h.2.1 o A[o] (Array.getElem?_eq_getElem (by omega))
  have hf := h.2.2 o (by omega)
  rw [storeCells, Sem.run_bind, add_at, hb, run_store _ _ _ _ _ (hu u (List.mem_cons_self ..)), hc]
  simp [hf, Result.andThen]
  exact Bo.store us (o + 1) (i + 1) (h.set o u) (by omega) (by simp; omega) (fun x hx => hu x (List.mem_cons_of_mem _ hx))
theorem Bo.cell {w : World} {k : Nat} {A : Array Value} (h : Bo w k A) {i : Nat} {u : Value} (hi : A[i]? = some u) : w.cell? ⟨k, i, none⟩ = some u := h.2.1 i u hi
theorem Bo.kept {w w' : World} {q : Option Nat} {k : Nat} {A : Array Value} (h : Bo w k A) (hg : w.grownBy w' q) (hq : some k ≠ q) : Bo w' k A :=
 ⟨Nat.lt_of_lt_of_le h.1 hg.size, fun i u hi => by rw [cell_grown hg h.1 hq]; exact h.2.1 i u hi, fun i hi => by
  have := hg.block k h.1 hq
  have e : w'.frozen? ⟨k, i, none⟩ = w.frozen? ⟨k, i, none⟩ := by simp only [World.frozen?]; rw [this]
  rw [e]; exact h.2.2 i hi⟩
end Go.Proofs.YtddijpjgkifngaaGreat
namespace Go.Proofs.YtddijpjgkifngaaGreat
open Go.RowKit
set_option linter.unusedVariables false
def Btw (lo hi : Nat) (w w' : World) : Prop := w'.os = w.os ∧ w'.tape = w.tape ∧ w'.output = w.output ∧ w.heap.size ≤ w'.heap.size ∧ ∀ k, k < w.heap.size → (k < lo ∨ hi ≤ k) → w'.heap[k]? = w.heap[k]?
theorem Btw.trans {lo hi : Nat} {u v w : World} (h : Btw lo hi u v) (k : Btw lo hi v w) : Btw lo hi u w :=
 ⟨k.1.trans h.1, k.2.1.trans h.2.1, k.2.2.1.trans h.2.2.1, Nat.le_trans h.2.2.2.1 k.2.2.2.1, fun i hi' ho => (k.2.2.2.2 i (Nat.lt_of_lt_of_le hi' h.2.2.2.1) ho).trans (h.2.2.2.2 i hi' ho)⟩
theorem Btw.ofBelow {lo hi : Nat} {w w' : World} (h : Below w.heap.size w w') : Btw lo hi w w' := ⟨h.os, h.tape, h.output, h.size, fun k hk _ => h.block k hk⟩
theorem Btw.ofGrown {lo hi : Nat} {w w' : World} {o : Option Nat} (h : w.grownBy w' o) (ho : ∀ g, o = some g → lo ≤ g ∧ g < hi) : Btw lo hi w w' :=
 ⟨h.os, h.tape, h.output, h.size, fun k hk hx => h.block k hk (fun e => by have := ho k e.symm; omega)⟩
theorem Btw.belowL {lo hi : Nat} {w w' : World} (h : Btw lo hi w w') (hl : lo ≤ w.heap.size) : Below lo w w' := ⟨h.1, h.2.1, h.2.2.1, h.2.2.2.1, fun k hk => h.2.2.2.2 k (by omega) (.inl hk)⟩
theorem Btw.cell {lo hi : Nat} {w w' : World} (h : Btw lo hi w w') {k i : Nat} (hk : k < w.heap.size) (ho : k < lo ∨ hi ≤ k) : w'.cell? ⟨k, i, none⟩ = w.cell? ⟨k, i, none⟩ := by
 simp only [World.cell?]; rw [h.2.2.2.2 k hk ho]
theorem Btw.frozen {lo hi : Nat} {w w' : World} (h : Btw lo hi w w') {k i : Nat} (hk : k < w.heap.size) (ho : k < lo ∨ hi ≤ k) : w'.frozen? ⟨k, i, none⟩ = w.frozen? ⟨k, i, none⟩ := by
 simp only [World.frozen?]; rw [h.2.2.2.2 k hk ho]
theorem Bo.btw {lo hi : Nat} {w w' : World} {k : Nat} {A : Array Value} (h : Bo w k A) (hb : Btw lo hi w w') (ho : k < lo ∨ hi ≤ k) : Bo w' k A :=
 ⟨Nat.lt_of_lt_of_le h.1 hb.2.2.2.1, fun i u hi => by rw [hb.cell h.1 ho]; exact h.2.1 i u hi, fun i hi => by rw [hb.frozen h.1 ho]; exact h.2.2 i hi⟩
def Rwo (w : World) (lo hi : Nat) (T : TypeId) (sz : Nat) (a : Option Addr) (n c : Nat) (F : Nat → Value) : Prop :=
 w.ownsRow lo T sz (.slice a n c) n ((List.range (n * sz)).map F) ∧ ∀ g, (Value.slice a n c).ownBlock = some g → g < hi
theorem Rwo.lt {w : World} {lo hi : Nat} {T : TypeId} {sz : Nat} {a : Option Addr} {n c : Nat} {F : Nat → Value} (h : Rwo w lo hi T sz a n c F) {g : Nat} (hg : (Value.slice a n c).ownBlock = some g) : lo ≤ g ∧ g < hi ∧ g < w.heap.size :=
 ⟨(World.ownsRow.lt h.1 g hg).1, h.2 g hg, (World.ownsRow.lt h.1 g hg).2⟩
theorem Rwo.same {w w' : World} {lo hi : Nat} {T : TypeId} {sz : Nat} {a : Option Addr} {n c : Nat} {F : Nat → Value} (h : Rwo w lo hi T sz a n c F) (hs : ∀ g, (Value.slice a n c).ownBlock = some g → w'.heap[g]? = w.heap[g]?) : Rwo w' lo hi T sz a n c F := by
 refine ⟨⟨h.1.1, ?_⟩, h.2⟩
 rcases h.1.2 with q | ⟨g, cap, cur, e, h1, h2, h3⟩
 ·exact .inl q
 ·exact .inr ⟨g, cap, cur, e, h1, by rw [hs g (by rw [e]; rfl)]; exact h2, h3⟩
theorem Rwo.below {w w' : World} {lo hi : Nat} {T : TypeId} {sz : Nat} {a : Option Addr} {n c : Nat} {F : Nat → Value} (h : Rwo w lo hi T sz a n c F) (hb : Below w.heap.size w w') : Rwo w' lo hi T sz a n c F :=
 h.same fun g hg => hb.block g (h.lt hg).2.2
theorem Rwo.btw {w w' : World} {lo hi l u : Nat} {T : TypeId} {sz : Nat} {a : Option Addr} {n c : Nat} {F : Nat → Value} (h : Rwo w lo hi T sz a n c F) (hb : Btw l u w w') (ho : hi ≤ l ∨ u ≤ lo) : Rwo w' lo hi T sz a n c F :=
 h.same fun g hg => hb.2.2.2.2 g (h.lt hg).2.2 (by have := h.lt hg; omega)
theorem Rwo.kept {w w' : World} {lo hi : Nat} {o : Option Nat} {T : TypeId} {sz : Nat} {a : Option Addr} {n c : Nat} {F : Nat → Value} (h : Rwo w lo hi T sz a n c F) (hb : w.grownBy w' o) (ho : ∀ g, (Value.slice a n c).ownBlock = some g → some g ≠ o) : Rwo w' lo hi T sz a n c F :=
 h.same fun g hg => hb.block g (h.lt hg).2.2 (ho g hg)
theorem Rwo.ne {w : World} {lo hi lo' hi' : Nat} {T T' : TypeId} {sz sz' : Nat} {a a' : Option Addr} {n c n' c' : Nat} {F F' : Nat → Value} (h : Rwo w lo hi T sz a n c F) (h' : Rwo w lo' hi' T' sz' a' n' c' F') (hT : T ≠ T') : ∀ g, (Value.slice a n c).ownBlock = some g → some g ≠ (Value.slice a' n' c').ownBlock := by
 intro g hg e
 rcases h.1.2 with ⟨q, _⟩ | ⟨g1, cap, cur, e1, _, h2, _⟩
 ·rw [q] at hg; cases hg
 ·rcases h'.1.2 with ⟨q, _⟩ | ⟨g2, cap', cur', e2, _, k2, _⟩
  ·rw [q] at e; cases e
  ·rw [e1] at hg
   rw [e2] at e
   cases hg
   cases e
   rw [h2] at k2
   injection k2 with k2
   injection k2 with _ k2
   exact hT k2
theorem Rwo.rw {w : World} {lo hi : Nat} {T : TypeId} {sz : Nat} {a : Option Addr} {n c : Nat} {F : Nat → Value} (h : Rwo w lo hi T sz a n c F) : RwO w a n c sz F := by
 obtain ⟨a', c', e, _, _, hs⟩ := ownF_src h.1
 injection e with e1 _ e3
 subst e1
 subst e3
 rcases h.1.2 with ⟨q, q0⟩ | ⟨g, cap, cur, q, _⟩
 ·injection q with q1 q2 q3
  exact .inl ⟨q1, q2, q3⟩
 ·injection q with q1 q2 q3
  rcases hs with hs | ⟨b, off, r1, r2⟩
  ·refine .inr ⟨g, 0, q1, ?_⟩
   by_cases hn : n = 0
   ·exact .inl hn
   ·refine .inr ⟨?_, fun j hj => by omega⟩
    have := (h.lt (g := g) (by rw [q1]; rfl)).2.2
    exact this
  ·exact .inr ⟨b, off, r1, .inr r2⟩
structure NdX where
 ni : Int
 mo : Int
 ep : Int
 si : Int
 kn : Bool
 lo : Int
 hi : Int
 la : Int
 te : Int
 us : Int
 AM : Nat → KT
 na : Nat
 QM : Nat → PT
 np : Nat
 hs : Bool
 ls : Int
 HM : Nat → VT
 nh : Nat
 se : Int
def ndV (x : NdX) (aa : Option Addr) (ac : Nat) (pa : Option Addr) (pc : Nat) (ha : Option Addr) (hc : Nat) : Array Value :=
 #[.int .i64 x.ni, .int .i64 x.mo, .int .i64 x.ep, .int .i64 x.si, .bool x.kn, .int .i64 x.lo, .int .i64 x.hi, .int .i64 x.la, .int .i64 x.te, .int .i64 x.us, .slice aa x.na ac, .slice pa x.np pc, .bool x.hs, .int .i64 x.ls, .slice ha x.nh hc, .int .i64 x.se]
def NdS (w : World) (A : Array Value) (x : NdX) : Prop := ∃ aa ac pa pc ha hc, A = ndV x aa ac pa pc ha hc ∧ (x.na ≤ maxLen ∧ x.np ≤ maxLen ∧ x.nh ≤ maxLen) ∧ RwO w aa x.na ac 4 (MFAsk x.AM) ∧ RwO w pa x.np pc 5 (MFPeer x.QM) ∧ RwO w ha x.nh hc 2 (MFIval x.HM)
theorem NdS.below {w w' : World} {A : Array Value} {x : NdX} (h : NdS w A x) (hb : Below w.heap.size w w') : NdS w' A x := by
 obtain ⟨aa, ac, pa, pc, ha, hc, e, hl, h1, h2, h3⟩ := h
 exact ⟨aa, ac, pa, pc, ha, hc, e, hl, h1.below hb, h2.below hb, h3.below hb⟩
theorem NdS.size {w : World} {A : Array Value} {x : NdX} (h : NdS w A x) : A.size = 16 := by
 obtain ⟨aa, ac, pa, pc, ha, hc, e, _⟩ := h
 rw [e]; rfl
theorem ndV_one (x : NdX) (aa : Option Addr) (ac : Nat) (pa : Option Addr) (pc : Nat) (ha : Option Addr) (hc : Nat) : ∀ u ∈ (ndV x aa ac pa pc ha hc).toList, u.oneCell' = true := by
 intro u hu
 simp only [ndV, List.mem_cons, List.not_mem_nil, or_false] at hu
 rcases hu with h | h | h | h | h | h | h | h | h | h | h | h | h | h | h | h <;> (subst h; rfl)
theorem NdS.one {w : World} {A : Array Value} {x : NdX} (h : NdS w A x) : ∀ u ∈ A.toList, u.oneCell' = true := by
 obtain ⟨aa, ac, pa, pc, ha, hc, e, _⟩ := h
 rw [e]; exact ndV_one x aa ac pa pc ha hc
def NdO (w : World) (l u : Nat) (A : Array Value) (x : NdX) : Prop := ∃ aa ac pa pc ha hc, A = ndV x aa ac pa pc ha hc ∧ (x.na ≤ 1048576 ∧ x.np ≤ 1048576 ∧ x.nh ≤ 1048576) ∧ Rwo w l u 160 4 aa x.na ac (MFAsk x.AM) ∧ Rwo w l u 157 5 pa x.np pc (MFPeer x.QM) ∧ Rwo w l u 162 2 ha x.nh hc (MFIval x.HM)
theorem NdO.below {w w' : World} {l u : Nat} {A : Array Value} {x : NdX} (h : NdO w l u A x) (hb : Below w.heap.size w w') : NdO w' l u A x := by
 obtain ⟨aa, ac, pa, pc, ha, hc, e, hl, h1, h2, h3⟩ := h
 exact ⟨aa, ac, pa, pc, ha, hc, e, hl, h1.below hb, h2.below hb, h3.below hb⟩
theorem NdO.btw {w w' : World} {l u l' u' : Nat} {A : Array Value} {x : NdX} (h : NdO w l u A x) (hb : Btw l' u' w w') (ho : u ≤ l' ∨ u' ≤ l) : NdO w' l u A x := by
 obtain ⟨aa, ac, pa, pc, ha, hc, e, hl, h1, h2, h3⟩ := h
 exact ⟨aa, ac, pa, pc, ha, hc, e, hl, h1.btw hb ho, h2.btw hb ho, h3.btw hb ho⟩
theorem NdO.src {w : World} {l u : Nat} {A : Array Value} {x : NdX} (h : NdO w l u A x) : NdS w A x := by
 obtain ⟨aa, ac, pa, pc, ha, hc, e, hl, h1, h2, h3⟩ := h
 refine ⟨aa, ac, pa, pc, ha, hc, e, ?_, h1.rw, h2.rw, h3.rw⟩
 unfold maxLen
 omega
theorem NdO.size {w : World} {l u : Nat} {A : Array Value} {x : NdX} (h : NdO w l u A x) : A.size = 16 := h.src.size
theorem NdO.one {w : World} {l u : Nat} {A : Array Value} {x : NdX} (h : NdO w l u A x) : ∀ v ∈ A.toList, v.oneCell' = true := h.src.one
theorem NdO.wide {w : World} {l u l' u' : Nat} {A : Array Value} {x : NdX} (h : NdO w l u A x) (hl : l' ≤ l) (hu : u ≤ u') : NdO w l' u' A x := by
 have W : ∀ {T sz a n c F}, Rwo w l u T sz a n c F → Rwo w l' u' T sz a n c F := by
  intro T sz a n c F hr
  refine ⟨⟨hr.1.1, ?_⟩, fun g hg => Nat.lt_of_lt_of_le (hr.2 g hg) hu⟩
  rcases hr.1.2 with q | ⟨g, cap, cur, e, h1, h2⟩
  ·exact .inl q
  ·exact .inr ⟨g, cap, cur, e, Nat.le_trans hl h1, h2⟩
 obtain ⟨aa, ac, pa, pc, ha, hc, e, hb, h1, h2, h3⟩ := h
 exact ⟨aa, ac, pa, pc, ha, hc, e, hb, W h1, W h2, W h3⟩
def NdM (w : World) (A : Array Value) (x : NdX) (q : Int) : Prop := ∃ aa ac pa pc ha hc, A = ndV x aa ac pa pc ha hc ∧ (x.na ≤ 1048576 ∧ x.np ≤ 1048576 ∧ x.nh ≤ 1048576) ∧ SrcC w aa (x.na * 4) (mkAsk q) ∧ SrcC w pa (x.np * 5) (mkPeer (q + (x.na : Int) * 4)) ∧ SrcC w ha (x.nh * 2) (mkIval (q + (x.na : Int) * 4 + (x.np : Int) * 5))
theorem NdM.below {w w' : World} {A : Array Value} {x : NdX} {q : Int} (h : NdM w A x q) (hb : Below w.heap.size w w') : NdM w' A x q := by
 obtain ⟨aa, ac, pa, pc, ha, hc, e, hl, h1, h2, h3⟩ := h
 exact ⟨aa, ac, pa, pc, ha, hc, e, hl, h1.below hb, h2.below hb, h3.below hb⟩
end Go.Proofs.YtddijpjgkifngaaGreat
namespace Go.Proofs.YtddijpjgkifngaaGreat
open Go.RowKit
set_option linter.unusedVariables false
theorem putA_new (w : World) (T : TypeId) : ∀ (us : List Value) (Z : Array Value) (o : Nat), putA (w.alloc (.cells Z T)) w.heap.size o us = w.alloc (.cells (spl Z o us) T)
 | [], _, _ => rfl
 | u :: us, Z, o => by
  rw [putA, World.setCell_alloc_new]
  exact putA_new w T us _ (o + 1)
theorem storeNew {P : Program} (w : World) (Z U : Array Value) (T : TypeId) (hz : U.size = Z.size) (hu : ∀ u ∈ U.toList, u.oneCell' = true) :
 (storeCells ⟨w.heap.size, 0, none⟩ U.toList).run P (w.alloc (.cells Z T)) = .ok () (w.alloc (.cells U T)) := by
 rw [Bo.store (P := P) U.toList (w := w.alloc (.cells Z T)) (A := Z) 0 0 (Bo.new w Z T) rfl (by simp; omega) hu, putA_new, spl_whole Z U hz]
end Go.Proofs.YtddijpjgkifngaaGreat
namespace Go.Proofs.YtddijpjgkifngaaGreat
open Go.RowKit
set_option linter.unusedVariables false
theorem putA_btw (us : List Value) (w : World) (o k : Nat) : Btw k (k + 1) w (putA w k o us) := by
 have h := putA_but us w w o (But.refl k w)
 exact ⟨h.1, h.2.1, h.2.2.1, h.2.2.2.1, fun i hi ho => h.2.2.2.2 i hi (by omega)⟩
theorem Rwo.low {w : World} {l u l' : Nat} {T : TypeId} {sz : Nat} {a : Option Addr} {n c : Nat} {F : Nat → Value} (h : Rwo w l u T sz a n c F) (hl : l' ≤ l) : Rwo w l' w.heap.size T sz a n c F := by
 refine ⟨⟨h.1.1, ?_⟩, fun g hg => (h.lt hg).2.2⟩
 rcases h.1.2 with q | ⟨g, cap, cur, e, h1, h2⟩
 ·exact .inl q
 ·exact .inr ⟨g, cap, cur, e, Nat.le_trans hl h1, h2⟩
theorem NdO.low {w : World} {l u l' : Nat} {A : Array Value} {x : NdX} (h : NdO w l u A x) (hl : l' ≤ l) : NdO w l' w.heap.size A x := by
 obtain ⟨aa, ac, pa, pc, ha, hc, e, hb, h1, h2, h3⟩ := h
 exact ⟨aa, ac, pa, pc, ha, hc, e, hb, h1.low hl, h2.low hl, h3.low hl⟩
end Go.Proofs.YtddijpjgkifngaaGreat
