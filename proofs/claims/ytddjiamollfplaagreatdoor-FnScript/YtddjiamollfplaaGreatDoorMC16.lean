/- A struct in memory, told by the array of its cells. Words joined; the line of what is told. The words of what is told, in parts (the program). -/
import Derived.Lib.ItoaNum
import Derived.Lib.AtoiAll
import Derived.Shelf.Strconv.Itoa3
import Derived.Shelf.Strconv.ErrVarAll
import Derived.Shelf.Strings.OnBuilder
import Derived.Test.YtddjiamollfplaaGreatDoorProg
import Derived.Lib.AppendIntMem
import Derived.Lib.AtoiErrMem
import Derived.Lib.AtoiAllCases
import Derived.Lib.Join
import Derived.Test.YtddjiamollfplaaGreatDoorMC11
namespace Go.Proofs.YtddjiamollfplaaGreatDoor
open Go.RowKit
set_option linter.unusedVariables false
def Bo (w : World) (k : Nat) (A : Array Value) : Prop := k < w.heap.size ∧ (∀ i u, A[i]? = some u → w.cell? ⟨k, i, none⟩ = some u) ∧ ∀ i, i < A.size → w.frozen? ⟨k, i, none⟩ = false
theorem Bo.belowB {k B : Nat} {w w' : World} {A : Array Value} (h : Bo w k A) (hw : Below B w w') (hk : k < B) : Bo w' k A :=
 ⟨Nat.lt_of_lt_of_le h.1 hw.size, fun i u hi => by rw [hw.cell (p := ⟨k, i, none⟩) hk]; exact h.2.1 i u hi, fun i hi => by rw [hw.frozen (p := ⟨k, i, none⟩) hk]; exact h.2.2 i hi⟩
theorem Bo.below {k : Nat} {w w' : World} {A : Array Value} (h : Bo w k A) (hw : Below w.heap.size w w') : Bo w' k A := h.belowB hw h.1
theorem Bo.but {w w' : World} {k q : Nat} {A : Array Value} (h : Bo w k A) (hb : But q w w') (hq : k ≠ q) : Bo w' k A :=
 ⟨Nat.lt_of_lt_of_le h.1 hb.2.2.2.1, fun i u hi => by rw [hb.cell h.1 hq]; exact h.2.1 i u hi, fun i hi => by rw [hb.frozen h.1 hq]; exact h.2.2 i hi⟩
theorem Bo.new (w : World) (A : Array Value) (T : TypeId) : Bo (w.alloc (.cells A T)) w.heap.size A :=
 ⟨by simp, fun i u hi => by simp [hi], fun i hi => by simp⟩
theorem Bo.drew {k : Nat} {w : World} {A : Array Value} (h : Bo w k A) : Bo w.drew k A := h
theorem add_at (k o i : Nat) : (⟨k, o, none⟩ : Addr).add i = ⟨k, o + i, none⟩ := by
 unfold Addr.add; split <;> simp_all
theorem Bo.load {P : Program} {w : World} {k n : Nat} {A : Array Value} (h : Bo w k A) (hn : A.size = n) : (loadCells ⟨k, 0, none⟩ n).run P w = .ok A w := by
 have e := run_loadCells_list (P := P) w ⟨k, 0, none⟩ A.toList (fun j v hj => by rw [add_at, Nat.zero_add]; exact h.2.1 j v (by simpa using hj))
 rw [← hn]
 simpa using e
def ac (w : World) (k : Nat) : Nat → List Value → World
 | _, [] => w
 | o, u :: us => ac (w.setCell ⟨k, o, none⟩ u) k (o + 1) us
theorem aR (k : Nat) : ∀ (us : List Value) (w : World) (o : Nat), (ac w k o us).heap.size = w.heap.size
 | [], _, _ => rfl
 | u :: us, w, o => by rw [ac, aR k us]; simp
theorem ak {j : Nat} : ∀ (us : List Value) (v w : World) (o : Nat), But j v w → But j v (ac w j o us)
 | [], _, _, _, h => h
 | u :: us, v, w, o, h => ak us v _ (o + 1) (h.setCell o u)
theorem ai {k B : Nat} : ∀ (us : List Value) (v w : World) (o : Nat), Below B v w → B ≤ k → Below B v (ac w k o us)
 | [], _, _, _, h, _ => h
 | u :: us, v, w, o, h, hk => ai us v _ (o + 1) (h.setCell (p := ⟨k, o, none⟩) hk u) hk
def spl (A : Array Value) : Nat → List Value → Array Value
 | _, [] => A
 | o, u :: us => spl (A.setIfInBounds o u) (o + 1) us
theorem iy : ∀ (us : List Value) (A : Array Value) (o : Nat), (spl A o us).size = A.size
 | [], _, _ => rfl
 | u :: us, A, o => by rw [spl, iy us]; simp
theorem Bo.set {w : World} {k : Nat} {A : Array Value} (h : Bo w k A) (o : Nat) (u : Value) : Bo (w.setCell ⟨k, o, none⟩ u) k (A.setIfInBounds o u) := by
 refine ⟨by simpa using h.1, fun i x hi => ?_, fun i hi => ?_⟩
 ·by_cases e : o = i
  ·subst e
   by_cases ho : o < A.size
   ·rw [Array.getElem?_setIfInBounds_self_of_lt ho] at hi
    cases hi
    exact World.cell?_setCell_same _ _ _ (h.2.1 o A[o] (Array.getElem?_eq_getElem ho))
   ·rw [Array.getElem?_eq_none (by simp; omega)] at hi
    cases hi
  ·rw [Array.getElem?_setIfInBounds_ne e] at hi
   rw [World.cell?_setCell_other _ _ _ _ (by simp)]
   exact h.2.1 i x hi
 ·have := h.2.2 i (by simpa using hi)
  simpa using this
theorem Bo.put {k : Nat} : ∀ (us : List Value) {w : World} {A : Array Value} (o : Nat), Bo w k A → Bo (ac w k o us) k (spl A o us)
 | [], _, _, _, h => h
 | u :: us, _, _, o, h => Bo.put us (o + 1) (h.set o u)
theorem gu : ∀ (us : List Value) (A : Array Value) (o i : Nat), o + us.length ≤ A.size → (spl A o us)[i]? = if o ≤ i ∧ i < o + us.length then us[i - o]? else A[i]?
 | [], A, o, i, _ => by rw [spl, if_neg (by simp)]
 | u :: us, A, o, i, h => by
  simp only [List.length_cons] at h
  rw [spl, gu us _ (o + 1) i (by simp; omega)]
  by_cases e : i = o
  ·subst e
   rw [if_neg (by omega), if_pos (by simp), Array.getElem?_setIfInBounds_self_of_lt (by omega), Nat.sub_self]
   rfl
  ·by_cases h1 : o + 1 ≤ i ∧ i < o + 1 + us.length
   ·rw [if_pos h1, if_pos (by simp; omega)]
    obtain ⟨d, hd⟩ : ∃ d, i - o = d + 1 := ⟨i - o - 1, by omega⟩
    rw [hd, show i - (o + 1) = d by omega]
    rfl
   ·rw [if_neg h1, if_neg (by simp; omega), Array.getElem?_setIfInBounds_ne (by omega)]
theorem kj (A U : Array Value) (h : U.size = A.size) : spl A 0 U.toList = U := by
 apply Array.ext_getElem?
 intro i
 rw [gu _ _ _ _ (by simp; omega)]
 by_cases hi : i < U.size
 ·rw [if_pos (by simpa using hi)]; simp
 ·rw [if_neg (by simpa using hi), Array.getElem?_eq_none (by omega), Array.getElem?_eq_none (by omega)]
theorem Bo.putW {k : Nat} {w : World} {A U : Array Value} (h : Bo w k A) (hU : U.size = A.size) : Bo (ac w k 0 U.toList) k U := by
 have e := Bo.put U.toList 0 h
 rw [kj A U hU] at e
 exact e
theorem Bo.store {P : Program} {k b : Nat} : ∀ (us : List Value) {w : World} {A : Array Value} (o i : Nat), Bo w k A → b + i = o → o + us.length ≤ A.size → (∀ u ∈ us, u.oneCell' = true) → (storeCells ⟨k, b, none⟩ us i).run P w = .ok () (ac w k o us)
 | [], _, _, _, _, _, _, _, _ => rfl
 | u :: us, w, A, o, i, h, hb, hl, hu => by
  simp only [List.length_cons] at hl
  have hc := h.2.1 o A[o] (Array.getElem?_eq_getElem (by omega))
  have hf := h.2.2 o (by omega)
  rw [storeCells, Sem.run_bind, add_at, hb, run_store _ _ _ _ _ (hu u (List.mem_cons_self ..)), hc]
  simp [hf, Result.andThen]
  exact Bo.store us (o + 1) (i + 1) (h.set o u) (by omega) (by simp; omega) (fun x hx => hu x (List.mem_cons_of_mem _ hx))
theorem Bo.cell {w : World} {k : Nat} {A : Array Value} (h : Bo w k A) {i : Nat} {u : Value} (hi : A[i]? = some u) : w.cell? ⟨k, i, none⟩ = some u := h.2.1 i u hi
theorem Bo.kept {w w' : World} {q : Option Nat} {k : Nat} {A : Array Value} (h : Bo w k A) (hg : w.grownBy w' q) (hq : some k ≠ q) : Bo w' k A :=
 ⟨Nat.lt_of_lt_of_le h.1 hg.size, fun i u hi => by rw [ef hg h.1 hq]; exact h.2.1 i u hi, fun i hi => by
  have := hg.block k h.1 hq
  have e : w'.frozen? ⟨k, i, none⟩ = w.frozen? ⟨k, i, none⟩ := by simp only [World.frozen?]; rw [this]
  rw [e]; exact h.2.2 i hi⟩
end Go.Proofs.YtddjiamollfplaaGreatDoor
namespace Go.Proofs.YtddjiamollfplaaGreatDoor
open Go.RowKit
set_option linter.unusedVariables false
def spB : ByteArray := ⟨#[32]⟩
def jnB (L : List ByteArray) : ByteArray := ⟨(Go.Lib.join (L.map (·.data.toList)) spB.data.toList).toArray⟩
theorem fV (x : ByteArray) (r : List ByteArray) : jnB (x :: r) = x ++ ⟨(Go.Lib.joinTail spB.data.toList (r.map (·.data.toList))).toArray⟩ := by
 apply ByteArray.ext
 rw [jnB, ByteArray.data_append, List.map_cons, Go.Lib.join_cons]
 simp
theorem jn1 (a : ByteArray) : jnB [a] = a := by
 rw [fV]
 apply ByteArray.ext
 rw [ByteArray.data_append]
 simp [Go.Lib.joinTail]
theorem jx (z : Nat) : ∀ (L : List ByteArray), (∀ x ∈ L, x.size ≤ z) → (Go.Lib.joinTail spB.data.toList (L.map (·.data.toList))).length ≤ L.length * (z + 1)
 | [], _ => by simp [Go.Lib.joinTail]
 | x :: L, h => by
  have q := jx z L (fun y hy => h y (List.mem_cons_of_mem _ hy))
  have hx := h x (List.mem_cons_self ..)
  have e : (x.data.toList).length = x.size := Array.length_toList
  have e2 : spB.data.toList.length = 1 := rfl
  unfold Go.Lib.joinTail at *
  rw [List.map_cons, List.map_cons, List.flatten_cons, List.length_append, List.length_append, e, e2, List.length_cons, Nat.add_mul]
  omega
theorem jn_le {z : Nat} {L : List ByteArray} (h : ∀ x ∈ L, x.size ≤ z) : (Go.Lib.join (L.map (·.data.toList)) spB.data.toList).length ≤ L.length * (z + 1) := by
 cases L with
 | nil => simp [Go.Lib.join_nil]
 | cons x L =>
  have q := jx z L (fun y hy => h y (List.mem_cons_of_mem _ hy))
  have hx := h x (List.mem_cons_self ..)
  have e : (x.data.toList).length = x.size := Array.length_toList
  rw [List.map_cons, Go.Lib.join_cons, List.length_append, e, List.length_cons, Nat.add_mul]
  omega
def stR (L : List ByteArray) : List Value := L.map Value.string
theorem jT (L : List ByteArray) : (stR L).length = L.length := by simp [stR]
theorem jU (L : List ByteArray) : ∀ u ∈ stR L, u.oneCell' = true := by
 intro u hu
 obtain ⟨x, _, rfl⟩ := List.mem_map.1 hu
 rfl
theorem ep : (Tryz.prog.info? 9).map (fun i => (i.zero, i.size, i.bytes)) = some (some (.string ⟨#[]⟩), 1, 16) := by kernel_rfl
theorem eA {w : World} {base : Nat} {v : Value} {L : List ByteArray} (h : w.ownsRow base 9 1 v L.length (stR L)) (h0 : 0 < L.length) :
 ∃ g cap, v = .slice (some ⟨g, 0, none⟩) L.length cap ∧ g < w.heap.size ∧ L.length ≤ cap ∧ ∀ (j : Nat) x, L[j]? = some x → w.cell? ⟨g, 0 + j, none⟩ = some (.string x) := by
 rcases h.2 with ⟨_, h1⟩ | ⟨g, cap, cur, rfl, h1, h2, h3, h4, h5, h6⟩
 ·omega
 ·refine ⟨g, cap, rfl, (Array.getElem?_eq_some_iff.1 h2).1, h3, fun j x hx => ?_⟩
  have hj : j < L.length := (List.getElem?_eq_some_iff.1 hx).1
  rw [Nat.zero_add, World.ownsRow.cellAt h j (by omega), stR, List.getElem?_map, hx]
  rfl
end Go.Proofs.YtddjiamollfplaaGreatDoor
namespace Go.Proofs.YtddjiamollfplaaGreatDoor
open Go.RowKit
set_option linter.unusedVariables false
theorem ce (w : World) (M : List ByteArray) : ∀ j u, (stR M)[j]? = some u → (w.alloc (.cells (stR M).toArray 9)).cell? ((⟨w.heap.size, 0, none⟩ : Addr).add j) = some u := by
 intro j u h
 rw [fI, Nat.zero_add]
 simpa using h
theorem iz (L M : List ByteArray) : stR (L ++ M) = stR L ++ stR M := by simp [stR]
theorem ec {w : World} {ops : Array Oper} {rest : List Oper} {o : Oper} {a : Act} {Q : Exit → Act → World → Prop} (hgd : o.guard = none) (s x : Operand)
 (ho : o.op = .call { callee := .builtin .append, args := #[s, x], argTypes := #[46, 46] }) (base : Nat) (L M : List ByteArray) (v : Value) (hs : a.eval s = v) (hown : w.ownsRow base 9 1 v L.length (stR L))
 (ad : Addr) (c : Nat) (hx : a.eval x = .slice (some ad) M.length c) (hM : ∀ j u, (stR M)[j]? = some u → w.cell? (ad.add j) = some u) (hL : L.length + M.length ≤ 64) (hbase : base ≤ w.heap.size)
 (h : ∀ v' w', w'.ownsRow base 9 1 v' (L ++ M).length (stR (L ++ M)) → w.grownBy w' v.ownBlock → wpList Tryz.prog ops Q rest (a.put o.dst v') w') :
 wpList Tryz.prog ops Q (o :: rest) a w := by
 obtain ⟨i0, hi, hz0, hz1, hz2⟩ := info_parts ep
 refine wpList_append_own w hgd s x 46 ho base 9 i0 (.string ⟨#[]⟩) 1 16 Tryz.underlying46 hi hz0 hz1 hz2 rfl (by decide) v L.length (stR L) hs hown ad M.length c (stR M) hx (by rw [jT, Nat.mul_one]) hM (jU M) (by unfold maxLen; omega) (by omega) hbase ?_
 intro v' w' h1 h2 _
 exact h v' w' (by rw [iz, List.length_append]; exact h1) h2
end Go.Proofs.YtddjiamollfplaaGreatDoor
