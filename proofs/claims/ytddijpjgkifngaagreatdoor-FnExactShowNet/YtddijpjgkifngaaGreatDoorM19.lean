/- The contracts of a node, told of arrays of cells. What the laws are handed: arrays that read as a node. NewNode, NodeBoot, NodeCrash in the specification, told of arrays of cells. The words of an op, its numbers (the specification). IvalText: the specification, the program, the walk of the law. Words joined; the line of what is told. The words of what is told, in parts (the program). TellLine in the program. -/
import Derived.Laws.Strings
import Derived.Lib.BufferRead
import Derived.Lib.MinMax
import Derived.Lib.ItoaNum
import Derived.Lib.AtoiAll
import Derived.Shelf.Strconv.Itoa3
import Derived.Shelf.Strings.OnBuilder
import Derived.Test.YtddijpjgkifngaaGreatDoorProg
import Derived.Lib.AppendIntMem
import Derived.Lib.AtoiErrMem
import Derived.Lib.AtoiAllCases
import Derived.Lib.Join
import Derived.Laws.AppendOwnNone
import Derived.Test.YtddijpjgkifngaaGreatDoorM3
import Derived.Test.YtddijpjgkifngaaGreatDoorM16
import Derived.Test.YtddijpjgkifngaaGreatDoorM18
namespace Go.Proofs.YtddijpjgkifngaaGreatDoor
open Go.RowKit
set_option linter.unusedVariables false
theorem RowF.rwo {w : World} {b n sz base : Nat} {T : TypeId} {F : Nat → Value} (h : RowF w b T (n * sz) (n * sz) F) (hn : n ≤ 1048576) (hb : base ≤ b) : Rwo w base w.heap.size T sz (some ⟨b, 0, none⟩) n n F := by
 obtain ⟨g, ⟨c, hc, hs, hv⟩, hg⟩ := h
 have hlt : b < w.heap.size := (Array.getElem?_eq_some_iff.1 hc).1
 refine ⟨⟨by simp, .inr ⟨b, n, c, rfl, hb, hc, Nat.le_refl _, by unfold maxLen; omega, hs, ?_⟩⟩, fun g' e => by cases e; exact hlt⟩
 apply List.ext_getElem?
 intro j
 by_cases hj : j < n * sz
 ·rw [List.getElem?_take, if_pos hj]
  have h1 := hv j hj
  have e : c.toList[j]? = c[j]? := by simp
  rw [e, h1, hg j hj]
  simp [hj]
 ·rw [List.getElem?_eq_none (by simp; omega), List.getElem?_eq_none (by simp; omega)]
def okX (x : NdX) : Bool := ndB x.ni x.mo x.ep x.si x.kn x.lo x.hi x.la x.te x.us x.AM x.na x.QM x.np x.hs x.ls x.HM x.nh x.se
def cmX (x : NdX) (ct : Int) : Bool := cmB x.si x.la x.se x.AM x.na x.QM x.np x.HM x.nh ct
end Go.Proofs.YtddijpjgkifngaaGreatDoor
namespace Go.Proofs.YtddijpjgkifngaaGreatDoor
open Go.RowKit
set_option linter.unusedVariables false
def wfX (x : NdX) : Prop := ∀ i, i < x.na → (Lit.int .i64 (x.AM i).1).wf = true
def NdW (w : World) (A : Array Value) (x : NdX) : Prop := ∃ aa ac pa pc ha hc, A = ndV x aa ac pa pc ha hc ∧ (x.na ≤ maxLen ∧ x.np ≤ maxLen ∧ x.nh ≤ maxLen) ∧ SrcC w aa (x.na * 4) (MFAsk x.AM) ∧ SrcC w pa (x.np * 5) (MFPeer x.QM) ∧ SrcC w ha (x.nh * 2) (MFIval x.HM)
theorem NdS.weak {w : World} {A : Array Value} {x : NdX} (h : NdS w A x) : NdW w A x := by
 obtain ⟨aa, ac, pa, pc, ha, hc, e, hl, h1, h2, h3⟩ := h
 exact ⟨aa, ac, pa, pc, ha, hc, e, hl, h1.src, h2.src, h3.src⟩
theorem NdW.below {w w' : World} {A : Array Value} {x : NdX} (h : NdW w A x) (hb : Below w.heap.size w w') : NdW w' A x := by
 obtain ⟨aa, ac, pa, pc, ha, hc, e, hl, h1, h2, h3⟩ := h
 exact ⟨aa, ac, pa, pc, ha, hc, e, hl, h1.below hb, h2.below hb, h3.below hb⟩
theorem NdW.size {w : World} {A : Array Value} {x : NdX} (h : NdW w A x) : A.size = 16 := by
 obtain ⟨aa, ac, pa, pc, ha, hc, e, _⟩ := h
 rw [e]; rfl
theorem toNodeW (A : Array Value) (x : NdX) (w : World) (h : NdW w A x) (hb : x.na ≤ 1048576 ∧ x.np ≤ 1048576 ∧ x.nh ≤ 1048576) :
 Calls Tryz.prog 59 #[.agg A] w fun e w' => ∃ R, e = .returned (.agg R) ∧ NdO w' w.heap.size w'.heap.size R x ∧ Below w.heap.size w w' := by
 obtain ⟨aa, ac, pa, pc, ha, hc, rfl, hl, h1, h2, h3⟩ := h
 refine (toNode_any x.ni x.mo x.ep x.si x.kn x.lo x.hi x.la x.te x.us aa x.na ac x.AM pa x.np pc x.QM x.hs x.ls ha x.nh hc x.HM x.se w hb.1 h1 hb.2.1 h2 hb.2.2 h3).mono ?_
 rintro e w' ⟨jA, jP, jH, rfl, q1, q2, q3, r1, r2, r3, hB⟩
 exact ⟨_, rfl, ⟨some ⟨jA, 0, none⟩, x.na, some ⟨jP, 0, none⟩, x.np, some ⟨jH, 0, none⟩, x.nh, rfl, hb, r1.rwo hb.1 q1, r2.rwo hb.2.1 (by omega), r3.rwo hb.2.2 (by omega)⟩, hB⟩
theorem szNodeW (A : Array Value) (x : NdX) (Z : Int) (w : World) (h : NdW w A x) (h0 : 0 ≤ Z) (h1 : Z ≤ 1048576) :
 Calls Tryz.prog 46 #[.agg A, .int .i64 Z] w fun e w' => ∃ L : Int, e = .returned (.int .i64 L) ∧ (0 ≤ L → (x.na ≤ 1048576 ∧ x.np ≤ 1048576 ∧ x.nh ≤ 1048576) ∧ L ≤ 1048576) ∧ Below w.heap.size w w' := by
 obtain ⟨aa, ac, pa, pc, ha, hc, rfl, hl, r1, r2, r3⟩ := h
 refine (szNode_at x.ni x.mo x.ep x.si x.kn x.lo x.hi x.la x.te x.us aa x.na ac x.AM pa x.np pc x.QM x.hs x.ls ha x.nh hc x.HM x.se Z w hl.1 hl.2.1 hl.2.2 h0 h1).mono ?_
 rintro e w' ⟨L, rfl, hL, hB⟩
 exact ⟨L, rfl, fun h => ⟨⟨(hL h).1, (hL h).2.1, (hL h).2.2.1⟩, (hL h).2.2.2⟩, hB⟩
end Go.Proofs.YtddijpjgkifngaaGreatDoor
namespace Go.Proofs.YtddijpjgkifngaaGreatDoor
open Go.RowKit
set_option linter.unusedVariables false
theorem okX_short {x : NdX} (h : okX x = true) : x.na ≤ 16 ∧ x.np ≤ 8 ∧ x.nh ≤ 16 := by
 unfold okX ndB ndA at h
 simp only [Bool.and_eq_true] at h
 obtain ⟨⟨_, _, _, h1, h2, _, h3, _⟩, _⟩ := h
 refine ⟨?_, ?_, ?_⟩
 ·unfold tabB at h1
  simp only [Bool.and_eq_true, decide_eq_true_eq] at h1
  omega
 ·exact oks_le h2
 ·unfold hrB at h3
  simp only [Bool.and_eq_true, decide_eq_true_eq] at h3
  omega
end Go.Proofs.YtddijpjgkifngaaGreatDoor
namespace Go.Proofs.YtddijpjgkifngaaGreatDoor
open Go.RowKit
set_option linter.unusedVariables false
theorem own_baseX {w : World} {base base' s n : Nat} {T : TypeId} {v : Value} {xs : List Value} (h : w.ownsRow base' T s v n xs) (hb : base ≤ base') : w.ownsRow base T s v n xs := by
 refine ⟨h.1, ?_⟩
 rcases h.2 with q | ⟨g, cap, cur, h1, h2, h3⟩
 ·exact .inl q
 ·exact .inr ⟨g, cap, cur, h1, Nat.le_trans hb h2, h3⟩
theorem irow_mapX (L : List Int) : irow L = L.map (Value.int .i64) := by
 apply List.ext_getElem?
 intro i
 rw [irow, Nat.mul_one]
 by_cases hi : i < L.length
 ·rw [List.getElem?_map, List.getElem?_range hi, List.getElem?_map, List.getElem?_eq_getElem hi]
  show some (Value.int .i64 (gI L i)) = some _
  rw [gI, List.getD_eq_getElem?_getD, List.getElem?_eq_getElem hi]
  rfl
 ·rw [List.getElem?_eq_none (by simp; omega), List.getElem?_eq_none (by simp; omega)]
theorem add_atX (b off n : Nat) : (⟨b, off, none⟩ : Addr).add n = ⟨b, off + n, none⟩ := by
 unfold Addr.add
 split
 ·next h => subst h; rfl
 ·rfl
theorem itg_at {w : World} {b off n : Nat} {f : Nat → Int} (h : Cs w b off n (fun j => .int .i64 (f j))) : ∀ j u, (irow ((List.range n).map f))[j]? = some u → w.cell? ((⟨b, off, none⟩ : Addr).add j) = some u := by
 intro j u hu
 rw [irow_mapX, List.map_map] at hu
 by_cases hj : j < n
 ·rw [List.getElem?_map, List.getElem?_range hj] at hu
  simp at hu
  subst hu
  rw [add_atX]
  exact h.2 j hj
 ·rw [List.getElem?_eq_none (by simp; omega)] at hu
  cases hu
def LsO (w : World) (p : Option Addr) (n c : Nat) (f : Nat → Int) : Prop := (p = none ∧ n = 0 ∧ c = 0) ∨ ∃ b off, p = some ⟨b, off, none⟩ ∧ (n = 0 ∨ Cs w b off n (fun j => .int .i64 (f j)))
theorem LsO.below {w w' : World} {p : Option Addr} {n c : Nat} {f : Nat → Int} (h : LsO w p n c f) (hb : Below w.heap.size w w') : LsO w' p n c f := by
 rcases h with h | ⟨b, off, e, h | h⟩
 ·exact .inl h
 ·exact .inr ⟨b, off, e, .inl h⟩
 ·exact .inr ⟨b, off, e, .inr (h.below hb h.1)⟩
theorem LsO.at {w : World} {p : Option Addr} {n c : Nat} {f : Nat → Int} (h : LsO w p n c f) : (p = none ∧ n = 0 ∧ c = 0) ∨ ∃ ad, p = some ad ∧ ∀ j u, (irow ((List.range n).map f))[j]? = some u → w.cell? (ad.add j) = some u := by
 rcases h with h | ⟨b, off, e, h | h⟩
 ·exact .inl h
 ·refine .inr ⟨_, e, fun j u hu => ?_⟩
  rw [h] at hu
  rw [List.getElem?_eq_none (by simp [irow])] at hu
  cases hu
 ·exact .inr ⟨_, e, itg_at h⟩
end Go.Proofs.YtddijpjgkifngaaGreatDoor
namespace Go.Proofs.YtddijpjgkifngaaGreatDoor
open Go.RowKit
set_option linter.unusedVariables false
theorem txI_size' (n : Int) : (txI n).size ≤ 21 := by
 have q : ∀ (f K : Nat) (o : ByteArray), (tdS f K o).size ≤ o.size + f := by
  intro f
  induction f with
  | zero => intro K o; simp [tdS]
  | succ f ih =>
   intro K o
   by_cases h : K = 0
   ·subst h; rw [tdS_end]; omega
   ·rw [tdS_go h]
    have q := ih (K / 10) (strOfNums [48 + (K : Int) % 10] ++ o)
    rw [ByteArray.size_append, strOfNums_size] at q
    simp at q
    omega
 have q := q 20 n.natAbs ⟨#[]⟩
 have e0 : (⟨#[]⟩ : ByteArray).size = 0 := rfl
 have e1 : (⟨#[45]⟩ : ByteArray).size = 1 := rfl
 have e2 : (⟨#[48]⟩ : ByteArray).size = 1 := rfl
 unfold txI dgs
 split
 ·omega
 ·split
  ·rw [ByteArray.size_append]; omega
  ·omega
end Go.Proofs.YtddijpjgkifngaaGreatDoor
namespace Go.Proofs.YtddijpjgkifngaaGreatDoor
open Go.RowKit
set_option linter.unusedVariables false
def spB : ByteArray := ⟨#[32]⟩
def jnB (L : List ByteArray) : ByteArray := ⟨(Go.Lib.join (L.map (·.data.toList)) spB.data.toList).toArray⟩
theorem jn_tail (x : ByteArray) (r : List ByteArray) : jnB (x :: r) = x ++ ⟨(Go.Lib.joinTail spB.data.toList (r.map (·.data.toList))).toArray⟩ := by
 apply ByteArray.ext
 rw [jnB, ByteArray.data_append, List.map_cons, Go.Lib.join_cons]
 simp
theorem jn1 (a : ByteArray) : jnB [a] = a := by
 rw [jn_tail]
 apply ByteArray.ext
 rw [ByteArray.data_append]
 simp [Go.Lib.joinTail]
theorem jnd_len (z : Nat) : ∀ (L : List ByteArray), (∀ x ∈ L, x.size ≤ z) → (Go.Lib.joinTail spB.data.toList (L.map (·.data.toList))).length ≤ L.length * (z + 1)
 | [], _ => by simp [Go.Lib.joinTail]
 | x :: L, h => by
  have q := jnd_len z L (fun y hy => h y (List.mem_cons_of_mem _ hy))
  have hx := h x (List.mem_cons_self ..)
  have e : (x.data.toList).length = x.size := Array.length_toList
  have e2 : spB.data.toList.length = 1 := rfl
  unfold Go.Lib.joinTail at *
  rw [List.map_cons, List.map_cons, List.flatten_cons, List.length_append, List.length_append, e, e2, List.length_cons, Nat.add_mul]
  omega
theorem jn_le {z : Nat} {L : List ByteArray} (h : ∀ x ∈ L, x.size ≤ z) : (Go.Lib.join (L.map (·.data.toList)) spB.data.toList).length ≤ L.length * (z + 1) := by
 cases L with
 | nil => simp [Go.Lib.join_nil]
 | cons x L =>
  have q := jnd_len z L (fun y hy => h y (List.mem_cons_of_mem _ hy))
  have hx := h x (List.mem_cons_self ..)
  have e : (x.data.toList).length = x.size := Array.length_toList
  rw [List.map_cons, Go.Lib.join_cons, List.length_append, e, List.length_cons, Nat.add_mul]
  omega
def stR (L : List ByteArray) : List Value := L.map Value.string
theorem stR_len (L : List ByteArray) : (stR L).length = L.length := by simp [stR]
theorem stR_one (L : List ByteArray) : ∀ u ∈ stR L, u.oneCell' = true := by
 intro u hu
 obtain ⟨x, _, rfl⟩ := List.mem_map.1 hu
 rfl
theorem info_str : (Tryz.prog.info? 9).map (fun i => (i.zero, i.size, i.bytes)) = some (some (.string ⟨#[]⟩), 1, 16) := by kernel_rfl
theorem own_strs {w : World} {base : Nat} {v : Value} {L : List ByteArray} (h : w.ownsRow base 9 1 v L.length (stR L)) (h0 : 0 < L.length) :
 ∃ g cap, v = .slice (some ⟨g, 0, none⟩) L.length cap ∧ g < w.heap.size ∧ L.length ≤ cap ∧ ∀ (j : Nat) x, L[j]? = some x → w.cell? ⟨g, 0 + j, none⟩ = some (.string x) := by
 rcases h.2 with ⟨_, h1⟩ | ⟨g, cap, cur, rfl, h1, h2, h3, h4, h5, h6⟩
 ·omega
 ·refine ⟨g, cap, rfl, (Array.getElem?_eq_some_iff.1 h2).1, h3, fun j x hx => ?_⟩
  have hj : j < L.length := (List.getElem?_eq_some_iff.1 hx).1
  rw [Nat.zero_add, World.ownsRow.cellAt h j (by omega), stR, List.getElem?_map, hx]
  rfl
theorem strs_new (w : World) (L : List ByteArray) (hL : L.length ≤ 64) : (w.alloc (.cells (stR L).toArray 9)).ownsRow w.heap.size 9 1 (.slice (some ⟨w.heap.size, 0, none⟩) L.length L.length) L.length (stR L) := by
 refine ⟨by rw [stR_len, Nat.mul_one], .inr ⟨w.heap.size, L.length, (stR L).toArray, rfl, Nat.le_refl _, ?_, Nat.le_refl _, by unfold maxLen; omega, by simp [stR], ?_⟩⟩
 ·show (w.heap.push _)[w.heap.size]? = _
  exact Array.getElem?_push_size
 ·simp only [stR, Nat.mul_one]
  exact List.take_of_length_le (by simp)
end Go.Proofs.YtddijpjgkifngaaGreatDoor
namespace Go.Proofs.YtddijpjgkifngaaGreatDoor
open Go.RowKit
set_option linter.unusedVariables false
theorem strs_cell (w : World) (M : List ByteArray) : ∀ j u, (stR M)[j]? = some u → (w.alloc (.cells (stR M).toArray 9)).cell? ((⟨w.heap.size, 0, none⟩ : Addr).add j) = some u := by
 intro j u h
 rw [add_atX, Nat.zero_add]
 simpa using h
theorem srow_app (L M : List ByteArray) : stR (L ++ M) = stR L ++ stR M := by simp [stR]
theorem add_strs {w : World} {ops : Array Oper} {rest : List Oper} {o : Oper} {a : Act} {Q : Exit → Act → World → Prop} (hgd : o.guard = none) (s x : Operand)
 (ho : o.op = .call { callee := .builtin .append, args := #[s, x], argTypes := #[96, 96] }) (base : Nat) (L M : List ByteArray) (v : Value) (hs : a.eval s = v) (hown : w.ownsRow base 9 1 v L.length (stR L))
 (ad : Addr) (c : Nat) (hx : a.eval x = .slice (some ad) M.length c) (hM : ∀ j u, (stR M)[j]? = some u → w.cell? (ad.add j) = some u) (hL : L.length + M.length ≤ 64) (hbase : base ≤ w.heap.size)
 (h : ∀ v' w', w'.ownsRow base 9 1 v' (L ++ M).length (stR (L ++ M)) → w.grownBy w' v.ownBlock → wpList Tryz.prog ops Q rest (a.put o.dst v') w') :
 wpList Tryz.prog ops Q (o :: rest) a w := by
 obtain ⟨i0, hi, hz0, hz1, hz2⟩ := info_parts info_str
 refine wpList_append_own w hgd s x 96 ho base 9 i0 (.string ⟨#[]⟩) 1 16 Tryz.underlying96 hi hz0 hz1 hz2 rfl (by decide) v L.length (stR L) hs hown ad M.length c (stR M) hx (by rw [stR_len, Nat.mul_one]) hM (stR_one M) (by unfold maxLen; omega) (by omega) hbase ?_
 intro v' w' h1 h2 _
 exact h v' w' (by rw [srow_app, List.length_append]; exact h1) h2
theorem grown_belowS {w w' : World} {base : Nat} {v : Value} {L : List ByteArray} (h : w.ownsRow base 9 1 v L.length (stR L)) (hg : w.grownBy w' v.ownBlock) (hb : base ≤ w.heap.size) : Below base w w' :=
 Below.grown (Below.refl base w) hg hb (fun k hk => (World.ownsRow.lt h k hk).1)
end Go.Proofs.YtddijpjgkifngaaGreatDoor
namespace Go.Proofs.YtddijpjgkifngaaGreatDoor
open Go.RowKit
set_option linter.unusedVariables false
theorem own_belowS {w w' : World} {base n : Nat} {v : Value} {xs : List Value} (h : w.ownsRow base 9 1 v n xs) (hb : Below w.heap.size w w') : w'.ownsRow base 9 1 v n xs := by
 refine ⟨h.1, ?_⟩
 rcases h.2 with q | ⟨g, cap, cur, e, h1, h2, h3⟩
 ·exact .inl q
 ·exact .inr ⟨g, cap, cur, e, h1, by rw [hb.block g (Array.getElem?_eq_some_iff.1 h2).1]; exact h2, h3⟩
end Go.Proofs.YtddijpjgkifngaaGreatDoor
