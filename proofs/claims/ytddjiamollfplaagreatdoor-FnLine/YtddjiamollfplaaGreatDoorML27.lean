/- An op out of its kind, its numbers and its text (the specification). -/
import Derived.Laws.AppendOwnNone
import Derived.Test.YtddjiamollfplaaGreatDoorML20
import Derived.Test.YtddjiamollfplaaGreatDoorML21
namespace Go.Proofs.YtddjiamollfplaaGreatDoor
open Go.RowKit
set_option linter.unusedVariables false

def opZ (k : Int) (L : List Int) (t : ByteArray) : OpD :=
 if k = 1 then ⟨1, 0, 0, gI L 0, 0, t, L.length - 1, fun j => gI L (j + 1)⟩
 else if k = 4 then ⟨4, gI L 0, 0, gI L 1, gI L 2, t, 0, fun _ => 0⟩
 else if k = 5 then ⟨5, gI L 0, gI L 1, 0, 0, t, 0, fun _ => 0⟩
 else if k = 14 then ⟨14, gI L 0, gI L 1, 0, 0, t, 0, fun _ => 0⟩
 else if k = 9 then ⟨9, gI L 0, 0, gI L 1, 0, t, 0, fun _ => 0⟩
 else if k = 10 ∨ k = 11 ∨ k = 12 then ⟨k, 0, 0, gI L 0, 0, t, 0, fun _ => 0⟩
 else if k = 13 then ⟨13, 0, 0, gI L 0, gI L 1, t, 0, fun _ => 0⟩
 else ⟨k, gI L 0, 0, 0, 0, t, 0, fun _ => 0⟩
def cnK (k : Int) : Nat := if k = 4 then 3 else if k = 5 ∨ k = 9 ∨ k = 13 ∨ k = 14 then 2 else 1
def LsA (w : World) (base : Nat) (p : Option Addr) (n c : Nat) (f : Nat → Int) : Prop := (p = none ∧ n = 0 ∧ c = 0) ∨ ∃ b, p = some ⟨b, 0, none⟩ ∧ base ≤ b ∧ (n = 0 ∨ Cs w b 0 n (fun j => .int .i64 (f j)))
theorem LsA.ls {w : World} {base : Nat} {p : Option Addr} {n c : Nat} {f : Nat → Int} (h : LsA w base p n c f) : LsO w p n c f := by
 rcases h with h | ⟨b, e, _, h⟩
 ·exact .inl h
 ·exact .inr ⟨b, 0, e, h⟩
theorem LsA.low {w : World} {base base' : Nat} {p : Option Addr} {n c : Nat} {f : Nat → Int} (h : LsA w base p n c f) (hb : base' ≤ base) : LsA w base' p n c f := by
 rcases h with h | ⟨b, e, h1, h2⟩
 ·exact .inl h
 ·exact .inr ⟨b, e, Nat.le_trans hb h1, h2⟩
theorem LsA.below {w w' : World} {base : Nat} {p : Option Addr} {n c : Nat} {f : Nat → Int} (h : LsA w base p n c f) (hb : Below w.heap.size w w') : LsA w' base p n c f := by
 rcases h with h | ⟨b, e, h1, h | h⟩
 ·exact .inl h
 ·exact .inr ⟨b, e, h1, .inl h⟩
 ·exact .inr ⟨b, e, h1, .inr (h.below hb h.1)⟩
theorem LsA.but {w : World} {base k : Nat} {p : Option Addr} {n c : Nat} {f : Nat → Int} (us : List Value) (o : Nat) (h : LsA w base p n c f) (hk : k < base) : LsA (putA w k o us) base p n c f := by
 rcases h with h | ⟨b, e, hb, h | h⟩
 ·exact .inl h
 ·exact .inr ⟨b, e, hb, .inl h⟩
 ·refine .inr ⟨b, e, hb, .inr ⟨by rw [putA_size]; exact h.1, fun i hi => ?_⟩⟩
  rw [putA_cellO k _ (by show b ≠ k; omega)]
  exact h.2 i hi
theorem lsO_own {w : World} {base n : Nat} {v : Value} {f : Nat → Int} (h : w.ownsRow base 3 1 v n (irow ((List.range n).map f))) : ∃ p c, v = .slice p n c ∧ LsA w base p n c f := by
 have e : ((List.range n).map f).length = n := by simp
 rw [← e] at h
 have h2 : w.ownsRow base 3 1 v ((List.range n).map f).length (irow ((List.range n).map f)) := by
  rw [e] at h ⊢
  exact h
 rcases own_cellX h2 with ⟨h3, h4⟩ | ⟨g, cap, h3, h4⟩
 ·rw [e] at h4
  subst h4
  exact ⟨none, 0, h3, .inl ⟨rfl, rfl, rfl⟩⟩
 ·rw [e] at h3 h4
  refine ⟨_, cap, h3, .inr ⟨g, rfl, (World.ownsRow.lt h g (by rw [h3]; rfl)).1, ?_⟩⟩
  by_cases h0 : n = 0
  ·exact .inl h0
  ·refine .inr ⟨?_, fun i hi => ?_⟩
   ·have q := h4 0 (by omega)
    exact World.block_lt_of_cell? w _ q
   ·rw [Nat.zero_add, h4 i hi, gI, List.getD_eq_getElem?_getD, List.getElem?_map, List.getElem?_range hi]
    rfl
theorem lsO_nil (w : World) (f : Nat → Int) : LsO w none 0 0 f := .inl ⟨rfl, rfl, rfl⟩
attribute [-go_sem] loadCells storeCells in
set_option maxHeartbeats 4000000 in
set_option maxRecDepth 100000 in
theorem specOp_2 (L : List Int) (t : ByteArray) (g cap : Nat) (w : World) (hl : 1 ≤ L.length) (hc : L.length ≤ 1000) (C : Cs w g 0 L.length (itG (gI L))) :
 Calls Tryz.prog 40 #[.int .i64 2, .slice (some ⟨g, 0, none⟩) L.length cap, .string t] w fun e w' => ∃ p c, e = .returned (.agg (opV (opZ 2 L t) p c)) ∧ LsA w' w.heap.size p (opZ 2 L t).n c (opZ 2 L t).f ∧ Below w.heap.size w w' := by
 have B := (Below.nw w (.cells #[.int .i64 0, .int .i64 0, .int .i64 0, .int .i64 0, .int .i64 0, .string ⟨#[]⟩, .slice none 0 0] 26)).alloc (by simp) (.cells #[.int .i64 0, .int .i64 0, .int .i64 0, .int .i64 0, .int .i64 0, .string ⟨#[]⟩, .slice none 0 0] 26)
 have R : Bo ((w.alloc (.cells #[.int .i64 0, .int .i64 0, .int .i64 0, .int .i64 0, .int .i64 0, .string ⟨#[]⟩, .slice none 0 0] 26)).alloc (.cells #[.int .i64 0, .int .i64 0, .int .i64 0, .int .i64 0, .int .i64 0, .string ⟨#[]⟩, .slice none 0 0] 26)) w.heap.size #[.int .i64 0, .int .i64 0, .int .i64 0, .int .i64 0, .int .i64 0, .string ⟨#[]⟩, .slice none 0 0] := (Bo.new w #[.int .i64 0, .int .i64 0, .int .i64 0, .int .i64 0, .int .i64 0, .string ⟨#[]⟩, .slice none 0 0] 26).below (Below.nw _ _)
 have O : Bo ((w.alloc (.cells #[.int .i64 0, .int .i64 0, .int .i64 0, .int .i64 0, .int .i64 0, .string ⟨#[]⟩, .slice none 0 0] 26)).alloc (.cells #[.int .i64 0, .int .i64 0, .int .i64 0, .int .i64 0, .int .i64 0, .string ⟨#[]⟩, .slice none 0 0] 26)) (w.heap.size + 1) #[.int .i64 0, .int .i64 0, .int .i64 0, .int .i64 0, .int .i64 0, .string ⟨#[]⟩, .slice none 0 0] := by
  have := Bo.new (w.alloc (.cells #[.int .i64 0, .int .i64 0, .int .i64 0, .int .i64 0, .int .i64 0, .string ⟨#[]⟩, .slice none 0 0] 26)) #[.int .i64 0, .int .i64 0, .int .i64 0, .int .i64 0, .int .i64 0, .string ⟨#[]⟩, .slice none 0 0] 26
  simpa using this
 have hst : (storeCells ⟨w.heap.size + 1, 0, none⟩ [.int .i64 2, .int .i64 0, .int .i64 0, .int .i64 0, .int .i64 0, .string t, .slice none 0 0] 0).run Tryz.prog ((w.alloc (.cells #[.int .i64 0, .int .i64 0, .int .i64 0, .int .i64 0, .int .i64 0, .string ⟨#[]⟩, .slice none 0 0] 26)).alloc (.cells #[.int .i64 0, .int .i64 0, .int .i64 0, .int .i64 0, .int .i64 0, .string ⟨#[]⟩, .slice none 0 0] 26)) = .ok () (putA ((w.alloc (.cells #[.int .i64 0, .int .i64 0, .int .i64 0, .int .i64 0, .int .i64 0, .string ⟨#[]⟩, .slice none 0 0] 26)).alloc (.cells #[.int .i64 0, .int .i64 0, .int .i64 0, .int .i64 0, .int .i64 0, .string ⟨#[]⟩, .slice none 0 0] 26)) (w.heap.size + 1) 0 [.int .i64 2, .int .i64 0, .int .i64 0, .int .i64 0, .int .i64 0, .string t, .slice none 0 0]) := Bo.store (P := Tryz.prog) (b := 0) _ 0 0 O rfl (by simp) (opV_one ⟨2, 0, 0, 0, 0, t, 0, fun _ => 0⟩ none 0)
 replace O : Bo (putA ((w.alloc (.cells #[.int .i64 0, .int .i64 0, .int .i64 0, .int .i64 0, .int .i64 0, .string ⟨#[]⟩, .slice none 0 0] 26)).alloc (.cells #[.int .i64 0, .int .i64 0, .int .i64 0, .int .i64 0, .int .i64 0, .string ⟨#[]⟩, .slice none 0 0] 26)) (w.heap.size + 1) 0 [.int .i64 2, .int .i64 0, .int .i64 0, .int .i64 0, .int .i64 0, .string t, .slice none 0 0]) (w.heap.size + 1) #[.int .i64 2, .int .i64 0, .int .i64 0, .int .i64 0, .int .i64 0, .string t, .slice none 0 0] := O.putW (U := #[.int .i64 2, .int .i64 0, .int .i64 0, .int .i64 0, .int .i64 0, .string t, .slice none 0 0]) rfl
 have b1 : Below (w.heap.size + 1) ((w.alloc (.cells #[.int .i64 0, .int .i64 0, .int .i64 0, .int .i64 0, .int .i64 0, .string ⟨#[]⟩, .slice none 0 0] 26)).alloc (.cells #[.int .i64 0, .int .i64 0, .int .i64 0, .int .i64 0, .int .i64 0, .string ⟨#[]⟩, .slice none 0 0] 26)) (putA ((w.alloc (.cells #[.int .i64 0, .int .i64 0, .int .i64 0, .int .i64 0, .int .i64 0, .string ⟨#[]⟩, .slice none 0 0] 26)).alloc (.cells #[.int .i64 0, .int .i64 0, .int .i64 0, .int .i64 0, .int .i64 0, .string ⟨#[]⟩, .slice none 0 0] 26)) (w.heap.size + 1) 0 [.int .i64 2, .int .i64 0, .int .i64 0, .int .i64 0, .int .i64 0, .string t, .slice none 0 0]) := putA_below _ _ _ 0 (Below.refl _ _) (Nat.le_refl _)
 replace R := R.belowB b1 (Nat.lt_succ_self _)
 replace B := B.trans (b1.mono (Nat.le_succ _))
 clear b1
 go_enter Tryz.func40, Tryz.ntmps40
 go_upto_region 2 with (rw [hst])
 clear hst
 have C2 := C.below B C.1
 generalize putA ((w.alloc (.cells #[.int .i64 0, .int .i64 0, .int .i64 0, .int .i64 0, .int .i64 0, .string ⟨#[]⟩, .slice none 0 0] 26)).alloc (.cells #[.int .i64 0, .int .i64 0, .int .i64 0, .int .i64 0, .int .i64 0, .string ⟨#[]⟩, .slice none 0 0] 26)) (w.heap.size + 1) 0 [.int .i64 2, .int .i64 0, .int .i64 0, .int .i64 0, .int .i64 0, .string t, .slice none 0 0] = v2 at *
 have hg : g < w.heap.size := C.1
 have n0 : v2.cell? ⟨g, 0, none⟩ = some (.int .i64 (gI L 0)) := by have q := C2.2 0 (by omega); rwa [Nat.zero_add] at q
 have i0 : (0 : Int) < (L.length : Int) := by omega
 have hs1 : (storeCells ⟨w.heap.size + 1, 1, none⟩ [.int .i64 (gI L 0)] 0).run Tryz.prog v2 = .ok () (v2.setCell ⟨w.heap.size + 1, 1, none⟩ (.int .i64 (gI L 0))) := Bo.store (P := Tryz.prog) (b := 1) [.int .i64 (gI L 0)] 1 0 O rfl (by simp) (by intro u hu; simp at hu; subst hu; rfl)
 replace O : Bo (v2.setCell ⟨w.heap.size + 1, 1, none⟩ (.int .i64 (gI L 0))) (w.heap.size + 1) #[.int .i64 2, .int .i64 (gI L 0), .int .i64 0, .int .i64 0, .int .i64 0, .string t, .slice none 0 0] := O.set 1 (.int .i64 (gI L 0))
 have b1 : Below (w.heap.size + 1) v2 (v2.setCell ⟨w.heap.size + 1, 1, none⟩ (.int .i64 (gI L 0))) := (Below.refl _ _).setCell (p := ⟨w.heap.size + 1, 1, none⟩) (Nat.le_refl _) _
 replace R := R.belowB b1 (Nat.lt_succ_self _)
 replace B := B.trans (b1.mono (Nat.le_succ _))
 replace C2 : Cs (v2.setCell ⟨w.heap.size + 1, 1, none⟩ (.int .i64 (gI L 0))) g 0 L.length (itG (gI L)) := C2.below b1 (Nat.lt_succ_of_lt hg)
 clear b1
 clear C C2
 go_upto_region 25 with (first | rw [hs1])
 clear n0 i0 hs1
 generalize (v2.setCell ⟨w.heap.size + 1, 1, none⟩ (.int .i64 (gI L 0))) = v3 at *
 have hL := O.load (P := Tryz.prog) (n := 7) rfl
 have hst : (storeCells ⟨w.heap.size, 0, none⟩ [.int .i64 2, .int .i64 (gI L 0), .int .i64 0, .int .i64 0, .int .i64 0, .string t, .slice none 0 0] 0).run Tryz.prog v3 = .ok () (putA v3 w.heap.size 0 [.int .i64 2, .int .i64 (gI L 0), .int .i64 0, .int .i64 0, .int .i64 0, .string t, .slice none 0 0]) := Bo.store (P := Tryz.prog) (b := 0) _ 0 0 R rfl (by simp) (opV_one (opZ 2 L t) none 0)
 replace R : Bo (putA v3 w.heap.size 0 [.int .i64 2, .int .i64 (gI L 0), .int .i64 0, .int .i64 0, .int .i64 0, .string t, .slice none 0 0]) w.heap.size #[.int .i64 2, .int .i64 (gI L 0), .int .i64 0, .int .i64 0, .int .i64 0, .string t, .slice none 0 0] := R.putW (U := #[.int .i64 2, .int .i64 (gI L 0), .int .i64 0, .int .i64 0, .int .i64 0, .string t, .slice none 0 0]) rfl
 replace B := putA_below (k := w.heap.size) [.int .i64 2, .int .i64 (gI L 0), .int .i64 0, .int .i64 0, .int .i64 0, .string t, .slice none 0 0] w v3 0 B (Nat.le_refl _)
 clear O
 go_wp2_with (first | rw [hL] | rw [hst])
 clear hL hst
 generalize putA v3 w.heap.size 0 [.int .i64 2, .int .i64 (gI L 0), .int .i64 0, .int .i64 0, .int .i64 0, .string t, .slice none 0 0] = v4 at *
 have hL := R.load (P := Tryz.prog) (n := 7) rfl
 (try simp only [Exit.inBlock, Exit.then])
 exact bodyPost_ret (v := .agg #[.int .i64 2, .int .i64 (gI L 0), .int .i64 0, .int .i64 0, .int .i64 0, .string t, .slice none 0 0]) (by simp [results, Tryz.results40, go_sem]; rw [hL]; rfl) rfl ⟨none, 0, rfl, .inl ⟨rfl, rfl, rfl⟩, B⟩
attribute [-go_sem] loadCells storeCells in
set_option maxHeartbeats 4000000 in
set_option maxRecDepth 100000 in
theorem specOp_3 (L : List Int) (t : ByteArray) (g cap : Nat) (w : World) (hl : 1 ≤ L.length) (hc : L.length ≤ 1000) (C : Cs w g 0 L.length (itG (gI L))) :
 Calls Tryz.prog 40 #[.int .i64 3, .slice (some ⟨g, 0, none⟩) L.length cap, .string t] w fun e w' => ∃ p c, e = .returned (.agg (opV (opZ 3 L t) p c)) ∧ LsA w' w.heap.size p (opZ 3 L t).n c (opZ 3 L t).f ∧ Below w.heap.size w w' := by
 have B := (Below.nw w (.cells #[.int .i64 0, .int .i64 0, .int .i64 0, .int .i64 0, .int .i64 0, .string ⟨#[]⟩, .slice none 0 0] 26)).alloc (by simp) (.cells #[.int .i64 0, .int .i64 0, .int .i64 0, .int .i64 0, .int .i64 0, .string ⟨#[]⟩, .slice none 0 0] 26)
 have R : Bo ((w.alloc (.cells #[.int .i64 0, .int .i64 0, .int .i64 0, .int .i64 0, .int .i64 0, .string ⟨#[]⟩, .slice none 0 0] 26)).alloc (.cells #[.int .i64 0, .int .i64 0, .int .i64 0, .int .i64 0, .int .i64 0, .string ⟨#[]⟩, .slice none 0 0] 26)) w.heap.size #[.int .i64 0, .int .i64 0, .int .i64 0, .int .i64 0, .int .i64 0, .string ⟨#[]⟩, .slice none 0 0] := (Bo.new w #[.int .i64 0, .int .i64 0, .int .i64 0, .int .i64 0, .int .i64 0, .string ⟨#[]⟩, .slice none 0 0] 26).below (Below.nw _ _)
 have O : Bo ((w.alloc (.cells #[.int .i64 0, .int .i64 0, .int .i64 0, .int .i64 0, .int .i64 0, .string ⟨#[]⟩, .slice none 0 0] 26)).alloc (.cells #[.int .i64 0, .int .i64 0, .int .i64 0, .int .i64 0, .int .i64 0, .string ⟨#[]⟩, .slice none 0 0] 26)) (w.heap.size + 1) #[.int .i64 0, .int .i64 0, .int .i64 0, .int .i64 0, .int .i64 0, .string ⟨#[]⟩, .slice none 0 0] := by
  have := Bo.new (w.alloc (.cells #[.int .i64 0, .int .i64 0, .int .i64 0, .int .i64 0, .int .i64 0, .string ⟨#[]⟩, .slice none 0 0] 26)) #[.int .i64 0, .int .i64 0, .int .i64 0, .int .i64 0, .int .i64 0, .string ⟨#[]⟩, .slice none 0 0] 26
  simpa using this
 have hst : (storeCells ⟨w.heap.size + 1, 0, none⟩ [.int .i64 3, .int .i64 0, .int .i64 0, .int .i64 0, .int .i64 0, .string t, .slice none 0 0] 0).run Tryz.prog ((w.alloc (.cells #[.int .i64 0, .int .i64 0, .int .i64 0, .int .i64 0, .int .i64 0, .string ⟨#[]⟩, .slice none 0 0] 26)).alloc (.cells #[.int .i64 0, .int .i64 0, .int .i64 0, .int .i64 0, .int .i64 0, .string ⟨#[]⟩, .slice none 0 0] 26)) = .ok () (putA ((w.alloc (.cells #[.int .i64 0, .int .i64 0, .int .i64 0, .int .i64 0, .int .i64 0, .string ⟨#[]⟩, .slice none 0 0] 26)).alloc (.cells #[.int .i64 0, .int .i64 0, .int .i64 0, .int .i64 0, .int .i64 0, .string ⟨#[]⟩, .slice none 0 0] 26)) (w.heap.size + 1) 0 [.int .i64 3, .int .i64 0, .int .i64 0, .int .i64 0, .int .i64 0, .string t, .slice none 0 0]) := Bo.store (P := Tryz.prog) (b := 0) _ 0 0 O rfl (by simp) (opV_one ⟨3, 0, 0, 0, 0, t, 0, fun _ => 0⟩ none 0)
 replace O : Bo (putA ((w.alloc (.cells #[.int .i64 0, .int .i64 0, .int .i64 0, .int .i64 0, .int .i64 0, .string ⟨#[]⟩, .slice none 0 0] 26)).alloc (.cells #[.int .i64 0, .int .i64 0, .int .i64 0, .int .i64 0, .int .i64 0, .string ⟨#[]⟩, .slice none 0 0] 26)) (w.heap.size + 1) 0 [.int .i64 3, .int .i64 0, .int .i64 0, .int .i64 0, .int .i64 0, .string t, .slice none 0 0]) (w.heap.size + 1) #[.int .i64 3, .int .i64 0, .int .i64 0, .int .i64 0, .int .i64 0, .string t, .slice none 0 0] := O.putW (U := #[.int .i64 3, .int .i64 0, .int .i64 0, .int .i64 0, .int .i64 0, .string t, .slice none 0 0]) rfl
 have b1 : Below (w.heap.size + 1) ((w.alloc (.cells #[.int .i64 0, .int .i64 0, .int .i64 0, .int .i64 0, .int .i64 0, .string ⟨#[]⟩, .slice none 0 0] 26)).alloc (.cells #[.int .i64 0, .int .i64 0, .int .i64 0, .int .i64 0, .int .i64 0, .string ⟨#[]⟩, .slice none 0 0] 26)) (putA ((w.alloc (.cells #[.int .i64 0, .int .i64 0, .int .i64 0, .int .i64 0, .int .i64 0, .string ⟨#[]⟩, .slice none 0 0] 26)).alloc (.cells #[.int .i64 0, .int .i64 0, .int .i64 0, .int .i64 0, .int .i64 0, .string ⟨#[]⟩, .slice none 0 0] 26)) (w.heap.size + 1) 0 [.int .i64 3, .int .i64 0, .int .i64 0, .int .i64 0, .int .i64 0, .string t, .slice none 0 0]) := putA_below _ _ _ 0 (Below.refl _ _) (Nat.le_refl _)
 replace R := R.belowB b1 (Nat.lt_succ_self _)
 replace B := B.trans (b1.mono (Nat.le_succ _))
 clear b1
 go_enter Tryz.func40, Tryz.ntmps40
 go_upto_region 2 with (rw [hst])
 clear hst
 have C2 := C.below B C.1
 generalize putA ((w.alloc (.cells #[.int .i64 0, .int .i64 0, .int .i64 0, .int .i64 0, .int .i64 0, .string ⟨#[]⟩, .slice none 0 0] 26)).alloc (.cells #[.int .i64 0, .int .i64 0, .int .i64 0, .int .i64 0, .int .i64 0, .string ⟨#[]⟩, .slice none 0 0] 26)) (w.heap.size + 1) 0 [.int .i64 3, .int .i64 0, .int .i64 0, .int .i64 0, .int .i64 0, .string t, .slice none 0 0] = v2 at *
 have hg : g < w.heap.size := C.1
 have n0 : v2.cell? ⟨g, 0, none⟩ = some (.int .i64 (gI L 0)) := by have q := C2.2 0 (by omega); rwa [Nat.zero_add] at q
 have i0 : (0 : Int) < (L.length : Int) := by omega
 have hs1 : (storeCells ⟨w.heap.size + 1, 1, none⟩ [.int .i64 (gI L 0)] 0).run Tryz.prog v2 = .ok () (v2.setCell ⟨w.heap.size + 1, 1, none⟩ (.int .i64 (gI L 0))) := Bo.store (P := Tryz.prog) (b := 1) [.int .i64 (gI L 0)] 1 0 O rfl (by simp) (by intro u hu; simp at hu; subst hu; rfl)
 replace O : Bo (v2.setCell ⟨w.heap.size + 1, 1, none⟩ (.int .i64 (gI L 0))) (w.heap.size + 1) #[.int .i64 3, .int .i64 (gI L 0), .int .i64 0, .int .i64 0, .int .i64 0, .string t, .slice none 0 0] := O.set 1 (.int .i64 (gI L 0))
 have b1 : Below (w.heap.size + 1) v2 (v2.setCell ⟨w.heap.size + 1, 1, none⟩ (.int .i64 (gI L 0))) := (Below.refl _ _).setCell (p := ⟨w.heap.size + 1, 1, none⟩) (Nat.le_refl _) _
 replace R := R.belowB b1 (Nat.lt_succ_self _)
 replace B := B.trans (b1.mono (Nat.le_succ _))
 replace C2 : Cs (v2.setCell ⟨w.heap.size + 1, 1, none⟩ (.int .i64 (gI L 0))) g 0 L.length (itG (gI L)) := C2.below b1 (Nat.lt_succ_of_lt hg)
 clear b1
 clear C C2
 go_upto_region 25 with (first | rw [hs1])
 clear n0 i0 hs1
 generalize (v2.setCell ⟨w.heap.size + 1, 1, none⟩ (.int .i64 (gI L 0))) = v3 at *
 have hL := O.load (P := Tryz.prog) (n := 7) rfl
 have hst : (storeCells ⟨w.heap.size, 0, none⟩ [.int .i64 3, .int .i64 (gI L 0), .int .i64 0, .int .i64 0, .int .i64 0, .string t, .slice none 0 0] 0).run Tryz.prog v3 = .ok () (putA v3 w.heap.size 0 [.int .i64 3, .int .i64 (gI L 0), .int .i64 0, .int .i64 0, .int .i64 0, .string t, .slice none 0 0]) := Bo.store (P := Tryz.prog) (b := 0) _ 0 0 R rfl (by simp) (opV_one (opZ 3 L t) none 0)
 replace R : Bo (putA v3 w.heap.size 0 [.int .i64 3, .int .i64 (gI L 0), .int .i64 0, .int .i64 0, .int .i64 0, .string t, .slice none 0 0]) w.heap.size #[.int .i64 3, .int .i64 (gI L 0), .int .i64 0, .int .i64 0, .int .i64 0, .string t, .slice none 0 0] := R.putW (U := #[.int .i64 3, .int .i64 (gI L 0), .int .i64 0, .int .i64 0, .int .i64 0, .string t, .slice none 0 0]) rfl
 replace B := putA_below (k := w.heap.size) [.int .i64 3, .int .i64 (gI L 0), .int .i64 0, .int .i64 0, .int .i64 0, .string t, .slice none 0 0] w v3 0 B (Nat.le_refl _)
 clear O
 go_wp2_with (first | rw [hL] | rw [hst])
 clear hL hst
 generalize putA v3 w.heap.size 0 [.int .i64 3, .int .i64 (gI L 0), .int .i64 0, .int .i64 0, .int .i64 0, .string t, .slice none 0 0] = v4 at *
 have hL := R.load (P := Tryz.prog) (n := 7) rfl
 (try simp only [Exit.inBlock, Exit.then])
 exact bodyPost_ret (v := .agg #[.int .i64 3, .int .i64 (gI L 0), .int .i64 0, .int .i64 0, .int .i64 0, .string t, .slice none 0 0]) (by simp [results, Tryz.results40, go_sem]; rw [hL]; rfl) rfl ⟨none, 0, rfl, .inl ⟨rfl, rfl, rfl⟩, B⟩
attribute [-go_sem] loadCells storeCells in
set_option maxHeartbeats 4000000 in
set_option maxRecDepth 100000 in
theorem specOp_6 (L : List Int) (t : ByteArray) (g cap : Nat) (w : World) (hl : 1 ≤ L.length) (hc : L.length ≤ 1000) (C : Cs w g 0 L.length (itG (gI L))) :
 Calls Tryz.prog 40 #[.int .i64 6, .slice (some ⟨g, 0, none⟩) L.length cap, .string t] w fun e w' => ∃ p c, e = .returned (.agg (opV (opZ 6 L t) p c)) ∧ LsA w' w.heap.size p (opZ 6 L t).n c (opZ 6 L t).f ∧ Below w.heap.size w w' := by
 have B := (Below.nw w (.cells #[.int .i64 0, .int .i64 0, .int .i64 0, .int .i64 0, .int .i64 0, .string ⟨#[]⟩, .slice none 0 0] 26)).alloc (by simp) (.cells #[.int .i64 0, .int .i64 0, .int .i64 0, .int .i64 0, .int .i64 0, .string ⟨#[]⟩, .slice none 0 0] 26)
 have R : Bo ((w.alloc (.cells #[.int .i64 0, .int .i64 0, .int .i64 0, .int .i64 0, .int .i64 0, .string ⟨#[]⟩, .slice none 0 0] 26)).alloc (.cells #[.int .i64 0, .int .i64 0, .int .i64 0, .int .i64 0, .int .i64 0, .string ⟨#[]⟩, .slice none 0 0] 26)) w.heap.size #[.int .i64 0, .int .i64 0, .int .i64 0, .int .i64 0, .int .i64 0, .string ⟨#[]⟩, .slice none 0 0] := (Bo.new w #[.int .i64 0, .int .i64 0, .int .i64 0, .int .i64 0, .int .i64 0, .string ⟨#[]⟩, .slice none 0 0] 26).below (Below.nw _ _)
 have O : Bo ((w.alloc (.cells #[.int .i64 0, .int .i64 0, .int .i64 0, .int .i64 0, .int .i64 0, .string ⟨#[]⟩, .slice none 0 0] 26)).alloc (.cells #[.int .i64 0, .int .i64 0, .int .i64 0, .int .i64 0, .int .i64 0, .string ⟨#[]⟩, .slice none 0 0] 26)) (w.heap.size + 1) #[.int .i64 0, .int .i64 0, .int .i64 0, .int .i64 0, .int .i64 0, .string ⟨#[]⟩, .slice none 0 0] := by
  have := Bo.new (w.alloc (.cells #[.int .i64 0, .int .i64 0, .int .i64 0, .int .i64 0, .int .i64 0, .string ⟨#[]⟩, .slice none 0 0] 26)) #[.int .i64 0, .int .i64 0, .int .i64 0, .int .i64 0, .int .i64 0, .string ⟨#[]⟩, .slice none 0 0] 26
  simpa using this
 have hst : (storeCells ⟨w.heap.size + 1, 0, none⟩ [.int .i64 6, .int .i64 0, .int .i64 0, .int .i64 0, .int .i64 0, .string t, .slice none 0 0] 0).run Tryz.prog ((w.alloc (.cells #[.int .i64 0, .int .i64 0, .int .i64 0, .int .i64 0, .int .i64 0, .string ⟨#[]⟩, .slice none 0 0] 26)).alloc (.cells #[.int .i64 0, .int .i64 0, .int .i64 0, .int .i64 0, .int .i64 0, .string ⟨#[]⟩, .slice none 0 0] 26)) = .ok () (putA ((w.alloc (.cells #[.int .i64 0, .int .i64 0, .int .i64 0, .int .i64 0, .int .i64 0, .string ⟨#[]⟩, .slice none 0 0] 26)).alloc (.cells #[.int .i64 0, .int .i64 0, .int .i64 0, .int .i64 0, .int .i64 0, .string ⟨#[]⟩, .slice none 0 0] 26)) (w.heap.size + 1) 0 [.int .i64 6, .int .i64 0, .int .i64 0, .int .i64 0, .int .i64 0, .string t, .slice none 0 0]) := Bo.store (P := Tryz.prog) (b := 0) _ 0 0 O rfl (by simp) (opV_one ⟨6, 0, 0, 0, 0, t, 0, fun _ => 0⟩ none 0)
 replace O : Bo (putA ((w.alloc (.cells #[.int .i64 0, .int .i64 0, .int .i64 0, .int .i64 0, .int .i64 0, .string ⟨#[]⟩, .slice none 0 0] 26)).alloc (.cells #[.int .i64 0, .int .i64 0, .int .i64 0, .int .i64 0, .int .i64 0, .string ⟨#[]⟩, .slice none 0 0] 26)) (w.heap.size + 1) 0 [.int .i64 6, .int .i64 0, .int .i64 0, .int .i64 0, .int .i64 0, .string t, .slice none 0 0]) (w.heap.size + 1) #[.int .i64 6, .int .i64 0, .int .i64 0, .int .i64 0, .int .i64 0, .string t, .slice none 0 0] := O.putW (U := #[.int .i64 6, .int .i64 0, .int .i64 0, .int .i64 0, .int .i64 0, .string t, .slice none 0 0]) rfl
 have b1 : Below (w.heap.size + 1) ((w.alloc (.cells #[.int .i64 0, .int .i64 0, .int .i64 0, .int .i64 0, .int .i64 0, .string ⟨#[]⟩, .slice none 0 0] 26)).alloc (.cells #[.int .i64 0, .int .i64 0, .int .i64 0, .int .i64 0, .int .i64 0, .string ⟨#[]⟩, .slice none 0 0] 26)) (putA ((w.alloc (.cells #[.int .i64 0, .int .i64 0, .int .i64 0, .int .i64 0, .int .i64 0, .string ⟨#[]⟩, .slice none 0 0] 26)).alloc (.cells #[.int .i64 0, .int .i64 0, .int .i64 0, .int .i64 0, .int .i64 0, .string ⟨#[]⟩, .slice none 0 0] 26)) (w.heap.size + 1) 0 [.int .i64 6, .int .i64 0, .int .i64 0, .int .i64 0, .int .i64 0, .string t, .slice none 0 0]) := putA_below _ _ _ 0 (Below.refl _ _) (Nat.le_refl _)
 replace R := R.belowB b1 (Nat.lt_succ_self _)
 replace B := B.trans (b1.mono (Nat.le_succ _))
 clear b1
 go_enter Tryz.func40, Tryz.ntmps40
 go_upto_region 2 with (rw [hst])
 clear hst
 have C2 := C.below B C.1
 generalize putA ((w.alloc (.cells #[.int .i64 0, .int .i64 0, .int .i64 0, .int .i64 0, .int .i64 0, .string ⟨#[]⟩, .slice none 0 0] 26)).alloc (.cells #[.int .i64 0, .int .i64 0, .int .i64 0, .int .i64 0, .int .i64 0, .string ⟨#[]⟩, .slice none 0 0] 26)) (w.heap.size + 1) 0 [.int .i64 6, .int .i64 0, .int .i64 0, .int .i64 0, .int .i64 0, .string t, .slice none 0 0] = v2 at *
 have hg : g < w.heap.size := C.1
 have n0 : v2.cell? ⟨g, 0, none⟩ = some (.int .i64 (gI L 0)) := by have q := C2.2 0 (by omega); rwa [Nat.zero_add] at q
 have i0 : (0 : Int) < (L.length : Int) := by omega
 have hs1 : (storeCells ⟨w.heap.size + 1, 1, none⟩ [.int .i64 (gI L 0)] 0).run Tryz.prog v2 = .ok () (v2.setCell ⟨w.heap.size + 1, 1, none⟩ (.int .i64 (gI L 0))) := Bo.store (P := Tryz.prog) (b := 1) [.int .i64 (gI L 0)] 1 0 O rfl (by simp) (by intro u hu; simp at hu; subst hu; rfl)
 replace O : Bo (v2.setCell ⟨w.heap.size + 1, 1, none⟩ (.int .i64 (gI L 0))) (w.heap.size + 1) #[.int .i64 6, .int .i64 (gI L 0), .int .i64 0, .int .i64 0, .int .i64 0, .string t, .slice none 0 0] := O.set 1 (.int .i64 (gI L 0))
 have b1 : Below (w.heap.size + 1) v2 (v2.setCell ⟨w.heap.size + 1, 1, none⟩ (.int .i64 (gI L 0))) := (Below.refl _ _).setCell (p := ⟨w.heap.size + 1, 1, none⟩) (Nat.le_refl _) _
 replace R := R.belowB b1 (Nat.lt_succ_self _)
 replace B := B.trans (b1.mono (Nat.le_succ _))
 replace C2 : Cs (v2.setCell ⟨w.heap.size + 1, 1, none⟩ (.int .i64 (gI L 0))) g 0 L.length (itG (gI L)) := C2.below b1 (Nat.lt_succ_of_lt hg)
 clear b1
 clear C C2
 go_upto_region 25 with (first | rw [hs1])
 clear n0 i0 hs1
 generalize (v2.setCell ⟨w.heap.size + 1, 1, none⟩ (.int .i64 (gI L 0))) = v3 at *
 have hL := O.load (P := Tryz.prog) (n := 7) rfl
 have hst : (storeCells ⟨w.heap.size, 0, none⟩ [.int .i64 6, .int .i64 (gI L 0), .int .i64 0, .int .i64 0, .int .i64 0, .string t, .slice none 0 0] 0).run Tryz.prog v3 = .ok () (putA v3 w.heap.size 0 [.int .i64 6, .int .i64 (gI L 0), .int .i64 0, .int .i64 0, .int .i64 0, .string t, .slice none 0 0]) := Bo.store (P := Tryz.prog) (b := 0) _ 0 0 R rfl (by simp) (opV_one (opZ 6 L t) none 0)
 replace R : Bo (putA v3 w.heap.size 0 [.int .i64 6, .int .i64 (gI L 0), .int .i64 0, .int .i64 0, .int .i64 0, .string t, .slice none 0 0]) w.heap.size #[.int .i64 6, .int .i64 (gI L 0), .int .i64 0, .int .i64 0, .int .i64 0, .string t, .slice none 0 0] := R.putW (U := #[.int .i64 6, .int .i64 (gI L 0), .int .i64 0, .int .i64 0, .int .i64 0, .string t, .slice none 0 0]) rfl
 replace B := putA_below (k := w.heap.size) [.int .i64 6, .int .i64 (gI L 0), .int .i64 0, .int .i64 0, .int .i64 0, .string t, .slice none 0 0] w v3 0 B (Nat.le_refl _)
 clear O
 go_wp2_with (first | rw [hL] | rw [hst])
 clear hL hst
 generalize putA v3 w.heap.size 0 [.int .i64 6, .int .i64 (gI L 0), .int .i64 0, .int .i64 0, .int .i64 0, .string t, .slice none 0 0] = v4 at *
 have hL := R.load (P := Tryz.prog) (n := 7) rfl
 (try simp only [Exit.inBlock, Exit.then])
 exact bodyPost_ret (v := .agg #[.int .i64 6, .int .i64 (gI L 0), .int .i64 0, .int .i64 0, .int .i64 0, .string t, .slice none 0 0]) (by simp [results, Tryz.results40, go_sem]; rw [hL]; rfl) rfl ⟨none, 0, rfl, .inl ⟨rfl, rfl, rfl⟩, B⟩
attribute [-go_sem] loadCells storeCells in
set_option maxHeartbeats 4000000 in
set_option maxRecDepth 100000 in
theorem specOp_7 (L : List Int) (t : ByteArray) (g cap : Nat) (w : World) (hl : 1 ≤ L.length) (hc : L.length ≤ 1000) (C : Cs w g 0 L.length (itG (gI L))) :
 Calls Tryz.prog 40 #[.int .i64 7, .slice (some ⟨g, 0, none⟩) L.length cap, .string t] w fun e w' => ∃ p c, e = .returned (.agg (opV (opZ 7 L t) p c)) ∧ LsA w' w.heap.size p (opZ 7 L t).n c (opZ 7 L t).f ∧ Below w.heap.size w w' := by
 have B := (Below.nw w (.cells #[.int .i64 0, .int .i64 0, .int .i64 0, .int .i64 0, .int .i64 0, .string ⟨#[]⟩, .slice none 0 0] 26)).alloc (by simp) (.cells #[.int .i64 0, .int .i64 0, .int .i64 0, .int .i64 0, .int .i64 0, .string ⟨#[]⟩, .slice none 0 0] 26)
 have R : Bo ((w.alloc (.cells #[.int .i64 0, .int .i64 0, .int .i64 0, .int .i64 0, .int .i64 0, .string ⟨#[]⟩, .slice none 0 0] 26)).alloc (.cells #[.int .i64 0, .int .i64 0, .int .i64 0, .int .i64 0, .int .i64 0, .string ⟨#[]⟩, .slice none 0 0] 26)) w.heap.size #[.int .i64 0, .int .i64 0, .int .i64 0, .int .i64 0, .int .i64 0, .string ⟨#[]⟩, .slice none 0 0] := (Bo.new w #[.int .i64 0, .int .i64 0, .int .i64 0, .int .i64 0, .int .i64 0, .string ⟨#[]⟩, .slice none 0 0] 26).below (Below.nw _ _)
 have O : Bo ((w.alloc (.cells #[.int .i64 0, .int .i64 0, .int .i64 0, .int .i64 0, .int .i64 0, .string ⟨#[]⟩, .slice none 0 0] 26)).alloc (.cells #[.int .i64 0, .int .i64 0, .int .i64 0, .int .i64 0, .int .i64 0, .string ⟨#[]⟩, .slice none 0 0] 26)) (w.heap.size + 1) #[.int .i64 0, .int .i64 0, .int .i64 0, .int .i64 0, .int .i64 0, .string ⟨#[]⟩, .slice none 0 0] := by
  have := Bo.new (w.alloc (.cells #[.int .i64 0, .int .i64 0, .int .i64 0, .int .i64 0, .int .i64 0, .string ⟨#[]⟩, .slice none 0 0] 26)) #[.int .i64 0, .int .i64 0, .int .i64 0, .int .i64 0, .int .i64 0, .string ⟨#[]⟩, .slice none 0 0] 26
  simpa using this
 have hst : (storeCells ⟨w.heap.size + 1, 0, none⟩ [.int .i64 7, .int .i64 0, .int .i64 0, .int .i64 0, .int .i64 0, .string t, .slice none 0 0] 0).run Tryz.prog ((w.alloc (.cells #[.int .i64 0, .int .i64 0, .int .i64 0, .int .i64 0, .int .i64 0, .string ⟨#[]⟩, .slice none 0 0] 26)).alloc (.cells #[.int .i64 0, .int .i64 0, .int .i64 0, .int .i64 0, .int .i64 0, .string ⟨#[]⟩, .slice none 0 0] 26)) = .ok () (putA ((w.alloc (.cells #[.int .i64 0, .int .i64 0, .int .i64 0, .int .i64 0, .int .i64 0, .string ⟨#[]⟩, .slice none 0 0] 26)).alloc (.cells #[.int .i64 0, .int .i64 0, .int .i64 0, .int .i64 0, .int .i64 0, .string ⟨#[]⟩, .slice none 0 0] 26)) (w.heap.size + 1) 0 [.int .i64 7, .int .i64 0, .int .i64 0, .int .i64 0, .int .i64 0, .string t, .slice none 0 0]) := Bo.store (P := Tryz.prog) (b := 0) _ 0 0 O rfl (by simp) (opV_one ⟨7, 0, 0, 0, 0, t, 0, fun _ => 0⟩ none 0)
 replace O : Bo (putA ((w.alloc (.cells #[.int .i64 0, .int .i64 0, .int .i64 0, .int .i64 0, .int .i64 0, .string ⟨#[]⟩, .slice none 0 0] 26)).alloc (.cells #[.int .i64 0, .int .i64 0, .int .i64 0, .int .i64 0, .int .i64 0, .string ⟨#[]⟩, .slice none 0 0] 26)) (w.heap.size + 1) 0 [.int .i64 7, .int .i64 0, .int .i64 0, .int .i64 0, .int .i64 0, .string t, .slice none 0 0]) (w.heap.size + 1) #[.int .i64 7, .int .i64 0, .int .i64 0, .int .i64 0, .int .i64 0, .string t, .slice none 0 0] := O.putW (U := #[.int .i64 7, .int .i64 0, .int .i64 0, .int .i64 0, .int .i64 0, .string t, .slice none 0 0]) rfl
 have b1 : Below (w.heap.size + 1) ((w.alloc (.cells #[.int .i64 0, .int .i64 0, .int .i64 0, .int .i64 0, .int .i64 0, .string ⟨#[]⟩, .slice none 0 0] 26)).alloc (.cells #[.int .i64 0, .int .i64 0, .int .i64 0, .int .i64 0, .int .i64 0, .string ⟨#[]⟩, .slice none 0 0] 26)) (putA ((w.alloc (.cells #[.int .i64 0, .int .i64 0, .int .i64 0, .int .i64 0, .int .i64 0, .string ⟨#[]⟩, .slice none 0 0] 26)).alloc (.cells #[.int .i64 0, .int .i64 0, .int .i64 0, .int .i64 0, .int .i64 0, .string ⟨#[]⟩, .slice none 0 0] 26)) (w.heap.size + 1) 0 [.int .i64 7, .int .i64 0, .int .i64 0, .int .i64 0, .int .i64 0, .string t, .slice none 0 0]) := putA_below _ _ _ 0 (Below.refl _ _) (Nat.le_refl _)
 replace R := R.belowB b1 (Nat.lt_succ_self _)
 replace B := B.trans (b1.mono (Nat.le_succ _))
 clear b1
 go_enter Tryz.func40, Tryz.ntmps40
 go_upto_region 2 with (rw [hst])
 clear hst
 have C2 := C.below B C.1
 generalize putA ((w.alloc (.cells #[.int .i64 0, .int .i64 0, .int .i64 0, .int .i64 0, .int .i64 0, .string ⟨#[]⟩, .slice none 0 0] 26)).alloc (.cells #[.int .i64 0, .int .i64 0, .int .i64 0, .int .i64 0, .int .i64 0, .string ⟨#[]⟩, .slice none 0 0] 26)) (w.heap.size + 1) 0 [.int .i64 7, .int .i64 0, .int .i64 0, .int .i64 0, .int .i64 0, .string t, .slice none 0 0] = v2 at *
 have hg : g < w.heap.size := C.1
 have n0 : v2.cell? ⟨g, 0, none⟩ = some (.int .i64 (gI L 0)) := by have q := C2.2 0 (by omega); rwa [Nat.zero_add] at q
 have i0 : (0 : Int) < (L.length : Int) := by omega
 have hs1 : (storeCells ⟨w.heap.size + 1, 1, none⟩ [.int .i64 (gI L 0)] 0).run Tryz.prog v2 = .ok () (v2.setCell ⟨w.heap.size + 1, 1, none⟩ (.int .i64 (gI L 0))) := Bo.store (P := Tryz.prog) (b := 1) [.int .i64 (gI L 0)] 1 0 O rfl (by simp) (by intro u hu; simp at hu; subst hu; rfl)
 replace O : Bo (v2.setCell ⟨w.heap.size + 1, 1, none⟩ (.int .i64 (gI L 0))) (w.heap.size + 1) #[.int .i64 7, .int .i64 (gI L 0), .int .i64 0, .int .i64 0, .int .i64 0, .string t, .slice none 0 0] := O.set 1 (.int .i64 (gI L 0))
 have b1 : Below (w.heap.size + 1) v2 (v2.setCell ⟨w.heap.size + 1, 1, none⟩ (.int .i64 (gI L 0))) := (Below.refl _ _).setCell (p := ⟨w.heap.size + 1, 1, none⟩) (Nat.le_refl _) _
 replace R := R.belowB b1 (Nat.lt_succ_self _)
 replace B := B.trans (b1.mono (Nat.le_succ _))
 replace C2 : Cs (v2.setCell ⟨w.heap.size + 1, 1, none⟩ (.int .i64 (gI L 0))) g 0 L.length (itG (gI L)) := C2.below b1 (Nat.lt_succ_of_lt hg)
 clear b1
 clear C C2
 go_upto_region 25 with (first | rw [hs1])
 clear n0 i0 hs1
 generalize (v2.setCell ⟨w.heap.size + 1, 1, none⟩ (.int .i64 (gI L 0))) = v3 at *
 have hL := O.load (P := Tryz.prog) (n := 7) rfl
 have hst : (storeCells ⟨w.heap.size, 0, none⟩ [.int .i64 7, .int .i64 (gI L 0), .int .i64 0, .int .i64 0, .int .i64 0, .string t, .slice none 0 0] 0).run Tryz.prog v3 = .ok () (putA v3 w.heap.size 0 [.int .i64 7, .int .i64 (gI L 0), .int .i64 0, .int .i64 0, .int .i64 0, .string t, .slice none 0 0]) := Bo.store (P := Tryz.prog) (b := 0) _ 0 0 R rfl (by simp) (opV_one (opZ 7 L t) none 0)
 replace R : Bo (putA v3 w.heap.size 0 [.int .i64 7, .int .i64 (gI L 0), .int .i64 0, .int .i64 0, .int .i64 0, .string t, .slice none 0 0]) w.heap.size #[.int .i64 7, .int .i64 (gI L 0), .int .i64 0, .int .i64 0, .int .i64 0, .string t, .slice none 0 0] := R.putW (U := #[.int .i64 7, .int .i64 (gI L 0), .int .i64 0, .int .i64 0, .int .i64 0, .string t, .slice none 0 0]) rfl
 replace B := putA_below (k := w.heap.size) [.int .i64 7, .int .i64 (gI L 0), .int .i64 0, .int .i64 0, .int .i64 0, .string t, .slice none 0 0] w v3 0 B (Nat.le_refl _)
 clear O
 go_wp2_with (first | rw [hL] | rw [hst])
 clear hL hst
 generalize putA v3 w.heap.size 0 [.int .i64 7, .int .i64 (gI L 0), .int .i64 0, .int .i64 0, .int .i64 0, .string t, .slice none 0 0] = v4 at *
 have hL := R.load (P := Tryz.prog) (n := 7) rfl
 (try simp only [Exit.inBlock, Exit.then])
 exact bodyPost_ret (v := .agg #[.int .i64 7, .int .i64 (gI L 0), .int .i64 0, .int .i64 0, .int .i64 0, .string t, .slice none 0 0]) (by simp [results, Tryz.results40, go_sem]; rw [hL]; rfl) rfl ⟨none, 0, rfl, .inl ⟨rfl, rfl, rfl⟩, B⟩
attribute [-go_sem] loadCells storeCells in
set_option maxHeartbeats 4000000 in
set_option maxRecDepth 100000 in
theorem specOp_8 (L : List Int) (t : ByteArray) (g cap : Nat) (w : World) (hl : 1 ≤ L.length) (hc : L.length ≤ 1000) (C : Cs w g 0 L.length (itG (gI L))) :
 Calls Tryz.prog 40 #[.int .i64 8, .slice (some ⟨g, 0, none⟩) L.length cap, .string t] w fun e w' => ∃ p c, e = .returned (.agg (opV (opZ 8 L t) p c)) ∧ LsA w' w.heap.size p (opZ 8 L t).n c (opZ 8 L t).f ∧ Below w.heap.size w w' := by
 have B := (Below.nw w (.cells #[.int .i64 0, .int .i64 0, .int .i64 0, .int .i64 0, .int .i64 0, .string ⟨#[]⟩, .slice none 0 0] 26)).alloc (by simp) (.cells #[.int .i64 0, .int .i64 0, .int .i64 0, .int .i64 0, .int .i64 0, .string ⟨#[]⟩, .slice none 0 0] 26)
 have R : Bo ((w.alloc (.cells #[.int .i64 0, .int .i64 0, .int .i64 0, .int .i64 0, .int .i64 0, .string ⟨#[]⟩, .slice none 0 0] 26)).alloc (.cells #[.int .i64 0, .int .i64 0, .int .i64 0, .int .i64 0, .int .i64 0, .string ⟨#[]⟩, .slice none 0 0] 26)) w.heap.size #[.int .i64 0, .int .i64 0, .int .i64 0, .int .i64 0, .int .i64 0, .string ⟨#[]⟩, .slice none 0 0] := (Bo.new w #[.int .i64 0, .int .i64 0, .int .i64 0, .int .i64 0, .int .i64 0, .string ⟨#[]⟩, .slice none 0 0] 26).below (Below.nw _ _)
 have O : Bo ((w.alloc (.cells #[.int .i64 0, .int .i64 0, .int .i64 0, .int .i64 0, .int .i64 0, .string ⟨#[]⟩, .slice none 0 0] 26)).alloc (.cells #[.int .i64 0, .int .i64 0, .int .i64 0, .int .i64 0, .int .i64 0, .string ⟨#[]⟩, .slice none 0 0] 26)) (w.heap.size + 1) #[.int .i64 0, .int .i64 0, .int .i64 0, .int .i64 0, .int .i64 0, .string ⟨#[]⟩, .slice none 0 0] := by
  have := Bo.new (w.alloc (.cells #[.int .i64 0, .int .i64 0, .int .i64 0, .int .i64 0, .int .i64 0, .string ⟨#[]⟩, .slice none 0 0] 26)) #[.int .i64 0, .int .i64 0, .int .i64 0, .int .i64 0, .int .i64 0, .string ⟨#[]⟩, .slice none 0 0] 26
  simpa using this
 have hst : (storeCells ⟨w.heap.size + 1, 0, none⟩ [.int .i64 8, .int .i64 0, .int .i64 0, .int .i64 0, .int .i64 0, .string t, .slice none 0 0] 0).run Tryz.prog ((w.alloc (.cells #[.int .i64 0, .int .i64 0, .int .i64 0, .int .i64 0, .int .i64 0, .string ⟨#[]⟩, .slice none 0 0] 26)).alloc (.cells #[.int .i64 0, .int .i64 0, .int .i64 0, .int .i64 0, .int .i64 0, .string ⟨#[]⟩, .slice none 0 0] 26)) = .ok () (putA ((w.alloc (.cells #[.int .i64 0, .int .i64 0, .int .i64 0, .int .i64 0, .int .i64 0, .string ⟨#[]⟩, .slice none 0 0] 26)).alloc (.cells #[.int .i64 0, .int .i64 0, .int .i64 0, .int .i64 0, .int .i64 0, .string ⟨#[]⟩, .slice none 0 0] 26)) (w.heap.size + 1) 0 [.int .i64 8, .int .i64 0, .int .i64 0, .int .i64 0, .int .i64 0, .string t, .slice none 0 0]) := Bo.store (P := Tryz.prog) (b := 0) _ 0 0 O rfl (by simp) (opV_one ⟨8, 0, 0, 0, 0, t, 0, fun _ => 0⟩ none 0)
 replace O : Bo (putA ((w.alloc (.cells #[.int .i64 0, .int .i64 0, .int .i64 0, .int .i64 0, .int .i64 0, .string ⟨#[]⟩, .slice none 0 0] 26)).alloc (.cells #[.int .i64 0, .int .i64 0, .int .i64 0, .int .i64 0, .int .i64 0, .string ⟨#[]⟩, .slice none 0 0] 26)) (w.heap.size + 1) 0 [.int .i64 8, .int .i64 0, .int .i64 0, .int .i64 0, .int .i64 0, .string t, .slice none 0 0]) (w.heap.size + 1) #[.int .i64 8, .int .i64 0, .int .i64 0, .int .i64 0, .int .i64 0, .string t, .slice none 0 0] := O.putW (U := #[.int .i64 8, .int .i64 0, .int .i64 0, .int .i64 0, .int .i64 0, .string t, .slice none 0 0]) rfl
 have b1 : Below (w.heap.size + 1) ((w.alloc (.cells #[.int .i64 0, .int .i64 0, .int .i64 0, .int .i64 0, .int .i64 0, .string ⟨#[]⟩, .slice none 0 0] 26)).alloc (.cells #[.int .i64 0, .int .i64 0, .int .i64 0, .int .i64 0, .int .i64 0, .string ⟨#[]⟩, .slice none 0 0] 26)) (putA ((w.alloc (.cells #[.int .i64 0, .int .i64 0, .int .i64 0, .int .i64 0, .int .i64 0, .string ⟨#[]⟩, .slice none 0 0] 26)).alloc (.cells #[.int .i64 0, .int .i64 0, .int .i64 0, .int .i64 0, .int .i64 0, .string ⟨#[]⟩, .slice none 0 0] 26)) (w.heap.size + 1) 0 [.int .i64 8, .int .i64 0, .int .i64 0, .int .i64 0, .int .i64 0, .string t, .slice none 0 0]) := putA_below _ _ _ 0 (Below.refl _ _) (Nat.le_refl _)
 replace R := R.belowB b1 (Nat.lt_succ_self _)
 replace B := B.trans (b1.mono (Nat.le_succ _))
 clear b1
 go_enter Tryz.func40, Tryz.ntmps40
 go_upto_region 2 with (rw [hst])
 clear hst
 have C2 := C.below B C.1
 generalize putA ((w.alloc (.cells #[.int .i64 0, .int .i64 0, .int .i64 0, .int .i64 0, .int .i64 0, .string ⟨#[]⟩, .slice none 0 0] 26)).alloc (.cells #[.int .i64 0, .int .i64 0, .int .i64 0, .int .i64 0, .int .i64 0, .string ⟨#[]⟩, .slice none 0 0] 26)) (w.heap.size + 1) 0 [.int .i64 8, .int .i64 0, .int .i64 0, .int .i64 0, .int .i64 0, .string t, .slice none 0 0] = v2 at *
 have hg : g < w.heap.size := C.1
 have n0 : v2.cell? ⟨g, 0, none⟩ = some (.int .i64 (gI L 0)) := by have q := C2.2 0 (by omega); rwa [Nat.zero_add] at q
 have i0 : (0 : Int) < (L.length : Int) := by omega
 have hs1 : (storeCells ⟨w.heap.size + 1, 1, none⟩ [.int .i64 (gI L 0)] 0).run Tryz.prog v2 = .ok () (v2.setCell ⟨w.heap.size + 1, 1, none⟩ (.int .i64 (gI L 0))) := Bo.store (P := Tryz.prog) (b := 1) [.int .i64 (gI L 0)] 1 0 O rfl (by simp) (by intro u hu; simp at hu; subst hu; rfl)
 replace O : Bo (v2.setCell ⟨w.heap.size + 1, 1, none⟩ (.int .i64 (gI L 0))) (w.heap.size + 1) #[.int .i64 8, .int .i64 (gI L 0), .int .i64 0, .int .i64 0, .int .i64 0, .string t, .slice none 0 0] := O.set 1 (.int .i64 (gI L 0))
 have b1 : Below (w.heap.size + 1) v2 (v2.setCell ⟨w.heap.size + 1, 1, none⟩ (.int .i64 (gI L 0))) := (Below.refl _ _).setCell (p := ⟨w.heap.size + 1, 1, none⟩) (Nat.le_refl _) _
 replace R := R.belowB b1 (Nat.lt_succ_self _)
 replace B := B.trans (b1.mono (Nat.le_succ _))
 replace C2 : Cs (v2.setCell ⟨w.heap.size + 1, 1, none⟩ (.int .i64 (gI L 0))) g 0 L.length (itG (gI L)) := C2.below b1 (Nat.lt_succ_of_lt hg)
 clear b1
 clear C C2
 go_upto_region 25 with (first | rw [hs1])
 clear n0 i0 hs1
 generalize (v2.setCell ⟨w.heap.size + 1, 1, none⟩ (.int .i64 (gI L 0))) = v3 at *
 have hL := O.load (P := Tryz.prog) (n := 7) rfl
 have hst : (storeCells ⟨w.heap.size, 0, none⟩ [.int .i64 8, .int .i64 (gI L 0), .int .i64 0, .int .i64 0, .int .i64 0, .string t, .slice none 0 0] 0).run Tryz.prog v3 = .ok () (putA v3 w.heap.size 0 [.int .i64 8, .int .i64 (gI L 0), .int .i64 0, .int .i64 0, .int .i64 0, .string t, .slice none 0 0]) := Bo.store (P := Tryz.prog) (b := 0) _ 0 0 R rfl (by simp) (opV_one (opZ 8 L t) none 0)
 replace R : Bo (putA v3 w.heap.size 0 [.int .i64 8, .int .i64 (gI L 0), .int .i64 0, .int .i64 0, .int .i64 0, .string t, .slice none 0 0]) w.heap.size #[.int .i64 8, .int .i64 (gI L 0), .int .i64 0, .int .i64 0, .int .i64 0, .string t, .slice none 0 0] := R.putW (U := #[.int .i64 8, .int .i64 (gI L 0), .int .i64 0, .int .i64 0, .int .i64 0, .string t, .slice none 0 0]) rfl
 replace B := putA_below (k := w.heap.size) [.int .i64 8, .int .i64 (gI L 0), .int .i64 0, .int .i64 0, .int .i64 0, .string t, .slice none 0 0] w v3 0 B (Nat.le_refl _)
 clear O
 go_wp2_with (first | rw [hL] | rw [hst])
 clear hL hst
 generalize putA v3 w.heap.size 0 [.int .i64 8, .int .i64 (gI L 0), .int .i64 0, .int .i64 0, .int .i64 0, .string t, .slice none 0 0] = v4 at *
 have hL := R.load (P := Tryz.prog) (n := 7) rfl
 (try simp only [Exit.inBlock, Exit.then])
 exact bodyPost_ret (v := .agg #[.int .i64 8, .int .i64 (gI L 0), .int .i64 0, .int .i64 0, .int .i64 0, .string t, .slice none 0 0]) (by simp [results, Tryz.results40, go_sem]; rw [hL]; rfl) rfl ⟨none, 0, rfl, .inl ⟨rfl, rfl, rfl⟩, B⟩
attribute [-go_sem] loadCells storeCells in
set_option maxHeartbeats 4000000 in
set_option maxRecDepth 100000 in
theorem specOp_4 (L : List Int) (t : ByteArray) (g cap : Nat) (w : World) (hl : 3 ≤ L.length) (hc : L.length ≤ 1000) (C : Cs w g 0 L.length (itG (gI L))) :
 Calls Tryz.prog 40 #[.int .i64 4, .slice (some ⟨g, 0, none⟩) L.length cap, .string t] w fun e w' => ∃ p c, e = .returned (.agg (opV (opZ 4 L t) p c)) ∧ LsA w' w.heap.size p (opZ 4 L t).n c (opZ 4 L t).f ∧ Below w.heap.size w w' := by
 have B := (Below.nw w (.cells #[.int .i64 0, .int .i64 0, .int .i64 0, .int .i64 0, .int .i64 0, .string ⟨#[]⟩, .slice none 0 0] 26)).alloc (by simp) (.cells #[.int .i64 0, .int .i64 0, .int .i64 0, .int .i64 0, .int .i64 0, .string ⟨#[]⟩, .slice none 0 0] 26)
 have R : Bo ((w.alloc (.cells #[.int .i64 0, .int .i64 0, .int .i64 0, .int .i64 0, .int .i64 0, .string ⟨#[]⟩, .slice none 0 0] 26)).alloc (.cells #[.int .i64 0, .int .i64 0, .int .i64 0, .int .i64 0, .int .i64 0, .string ⟨#[]⟩, .slice none 0 0] 26)) w.heap.size #[.int .i64 0, .int .i64 0, .int .i64 0, .int .i64 0, .int .i64 0, .string ⟨#[]⟩, .slice none 0 0] := (Bo.new w #[.int .i64 0, .int .i64 0, .int .i64 0, .int .i64 0, .int .i64 0, .string ⟨#[]⟩, .slice none 0 0] 26).below (Below.nw _ _)
 have O : Bo ((w.alloc (.cells #[.int .i64 0, .int .i64 0, .int .i64 0, .int .i64 0, .int .i64 0, .string ⟨#[]⟩, .slice none 0 0] 26)).alloc (.cells #[.int .i64 0, .int .i64 0, .int .i64 0, .int .i64 0, .int .i64 0, .string ⟨#[]⟩, .slice none 0 0] 26)) (w.heap.size + 1) #[.int .i64 0, .int .i64 0, .int .i64 0, .int .i64 0, .int .i64 0, .string ⟨#[]⟩, .slice none 0 0] := by
  have := Bo.new (w.alloc (.cells #[.int .i64 0, .int .i64 0, .int .i64 0, .int .i64 0, .int .i64 0, .string ⟨#[]⟩, .slice none 0 0] 26)) #[.int .i64 0, .int .i64 0, .int .i64 0, .int .i64 0, .int .i64 0, .string ⟨#[]⟩, .slice none 0 0] 26
  simpa using this
 have hst : (storeCells ⟨w.heap.size + 1, 0, none⟩ [.int .i64 4, .int .i64 0, .int .i64 0, .int .i64 0, .int .i64 0, .string t, .slice none 0 0] 0).run Tryz.prog ((w.alloc (.cells #[.int .i64 0, .int .i64 0, .int .i64 0, .int .i64 0, .int .i64 0, .string ⟨#[]⟩, .slice none 0 0] 26)).alloc (.cells #[.int .i64 0, .int .i64 0, .int .i64 0, .int .i64 0, .int .i64 0, .string ⟨#[]⟩, .slice none 0 0] 26)) = .ok () (putA ((w.alloc (.cells #[.int .i64 0, .int .i64 0, .int .i64 0, .int .i64 0, .int .i64 0, .string ⟨#[]⟩, .slice none 0 0] 26)).alloc (.cells #[.int .i64 0, .int .i64 0, .int .i64 0, .int .i64 0, .int .i64 0, .string ⟨#[]⟩, .slice none 0 0] 26)) (w.heap.size + 1) 0 [.int .i64 4, .int .i64 0, .int .i64 0, .int .i64 0, .int .i64 0, .string t, .slice none 0 0]) := Bo.store (P := Tryz.prog) (b := 0) _ 0 0 O rfl (by simp) (opV_one ⟨4, 0, 0, 0, 0, t, 0, fun _ => 0⟩ none 0)
 replace O : Bo (putA ((w.alloc (.cells #[.int .i64 0, .int .i64 0, .int .i64 0, .int .i64 0, .int .i64 0, .string ⟨#[]⟩, .slice none 0 0] 26)).alloc (.cells #[.int .i64 0, .int .i64 0, .int .i64 0, .int .i64 0, .int .i64 0, .string ⟨#[]⟩, .slice none 0 0] 26)) (w.heap.size + 1) 0 [.int .i64 4, .int .i64 0, .int .i64 0, .int .i64 0, .int .i64 0, .string t, .slice none 0 0]) (w.heap.size + 1) #[.int .i64 4, .int .i64 0, .int .i64 0, .int .i64 0, .int .i64 0, .string t, .slice none 0 0] := O.putW (U := #[.int .i64 4, .int .i64 0, .int .i64 0, .int .i64 0, .int .i64 0, .string t, .slice none 0 0]) rfl
 have b1 : Below (w.heap.size + 1) ((w.alloc (.cells #[.int .i64 0, .int .i64 0, .int .i64 0, .int .i64 0, .int .i64 0, .string ⟨#[]⟩, .slice none 0 0] 26)).alloc (.cells #[.int .i64 0, .int .i64 0, .int .i64 0, .int .i64 0, .int .i64 0, .string ⟨#[]⟩, .slice none 0 0] 26)) (putA ((w.alloc (.cells #[.int .i64 0, .int .i64 0, .int .i64 0, .int .i64 0, .int .i64 0, .string ⟨#[]⟩, .slice none 0 0] 26)).alloc (.cells #[.int .i64 0, .int .i64 0, .int .i64 0, .int .i64 0, .int .i64 0, .string ⟨#[]⟩, .slice none 0 0] 26)) (w.heap.size + 1) 0 [.int .i64 4, .int .i64 0, .int .i64 0, .int .i64 0, .int .i64 0, .string t, .slice none 0 0]) := putA_below _ _ _ 0 (Below.refl _ _) (Nat.le_refl _)
 replace R := R.belowB b1 (Nat.lt_succ_self _)
 replace B := B.trans (b1.mono (Nat.le_succ _))
 clear b1
 go_enter Tryz.func40, Tryz.ntmps40
 go_upto_region 2 with (rw [hst])
 clear hst
 have C2 := C.below B C.1
 generalize putA ((w.alloc (.cells #[.int .i64 0, .int .i64 0, .int .i64 0, .int .i64 0, .int .i64 0, .string ⟨#[]⟩, .slice none 0 0] 26)).alloc (.cells #[.int .i64 0, .int .i64 0, .int .i64 0, .int .i64 0, .int .i64 0, .string ⟨#[]⟩, .slice none 0 0] 26)) (w.heap.size + 1) 0 [.int .i64 4, .int .i64 0, .int .i64 0, .int .i64 0, .int .i64 0, .string t, .slice none 0 0] = v2 at *
 have hg : g < w.heap.size := C.1
 have n0 : v2.cell? ⟨g, 0, none⟩ = some (.int .i64 (gI L 0)) := by have q := C2.2 0 (by omega); rwa [Nat.zero_add] at q
 have i0 : (0 : Int) < (L.length : Int) := by omega
 have hs1 : (storeCells ⟨w.heap.size + 1, 1, none⟩ [.int .i64 (gI L 0)] 0).run Tryz.prog v2 = .ok () (v2.setCell ⟨w.heap.size + 1, 1, none⟩ (.int .i64 (gI L 0))) := Bo.store (P := Tryz.prog) (b := 1) [.int .i64 (gI L 0)] 1 0 O rfl (by simp) (by intro u hu; simp at hu; subst hu; rfl)
 replace O : Bo (v2.setCell ⟨w.heap.size + 1, 1, none⟩ (.int .i64 (gI L 0))) (w.heap.size + 1) #[.int .i64 4, .int .i64 (gI L 0), .int .i64 0, .int .i64 0, .int .i64 0, .string t, .slice none 0 0] := O.set 1 (.int .i64 (gI L 0))
 have b1 : Below (w.heap.size + 1) v2 (v2.setCell ⟨w.heap.size + 1, 1, none⟩ (.int .i64 (gI L 0))) := (Below.refl _ _).setCell (p := ⟨w.heap.size + 1, 1, none⟩) (Nat.le_refl _) _
 replace R := R.belowB b1 (Nat.lt_succ_self _)
 replace B := B.trans (b1.mono (Nat.le_succ _))
 replace C2 : Cs (v2.setCell ⟨w.heap.size + 1, 1, none⟩ (.int .i64 (gI L 0))) g 0 L.length (itG (gI L)) := C2.below b1 (Nat.lt_succ_of_lt hg)
 clear b1
 have n1 : (v2.setCell ⟨w.heap.size + 1, 1, none⟩ (.int .i64 (gI L 0))).cell? ⟨g, 1, none⟩ = some (.int .i64 (gI L 1)) := by have q := C2.2 1 (by omega); rwa [Nat.zero_add] at q
 have i1 : (1 : Int) < (L.length : Int) := by omega
 have hs3 : (storeCells ⟨w.heap.size + 1, 3, none⟩ [.int .i64 (gI L 1)] 0).run Tryz.prog (v2.setCell ⟨w.heap.size + 1, 1, none⟩ (.int .i64 (gI L 0))) = .ok () ((v2.setCell ⟨w.heap.size + 1, 1, none⟩ (.int .i64 (gI L 0))).setCell ⟨w.heap.size + 1, 3, none⟩ (.int .i64 (gI L 1))) := Bo.store (P := Tryz.prog) (b := 3) [.int .i64 (gI L 1)] 3 0 O rfl (by simp) (by intro u hu; simp at hu; subst hu; rfl)
 replace O : Bo ((v2.setCell ⟨w.heap.size + 1, 1, none⟩ (.int .i64 (gI L 0))).setCell ⟨w.heap.size + 1, 3, none⟩ (.int .i64 (gI L 1))) (w.heap.size + 1) #[.int .i64 4, .int .i64 (gI L 0), .int .i64 0, .int .i64 (gI L 1), .int .i64 0, .string t, .slice none 0 0] := O.set 3 (.int .i64 (gI L 1))
 have b1 : Below (w.heap.size + 1) (v2.setCell ⟨w.heap.size + 1, 1, none⟩ (.int .i64 (gI L 0))) ((v2.setCell ⟨w.heap.size + 1, 1, none⟩ (.int .i64 (gI L 0))).setCell ⟨w.heap.size + 1, 3, none⟩ (.int .i64 (gI L 1))) := (Below.refl _ _).setCell (p := ⟨w.heap.size + 1, 3, none⟩) (Nat.le_refl _) _
 replace R := R.belowB b1 (Nat.lt_succ_self _)
 replace B := B.trans (b1.mono (Nat.le_succ _))
 replace C2 : Cs ((v2.setCell ⟨w.heap.size + 1, 1, none⟩ (.int .i64 (gI L 0))).setCell ⟨w.heap.size + 1, 3, none⟩ (.int .i64 (gI L 1))) g 0 L.length (itG (gI L)) := C2.below b1 (Nat.lt_succ_of_lt hg)
 clear b1
 have n2 : ((v2.setCell ⟨w.heap.size + 1, 1, none⟩ (.int .i64 (gI L 0))).setCell ⟨w.heap.size + 1, 3, none⟩ (.int .i64 (gI L 1))).cell? ⟨g, 2, none⟩ = some (.int .i64 (gI L 2)) := by have q := C2.2 2 (by omega); rwa [Nat.zero_add] at q
 have i2 : (2 : Int) < (L.length : Int) := by omega
 have hs4 : (storeCells ⟨w.heap.size + 1, 4, none⟩ [.int .i64 (gI L 2)] 0).run Tryz.prog ((v2.setCell ⟨w.heap.size + 1, 1, none⟩ (.int .i64 (gI L 0))).setCell ⟨w.heap.size + 1, 3, none⟩ (.int .i64 (gI L 1))) = .ok () (((v2.setCell ⟨w.heap.size + 1, 1, none⟩ (.int .i64 (gI L 0))).setCell ⟨w.heap.size + 1, 3, none⟩ (.int .i64 (gI L 1))).setCell ⟨w.heap.size + 1, 4, none⟩ (.int .i64 (gI L 2))) := Bo.store (P := Tryz.prog) (b := 4) [.int .i64 (gI L 2)] 4 0 O rfl (by simp) (by intro u hu; simp at hu; subst hu; rfl)
 replace O : Bo (((v2.setCell ⟨w.heap.size + 1, 1, none⟩ (.int .i64 (gI L 0))).setCell ⟨w.heap.size + 1, 3, none⟩ (.int .i64 (gI L 1))).setCell ⟨w.heap.size + 1, 4, none⟩ (.int .i64 (gI L 2))) (w.heap.size + 1) #[.int .i64 4, .int .i64 (gI L 0), .int .i64 0, .int .i64 (gI L 1), .int .i64 (gI L 2), .string t, .slice none 0 0] := O.set 4 (.int .i64 (gI L 2))
 have b1 : Below (w.heap.size + 1) ((v2.setCell ⟨w.heap.size + 1, 1, none⟩ (.int .i64 (gI L 0))).setCell ⟨w.heap.size + 1, 3, none⟩ (.int .i64 (gI L 1))) (((v2.setCell ⟨w.heap.size + 1, 1, none⟩ (.int .i64 (gI L 0))).setCell ⟨w.heap.size + 1, 3, none⟩ (.int .i64 (gI L 1))).setCell ⟨w.heap.size + 1, 4, none⟩ (.int .i64 (gI L 2))) := (Below.refl _ _).setCell (p := ⟨w.heap.size + 1, 4, none⟩) (Nat.le_refl _) _
 replace R := R.belowB b1 (Nat.lt_succ_self _)
 replace B := B.trans (b1.mono (Nat.le_succ _))
 replace C2 : Cs (((v2.setCell ⟨w.heap.size + 1, 1, none⟩ (.int .i64 (gI L 0))).setCell ⟨w.heap.size + 1, 3, none⟩ (.int .i64 (gI L 1))).setCell ⟨w.heap.size + 1, 4, none⟩ (.int .i64 (gI L 2))) g 0 L.length (itG (gI L)) := C2.below b1 (Nat.lt_succ_of_lt hg)
 clear b1
 clear C C2
 go_upto_region 25 with (first | rw [hs1] | rw [hs3] | rw [hs4])
 clear n0 i0 n1 i1 n2 i2 hs1 hs3 hs4
 generalize (((v2.setCell ⟨w.heap.size + 1, 1, none⟩ (.int .i64 (gI L 0))).setCell ⟨w.heap.size + 1, 3, none⟩ (.int .i64 (gI L 1))).setCell ⟨w.heap.size + 1, 4, none⟩ (.int .i64 (gI L 2))) = v3 at *
 have hL := O.load (P := Tryz.prog) (n := 7) rfl
 have hst : (storeCells ⟨w.heap.size, 0, none⟩ [.int .i64 4, .int .i64 (gI L 0), .int .i64 0, .int .i64 (gI L 1), .int .i64 (gI L 2), .string t, .slice none 0 0] 0).run Tryz.prog v3 = .ok () (putA v3 w.heap.size 0 [.int .i64 4, .int .i64 (gI L 0), .int .i64 0, .int .i64 (gI L 1), .int .i64 (gI L 2), .string t, .slice none 0 0]) := Bo.store (P := Tryz.prog) (b := 0) _ 0 0 R rfl (by simp) (opV_one (opZ 4 L t) none 0)
 replace R : Bo (putA v3 w.heap.size 0 [.int .i64 4, .int .i64 (gI L 0), .int .i64 0, .int .i64 (gI L 1), .int .i64 (gI L 2), .string t, .slice none 0 0]) w.heap.size #[.int .i64 4, .int .i64 (gI L 0), .int .i64 0, .int .i64 (gI L 1), .int .i64 (gI L 2), .string t, .slice none 0 0] := R.putW (U := #[.int .i64 4, .int .i64 (gI L 0), .int .i64 0, .int .i64 (gI L 1), .int .i64 (gI L 2), .string t, .slice none 0 0]) rfl
 replace B := putA_below (k := w.heap.size) [.int .i64 4, .int .i64 (gI L 0), .int .i64 0, .int .i64 (gI L 1), .int .i64 (gI L 2), .string t, .slice none 0 0] w v3 0 B (Nat.le_refl _)
 clear O
 go_wp2_with (first | rw [hL] | rw [hst])
 clear hL hst
 generalize putA v3 w.heap.size 0 [.int .i64 4, .int .i64 (gI L 0), .int .i64 0, .int .i64 (gI L 1), .int .i64 (gI L 2), .string t, .slice none 0 0] = v4 at *
 have hL := R.load (P := Tryz.prog) (n := 7) rfl
 (try simp only [Exit.inBlock, Exit.then])
 exact bodyPost_ret (v := .agg #[.int .i64 4, .int .i64 (gI L 0), .int .i64 0, .int .i64 (gI L 1), .int .i64 (gI L 2), .string t, .slice none 0 0]) (by simp [results, Tryz.results40, go_sem]; rw [hL]; rfl) rfl ⟨none, 0, rfl, .inl ⟨rfl, rfl, rfl⟩, B⟩
attribute [-go_sem] loadCells storeCells in
set_option maxHeartbeats 4000000 in
set_option maxRecDepth 100000 in
theorem specOp_5 (L : List Int) (t : ByteArray) (g cap : Nat) (w : World) (hl : 2 ≤ L.length) (hc : L.length ≤ 1000) (C : Cs w g 0 L.length (itG (gI L))) :
 Calls Tryz.prog 40 #[.int .i64 5, .slice (some ⟨g, 0, none⟩) L.length cap, .string t] w fun e w' => ∃ p c, e = .returned (.agg (opV (opZ 5 L t) p c)) ∧ LsA w' w.heap.size p (opZ 5 L t).n c (opZ 5 L t).f ∧ Below w.heap.size w w' := by
 have B := (Below.nw w (.cells #[.int .i64 0, .int .i64 0, .int .i64 0, .int .i64 0, .int .i64 0, .string ⟨#[]⟩, .slice none 0 0] 26)).alloc (by simp) (.cells #[.int .i64 0, .int .i64 0, .int .i64 0, .int .i64 0, .int .i64 0, .string ⟨#[]⟩, .slice none 0 0] 26)
 have R : Bo ((w.alloc (.cells #[.int .i64 0, .int .i64 0, .int .i64 0, .int .i64 0, .int .i64 0, .string ⟨#[]⟩, .slice none 0 0] 26)).alloc (.cells #[.int .i64 0, .int .i64 0, .int .i64 0, .int .i64 0, .int .i64 0, .string ⟨#[]⟩, .slice none 0 0] 26)) w.heap.size #[.int .i64 0, .int .i64 0, .int .i64 0, .int .i64 0, .int .i64 0, .string ⟨#[]⟩, .slice none 0 0] := (Bo.new w #[.int .i64 0, .int .i64 0, .int .i64 0, .int .i64 0, .int .i64 0, .string ⟨#[]⟩, .slice none 0 0] 26).below (Below.nw _ _)
 have O : Bo ((w.alloc (.cells #[.int .i64 0, .int .i64 0, .int .i64 0, .int .i64 0, .int .i64 0, .string ⟨#[]⟩, .slice none 0 0] 26)).alloc (.cells #[.int .i64 0, .int .i64 0, .int .i64 0, .int .i64 0, .int .i64 0, .string ⟨#[]⟩, .slice none 0 0] 26)) (w.heap.size + 1) #[.int .i64 0, .int .i64 0, .int .i64 0, .int .i64 0, .int .i64 0, .string ⟨#[]⟩, .slice none 0 0] := by
  have := Bo.new (w.alloc (.cells #[.int .i64 0, .int .i64 0, .int .i64 0, .int .i64 0, .int .i64 0, .string ⟨#[]⟩, .slice none 0 0] 26)) #[.int .i64 0, .int .i64 0, .int .i64 0, .int .i64 0, .int .i64 0, .string ⟨#[]⟩, .slice none 0 0] 26
  simpa using this
 have hst : (storeCells ⟨w.heap.size + 1, 0, none⟩ [.int .i64 5, .int .i64 0, .int .i64 0, .int .i64 0, .int .i64 0, .string t, .slice none 0 0] 0).run Tryz.prog ((w.alloc (.cells #[.int .i64 0, .int .i64 0, .int .i64 0, .int .i64 0, .int .i64 0, .string ⟨#[]⟩, .slice none 0 0] 26)).alloc (.cells #[.int .i64 0, .int .i64 0, .int .i64 0, .int .i64 0, .int .i64 0, .string ⟨#[]⟩, .slice none 0 0] 26)) = .ok () (putA ((w.alloc (.cells #[.int .i64 0, .int .i64 0, .int .i64 0, .int .i64 0, .int .i64 0, .string ⟨#[]⟩, .slice none 0 0] 26)).alloc (.cells #[.int .i64 0, .int .i64 0, .int .i64 0, .int .i64 0, .int .i64 0, .string ⟨#[]⟩, .slice none 0 0] 26)) (w.heap.size + 1) 0 [.int .i64 5, .int .i64 0, .int .i64 0, .int .i64 0, .int .i64 0, .string t, .slice none 0 0]) := Bo.store (P := Tryz.prog) (b := 0) _ 0 0 O rfl (by simp) (opV_one ⟨5, 0, 0, 0, 0, t, 0, fun _ => 0⟩ none 0)
 replace O : Bo (putA ((w.alloc (.cells #[.int .i64 0, .int .i64 0, .int .i64 0, .int .i64 0, .int .i64 0, .string ⟨#[]⟩, .slice none 0 0] 26)).alloc (.cells #[.int .i64 0, .int .i64 0, .int .i64 0, .int .i64 0, .int .i64 0, .string ⟨#[]⟩, .slice none 0 0] 26)) (w.heap.size + 1) 0 [.int .i64 5, .int .i64 0, .int .i64 0, .int .i64 0, .int .i64 0, .string t, .slice none 0 0]) (w.heap.size + 1) #[.int .i64 5, .int .i64 0, .int .i64 0, .int .i64 0, .int .i64 0, .string t, .slice none 0 0] := O.putW (U := #[.int .i64 5, .int .i64 0, .int .i64 0, .int .i64 0, .int .i64 0, .string t, .slice none 0 0]) rfl
 have b1 : Below (w.heap.size + 1) ((w.alloc (.cells #[.int .i64 0, .int .i64 0, .int .i64 0, .int .i64 0, .int .i64 0, .string ⟨#[]⟩, .slice none 0 0] 26)).alloc (.cells #[.int .i64 0, .int .i64 0, .int .i64 0, .int .i64 0, .int .i64 0, .string ⟨#[]⟩, .slice none 0 0] 26)) (putA ((w.alloc (.cells #[.int .i64 0, .int .i64 0, .int .i64 0, .int .i64 0, .int .i64 0, .string ⟨#[]⟩, .slice none 0 0] 26)).alloc (.cells #[.int .i64 0, .int .i64 0, .int .i64 0, .int .i64 0, .int .i64 0, .string ⟨#[]⟩, .slice none 0 0] 26)) (w.heap.size + 1) 0 [.int .i64 5, .int .i64 0, .int .i64 0, .int .i64 0, .int .i64 0, .string t, .slice none 0 0]) := putA_below _ _ _ 0 (Below.refl _ _) (Nat.le_refl _)
 replace R := R.belowB b1 (Nat.lt_succ_self _)
 replace B := B.trans (b1.mono (Nat.le_succ _))
 clear b1
 go_enter Tryz.func40, Tryz.ntmps40
 go_upto_region 2 with (rw [hst])
 clear hst
 have C2 := C.below B C.1
 generalize putA ((w.alloc (.cells #[.int .i64 0, .int .i64 0, .int .i64 0, .int .i64 0, .int .i64 0, .string ⟨#[]⟩, .slice none 0 0] 26)).alloc (.cells #[.int .i64 0, .int .i64 0, .int .i64 0, .int .i64 0, .int .i64 0, .string ⟨#[]⟩, .slice none 0 0] 26)) (w.heap.size + 1) 0 [.int .i64 5, .int .i64 0, .int .i64 0, .int .i64 0, .int .i64 0, .string t, .slice none 0 0] = v2 at *
 have hg : g < w.heap.size := C.1
 have n0 : v2.cell? ⟨g, 0, none⟩ = some (.int .i64 (gI L 0)) := by have q := C2.2 0 (by omega); rwa [Nat.zero_add] at q
 have i0 : (0 : Int) < (L.length : Int) := by omega
 have hs1 : (storeCells ⟨w.heap.size + 1, 1, none⟩ [.int .i64 (gI L 0)] 0).run Tryz.prog v2 = .ok () (v2.setCell ⟨w.heap.size + 1, 1, none⟩ (.int .i64 (gI L 0))) := Bo.store (P := Tryz.prog) (b := 1) [.int .i64 (gI L 0)] 1 0 O rfl (by simp) (by intro u hu; simp at hu; subst hu; rfl)
 replace O : Bo (v2.setCell ⟨w.heap.size + 1, 1, none⟩ (.int .i64 (gI L 0))) (w.heap.size + 1) #[.int .i64 5, .int .i64 (gI L 0), .int .i64 0, .int .i64 0, .int .i64 0, .string t, .slice none 0 0] := O.set 1 (.int .i64 (gI L 0))
 have b1 : Below (w.heap.size + 1) v2 (v2.setCell ⟨w.heap.size + 1, 1, none⟩ (.int .i64 (gI L 0))) := (Below.refl _ _).setCell (p := ⟨w.heap.size + 1, 1, none⟩) (Nat.le_refl _) _
 replace R := R.belowB b1 (Nat.lt_succ_self _)
 replace B := B.trans (b1.mono (Nat.le_succ _))
 replace C2 : Cs (v2.setCell ⟨w.heap.size + 1, 1, none⟩ (.int .i64 (gI L 0))) g 0 L.length (itG (gI L)) := C2.below b1 (Nat.lt_succ_of_lt hg)
 clear b1
 have n1 : (v2.setCell ⟨w.heap.size + 1, 1, none⟩ (.int .i64 (gI L 0))).cell? ⟨g, 1, none⟩ = some (.int .i64 (gI L 1)) := by have q := C2.2 1 (by omega); rwa [Nat.zero_add] at q
 have i1 : (1 : Int) < (L.length : Int) := by omega
 have hs2 : (storeCells ⟨w.heap.size + 1, 2, none⟩ [.int .i64 (gI L 1)] 0).run Tryz.prog (v2.setCell ⟨w.heap.size + 1, 1, none⟩ (.int .i64 (gI L 0))) = .ok () ((v2.setCell ⟨w.heap.size + 1, 1, none⟩ (.int .i64 (gI L 0))).setCell ⟨w.heap.size + 1, 2, none⟩ (.int .i64 (gI L 1))) := Bo.store (P := Tryz.prog) (b := 2) [.int .i64 (gI L 1)] 2 0 O rfl (by simp) (by intro u hu; simp at hu; subst hu; rfl)
 replace O : Bo ((v2.setCell ⟨w.heap.size + 1, 1, none⟩ (.int .i64 (gI L 0))).setCell ⟨w.heap.size + 1, 2, none⟩ (.int .i64 (gI L 1))) (w.heap.size + 1) #[.int .i64 5, .int .i64 (gI L 0), .int .i64 (gI L 1), .int .i64 0, .int .i64 0, .string t, .slice none 0 0] := O.set 2 (.int .i64 (gI L 1))
 have b1 : Below (w.heap.size + 1) (v2.setCell ⟨w.heap.size + 1, 1, none⟩ (.int .i64 (gI L 0))) ((v2.setCell ⟨w.heap.size + 1, 1, none⟩ (.int .i64 (gI L 0))).setCell ⟨w.heap.size + 1, 2, none⟩ (.int .i64 (gI L 1))) := (Below.refl _ _).setCell (p := ⟨w.heap.size + 1, 2, none⟩) (Nat.le_refl _) _
 replace R := R.belowB b1 (Nat.lt_succ_self _)
 replace B := B.trans (b1.mono (Nat.le_succ _))
 replace C2 : Cs ((v2.setCell ⟨w.heap.size + 1, 1, none⟩ (.int .i64 (gI L 0))).setCell ⟨w.heap.size + 1, 2, none⟩ (.int .i64 (gI L 1))) g 0 L.length (itG (gI L)) := C2.below b1 (Nat.lt_succ_of_lt hg)
 clear b1
 clear C C2
 go_upto_region 25 with (first | rw [hs1] | rw [hs2])
 clear n0 i0 n1 i1 hs1 hs2
 generalize ((v2.setCell ⟨w.heap.size + 1, 1, none⟩ (.int .i64 (gI L 0))).setCell ⟨w.heap.size + 1, 2, none⟩ (.int .i64 (gI L 1))) = v3 at *
 have hL := O.load (P := Tryz.prog) (n := 7) rfl
 have hst : (storeCells ⟨w.heap.size, 0, none⟩ [.int .i64 5, .int .i64 (gI L 0), .int .i64 (gI L 1), .int .i64 0, .int .i64 0, .string t, .slice none 0 0] 0).run Tryz.prog v3 = .ok () (putA v3 w.heap.size 0 [.int .i64 5, .int .i64 (gI L 0), .int .i64 (gI L 1), .int .i64 0, .int .i64 0, .string t, .slice none 0 0]) := Bo.store (P := Tryz.prog) (b := 0) _ 0 0 R rfl (by simp) (opV_one (opZ 5 L t) none 0)
 replace R : Bo (putA v3 w.heap.size 0 [.int .i64 5, .int .i64 (gI L 0), .int .i64 (gI L 1), .int .i64 0, .int .i64 0, .string t, .slice none 0 0]) w.heap.size #[.int .i64 5, .int .i64 (gI L 0), .int .i64 (gI L 1), .int .i64 0, .int .i64 0, .string t, .slice none 0 0] := R.putW (U := #[.int .i64 5, .int .i64 (gI L 0), .int .i64 (gI L 1), .int .i64 0, .int .i64 0, .string t, .slice none 0 0]) rfl
 replace B := putA_below (k := w.heap.size) [.int .i64 5, .int .i64 (gI L 0), .int .i64 (gI L 1), .int .i64 0, .int .i64 0, .string t, .slice none 0 0] w v3 0 B (Nat.le_refl _)
 clear O
 go_wp2_with (first | rw [hL] | rw [hst])
 clear hL hst
 generalize putA v3 w.heap.size 0 [.int .i64 5, .int .i64 (gI L 0), .int .i64 (gI L 1), .int .i64 0, .int .i64 0, .string t, .slice none 0 0] = v4 at *
 have hL := R.load (P := Tryz.prog) (n := 7) rfl
 (try simp only [Exit.inBlock, Exit.then])
 exact bodyPost_ret (v := .agg #[.int .i64 5, .int .i64 (gI L 0), .int .i64 (gI L 1), .int .i64 0, .int .i64 0, .string t, .slice none 0 0]) (by simp [results, Tryz.results40, go_sem]; rw [hL]; rfl) rfl ⟨none, 0, rfl, .inl ⟨rfl, rfl, rfl⟩, B⟩
attribute [-go_sem] loadCells storeCells in
set_option maxHeartbeats 4000000 in
set_option maxRecDepth 100000 in
theorem specOp_14 (L : List Int) (t : ByteArray) (g cap : Nat) (w : World) (hl : 2 ≤ L.length) (hc : L.length ≤ 1000) (C : Cs w g 0 L.length (itG (gI L))) :
 Calls Tryz.prog 40 #[.int .i64 14, .slice (some ⟨g, 0, none⟩) L.length cap, .string t] w fun e w' => ∃ p c, e = .returned (.agg (opV (opZ 14 L t) p c)) ∧ LsA w' w.heap.size p (opZ 14 L t).n c (opZ 14 L t).f ∧ Below w.heap.size w w' := by
 have B := (Below.nw w (.cells #[.int .i64 0, .int .i64 0, .int .i64 0, .int .i64 0, .int .i64 0, .string ⟨#[]⟩, .slice none 0 0] 26)).alloc (by simp) (.cells #[.int .i64 0, .int .i64 0, .int .i64 0, .int .i64 0, .int .i64 0, .string ⟨#[]⟩, .slice none 0 0] 26)
 have R : Bo ((w.alloc (.cells #[.int .i64 0, .int .i64 0, .int .i64 0, .int .i64 0, .int .i64 0, .string ⟨#[]⟩, .slice none 0 0] 26)).alloc (.cells #[.int .i64 0, .int .i64 0, .int .i64 0, .int .i64 0, .int .i64 0, .string ⟨#[]⟩, .slice none 0 0] 26)) w.heap.size #[.int .i64 0, .int .i64 0, .int .i64 0, .int .i64 0, .int .i64 0, .string ⟨#[]⟩, .slice none 0 0] := (Bo.new w #[.int .i64 0, .int .i64 0, .int .i64 0, .int .i64 0, .int .i64 0, .string ⟨#[]⟩, .slice none 0 0] 26).below (Below.nw _ _)
 have O : Bo ((w.alloc (.cells #[.int .i64 0, .int .i64 0, .int .i64 0, .int .i64 0, .int .i64 0, .string ⟨#[]⟩, .slice none 0 0] 26)).alloc (.cells #[.int .i64 0, .int .i64 0, .int .i64 0, .int .i64 0, .int .i64 0, .string ⟨#[]⟩, .slice none 0 0] 26)) (w.heap.size + 1) #[.int .i64 0, .int .i64 0, .int .i64 0, .int .i64 0, .int .i64 0, .string ⟨#[]⟩, .slice none 0 0] := by
  have := Bo.new (w.alloc (.cells #[.int .i64 0, .int .i64 0, .int .i64 0, .int .i64 0, .int .i64 0, .string ⟨#[]⟩, .slice none 0 0] 26)) #[.int .i64 0, .int .i64 0, .int .i64 0, .int .i64 0, .int .i64 0, .string ⟨#[]⟩, .slice none 0 0] 26
  simpa using this
 have hst : (storeCells ⟨w.heap.size + 1, 0, none⟩ [.int .i64 14, .int .i64 0, .int .i64 0, .int .i64 0, .int .i64 0, .string t, .slice none 0 0] 0).run Tryz.prog ((w.alloc (.cells #[.int .i64 0, .int .i64 0, .int .i64 0, .int .i64 0, .int .i64 0, .string ⟨#[]⟩, .slice none 0 0] 26)).alloc (.cells #[.int .i64 0, .int .i64 0, .int .i64 0, .int .i64 0, .int .i64 0, .string ⟨#[]⟩, .slice none 0 0] 26)) = .ok () (putA ((w.alloc (.cells #[.int .i64 0, .int .i64 0, .int .i64 0, .int .i64 0, .int .i64 0, .string ⟨#[]⟩, .slice none 0 0] 26)).alloc (.cells #[.int .i64 0, .int .i64 0, .int .i64 0, .int .i64 0, .int .i64 0, .string ⟨#[]⟩, .slice none 0 0] 26)) (w.heap.size + 1) 0 [.int .i64 14, .int .i64 0, .int .i64 0, .int .i64 0, .int .i64 0, .string t, .slice none 0 0]) := Bo.store (P := Tryz.prog) (b := 0) _ 0 0 O rfl (by simp) (opV_one ⟨14, 0, 0, 0, 0, t, 0, fun _ => 0⟩ none 0)
 replace O : Bo (putA ((w.alloc (.cells #[.int .i64 0, .int .i64 0, .int .i64 0, .int .i64 0, .int .i64 0, .string ⟨#[]⟩, .slice none 0 0] 26)).alloc (.cells #[.int .i64 0, .int .i64 0, .int .i64 0, .int .i64 0, .int .i64 0, .string ⟨#[]⟩, .slice none 0 0] 26)) (w.heap.size + 1) 0 [.int .i64 14, .int .i64 0, .int .i64 0, .int .i64 0, .int .i64 0, .string t, .slice none 0 0]) (w.heap.size + 1) #[.int .i64 14, .int .i64 0, .int .i64 0, .int .i64 0, .int .i64 0, .string t, .slice none 0 0] := O.putW (U := #[.int .i64 14, .int .i64 0, .int .i64 0, .int .i64 0, .int .i64 0, .string t, .slice none 0 0]) rfl
 have b1 : Below (w.heap.size + 1) ((w.alloc (.cells #[.int .i64 0, .int .i64 0, .int .i64 0, .int .i64 0, .int .i64 0, .string ⟨#[]⟩, .slice none 0 0] 26)).alloc (.cells #[.int .i64 0, .int .i64 0, .int .i64 0, .int .i64 0, .int .i64 0, .string ⟨#[]⟩, .slice none 0 0] 26)) (putA ((w.alloc (.cells #[.int .i64 0, .int .i64 0, .int .i64 0, .int .i64 0, .int .i64 0, .string ⟨#[]⟩, .slice none 0 0] 26)).alloc (.cells #[.int .i64 0, .int .i64 0, .int .i64 0, .int .i64 0, .int .i64 0, .string ⟨#[]⟩, .slice none 0 0] 26)) (w.heap.size + 1) 0 [.int .i64 14, .int .i64 0, .int .i64 0, .int .i64 0, .int .i64 0, .string t, .slice none 0 0]) := putA_below _ _ _ 0 (Below.refl _ _) (Nat.le_refl _)
 replace R := R.belowB b1 (Nat.lt_succ_self _)
 replace B := B.trans (b1.mono (Nat.le_succ _))
 clear b1
 go_enter Tryz.func40, Tryz.ntmps40
 go_upto_region 2 with (rw [hst])
 clear hst
 have C2 := C.below B C.1
 generalize putA ((w.alloc (.cells #[.int .i64 0, .int .i64 0, .int .i64 0, .int .i64 0, .int .i64 0, .string ⟨#[]⟩, .slice none 0 0] 26)).alloc (.cells #[.int .i64 0, .int .i64 0, .int .i64 0, .int .i64 0, .int .i64 0, .string ⟨#[]⟩, .slice none 0 0] 26)) (w.heap.size + 1) 0 [.int .i64 14, .int .i64 0, .int .i64 0, .int .i64 0, .int .i64 0, .string t, .slice none 0 0] = v2 at *
 have hg : g < w.heap.size := C.1
 have n0 : v2.cell? ⟨g, 0, none⟩ = some (.int .i64 (gI L 0)) := by have q := C2.2 0 (by omega); rwa [Nat.zero_add] at q
 have i0 : (0 : Int) < (L.length : Int) := by omega
 have hs1 : (storeCells ⟨w.heap.size + 1, 1, none⟩ [.int .i64 (gI L 0)] 0).run Tryz.prog v2 = .ok () (v2.setCell ⟨w.heap.size + 1, 1, none⟩ (.int .i64 (gI L 0))) := Bo.store (P := Tryz.prog) (b := 1) [.int .i64 (gI L 0)] 1 0 O rfl (by simp) (by intro u hu; simp at hu; subst hu; rfl)
 replace O : Bo (v2.setCell ⟨w.heap.size + 1, 1, none⟩ (.int .i64 (gI L 0))) (w.heap.size + 1) #[.int .i64 14, .int .i64 (gI L 0), .int .i64 0, .int .i64 0, .int .i64 0, .string t, .slice none 0 0] := O.set 1 (.int .i64 (gI L 0))
 have b1 : Below (w.heap.size + 1) v2 (v2.setCell ⟨w.heap.size + 1, 1, none⟩ (.int .i64 (gI L 0))) := (Below.refl _ _).setCell (p := ⟨w.heap.size + 1, 1, none⟩) (Nat.le_refl _) _
 replace R := R.belowB b1 (Nat.lt_succ_self _)
 replace B := B.trans (b1.mono (Nat.le_succ _))
 replace C2 : Cs (v2.setCell ⟨w.heap.size + 1, 1, none⟩ (.int .i64 (gI L 0))) g 0 L.length (itG (gI L)) := C2.below b1 (Nat.lt_succ_of_lt hg)
 clear b1
 have n1 : (v2.setCell ⟨w.heap.size + 1, 1, none⟩ (.int .i64 (gI L 0))).cell? ⟨g, 1, none⟩ = some (.int .i64 (gI L 1)) := by have q := C2.2 1 (by omega); rwa [Nat.zero_add] at q
 have i1 : (1 : Int) < (L.length : Int) := by omega
 have hs2 : (storeCells ⟨w.heap.size + 1, 2, none⟩ [.int .i64 (gI L 1)] 0).run Tryz.prog (v2.setCell ⟨w.heap.size + 1, 1, none⟩ (.int .i64 (gI L 0))) = .ok () ((v2.setCell ⟨w.heap.size + 1, 1, none⟩ (.int .i64 (gI L 0))).setCell ⟨w.heap.size + 1, 2, none⟩ (.int .i64 (gI L 1))) := Bo.store (P := Tryz.prog) (b := 2) [.int .i64 (gI L 1)] 2 0 O rfl (by simp) (by intro u hu; simp at hu; subst hu; rfl)
 replace O : Bo ((v2.setCell ⟨w.heap.size + 1, 1, none⟩ (.int .i64 (gI L 0))).setCell ⟨w.heap.size + 1, 2, none⟩ (.int .i64 (gI L 1))) (w.heap.size + 1) #[.int .i64 14, .int .i64 (gI L 0), .int .i64 (gI L 1), .int .i64 0, .int .i64 0, .string t, .slice none 0 0] := O.set 2 (.int .i64 (gI L 1))
 have b1 : Below (w.heap.size + 1) (v2.setCell ⟨w.heap.size + 1, 1, none⟩ (.int .i64 (gI L 0))) ((v2.setCell ⟨w.heap.size + 1, 1, none⟩ (.int .i64 (gI L 0))).setCell ⟨w.heap.size + 1, 2, none⟩ (.int .i64 (gI L 1))) := (Below.refl _ _).setCell (p := ⟨w.heap.size + 1, 2, none⟩) (Nat.le_refl _) _
 replace R := R.belowB b1 (Nat.lt_succ_self _)
 replace B := B.trans (b1.mono (Nat.le_succ _))
 replace C2 : Cs ((v2.setCell ⟨w.heap.size + 1, 1, none⟩ (.int .i64 (gI L 0))).setCell ⟨w.heap.size + 1, 2, none⟩ (.int .i64 (gI L 1))) g 0 L.length (itG (gI L)) := C2.below b1 (Nat.lt_succ_of_lt hg)
 clear b1
 clear C C2
 go_upto_region 25 with (first | rw [hs1] | rw [hs2])
 clear n0 i0 n1 i1 hs1 hs2
 generalize ((v2.setCell ⟨w.heap.size + 1, 1, none⟩ (.int .i64 (gI L 0))).setCell ⟨w.heap.size + 1, 2, none⟩ (.int .i64 (gI L 1))) = v3 at *
 have hL := O.load (P := Tryz.prog) (n := 7) rfl
 have hst : (storeCells ⟨w.heap.size, 0, none⟩ [.int .i64 14, .int .i64 (gI L 0), .int .i64 (gI L 1), .int .i64 0, .int .i64 0, .string t, .slice none 0 0] 0).run Tryz.prog v3 = .ok () (putA v3 w.heap.size 0 [.int .i64 14, .int .i64 (gI L 0), .int .i64 (gI L 1), .int .i64 0, .int .i64 0, .string t, .slice none 0 0]) := Bo.store (P := Tryz.prog) (b := 0) _ 0 0 R rfl (by simp) (opV_one (opZ 14 L t) none 0)
 replace R : Bo (putA v3 w.heap.size 0 [.int .i64 14, .int .i64 (gI L 0), .int .i64 (gI L 1), .int .i64 0, .int .i64 0, .string t, .slice none 0 0]) w.heap.size #[.int .i64 14, .int .i64 (gI L 0), .int .i64 (gI L 1), .int .i64 0, .int .i64 0, .string t, .slice none 0 0] := R.putW (U := #[.int .i64 14, .int .i64 (gI L 0), .int .i64 (gI L 1), .int .i64 0, .int .i64 0, .string t, .slice none 0 0]) rfl
 replace B := putA_below (k := w.heap.size) [.int .i64 14, .int .i64 (gI L 0), .int .i64 (gI L 1), .int .i64 0, .int .i64 0, .string t, .slice none 0 0] w v3 0 B (Nat.le_refl _)
 clear O
 go_wp2_with (first | rw [hL] | rw [hst])
 clear hL hst
 generalize putA v3 w.heap.size 0 [.int .i64 14, .int .i64 (gI L 0), .int .i64 (gI L 1), .int .i64 0, .int .i64 0, .string t, .slice none 0 0] = v4 at *
 have hL := R.load (P := Tryz.prog) (n := 7) rfl
 (try simp only [Exit.inBlock, Exit.then])
 exact bodyPost_ret (v := .agg #[.int .i64 14, .int .i64 (gI L 0), .int .i64 (gI L 1), .int .i64 0, .int .i64 0, .string t, .slice none 0 0]) (by simp [results, Tryz.results40, go_sem]; rw [hL]; rfl) rfl ⟨none, 0, rfl, .inl ⟨rfl, rfl, rfl⟩, B⟩
attribute [-go_sem] loadCells storeCells in
set_option maxHeartbeats 4000000 in
set_option maxRecDepth 100000 in
theorem specOp_9 (L : List Int) (t : ByteArray) (g cap : Nat) (w : World) (hl : 2 ≤ L.length) (hc : L.length ≤ 1000) (C : Cs w g 0 L.length (itG (gI L))) :
 Calls Tryz.prog 40 #[.int .i64 9, .slice (some ⟨g, 0, none⟩) L.length cap, .string t] w fun e w' => ∃ p c, e = .returned (.agg (opV (opZ 9 L t) p c)) ∧ LsA w' w.heap.size p (opZ 9 L t).n c (opZ 9 L t).f ∧ Below w.heap.size w w' := by
 have B := (Below.nw w (.cells #[.int .i64 0, .int .i64 0, .int .i64 0, .int .i64 0, .int .i64 0, .string ⟨#[]⟩, .slice none 0 0] 26)).alloc (by simp) (.cells #[.int .i64 0, .int .i64 0, .int .i64 0, .int .i64 0, .int .i64 0, .string ⟨#[]⟩, .slice none 0 0] 26)
 have R : Bo ((w.alloc (.cells #[.int .i64 0, .int .i64 0, .int .i64 0, .int .i64 0, .int .i64 0, .string ⟨#[]⟩, .slice none 0 0] 26)).alloc (.cells #[.int .i64 0, .int .i64 0, .int .i64 0, .int .i64 0, .int .i64 0, .string ⟨#[]⟩, .slice none 0 0] 26)) w.heap.size #[.int .i64 0, .int .i64 0, .int .i64 0, .int .i64 0, .int .i64 0, .string ⟨#[]⟩, .slice none 0 0] := (Bo.new w #[.int .i64 0, .int .i64 0, .int .i64 0, .int .i64 0, .int .i64 0, .string ⟨#[]⟩, .slice none 0 0] 26).below (Below.nw _ _)
 have O : Bo ((w.alloc (.cells #[.int .i64 0, .int .i64 0, .int .i64 0, .int .i64 0, .int .i64 0, .string ⟨#[]⟩, .slice none 0 0] 26)).alloc (.cells #[.int .i64 0, .int .i64 0, .int .i64 0, .int .i64 0, .int .i64 0, .string ⟨#[]⟩, .slice none 0 0] 26)) (w.heap.size + 1) #[.int .i64 0, .int .i64 0, .int .i64 0, .int .i64 0, .int .i64 0, .string ⟨#[]⟩, .slice none 0 0] := by
  have := Bo.new (w.alloc (.cells #[.int .i64 0, .int .i64 0, .int .i64 0, .int .i64 0, .int .i64 0, .string ⟨#[]⟩, .slice none 0 0] 26)) #[.int .i64 0, .int .i64 0, .int .i64 0, .int .i64 0, .int .i64 0, .string ⟨#[]⟩, .slice none 0 0] 26
  simpa using this
 have hst : (storeCells ⟨w.heap.size + 1, 0, none⟩ [.int .i64 9, .int .i64 0, .int .i64 0, .int .i64 0, .int .i64 0, .string t, .slice none 0 0] 0).run Tryz.prog ((w.alloc (.cells #[.int .i64 0, .int .i64 0, .int .i64 0, .int .i64 0, .int .i64 0, .string ⟨#[]⟩, .slice none 0 0] 26)).alloc (.cells #[.int .i64 0, .int .i64 0, .int .i64 0, .int .i64 0, .int .i64 0, .string ⟨#[]⟩, .slice none 0 0] 26)) = .ok () (putA ((w.alloc (.cells #[.int .i64 0, .int .i64 0, .int .i64 0, .int .i64 0, .int .i64 0, .string ⟨#[]⟩, .slice none 0 0] 26)).alloc (.cells #[.int .i64 0, .int .i64 0, .int .i64 0, .int .i64 0, .int .i64 0, .string ⟨#[]⟩, .slice none 0 0] 26)) (w.heap.size + 1) 0 [.int .i64 9, .int .i64 0, .int .i64 0, .int .i64 0, .int .i64 0, .string t, .slice none 0 0]) := Bo.store (P := Tryz.prog) (b := 0) _ 0 0 O rfl (by simp) (opV_one ⟨9, 0, 0, 0, 0, t, 0, fun _ => 0⟩ none 0)
 replace O : Bo (putA ((w.alloc (.cells #[.int .i64 0, .int .i64 0, .int .i64 0, .int .i64 0, .int .i64 0, .string ⟨#[]⟩, .slice none 0 0] 26)).alloc (.cells #[.int .i64 0, .int .i64 0, .int .i64 0, .int .i64 0, .int .i64 0, .string ⟨#[]⟩, .slice none 0 0] 26)) (w.heap.size + 1) 0 [.int .i64 9, .int .i64 0, .int .i64 0, .int .i64 0, .int .i64 0, .string t, .slice none 0 0]) (w.heap.size + 1) #[.int .i64 9, .int .i64 0, .int .i64 0, .int .i64 0, .int .i64 0, .string t, .slice none 0 0] := O.putW (U := #[.int .i64 9, .int .i64 0, .int .i64 0, .int .i64 0, .int .i64 0, .string t, .slice none 0 0]) rfl
 have b1 : Below (w.heap.size + 1) ((w.alloc (.cells #[.int .i64 0, .int .i64 0, .int .i64 0, .int .i64 0, .int .i64 0, .string ⟨#[]⟩, .slice none 0 0] 26)).alloc (.cells #[.int .i64 0, .int .i64 0, .int .i64 0, .int .i64 0, .int .i64 0, .string ⟨#[]⟩, .slice none 0 0] 26)) (putA ((w.alloc (.cells #[.int .i64 0, .int .i64 0, .int .i64 0, .int .i64 0, .int .i64 0, .string ⟨#[]⟩, .slice none 0 0] 26)).alloc (.cells #[.int .i64 0, .int .i64 0, .int .i64 0, .int .i64 0, .int .i64 0, .string ⟨#[]⟩, .slice none 0 0] 26)) (w.heap.size + 1) 0 [.int .i64 9, .int .i64 0, .int .i64 0, .int .i64 0, .int .i64 0, .string t, .slice none 0 0]) := putA_below _ _ _ 0 (Below.refl _ _) (Nat.le_refl _)
 replace R := R.belowB b1 (Nat.lt_succ_self _)
 replace B := B.trans (b1.mono (Nat.le_succ _))
 clear b1
 go_enter Tryz.func40, Tryz.ntmps40
 go_upto_region 2 with (rw [hst])
 clear hst
 have C2 := C.below B C.1
 generalize putA ((w.alloc (.cells #[.int .i64 0, .int .i64 0, .int .i64 0, .int .i64 0, .int .i64 0, .string ⟨#[]⟩, .slice none 0 0] 26)).alloc (.cells #[.int .i64 0, .int .i64 0, .int .i64 0, .int .i64 0, .int .i64 0, .string ⟨#[]⟩, .slice none 0 0] 26)) (w.heap.size + 1) 0 [.int .i64 9, .int .i64 0, .int .i64 0, .int .i64 0, .int .i64 0, .string t, .slice none 0 0] = v2 at *
 have hg : g < w.heap.size := C.1
 have n0 : v2.cell? ⟨g, 0, none⟩ = some (.int .i64 (gI L 0)) := by have q := C2.2 0 (by omega); rwa [Nat.zero_add] at q
 have i0 : (0 : Int) < (L.length : Int) := by omega
 have hs1 : (storeCells ⟨w.heap.size + 1, 1, none⟩ [.int .i64 (gI L 0)] 0).run Tryz.prog v2 = .ok () (v2.setCell ⟨w.heap.size + 1, 1, none⟩ (.int .i64 (gI L 0))) := Bo.store (P := Tryz.prog) (b := 1) [.int .i64 (gI L 0)] 1 0 O rfl (by simp) (by intro u hu; simp at hu; subst hu; rfl)
 replace O : Bo (v2.setCell ⟨w.heap.size + 1, 1, none⟩ (.int .i64 (gI L 0))) (w.heap.size + 1) #[.int .i64 9, .int .i64 (gI L 0), .int .i64 0, .int .i64 0, .int .i64 0, .string t, .slice none 0 0] := O.set 1 (.int .i64 (gI L 0))
 have b1 : Below (w.heap.size + 1) v2 (v2.setCell ⟨w.heap.size + 1, 1, none⟩ (.int .i64 (gI L 0))) := (Below.refl _ _).setCell (p := ⟨w.heap.size + 1, 1, none⟩) (Nat.le_refl _) _
 replace R := R.belowB b1 (Nat.lt_succ_self _)
 replace B := B.trans (b1.mono (Nat.le_succ _))
 replace C2 : Cs (v2.setCell ⟨w.heap.size + 1, 1, none⟩ (.int .i64 (gI L 0))) g 0 L.length (itG (gI L)) := C2.below b1 (Nat.lt_succ_of_lt hg)
 clear b1
 have n1 : (v2.setCell ⟨w.heap.size + 1, 1, none⟩ (.int .i64 (gI L 0))).cell? ⟨g, 1, none⟩ = some (.int .i64 (gI L 1)) := by have q := C2.2 1 (by omega); rwa [Nat.zero_add] at q
 have i1 : (1 : Int) < (L.length : Int) := by omega
 have hs3 : (storeCells ⟨w.heap.size + 1, 3, none⟩ [.int .i64 (gI L 1)] 0).run Tryz.prog (v2.setCell ⟨w.heap.size + 1, 1, none⟩ (.int .i64 (gI L 0))) = .ok () ((v2.setCell ⟨w.heap.size + 1, 1, none⟩ (.int .i64 (gI L 0))).setCell ⟨w.heap.size + 1, 3, none⟩ (.int .i64 (gI L 1))) := Bo.store (P := Tryz.prog) (b := 3) [.int .i64 (gI L 1)] 3 0 O rfl (by simp) (by intro u hu; simp at hu; subst hu; rfl)
 replace O : Bo ((v2.setCell ⟨w.heap.size + 1, 1, none⟩ (.int .i64 (gI L 0))).setCell ⟨w.heap.size + 1, 3, none⟩ (.int .i64 (gI L 1))) (w.heap.size + 1) #[.int .i64 9, .int .i64 (gI L 0), .int .i64 0, .int .i64 (gI L 1), .int .i64 0, .string t, .slice none 0 0] := O.set 3 (.int .i64 (gI L 1))
 have b1 : Below (w.heap.size + 1) (v2.setCell ⟨w.heap.size + 1, 1, none⟩ (.int .i64 (gI L 0))) ((v2.setCell ⟨w.heap.size + 1, 1, none⟩ (.int .i64 (gI L 0))).setCell ⟨w.heap.size + 1, 3, none⟩ (.int .i64 (gI L 1))) := (Below.refl _ _).setCell (p := ⟨w.heap.size + 1, 3, none⟩) (Nat.le_refl _) _
 replace R := R.belowB b1 (Nat.lt_succ_self _)
 replace B := B.trans (b1.mono (Nat.le_succ _))
 replace C2 : Cs ((v2.setCell ⟨w.heap.size + 1, 1, none⟩ (.int .i64 (gI L 0))).setCell ⟨w.heap.size + 1, 3, none⟩ (.int .i64 (gI L 1))) g 0 L.length (itG (gI L)) := C2.below b1 (Nat.lt_succ_of_lt hg)
 clear b1
 clear C C2
 go_upto_region 25 with (first | rw [hs1] | rw [hs3])
 clear n0 i0 n1 i1 hs1 hs3
 generalize ((v2.setCell ⟨w.heap.size + 1, 1, none⟩ (.int .i64 (gI L 0))).setCell ⟨w.heap.size + 1, 3, none⟩ (.int .i64 (gI L 1))) = v3 at *
 have hL := O.load (P := Tryz.prog) (n := 7) rfl
 have hst : (storeCells ⟨w.heap.size, 0, none⟩ [.int .i64 9, .int .i64 (gI L 0), .int .i64 0, .int .i64 (gI L 1), .int .i64 0, .string t, .slice none 0 0] 0).run Tryz.prog v3 = .ok () (putA v3 w.heap.size 0 [.int .i64 9, .int .i64 (gI L 0), .int .i64 0, .int .i64 (gI L 1), .int .i64 0, .string t, .slice none 0 0]) := Bo.store (P := Tryz.prog) (b := 0) _ 0 0 R rfl (by simp) (opV_one (opZ 9 L t) none 0)
 replace R : Bo (putA v3 w.heap.size 0 [.int .i64 9, .int .i64 (gI L 0), .int .i64 0, .int .i64 (gI L 1), .int .i64 0, .string t, .slice none 0 0]) w.heap.size #[.int .i64 9, .int .i64 (gI L 0), .int .i64 0, .int .i64 (gI L 1), .int .i64 0, .string t, .slice none 0 0] := R.putW (U := #[.int .i64 9, .int .i64 (gI L 0), .int .i64 0, .int .i64 (gI L 1), .int .i64 0, .string t, .slice none 0 0]) rfl
 replace B := putA_below (k := w.heap.size) [.int .i64 9, .int .i64 (gI L 0), .int .i64 0, .int .i64 (gI L 1), .int .i64 0, .string t, .slice none 0 0] w v3 0 B (Nat.le_refl _)
 clear O
 go_wp2_with (first | rw [hL] | rw [hst])
 clear hL hst
 generalize putA v3 w.heap.size 0 [.int .i64 9, .int .i64 (gI L 0), .int .i64 0, .int .i64 (gI L 1), .int .i64 0, .string t, .slice none 0 0] = v4 at *
 have hL := R.load (P := Tryz.prog) (n := 7) rfl
 (try simp only [Exit.inBlock, Exit.then])
 exact bodyPost_ret (v := .agg #[.int .i64 9, .int .i64 (gI L 0), .int .i64 0, .int .i64 (gI L 1), .int .i64 0, .string t, .slice none 0 0]) (by simp [results, Tryz.results40, go_sem]; rw [hL]; rfl) rfl ⟨none, 0, rfl, .inl ⟨rfl, rfl, rfl⟩, B⟩
attribute [-go_sem] loadCells storeCells in
set_option maxHeartbeats 4000000 in
set_option maxRecDepth 100000 in
theorem specOp_10 (L : List Int) (t : ByteArray) (g cap : Nat) (w : World) (hl : 1 ≤ L.length) (hc : L.length ≤ 1000) (C : Cs w g 0 L.length (itG (gI L))) :
 Calls Tryz.prog 40 #[.int .i64 10, .slice (some ⟨g, 0, none⟩) L.length cap, .string t] w fun e w' => ∃ p c, e = .returned (.agg (opV (opZ 10 L t) p c)) ∧ LsA w' w.heap.size p (opZ 10 L t).n c (opZ 10 L t).f ∧ Below w.heap.size w w' := by
 have B := (Below.nw w (.cells #[.int .i64 0, .int .i64 0, .int .i64 0, .int .i64 0, .int .i64 0, .string ⟨#[]⟩, .slice none 0 0] 26)).alloc (by simp) (.cells #[.int .i64 0, .int .i64 0, .int .i64 0, .int .i64 0, .int .i64 0, .string ⟨#[]⟩, .slice none 0 0] 26)
 have R : Bo ((w.alloc (.cells #[.int .i64 0, .int .i64 0, .int .i64 0, .int .i64 0, .int .i64 0, .string ⟨#[]⟩, .slice none 0 0] 26)).alloc (.cells #[.int .i64 0, .int .i64 0, .int .i64 0, .int .i64 0, .int .i64 0, .string ⟨#[]⟩, .slice none 0 0] 26)) w.heap.size #[.int .i64 0, .int .i64 0, .int .i64 0, .int .i64 0, .int .i64 0, .string ⟨#[]⟩, .slice none 0 0] := (Bo.new w #[.int .i64 0, .int .i64 0, .int .i64 0, .int .i64 0, .int .i64 0, .string ⟨#[]⟩, .slice none 0 0] 26).below (Below.nw _ _)
 have O : Bo ((w.alloc (.cells #[.int .i64 0, .int .i64 0, .int .i64 0, .int .i64 0, .int .i64 0, .string ⟨#[]⟩, .slice none 0 0] 26)).alloc (.cells #[.int .i64 0, .int .i64 0, .int .i64 0, .int .i64 0, .int .i64 0, .string ⟨#[]⟩, .slice none 0 0] 26)) (w.heap.size + 1) #[.int .i64 0, .int .i64 0, .int .i64 0, .int .i64 0, .int .i64 0, .string ⟨#[]⟩, .slice none 0 0] := by
  have := Bo.new (w.alloc (.cells #[.int .i64 0, .int .i64 0, .int .i64 0, .int .i64 0, .int .i64 0, .string ⟨#[]⟩, .slice none 0 0] 26)) #[.int .i64 0, .int .i64 0, .int .i64 0, .int .i64 0, .int .i64 0, .string ⟨#[]⟩, .slice none 0 0] 26
  simpa using this
 have hst : (storeCells ⟨w.heap.size + 1, 0, none⟩ [.int .i64 10, .int .i64 0, .int .i64 0, .int .i64 0, .int .i64 0, .string t, .slice none 0 0] 0).run Tryz.prog ((w.alloc (.cells #[.int .i64 0, .int .i64 0, .int .i64 0, .int .i64 0, .int .i64 0, .string ⟨#[]⟩, .slice none 0 0] 26)).alloc (.cells #[.int .i64 0, .int .i64 0, .int .i64 0, .int .i64 0, .int .i64 0, .string ⟨#[]⟩, .slice none 0 0] 26)) = .ok () (putA ((w.alloc (.cells #[.int .i64 0, .int .i64 0, .int .i64 0, .int .i64 0, .int .i64 0, .string ⟨#[]⟩, .slice none 0 0] 26)).alloc (.cells #[.int .i64 0, .int .i64 0, .int .i64 0, .int .i64 0, .int .i64 0, .string ⟨#[]⟩, .slice none 0 0] 26)) (w.heap.size + 1) 0 [.int .i64 10, .int .i64 0, .int .i64 0, .int .i64 0, .int .i64 0, .string t, .slice none 0 0]) := Bo.store (P := Tryz.prog) (b := 0) _ 0 0 O rfl (by simp) (opV_one ⟨10, 0, 0, 0, 0, t, 0, fun _ => 0⟩ none 0)
 replace O : Bo (putA ((w.alloc (.cells #[.int .i64 0, .int .i64 0, .int .i64 0, .int .i64 0, .int .i64 0, .string ⟨#[]⟩, .slice none 0 0] 26)).alloc (.cells #[.int .i64 0, .int .i64 0, .int .i64 0, .int .i64 0, .int .i64 0, .string ⟨#[]⟩, .slice none 0 0] 26)) (w.heap.size + 1) 0 [.int .i64 10, .int .i64 0, .int .i64 0, .int .i64 0, .int .i64 0, .string t, .slice none 0 0]) (w.heap.size + 1) #[.int .i64 10, .int .i64 0, .int .i64 0, .int .i64 0, .int .i64 0, .string t, .slice none 0 0] := O.putW (U := #[.int .i64 10, .int .i64 0, .int .i64 0, .int .i64 0, .int .i64 0, .string t, .slice none 0 0]) rfl
 have b1 : Below (w.heap.size + 1) ((w.alloc (.cells #[.int .i64 0, .int .i64 0, .int .i64 0, .int .i64 0, .int .i64 0, .string ⟨#[]⟩, .slice none 0 0] 26)).alloc (.cells #[.int .i64 0, .int .i64 0, .int .i64 0, .int .i64 0, .int .i64 0, .string ⟨#[]⟩, .slice none 0 0] 26)) (putA ((w.alloc (.cells #[.int .i64 0, .int .i64 0, .int .i64 0, .int .i64 0, .int .i64 0, .string ⟨#[]⟩, .slice none 0 0] 26)).alloc (.cells #[.int .i64 0, .int .i64 0, .int .i64 0, .int .i64 0, .int .i64 0, .string ⟨#[]⟩, .slice none 0 0] 26)) (w.heap.size + 1) 0 [.int .i64 10, .int .i64 0, .int .i64 0, .int .i64 0, .int .i64 0, .string t, .slice none 0 0]) := putA_below _ _ _ 0 (Below.refl _ _) (Nat.le_refl _)
 replace R := R.belowB b1 (Nat.lt_succ_self _)
 replace B := B.trans (b1.mono (Nat.le_succ _))
 clear b1
 go_enter Tryz.func40, Tryz.ntmps40
 go_upto_region 2 with (rw [hst])
 clear hst
 have C2 := C.below B C.1
 generalize putA ((w.alloc (.cells #[.int .i64 0, .int .i64 0, .int .i64 0, .int .i64 0, .int .i64 0, .string ⟨#[]⟩, .slice none 0 0] 26)).alloc (.cells #[.int .i64 0, .int .i64 0, .int .i64 0, .int .i64 0, .int .i64 0, .string ⟨#[]⟩, .slice none 0 0] 26)) (w.heap.size + 1) 0 [.int .i64 10, .int .i64 0, .int .i64 0, .int .i64 0, .int .i64 0, .string t, .slice none 0 0] = v2 at *
 have hg : g < w.heap.size := C.1
 have n0 : v2.cell? ⟨g, 0, none⟩ = some (.int .i64 (gI L 0)) := by have q := C2.2 0 (by omega); rwa [Nat.zero_add] at q
 have i0 : (0 : Int) < (L.length : Int) := by omega
 have hs3 : (storeCells ⟨w.heap.size + 1, 3, none⟩ [.int .i64 (gI L 0)] 0).run Tryz.prog v2 = .ok () (v2.setCell ⟨w.heap.size + 1, 3, none⟩ (.int .i64 (gI L 0))) := Bo.store (P := Tryz.prog) (b := 3) [.int .i64 (gI L 0)] 3 0 O rfl (by simp) (by intro u hu; simp at hu; subst hu; rfl)
 replace O : Bo (v2.setCell ⟨w.heap.size + 1, 3, none⟩ (.int .i64 (gI L 0))) (w.heap.size + 1) #[.int .i64 10, .int .i64 0, .int .i64 0, .int .i64 (gI L 0), .int .i64 0, .string t, .slice none 0 0] := O.set 3 (.int .i64 (gI L 0))
 have b1 : Below (w.heap.size + 1) v2 (v2.setCell ⟨w.heap.size + 1, 3, none⟩ (.int .i64 (gI L 0))) := (Below.refl _ _).setCell (p := ⟨w.heap.size + 1, 3, none⟩) (Nat.le_refl _) _
 replace R := R.belowB b1 (Nat.lt_succ_self _)
 replace B := B.trans (b1.mono (Nat.le_succ _))
 replace C2 : Cs (v2.setCell ⟨w.heap.size + 1, 3, none⟩ (.int .i64 (gI L 0))) g 0 L.length (itG (gI L)) := C2.below b1 (Nat.lt_succ_of_lt hg)
 clear b1
 clear C C2
 go_upto_region 25 with (first | rw [hs3])
 clear n0 i0 hs3
 generalize (v2.setCell ⟨w.heap.size + 1, 3, none⟩ (.int .i64 (gI L 0))) = v3 at *
 have hL := O.load (P := Tryz.prog) (n := 7) rfl
 have hst : (storeCells ⟨w.heap.size, 0, none⟩ [.int .i64 10, .int .i64 0, .int .i64 0, .int .i64 (gI L 0), .int .i64 0, .string t, .slice none 0 0] 0).run Tryz.prog v3 = .ok () (putA v3 w.heap.size 0 [.int .i64 10, .int .i64 0, .int .i64 0, .int .i64 (gI L 0), .int .i64 0, .string t, .slice none 0 0]) := Bo.store (P := Tryz.prog) (b := 0) _ 0 0 R rfl (by simp) (opV_one (opZ 10 L t) none 0)
 replace R : Bo (putA v3 w.heap.size 0 [.int .i64 10, .int .i64 0, .int .i64 0, .int .i64 (gI L 0), .int .i64 0, .string t, .slice none 0 0]) w.heap.size #[.int .i64 10, .int .i64 0, .int .i64 0, .int .i64 (gI L 0), .int .i64 0, .string t, .slice none 0 0] := R.putW (U := #[.int .i64 10, .int .i64 0, .int .i64 0, .int .i64 (gI L 0), .int .i64 0, .string t, .slice none 0 0]) rfl
 replace B := putA_below (k := w.heap.size) [.int .i64 10, .int .i64 0, .int .i64 0, .int .i64 (gI L 0), .int .i64 0, .string t, .slice none 0 0] w v3 0 B (Nat.le_refl _)
 clear O
 go_wp2_with (first | rw [hL] | rw [hst])
 clear hL hst
 generalize putA v3 w.heap.size 0 [.int .i64 10, .int .i64 0, .int .i64 0, .int .i64 (gI L 0), .int .i64 0, .string t, .slice none 0 0] = v4 at *
 have hL := R.load (P := Tryz.prog) (n := 7) rfl
 (try simp only [Exit.inBlock, Exit.then])
 exact bodyPost_ret (v := .agg #[.int .i64 10, .int .i64 0, .int .i64 0, .int .i64 (gI L 0), .int .i64 0, .string t, .slice none 0 0]) (by simp [results, Tryz.results40, go_sem]; rw [hL]; rfl) rfl ⟨none, 0, rfl, .inl ⟨rfl, rfl, rfl⟩, B⟩
attribute [-go_sem] loadCells storeCells in
set_option maxHeartbeats 4000000 in
set_option maxRecDepth 100000 in
theorem specOp_11 (L : List Int) (t : ByteArray) (g cap : Nat) (w : World) (hl : 1 ≤ L.length) (hc : L.length ≤ 1000) (C : Cs w g 0 L.length (itG (gI L))) :
 Calls Tryz.prog 40 #[.int .i64 11, .slice (some ⟨g, 0, none⟩) L.length cap, .string t] w fun e w' => ∃ p c, e = .returned (.agg (opV (opZ 11 L t) p c)) ∧ LsA w' w.heap.size p (opZ 11 L t).n c (opZ 11 L t).f ∧ Below w.heap.size w w' := by
 have B := (Below.nw w (.cells #[.int .i64 0, .int .i64 0, .int .i64 0, .int .i64 0, .int .i64 0, .string ⟨#[]⟩, .slice none 0 0] 26)).alloc (by simp) (.cells #[.int .i64 0, .int .i64 0, .int .i64 0, .int .i64 0, .int .i64 0, .string ⟨#[]⟩, .slice none 0 0] 26)
 have R : Bo ((w.alloc (.cells #[.int .i64 0, .int .i64 0, .int .i64 0, .int .i64 0, .int .i64 0, .string ⟨#[]⟩, .slice none 0 0] 26)).alloc (.cells #[.int .i64 0, .int .i64 0, .int .i64 0, .int .i64 0, .int .i64 0, .string ⟨#[]⟩, .slice none 0 0] 26)) w.heap.size #[.int .i64 0, .int .i64 0, .int .i64 0, .int .i64 0, .int .i64 0, .string ⟨#[]⟩, .slice none 0 0] := (Bo.new w #[.int .i64 0, .int .i64 0, .int .i64 0, .int .i64 0, .int .i64 0, .string ⟨#[]⟩, .slice none 0 0] 26).below (Below.nw _ _)
 have O : Bo ((w.alloc (.cells #[.int .i64 0, .int .i64 0, .int .i64 0, .int .i64 0, .int .i64 0, .string ⟨#[]⟩, .slice none 0 0] 26)).alloc (.cells #[.int .i64 0, .int .i64 0, .int .i64 0, .int .i64 0, .int .i64 0, .string ⟨#[]⟩, .slice none 0 0] 26)) (w.heap.size + 1) #[.int .i64 0, .int .i64 0, .int .i64 0, .int .i64 0, .int .i64 0, .string ⟨#[]⟩, .slice none 0 0] := by
  have := Bo.new (w.alloc (.cells #[.int .i64 0, .int .i64 0, .int .i64 0, .int .i64 0, .int .i64 0, .string ⟨#[]⟩, .slice none 0 0] 26)) #[.int .i64 0, .int .i64 0, .int .i64 0, .int .i64 0, .int .i64 0, .string ⟨#[]⟩, .slice none 0 0] 26
  simpa using this
 have hst : (storeCells ⟨w.heap.size + 1, 0, none⟩ [.int .i64 11, .int .i64 0, .int .i64 0, .int .i64 0, .int .i64 0, .string t, .slice none 0 0] 0).run Tryz.prog ((w.alloc (.cells #[.int .i64 0, .int .i64 0, .int .i64 0, .int .i64 0, .int .i64 0, .string ⟨#[]⟩, .slice none 0 0] 26)).alloc (.cells #[.int .i64 0, .int .i64 0, .int .i64 0, .int .i64 0, .int .i64 0, .string ⟨#[]⟩, .slice none 0 0] 26)) = .ok () (putA ((w.alloc (.cells #[.int .i64 0, .int .i64 0, .int .i64 0, .int .i64 0, .int .i64 0, .string ⟨#[]⟩, .slice none 0 0] 26)).alloc (.cells #[.int .i64 0, .int .i64 0, .int .i64 0, .int .i64 0, .int .i64 0, .string ⟨#[]⟩, .slice none 0 0] 26)) (w.heap.size + 1) 0 [.int .i64 11, .int .i64 0, .int .i64 0, .int .i64 0, .int .i64 0, .string t, .slice none 0 0]) := Bo.store (P := Tryz.prog) (b := 0) _ 0 0 O rfl (by simp) (opV_one ⟨11, 0, 0, 0, 0, t, 0, fun _ => 0⟩ none 0)
 replace O : Bo (putA ((w.alloc (.cells #[.int .i64 0, .int .i64 0, .int .i64 0, .int .i64 0, .int .i64 0, .string ⟨#[]⟩, .slice none 0 0] 26)).alloc (.cells #[.int .i64 0, .int .i64 0, .int .i64 0, .int .i64 0, .int .i64 0, .string ⟨#[]⟩, .slice none 0 0] 26)) (w.heap.size + 1) 0 [.int .i64 11, .int .i64 0, .int .i64 0, .int .i64 0, .int .i64 0, .string t, .slice none 0 0]) (w.heap.size + 1) #[.int .i64 11, .int .i64 0, .int .i64 0, .int .i64 0, .int .i64 0, .string t, .slice none 0 0] := O.putW (U := #[.int .i64 11, .int .i64 0, .int .i64 0, .int .i64 0, .int .i64 0, .string t, .slice none 0 0]) rfl
 have b1 : Below (w.heap.size + 1) ((w.alloc (.cells #[.int .i64 0, .int .i64 0, .int .i64 0, .int .i64 0, .int .i64 0, .string ⟨#[]⟩, .slice none 0 0] 26)).alloc (.cells #[.int .i64 0, .int .i64 0, .int .i64 0, .int .i64 0, .int .i64 0, .string ⟨#[]⟩, .slice none 0 0] 26)) (putA ((w.alloc (.cells #[.int .i64 0, .int .i64 0, .int .i64 0, .int .i64 0, .int .i64 0, .string ⟨#[]⟩, .slice none 0 0] 26)).alloc (.cells #[.int .i64 0, .int .i64 0, .int .i64 0, .int .i64 0, .int .i64 0, .string ⟨#[]⟩, .slice none 0 0] 26)) (w.heap.size + 1) 0 [.int .i64 11, .int .i64 0, .int .i64 0, .int .i64 0, .int .i64 0, .string t, .slice none 0 0]) := putA_below _ _ _ 0 (Below.refl _ _) (Nat.le_refl _)
 replace R := R.belowB b1 (Nat.lt_succ_self _)
 replace B := B.trans (b1.mono (Nat.le_succ _))
 clear b1
 go_enter Tryz.func40, Tryz.ntmps40
 go_upto_region 2 with (rw [hst])
 clear hst
 have C2 := C.below B C.1
 generalize putA ((w.alloc (.cells #[.int .i64 0, .int .i64 0, .int .i64 0, .int .i64 0, .int .i64 0, .string ⟨#[]⟩, .slice none 0 0] 26)).alloc (.cells #[.int .i64 0, .int .i64 0, .int .i64 0, .int .i64 0, .int .i64 0, .string ⟨#[]⟩, .slice none 0 0] 26)) (w.heap.size + 1) 0 [.int .i64 11, .int .i64 0, .int .i64 0, .int .i64 0, .int .i64 0, .string t, .slice none 0 0] = v2 at *
 have hg : g < w.heap.size := C.1
 have n0 : v2.cell? ⟨g, 0, none⟩ = some (.int .i64 (gI L 0)) := by have q := C2.2 0 (by omega); rwa [Nat.zero_add] at q
 have i0 : (0 : Int) < (L.length : Int) := by omega
 have hs3 : (storeCells ⟨w.heap.size + 1, 3, none⟩ [.int .i64 (gI L 0)] 0).run Tryz.prog v2 = .ok () (v2.setCell ⟨w.heap.size + 1, 3, none⟩ (.int .i64 (gI L 0))) := Bo.store (P := Tryz.prog) (b := 3) [.int .i64 (gI L 0)] 3 0 O rfl (by simp) (by intro u hu; simp at hu; subst hu; rfl)
 replace O : Bo (v2.setCell ⟨w.heap.size + 1, 3, none⟩ (.int .i64 (gI L 0))) (w.heap.size + 1) #[.int .i64 11, .int .i64 0, .int .i64 0, .int .i64 (gI L 0), .int .i64 0, .string t, .slice none 0 0] := O.set 3 (.int .i64 (gI L 0))
 have b1 : Below (w.heap.size + 1) v2 (v2.setCell ⟨w.heap.size + 1, 3, none⟩ (.int .i64 (gI L 0))) := (Below.refl _ _).setCell (p := ⟨w.heap.size + 1, 3, none⟩) (Nat.le_refl _) _
 replace R := R.belowB b1 (Nat.lt_succ_self _)
 replace B := B.trans (b1.mono (Nat.le_succ _))
 replace C2 : Cs (v2.setCell ⟨w.heap.size + 1, 3, none⟩ (.int .i64 (gI L 0))) g 0 L.length (itG (gI L)) := C2.below b1 (Nat.lt_succ_of_lt hg)
 clear b1
 clear C C2
 go_upto_region 25 with (first | rw [hs3])
 clear n0 i0 hs3
 generalize (v2.setCell ⟨w.heap.size + 1, 3, none⟩ (.int .i64 (gI L 0))) = v3 at *
 have hL := O.load (P := Tryz.prog) (n := 7) rfl
 have hst : (storeCells ⟨w.heap.size, 0, none⟩ [.int .i64 11, .int .i64 0, .int .i64 0, .int .i64 (gI L 0), .int .i64 0, .string t, .slice none 0 0] 0).run Tryz.prog v3 = .ok () (putA v3 w.heap.size 0 [.int .i64 11, .int .i64 0, .int .i64 0, .int .i64 (gI L 0), .int .i64 0, .string t, .slice none 0 0]) := Bo.store (P := Tryz.prog) (b := 0) _ 0 0 R rfl (by simp) (opV_one (opZ 11 L t) none 0)
 replace R : Bo (putA v3 w.heap.size 0 [.int .i64 11, .int .i64 0, .int .i64 0, .int .i64 (gI L 0), .int .i64 0, .string t, .slice none 0 0]) w.heap.size #[.int .i64 11, .int .i64 0, .int .i64 0, .int .i64 (gI L 0), .int .i64 0, .string t, .slice none 0 0] := R.putW (U := #[.int .i64 11, .int .i64 0, .int .i64 0, .int .i64 (gI L 0), .int .i64 0, .string t, .slice none 0 0]) rfl
 replace B := putA_below (k := w.heap.size) [.int .i64 11, .int .i64 0, .int .i64 0, .int .i64 (gI L 0), .int .i64 0, .string t, .slice none 0 0] w v3 0 B (Nat.le_refl _)
 clear O
 go_wp2_with (first | rw [hL] | rw [hst])
 clear hL hst
 generalize putA v3 w.heap.size 0 [.int .i64 11, .int .i64 0, .int .i64 0, .int .i64 (gI L 0), .int .i64 0, .string t, .slice none 0 0] = v4 at *
 have hL := R.load (P := Tryz.prog) (n := 7) rfl
 (try simp only [Exit.inBlock, Exit.then])
 exact bodyPost_ret (v := .agg #[.int .i64 11, .int .i64 0, .int .i64 0, .int .i64 (gI L 0), .int .i64 0, .string t, .slice none 0 0]) (by simp [results, Tryz.results40, go_sem]; rw [hL]; rfl) rfl ⟨none, 0, rfl, .inl ⟨rfl, rfl, rfl⟩, B⟩
attribute [-go_sem] loadCells storeCells in
set_option maxHeartbeats 4000000 in
set_option maxRecDepth 100000 in
theorem specOp_12 (L : List Int) (t : ByteArray) (g cap : Nat) (w : World) (hl : 1 ≤ L.length) (hc : L.length ≤ 1000) (C : Cs w g 0 L.length (itG (gI L))) :
 Calls Tryz.prog 40 #[.int .i64 12, .slice (some ⟨g, 0, none⟩) L.length cap, .string t] w fun e w' => ∃ p c, e = .returned (.agg (opV (opZ 12 L t) p c)) ∧ LsA w' w.heap.size p (opZ 12 L t).n c (opZ 12 L t).f ∧ Below w.heap.size w w' := by
 have B := (Below.nw w (.cells #[.int .i64 0, .int .i64 0, .int .i64 0, .int .i64 0, .int .i64 0, .string ⟨#[]⟩, .slice none 0 0] 26)).alloc (by simp) (.cells #[.int .i64 0, .int .i64 0, .int .i64 0, .int .i64 0, .int .i64 0, .string ⟨#[]⟩, .slice none 0 0] 26)
 have R : Bo ((w.alloc (.cells #[.int .i64 0, .int .i64 0, .int .i64 0, .int .i64 0, .int .i64 0, .string ⟨#[]⟩, .slice none 0 0] 26)).alloc (.cells #[.int .i64 0, .int .i64 0, .int .i64 0, .int .i64 0, .int .i64 0, .string ⟨#[]⟩, .slice none 0 0] 26)) w.heap.size #[.int .i64 0, .int .i64 0, .int .i64 0, .int .i64 0, .int .i64 0, .string ⟨#[]⟩, .slice none 0 0] := (Bo.new w #[.int .i64 0, .int .i64 0, .int .i64 0, .int .i64 0, .int .i64 0, .string ⟨#[]⟩, .slice none 0 0] 26).below (Below.nw _ _)
 have O : Bo ((w.alloc (.cells #[.int .i64 0, .int .i64 0, .int .i64 0, .int .i64 0, .int .i64 0, .string ⟨#[]⟩, .slice none 0 0] 26)).alloc (.cells #[.int .i64 0, .int .i64 0, .int .i64 0, .int .i64 0, .int .i64 0, .string ⟨#[]⟩, .slice none 0 0] 26)) (w.heap.size + 1) #[.int .i64 0, .int .i64 0, .int .i64 0, .int .i64 0, .int .i64 0, .string ⟨#[]⟩, .slice none 0 0] := by
  have := Bo.new (w.alloc (.cells #[.int .i64 0, .int .i64 0, .int .i64 0, .int .i64 0, .int .i64 0, .string ⟨#[]⟩, .slice none 0 0] 26)) #[.int .i64 0, .int .i64 0, .int .i64 0, .int .i64 0, .int .i64 0, .string ⟨#[]⟩, .slice none 0 0] 26
  simpa using this
 have hst : (storeCells ⟨w.heap.size + 1, 0, none⟩ [.int .i64 12, .int .i64 0, .int .i64 0, .int .i64 0, .int .i64 0, .string t, .slice none 0 0] 0).run Tryz.prog ((w.alloc (.cells #[.int .i64 0, .int .i64 0, .int .i64 0, .int .i64 0, .int .i64 0, .string ⟨#[]⟩, .slice none 0 0] 26)).alloc (.cells #[.int .i64 0, .int .i64 0, .int .i64 0, .int .i64 0, .int .i64 0, .string ⟨#[]⟩, .slice none 0 0] 26)) = .ok () (putA ((w.alloc (.cells #[.int .i64 0, .int .i64 0, .int .i64 0, .int .i64 0, .int .i64 0, .string ⟨#[]⟩, .slice none 0 0] 26)).alloc (.cells #[.int .i64 0, .int .i64 0, .int .i64 0, .int .i64 0, .int .i64 0, .string ⟨#[]⟩, .slice none 0 0] 26)) (w.heap.size + 1) 0 [.int .i64 12, .int .i64 0, .int .i64 0, .int .i64 0, .int .i64 0, .string t, .slice none 0 0]) := Bo.store (P := Tryz.prog) (b := 0) _ 0 0 O rfl (by simp) (opV_one ⟨12, 0, 0, 0, 0, t, 0, fun _ => 0⟩ none 0)
 replace O : Bo (putA ((w.alloc (.cells #[.int .i64 0, .int .i64 0, .int .i64 0, .int .i64 0, .int .i64 0, .string ⟨#[]⟩, .slice none 0 0] 26)).alloc (.cells #[.int .i64 0, .int .i64 0, .int .i64 0, .int .i64 0, .int .i64 0, .string ⟨#[]⟩, .slice none 0 0] 26)) (w.heap.size + 1) 0 [.int .i64 12, .int .i64 0, .int .i64 0, .int .i64 0, .int .i64 0, .string t, .slice none 0 0]) (w.heap.size + 1) #[.int .i64 12, .int .i64 0, .int .i64 0, .int .i64 0, .int .i64 0, .string t, .slice none 0 0] := O.putW (U := #[.int .i64 12, .int .i64 0, .int .i64 0, .int .i64 0, .int .i64 0, .string t, .slice none 0 0]) rfl
 have b1 : Below (w.heap.size + 1) ((w.alloc (.cells #[.int .i64 0, .int .i64 0, .int .i64 0, .int .i64 0, .int .i64 0, .string ⟨#[]⟩, .slice none 0 0] 26)).alloc (.cells #[.int .i64 0, .int .i64 0, .int .i64 0, .int .i64 0, .int .i64 0, .string ⟨#[]⟩, .slice none 0 0] 26)) (putA ((w.alloc (.cells #[.int .i64 0, .int .i64 0, .int .i64 0, .int .i64 0, .int .i64 0, .string ⟨#[]⟩, .slice none 0 0] 26)).alloc (.cells #[.int .i64 0, .int .i64 0, .int .i64 0, .int .i64 0, .int .i64 0, .string ⟨#[]⟩, .slice none 0 0] 26)) (w.heap.size + 1) 0 [.int .i64 12, .int .i64 0, .int .i64 0, .int .i64 0, .int .i64 0, .string t, .slice none 0 0]) := putA_below _ _ _ 0 (Below.refl _ _) (Nat.le_refl _)
 replace R := R.belowB b1 (Nat.lt_succ_self _)
 replace B := B.trans (b1.mono (Nat.le_succ _))
 clear b1
 go_enter Tryz.func40, Tryz.ntmps40
 go_upto_region 2 with (rw [hst])
 clear hst
 have C2 := C.below B C.1
 generalize putA ((w.alloc (.cells #[.int .i64 0, .int .i64 0, .int .i64 0, .int .i64 0, .int .i64 0, .string ⟨#[]⟩, .slice none 0 0] 26)).alloc (.cells #[.int .i64 0, .int .i64 0, .int .i64 0, .int .i64 0, .int .i64 0, .string ⟨#[]⟩, .slice none 0 0] 26)) (w.heap.size + 1) 0 [.int .i64 12, .int .i64 0, .int .i64 0, .int .i64 0, .int .i64 0, .string t, .slice none 0 0] = v2 at *
 have hg : g < w.heap.size := C.1
 have n0 : v2.cell? ⟨g, 0, none⟩ = some (.int .i64 (gI L 0)) := by have q := C2.2 0 (by omega); rwa [Nat.zero_add] at q
 have i0 : (0 : Int) < (L.length : Int) := by omega
 have hs3 : (storeCells ⟨w.heap.size + 1, 3, none⟩ [.int .i64 (gI L 0)] 0).run Tryz.prog v2 = .ok () (v2.setCell ⟨w.heap.size + 1, 3, none⟩ (.int .i64 (gI L 0))) := Bo.store (P := Tryz.prog) (b := 3) [.int .i64 (gI L 0)] 3 0 O rfl (by simp) (by intro u hu; simp at hu; subst hu; rfl)
 replace O : Bo (v2.setCell ⟨w.heap.size + 1, 3, none⟩ (.int .i64 (gI L 0))) (w.heap.size + 1) #[.int .i64 12, .int .i64 0, .int .i64 0, .int .i64 (gI L 0), .int .i64 0, .string t, .slice none 0 0] := O.set 3 (.int .i64 (gI L 0))
 have b1 : Below (w.heap.size + 1) v2 (v2.setCell ⟨w.heap.size + 1, 3, none⟩ (.int .i64 (gI L 0))) := (Below.refl _ _).setCell (p := ⟨w.heap.size + 1, 3, none⟩) (Nat.le_refl _) _
 replace R := R.belowB b1 (Nat.lt_succ_self _)
 replace B := B.trans (b1.mono (Nat.le_succ _))
 replace C2 : Cs (v2.setCell ⟨w.heap.size + 1, 3, none⟩ (.int .i64 (gI L 0))) g 0 L.length (itG (gI L)) := C2.below b1 (Nat.lt_succ_of_lt hg)
 clear b1
 clear C C2
 go_upto_region 25 with (first | rw [hs3])
 clear n0 i0 hs3
 generalize (v2.setCell ⟨w.heap.size + 1, 3, none⟩ (.int .i64 (gI L 0))) = v3 at *
 have hL := O.load (P := Tryz.prog) (n := 7) rfl
 have hst : (storeCells ⟨w.heap.size, 0, none⟩ [.int .i64 12, .int .i64 0, .int .i64 0, .int .i64 (gI L 0), .int .i64 0, .string t, .slice none 0 0] 0).run Tryz.prog v3 = .ok () (putA v3 w.heap.size 0 [.int .i64 12, .int .i64 0, .int .i64 0, .int .i64 (gI L 0), .int .i64 0, .string t, .slice none 0 0]) := Bo.store (P := Tryz.prog) (b := 0) _ 0 0 R rfl (by simp) (opV_one (opZ 12 L t) none 0)
 replace R : Bo (putA v3 w.heap.size 0 [.int .i64 12, .int .i64 0, .int .i64 0, .int .i64 (gI L 0), .int .i64 0, .string t, .slice none 0 0]) w.heap.size #[.int .i64 12, .int .i64 0, .int .i64 0, .int .i64 (gI L 0), .int .i64 0, .string t, .slice none 0 0] := R.putW (U := #[.int .i64 12, .int .i64 0, .int .i64 0, .int .i64 (gI L 0), .int .i64 0, .string t, .slice none 0 0]) rfl
 replace B := putA_below (k := w.heap.size) [.int .i64 12, .int .i64 0, .int .i64 0, .int .i64 (gI L 0), .int .i64 0, .string t, .slice none 0 0] w v3 0 B (Nat.le_refl _)
 clear O
 go_wp2_with (first | rw [hL] | rw [hst])
 clear hL hst
 generalize putA v3 w.heap.size 0 [.int .i64 12, .int .i64 0, .int .i64 0, .int .i64 (gI L 0), .int .i64 0, .string t, .slice none 0 0] = v4 at *
 have hL := R.load (P := Tryz.prog) (n := 7) rfl
 (try simp only [Exit.inBlock, Exit.then])
 exact bodyPost_ret (v := .agg #[.int .i64 12, .int .i64 0, .int .i64 0, .int .i64 (gI L 0), .int .i64 0, .string t, .slice none 0 0]) (by simp [results, Tryz.results40, go_sem]; rw [hL]; rfl) rfl ⟨none, 0, rfl, .inl ⟨rfl, rfl, rfl⟩, B⟩
attribute [-go_sem] loadCells storeCells in
set_option maxHeartbeats 4000000 in
set_option maxRecDepth 100000 in
theorem specOp_13 (L : List Int) (t : ByteArray) (g cap : Nat) (w : World) (hl : 2 ≤ L.length) (hc : L.length ≤ 1000) (C : Cs w g 0 L.length (itG (gI L))) :
 Calls Tryz.prog 40 #[.int .i64 13, .slice (some ⟨g, 0, none⟩) L.length cap, .string t] w fun e w' => ∃ p c, e = .returned (.agg (opV (opZ 13 L t) p c)) ∧ LsA w' w.heap.size p (opZ 13 L t).n c (opZ 13 L t).f ∧ Below w.heap.size w w' := by
 have B := (Below.nw w (.cells #[.int .i64 0, .int .i64 0, .int .i64 0, .int .i64 0, .int .i64 0, .string ⟨#[]⟩, .slice none 0 0] 26)).alloc (by simp) (.cells #[.int .i64 0, .int .i64 0, .int .i64 0, .int .i64 0, .int .i64 0, .string ⟨#[]⟩, .slice none 0 0] 26)
 have R : Bo ((w.alloc (.cells #[.int .i64 0, .int .i64 0, .int .i64 0, .int .i64 0, .int .i64 0, .string ⟨#[]⟩, .slice none 0 0] 26)).alloc (.cells #[.int .i64 0, .int .i64 0, .int .i64 0, .int .i64 0, .int .i64 0, .string ⟨#[]⟩, .slice none 0 0] 26)) w.heap.size #[.int .i64 0, .int .i64 0, .int .i64 0, .int .i64 0, .int .i64 0, .string ⟨#[]⟩, .slice none 0 0] := (Bo.new w #[.int .i64 0, .int .i64 0, .int .i64 0, .int .i64 0, .int .i64 0, .string ⟨#[]⟩, .slice none 0 0] 26).below (Below.nw _ _)
 have O : Bo ((w.alloc (.cells #[.int .i64 0, .int .i64 0, .int .i64 0, .int .i64 0, .int .i64 0, .string ⟨#[]⟩, .slice none 0 0] 26)).alloc (.cells #[.int .i64 0, .int .i64 0, .int .i64 0, .int .i64 0, .int .i64 0, .string ⟨#[]⟩, .slice none 0 0] 26)) (w.heap.size + 1) #[.int .i64 0, .int .i64 0, .int .i64 0, .int .i64 0, .int .i64 0, .string ⟨#[]⟩, .slice none 0 0] := by
  have := Bo.new (w.alloc (.cells #[.int .i64 0, .int .i64 0, .int .i64 0, .int .i64 0, .int .i64 0, .string ⟨#[]⟩, .slice none 0 0] 26)) #[.int .i64 0, .int .i64 0, .int .i64 0, .int .i64 0, .int .i64 0, .string ⟨#[]⟩, .slice none 0 0] 26
  simpa using this
 have hst : (storeCells ⟨w.heap.size + 1, 0, none⟩ [.int .i64 13, .int .i64 0, .int .i64 0, .int .i64 0, .int .i64 0, .string t, .slice none 0 0] 0).run Tryz.prog ((w.alloc (.cells #[.int .i64 0, .int .i64 0, .int .i64 0, .int .i64 0, .int .i64 0, .string ⟨#[]⟩, .slice none 0 0] 26)).alloc (.cells #[.int .i64 0, .int .i64 0, .int .i64 0, .int .i64 0, .int .i64 0, .string ⟨#[]⟩, .slice none 0 0] 26)) = .ok () (putA ((w.alloc (.cells #[.int .i64 0, .int .i64 0, .int .i64 0, .int .i64 0, .int .i64 0, .string ⟨#[]⟩, .slice none 0 0] 26)).alloc (.cells #[.int .i64 0, .int .i64 0, .int .i64 0, .int .i64 0, .int .i64 0, .string ⟨#[]⟩, .slice none 0 0] 26)) (w.heap.size + 1) 0 [.int .i64 13, .int .i64 0, .int .i64 0, .int .i64 0, .int .i64 0, .string t, .slice none 0 0]) := Bo.store (P := Tryz.prog) (b := 0) _ 0 0 O rfl (by simp) (opV_one ⟨13, 0, 0, 0, 0, t, 0, fun _ => 0⟩ none 0)
 replace O : Bo (putA ((w.alloc (.cells #[.int .i64 0, .int .i64 0, .int .i64 0, .int .i64 0, .int .i64 0, .string ⟨#[]⟩, .slice none 0 0] 26)).alloc (.cells #[.int .i64 0, .int .i64 0, .int .i64 0, .int .i64 0, .int .i64 0, .string ⟨#[]⟩, .slice none 0 0] 26)) (w.heap.size + 1) 0 [.int .i64 13, .int .i64 0, .int .i64 0, .int .i64 0, .int .i64 0, .string t, .slice none 0 0]) (w.heap.size + 1) #[.int .i64 13, .int .i64 0, .int .i64 0, .int .i64 0, .int .i64 0, .string t, .slice none 0 0] := O.putW (U := #[.int .i64 13, .int .i64 0, .int .i64 0, .int .i64 0, .int .i64 0, .string t, .slice none 0 0]) rfl
 have b1 : Below (w.heap.size + 1) ((w.alloc (.cells #[.int .i64 0, .int .i64 0, .int .i64 0, .int .i64 0, .int .i64 0, .string ⟨#[]⟩, .slice none 0 0] 26)).alloc (.cells #[.int .i64 0, .int .i64 0, .int .i64 0, .int .i64 0, .int .i64 0, .string ⟨#[]⟩, .slice none 0 0] 26)) (putA ((w.alloc (.cells #[.int .i64 0, .int .i64 0, .int .i64 0, .int .i64 0, .int .i64 0, .string ⟨#[]⟩, .slice none 0 0] 26)).alloc (.cells #[.int .i64 0, .int .i64 0, .int .i64 0, .int .i64 0, .int .i64 0, .string ⟨#[]⟩, .slice none 0 0] 26)) (w.heap.size + 1) 0 [.int .i64 13, .int .i64 0, .int .i64 0, .int .i64 0, .int .i64 0, .string t, .slice none 0 0]) := putA_below _ _ _ 0 (Below.refl _ _) (Nat.le_refl _)
 replace R := R.belowB b1 (Nat.lt_succ_self _)
 replace B := B.trans (b1.mono (Nat.le_succ _))
 clear b1
 go_enter Tryz.func40, Tryz.ntmps40
 go_upto_region 2 with (rw [hst])
 clear hst
 have C2 := C.below B C.1
 generalize putA ((w.alloc (.cells #[.int .i64 0, .int .i64 0, .int .i64 0, .int .i64 0, .int .i64 0, .string ⟨#[]⟩, .slice none 0 0] 26)).alloc (.cells #[.int .i64 0, .int .i64 0, .int .i64 0, .int .i64 0, .int .i64 0, .string ⟨#[]⟩, .slice none 0 0] 26)) (w.heap.size + 1) 0 [.int .i64 13, .int .i64 0, .int .i64 0, .int .i64 0, .int .i64 0, .string t, .slice none 0 0] = v2 at *
 have hg : g < w.heap.size := C.1
 have n0 : v2.cell? ⟨g, 0, none⟩ = some (.int .i64 (gI L 0)) := by have q := C2.2 0 (by omega); rwa [Nat.zero_add] at q
 have i0 : (0 : Int) < (L.length : Int) := by omega
 have hs3 : (storeCells ⟨w.heap.size + 1, 3, none⟩ [.int .i64 (gI L 0)] 0).run Tryz.prog v2 = .ok () (v2.setCell ⟨w.heap.size + 1, 3, none⟩ (.int .i64 (gI L 0))) := Bo.store (P := Tryz.prog) (b := 3) [.int .i64 (gI L 0)] 3 0 O rfl (by simp) (by intro u hu; simp at hu; subst hu; rfl)
 replace O : Bo (v2.setCell ⟨w.heap.size + 1, 3, none⟩ (.int .i64 (gI L 0))) (w.heap.size + 1) #[.int .i64 13, .int .i64 0, .int .i64 0, .int .i64 (gI L 0), .int .i64 0, .string t, .slice none 0 0] := O.set 3 (.int .i64 (gI L 0))
 have b1 : Below (w.heap.size + 1) v2 (v2.setCell ⟨w.heap.size + 1, 3, none⟩ (.int .i64 (gI L 0))) := (Below.refl _ _).setCell (p := ⟨w.heap.size + 1, 3, none⟩) (Nat.le_refl _) _
 replace R := R.belowB b1 (Nat.lt_succ_self _)
 replace B := B.trans (b1.mono (Nat.le_succ _))
 replace C2 : Cs (v2.setCell ⟨w.heap.size + 1, 3, none⟩ (.int .i64 (gI L 0))) g 0 L.length (itG (gI L)) := C2.below b1 (Nat.lt_succ_of_lt hg)
 clear b1
 have n1 : (v2.setCell ⟨w.heap.size + 1, 3, none⟩ (.int .i64 (gI L 0))).cell? ⟨g, 1, none⟩ = some (.int .i64 (gI L 1)) := by have q := C2.2 1 (by omega); rwa [Nat.zero_add] at q
 have i1 : (1 : Int) < (L.length : Int) := by omega
 have hs4 : (storeCells ⟨w.heap.size + 1, 4, none⟩ [.int .i64 (gI L 1)] 0).run Tryz.prog (v2.setCell ⟨w.heap.size + 1, 3, none⟩ (.int .i64 (gI L 0))) = .ok () ((v2.setCell ⟨w.heap.size + 1, 3, none⟩ (.int .i64 (gI L 0))).setCell ⟨w.heap.size + 1, 4, none⟩ (.int .i64 (gI L 1))) := Bo.store (P := Tryz.prog) (b := 4) [.int .i64 (gI L 1)] 4 0 O rfl (by simp) (by intro u hu; simp at hu; subst hu; rfl)
 replace O : Bo ((v2.setCell ⟨w.heap.size + 1, 3, none⟩ (.int .i64 (gI L 0))).setCell ⟨w.heap.size + 1, 4, none⟩ (.int .i64 (gI L 1))) (w.heap.size + 1) #[.int .i64 13, .int .i64 0, .int .i64 0, .int .i64 (gI L 0), .int .i64 (gI L 1), .string t, .slice none 0 0] := O.set 4 (.int .i64 (gI L 1))
 have b1 : Below (w.heap.size + 1) (v2.setCell ⟨w.heap.size + 1, 3, none⟩ (.int .i64 (gI L 0))) ((v2.setCell ⟨w.heap.size + 1, 3, none⟩ (.int .i64 (gI L 0))).setCell ⟨w.heap.size + 1, 4, none⟩ (.int .i64 (gI L 1))) := (Below.refl _ _).setCell (p := ⟨w.heap.size + 1, 4, none⟩) (Nat.le_refl _) _
 replace R := R.belowB b1 (Nat.lt_succ_self _)
 replace B := B.trans (b1.mono (Nat.le_succ _))
 replace C2 : Cs ((v2.setCell ⟨w.heap.size + 1, 3, none⟩ (.int .i64 (gI L 0))).setCell ⟨w.heap.size + 1, 4, none⟩ (.int .i64 (gI L 1))) g 0 L.length (itG (gI L)) := C2.below b1 (Nat.lt_succ_of_lt hg)
 clear b1
 clear C C2
 go_upto_region 25 with (first | rw [hs3] | rw [hs4])
 clear n0 i0 n1 i1 hs3 hs4
 generalize ((v2.setCell ⟨w.heap.size + 1, 3, none⟩ (.int .i64 (gI L 0))).setCell ⟨w.heap.size + 1, 4, none⟩ (.int .i64 (gI L 1))) = v3 at *
 have hL := O.load (P := Tryz.prog) (n := 7) rfl
 have hst : (storeCells ⟨w.heap.size, 0, none⟩ [.int .i64 13, .int .i64 0, .int .i64 0, .int .i64 (gI L 0), .int .i64 (gI L 1), .string t, .slice none 0 0] 0).run Tryz.prog v3 = .ok () (putA v3 w.heap.size 0 [.int .i64 13, .int .i64 0, .int .i64 0, .int .i64 (gI L 0), .int .i64 (gI L 1), .string t, .slice none 0 0]) := Bo.store (P := Tryz.prog) (b := 0) _ 0 0 R rfl (by simp) (opV_one (opZ 13 L t) none 0)
 replace R : Bo (putA v3 w.heap.size 0 [.int .i64 13, .int .i64 0, .int .i64 0, .int .i64 (gI L 0), .int .i64 (gI L 1), .string t, .slice none 0 0]) w.heap.size #[.int .i64 13, .int .i64 0, .int .i64 0, .int .i64 (gI L 0), .int .i64 (gI L 1), .string t, .slice none 0 0] := R.putW (U := #[.int .i64 13, .int .i64 0, .int .i64 0, .int .i64 (gI L 0), .int .i64 (gI L 1), .string t, .slice none 0 0]) rfl
 replace B := putA_below (k := w.heap.size) [.int .i64 13, .int .i64 0, .int .i64 0, .int .i64 (gI L 0), .int .i64 (gI L 1), .string t, .slice none 0 0] w v3 0 B (Nat.le_refl _)
 clear O
 go_wp2_with (first | rw [hL] | rw [hst])
 clear hL hst
 generalize putA v3 w.heap.size 0 [.int .i64 13, .int .i64 0, .int .i64 0, .int .i64 (gI L 0), .int .i64 (gI L 1), .string t, .slice none 0 0] = v4 at *
 have hL := R.load (P := Tryz.prog) (n := 7) rfl
 (try simp only [Exit.inBlock, Exit.then])
 exact bodyPost_ret (v := .agg #[.int .i64 13, .int .i64 0, .int .i64 0, .int .i64 (gI L 0), .int .i64 (gI L 1), .string t, .slice none 0 0]) (by simp [results, Tryz.results40, go_sem]; rw [hL]; rfl) rfl ⟨none, 0, rfl, .inl ⟨rfl, rfl, rfl⟩, B⟩
attribute [-go_sem] loadCells storeCells in
set_option maxHeartbeats 4000000 in
set_option maxRecDepth 100000 in
theorem specOp_1 (L : List Int) (t : ByteArray) (g cap : Nat) (w : World) (hl : 1 ≤ L.length) (hc : L.length ≤ 1000) (hcap : L.length ≤ cap) (C : Cs w g 0 L.length (itG (gI L))) :
 Calls Tryz.prog 40 #[.int .i64 1, .slice (some ⟨g, 0, none⟩) L.length cap, .string t] w fun e w' => ∃ p c, e = .returned (.agg (opV (opZ 1 L t) p c)) ∧ LsA w' w.heap.size p (opZ 1 L t).n c (opZ 1 L t).f ∧ Below w.heap.size w w' := by
 obtain ⟨i0, hi, hz0, hz1, hz2⟩ := info_parts info_int
 have B := (Below.nw w (.cells #[.int .i64 0, .int .i64 0, .int .i64 0, .int .i64 0, .int .i64 0, .string ⟨#[]⟩, .slice none 0 0] 26)).alloc (by simp) (.cells #[.int .i64 0, .int .i64 0, .int .i64 0, .int .i64 0, .int .i64 0, .string ⟨#[]⟩, .slice none 0 0] 26)
 have R : Bo ((w.alloc (.cells #[.int .i64 0, .int .i64 0, .int .i64 0, .int .i64 0, .int .i64 0, .string ⟨#[]⟩, .slice none 0 0] 26)).alloc (.cells #[.int .i64 0, .int .i64 0, .int .i64 0, .int .i64 0, .int .i64 0, .string ⟨#[]⟩, .slice none 0 0] 26)) w.heap.size #[.int .i64 0, .int .i64 0, .int .i64 0, .int .i64 0, .int .i64 0, .string ⟨#[]⟩, .slice none 0 0] := (Bo.new w #[.int .i64 0, .int .i64 0, .int .i64 0, .int .i64 0, .int .i64 0, .string ⟨#[]⟩, .slice none 0 0] 26).below (Below.nw _ _)
 have O : Bo ((w.alloc (.cells #[.int .i64 0, .int .i64 0, .int .i64 0, .int .i64 0, .int .i64 0, .string ⟨#[]⟩, .slice none 0 0] 26)).alloc (.cells #[.int .i64 0, .int .i64 0, .int .i64 0, .int .i64 0, .int .i64 0, .string ⟨#[]⟩, .slice none 0 0] 26)) (w.heap.size + 1) #[.int .i64 0, .int .i64 0, .int .i64 0, .int .i64 0, .int .i64 0, .string ⟨#[]⟩, .slice none 0 0] := by
  have := Bo.new (w.alloc (.cells #[.int .i64 0, .int .i64 0, .int .i64 0, .int .i64 0, .int .i64 0, .string ⟨#[]⟩, .slice none 0 0] 26)) #[.int .i64 0, .int .i64 0, .int .i64 0, .int .i64 0, .int .i64 0, .string ⟨#[]⟩, .slice none 0 0] 26
  simpa using this
 have hst : (storeCells ⟨w.heap.size + 1, 0, none⟩ [.int .i64 1, .int .i64 0, .int .i64 0, .int .i64 0, .int .i64 0, .string t, .slice none 0 0] 0).run Tryz.prog ((w.alloc (.cells #[.int .i64 0, .int .i64 0, .int .i64 0, .int .i64 0, .int .i64 0, .string ⟨#[]⟩, .slice none 0 0] 26)).alloc (.cells #[.int .i64 0, .int .i64 0, .int .i64 0, .int .i64 0, .int .i64 0, .string ⟨#[]⟩, .slice none 0 0] 26)) = .ok () (putA ((w.alloc (.cells #[.int .i64 0, .int .i64 0, .int .i64 0, .int .i64 0, .int .i64 0, .string ⟨#[]⟩, .slice none 0 0] 26)).alloc (.cells #[.int .i64 0, .int .i64 0, .int .i64 0, .int .i64 0, .int .i64 0, .string ⟨#[]⟩, .slice none 0 0] 26)) (w.heap.size + 1) 0 [.int .i64 1, .int .i64 0, .int .i64 0, .int .i64 0, .int .i64 0, .string t, .slice none 0 0]) := Bo.store (P := Tryz.prog) (b := 0) _ 0 0 O rfl (by simp) (opV_one ⟨1, 0, 0, 0, 0, t, 0, fun _ => 0⟩ none 0)
 replace O : Bo (putA ((w.alloc (.cells #[.int .i64 0, .int .i64 0, .int .i64 0, .int .i64 0, .int .i64 0, .string ⟨#[]⟩, .slice none 0 0] 26)).alloc (.cells #[.int .i64 0, .int .i64 0, .int .i64 0, .int .i64 0, .int .i64 0, .string ⟨#[]⟩, .slice none 0 0] 26)) (w.heap.size + 1) 0 [.int .i64 1, .int .i64 0, .int .i64 0, .int .i64 0, .int .i64 0, .string t, .slice none 0 0]) (w.heap.size + 1) #[.int .i64 1, .int .i64 0, .int .i64 0, .int .i64 0, .int .i64 0, .string t, .slice none 0 0] := O.putW (U := #[.int .i64 1, .int .i64 0, .int .i64 0, .int .i64 0, .int .i64 0, .string t, .slice none 0 0]) rfl
 have b1 : Below (w.heap.size + 1) ((w.alloc (.cells #[.int .i64 0, .int .i64 0, .int .i64 0, .int .i64 0, .int .i64 0, .string ⟨#[]⟩, .slice none 0 0] 26)).alloc (.cells #[.int .i64 0, .int .i64 0, .int .i64 0, .int .i64 0, .int .i64 0, .string ⟨#[]⟩, .slice none 0 0] 26)) (putA ((w.alloc (.cells #[.int .i64 0, .int .i64 0, .int .i64 0, .int .i64 0, .int .i64 0, .string ⟨#[]⟩, .slice none 0 0] 26)).alloc (.cells #[.int .i64 0, .int .i64 0, .int .i64 0, .int .i64 0, .int .i64 0, .string ⟨#[]⟩, .slice none 0 0] 26)) (w.heap.size + 1) 0 [.int .i64 1, .int .i64 0, .int .i64 0, .int .i64 0, .int .i64 0, .string t, .slice none 0 0]) := putA_below _ _ _ 0 (Below.refl _ _) (Nat.le_refl _)
 replace R := R.belowB b1 (Nat.lt_succ_self _)
 replace B := B.trans (b1.mono (Nat.le_succ _))
 clear b1
 go_enter Tryz.func40, Tryz.ntmps40
 go_upto_region 2 with (rw [hst])
 clear hst
 have C2 := C.below B C.1
 generalize putA ((w.alloc (.cells #[.int .i64 0, .int .i64 0, .int .i64 0, .int .i64 0, .int .i64 0, .string ⟨#[]⟩, .slice none 0 0] 26)).alloc (.cells #[.int .i64 0, .int .i64 0, .int .i64 0, .int .i64 0, .int .i64 0, .string ⟨#[]⟩, .slice none 0 0] 26)) (w.heap.size + 1) 0 [.int .i64 1, .int .i64 0, .int .i64 0, .int .i64 0, .int .i64 0, .string t, .slice none 0 0] = v2 at *
 have hg : g < w.heap.size := C.1
 have n0 : v2.cell? ⟨g, 0, none⟩ = some (.int .i64 (gI L 0)) := by have q := C2.2 0 (by omega); rwa [Nat.zero_add] at q
 have i0' : (0 : Int) < (L.length : Int) := by omega
 have hs3 : (storeCells ⟨w.heap.size + 1, 3, none⟩ [.int .i64 (gI L 0)] 0).run Tryz.prog v2 = .ok () (v2.setCell ⟨w.heap.size + 1, 3, none⟩ (.int .i64 (gI L 0))) := Bo.store (P := Tryz.prog) (b := 3) [.int .i64 (gI L 0)] 3 0 O rfl (by simp) (by intro u hu; simp at hu; subst hu; rfl)
 replace O : Bo (v2.setCell ⟨w.heap.size + 1, 3, none⟩ (.int .i64 (gI L 0))) (w.heap.size + 1) #[.int .i64 1, .int .i64 0, .int .i64 0, .int .i64 (gI L 0), .int .i64 0, .string t, .slice none 0 0] := O.set 3 (.int .i64 (gI L 0))
 have b1 : Below (w.heap.size + 1) v2 (v2.setCell ⟨w.heap.size + 1, 3, none⟩ (.int .i64 (gI L 0))) := (Below.refl _ _).setCell (p := ⟨w.heap.size + 1, 3, none⟩) (Nat.le_refl _) _
 replace R := R.belowB b1 (Nat.lt_succ_self _)
 replace B := B.trans (b1.mono (Nat.le_succ _))
 replace C2 : Cs (v2.setCell ⟨w.heap.size + 1, 3, none⟩ (.int .i64 (gI L 0))) g 0 L.length (itG (gI L)) := C2.below b1 (Nat.lt_succ_of_lt hg)
 clear b1
 go_upto_region 6 with (rw [hs3])
 clear n0 i0' hs3
 have hk1 := O.1
 generalize v2.setCell ⟨w.heap.size + 1, 3, none⟩ (.int .i64 (gI L 0)) = v3 at *
 have O2 := own_ints v3 [] (by show (0 : Nat) ≤ 64; omega)
 have b2 := Below.nw v3 (.cells (irow []).toArray 3)
 have HS : LsO (v3.alloc (.cells (irow []).toArray 3)) (if cap = 1 then some ⟨g, 0, none⟩ else some ⟨g, 1, none⟩) (L.length - 1) (cap - 1) (fun j => gI L (j + 1)) := by
  by_cases hc1 : cap = 1
  ·rw [if_pos hc1]
   exact .inr ⟨g, 0, rfl, .inl (by omega)⟩
  ·rw [if_neg hc1]
   refine .inr ⟨g, 1, rfl, .inr ⟨Nat.lt_of_lt_of_le C2.1 b2.size, fun j hj => ?_⟩⟩
   have q := (C2.below b2 C2.1).2 (j + 1) (by omega)
   rw [Nat.zero_add] at q
   rw [Nat.add_comm 1 j]
   exact q
 have HS2 : Hid (((if cap = 1 then some ⟨g, 0, none⟩ else some ⟨g, 1, none⟩) = (none : Option Addr) ∧ L.length - 1 = 0 ∧ cap - 1 = 0) ∨ ∃ ad : Addr, (if cap = 1 then some ⟨g, 0, none⟩ else some ⟨g, 1, none⟩) = some ad ∧ ∀ j u, (irow ((List.range (L.length - 1)).map fun j => gI L (j + 1)))[j]? = some u → (v3.alloc (.cells (irow []).toArray 3)).cell? (ad.add j) = some u) := HS.at
 have hlm : (irow ((List.range (L.length - 1)).map fun j => gI L (j + 1))).length = (L.length - 1) * 1 := by simp [irow]
 replace O := O.below b2
 replace R := R.below b2
 replace B := B.trans (b2.mono B.size)
 have hsz : v3.heap.size ≤ (v3.alloc (.cells (irow []).toArray 3)).heap.size := b2.size
 clear HS C2 b2
 change (v3.alloc (.cells #[] 3)).ownsRow v3.heap.size 3 1 (.slice (some ⟨v3.heap.size, 0, none⟩) 0 0) 0 (irow []) at O2
 change Bo (v3.alloc (.cells #[] 3)) (w.heap.size + 1) _ at O
 change Bo (v3.alloc (.cells #[] 3)) w.heap.size _ at R
 change Below w.heap.size w (v3.alloc (.cells #[] 3)) at B
 change v3.heap.size ≤ (v3.alloc (.cells #[] 3)).heap.size at hsz
 change Hid (_ ∨ ∃ ad : Addr, _ ∧ ∀ j u, _ → (v3.alloc (.cells #[] 3)).cell? (ad.add j) = some u) at HS2
 have hb3 : w.heap.size + 1 < v3.heap.size := by
  rcases Nat.lt_or_ge (w.heap.size + 1) v3.heap.size with q | q
  ·exact q
  ·exact absurd hk1 (by omega)
 have hl1 : (1 : Int) ≤ (L.length : Int) := by omega
 have hcap1 : (L.length : Int) ≤ (cap : Int) := by omega
 go_wp2_with (at_builtin; refine wpList_append_optX rfl _ _ 24 rfl v3.heap.size 3 i0 (.int .i64 0) 1 8 Tryz.underlying24 hi hz0 hz1 hz2 rfl (by decide) _ _ _ rfl O2 (if cap = 1 then some ⟨g, 0, none⟩ else some ⟨g, 1, none⟩) (L.length - 1) (cap - 1) (irow ((List.range (L.length - 1)).map fun j => gI L (j + 1))) rfl HS2.out hlm (irow_on _) (by unfold maxLen; omega) (by omega) hsz ?_; intro v' w9 O9 hg9; (have B9 := grown_belowK O2 hg9 hsz); (rw [Nat.zero_add] at O9); (obtain ⟨p9, c9, rfl, HL9⟩ := lsO_own (f := fun j => gI L (j + 1)) O9))
 all_goals (
  replace O := O.belowB B9 hb3
  replace R := R.belowB B9 (by omega)
  replace B := B.trans (B9.mono (by omega))
  clear O2 HS2 hlm hsz O9 hg9 B9
  have hs6 : (storeCells ⟨w.heap.size + 1, 6, none⟩ [.slice p9 (L.length - 1) c9] 0).run Tryz.prog w9 = .ok () (w9.setCell ⟨w.heap.size + 1, 6, none⟩ (.slice p9 (L.length - 1) c9)) := Bo.store (P := Tryz.prog) (b := 6) [.slice p9 (L.length - 1) c9] 6 0 O rfl (by simp) (by intro u hu; simp at hu; subst hu; rfl)
  replace HL9 : LsA (w9.setCell ⟨w.heap.size + 1, 6, none⟩ (.slice p9 (L.length - 1) c9)) v3.heap.size p9 (L.length - 1) c9 (fun j => gI L (j + 1)) := HL9.but [.slice p9 (L.length - 1) c9] 6 hb3
  replace O : Bo (w9.setCell ⟨w.heap.size + 1, 6, none⟩ (.slice p9 (L.length - 1) c9)) (w.heap.size + 1) #[.int .i64 1, .int .i64 0, .int .i64 0, .int .i64 (gI L 0), .int .i64 0, .string t, .slice p9 (L.length - 1) c9] := O.set 6 _
  have b1 : Below (w.heap.size + 1) w9 (w9.setCell ⟨w.heap.size + 1, 6, none⟩ (.slice p9 (L.length - 1) c9)) := (Below.refl _ _).setCell (p := ⟨w.heap.size + 1, 6, none⟩) (Nat.le_refl _) _
  replace R := R.belowB b1 (Nat.lt_succ_self _)
  replace B := B.trans (b1.mono (Nat.le_succ _))
  clear b1
  go_upto_region 25 with (rw [hs6])
  clear hs6
  generalize w9.setCell ⟨w.heap.size + 1, 6, none⟩ (.slice p9 (L.length - 1) c9) = v4 at *
  have hL := O.load (P := Tryz.prog) (n := 7) rfl
  have hst : (storeCells ⟨w.heap.size, 0, none⟩ [.int .i64 1, .int .i64 0, .int .i64 0, .int .i64 (gI L 0), .int .i64 0, .string t, .slice p9 (L.length - 1) c9] 0).run Tryz.prog v4 = .ok () (putA v4 w.heap.size 0 [.int .i64 1, .int .i64 0, .int .i64 0, .int .i64 (gI L 0), .int .i64 0, .string t, .slice p9 (L.length - 1) c9]) := Bo.store (P := Tryz.prog) (b := 0) _ 0 0 R rfl (by simp) (opV_one (opZ 1 L t) p9 c9)
  replace R : Bo (putA v4 w.heap.size 0 [.int .i64 1, .int .i64 0, .int .i64 0, .int .i64 (gI L 0), .int .i64 0, .string t, .slice p9 (L.length - 1) c9]) w.heap.size #[.int .i64 1, .int .i64 0, .int .i64 0, .int .i64 (gI L 0), .int .i64 0, .string t, .slice p9 (L.length - 1) c9] := R.putW (U := #[.int .i64 1, .int .i64 0, .int .i64 0, .int .i64 (gI L 0), .int .i64 0, .string t, .slice p9 (L.length - 1) c9]) rfl
  replace B := putA_below (k := w.heap.size) [.int .i64 1, .int .i64 0, .int .i64 0, .int .i64 (gI L 0), .int .i64 0, .string t, .slice p9 (L.length - 1) c9] w v4 0 B (Nat.le_refl _)
  replace HL9 : LsA (putA v4 w.heap.size 0 [.int .i64 1, .int .i64 0, .int .i64 0, .int .i64 (gI L 0), .int .i64 0, .string t, .slice p9 (L.length - 1) c9]) v3.heap.size p9 (L.length - 1) c9 (fun j => gI L (j + 1)) := HL9.but _ 0 (by omega)
  clear O
  go_wp2_with (first | rw [hL] | rw [hst])
  clear hL hst
  generalize putA v4 w.heap.size 0 [.int .i64 1, .int .i64 0, .int .i64 0, .int .i64 (gI L 0), .int .i64 0, .string t, .slice p9 (L.length - 1) c9] = v5 at *
  have hL := R.load (P := Tryz.prog) (n := 7) rfl
  (try simp only [Exit.inBlock, Exit.then])
  exact bodyPost_ret (v := .agg #[.int .i64 1, .int .i64 0, .int .i64 0, .int .i64 (gI L 0), .int .i64 0, .string t, .slice p9 (L.length - 1) c9]) (by simp [results, Tryz.results40, go_sem]; rw [hL]; rfl) rfl ⟨p9, c9, rfl, HL9.low (by omega), B⟩)

end Go.Proofs.YtddjiamollfplaaGreatDoor
