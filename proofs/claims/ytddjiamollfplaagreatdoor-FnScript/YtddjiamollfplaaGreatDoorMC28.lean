/- What the words of a line put into an op (the program). -/
import Derived.Test.YtddjiamollfplaaGreatDoorMC27
namespace Go.Proofs.YtddjiamollfplaaGreatDoor
open Go.RowKit
set_option linter.unusedVariables false

theorem jr {s t : ByteArray} (h : (s.toList == t.toList) = true) : s = t := by
 have e := eq_of_beq h
 rw [ByteArray.toList_eq, ByteArray.toList_eq] at e
 exact ByteArray.ext (Array.ext' e)
theorem lX {s t : ByteArray} (h : s ≠ t) : (s.toList == t.toList) = false := by
 cases q : (s.toList == t.toList)
 ·rfl
 ·exact absurd (jr q) h
theorem iR (t : ByteArray) : ∀ k, kdL t k ≠ 0 → t = nmK ((kdL t k : Nat) : Int)
 | 0, h => absurd rfl h
 | k + 1, h => by
  unfold kdL at h ⊢
  by_cases q : (t.toList == (nmK ((k + 1 : Nat) : Int)).toList) = true
  ·rw [if_pos q]; exact jr q
  ·rw [if_neg q] at h ⊢; exact iR t k h
theorem iT (t : ByteArray) : ∀ k, kdL t k = 0 → ∀ j : Nat, 1 ≤ j → j ≤ k → t ≠ nmK (j : Int)
 | 0, _, j, h1, h2 => by omega
 | k + 1, h, j, h1, h2 => by
  unfold kdL at h
  by_cases q : (t.toList == (nmK ((k + 1 : Nat) : Int)).toList) = true
  ·rw [if_pos q] at h; omega
  ·rw [if_neg q] at h
   by_cases e : j = k + 1
   ·subst e; intro e2; exact q (by rw [e2]; exact beq_self_eq_true _)
   ·exact iT t k h j h1 (by omega)
theorem ch.look2 {w : World} {b n : Nat} {F : ByteArray → Option Value} (h : ch w b n F) {s : ByteArray} (hs : s.size ≤ maxLen) : (Instr.lookup 52 (.map (some b)) (.string s) true).run Tryz.prog w = .ok (.tuple #[(F s).getD .nilFunc, .bool (F s).isSome]) w := by
 obtain ⟨D, h1, h2⟩ := h
 obtain ⟨u, ps, hrun, hu⟩ := h1.look_ok (t := 52) (e := 51) kV Tryz.underlying52 (lU w) (zd := .held .nilFunc) (zp := []) rfl (WideMaps.keyOf_string_mk Tryz.underlying9 hs)
 rw [(h2 s).1] at hu
 rw [hrun, (h2 s).2]
 unfold R0f at hu
 cases q : F s <;> rw [q] at hu <;> (unfold atF at hu; simp only [Option.some.injEq, Prod.mk.injEq, DataW.held.injEq] at hu; rw [hu.1]; rfl)
theorem jY (x : Addr) : x.add 0 = x := by
 unfold Addr.add
 split <;> simp_all
theorem aw {P : Program} {w : World} {x : Addr} {u v : Value} (hc : w.cell? x = some u) (hf : w.frozen? x = false) (hv : v.oneCell' = true) : (storeCells x [v] 0).run P w = .ok () (w.setCell x v) := by
 rw [storeCells, Sem.run_bind, jY, run_store _ _ _ _ _ hv, hc]
 simp [hf, Result.andThen]
 rfl
theorem mR (Z : List Int) (z : Int) : gI (Z ++ [z]) Z.length = z := by simp [gI, List.getD_eq_getElem?_getD]
theorem mT (Z : List Int) (z : Int) {j : Nat} (h : j < Z.length) : gI (Z ++ [z]) j = gI Z j := by
 simp [gI, List.getD_eq_getElem?_getD, List.getElem?_append_left h]
def c7 (v w : World) : Prop := ∀ (b : Nat) (T : TypeId) (N : Nat), b < v.heap.size → (∃ g, v.rowIs b T N g) → ∃ g, w.rowIs b T N g
theorem c7.below {v w w' : World} (h : c7 v w) (hs : v.heap.size ≤ w.heap.size) (hb : Below w.heap.size w w') : c7 v w' := fun b T N hlt he => by
 obtain ⟨g, hg⟩ := h b T N hlt he
 exact ⟨g, hg.of_block (hb.block b (Nat.lt_of_lt_of_le hlt hs))⟩
theorem c7.put {v w : World} (h : c7 v w) {x : Addr} (hx : x.spot = none) (u : Value) : c7 v (w.setCell x u) := fun b T N hlt he => by
 obtain ⟨g, hg⟩ := h b T N hlt he
 obtain ⟨k, o, sp⟩ := x
 have hx : sp = none := hx
 subst hx
 by_cases e : b = k
 ·subst e; exact ⟨_, hg.set o u⟩
 ·exact ⟨g, hg.setOther e u⟩
def Rdd (base : Nat) (L : List Addr) (Z : List Int) (v w : World) : Prop :=
 Below base v w ∧ (∀ p : Addr, p.block < v.heap.size → w.frozen? p = v.frozen? p) ∧ (∀ p : Addr, p.block < v.heap.size → (∀ (j : Nat) x, j < Z.length → L[j]? = some x → p ≠ x) → w.cell? p = v.cell? p) ∧ (∀ (j : Nat) x, j < Z.length → L[j]? = some x → w.cell? x = some (.int .i64 (gI Z j))) ∧ c7 v w
theorem Rdd.nil (base : Nat) (L : List Addr) (w : World) : Rdd base L [] w w := ⟨Below.refl _ _, fun _ _ => rfl, fun _ _ _ => rfl, fun j x h => absurd h (Nat.not_lt_zero _), fun _ _ _ _ h => h⟩
theorem Rdd.below {base : Nat} {L : List Addr} {Z : List Int} {v w w' : World} (h : Rdd base L Z v w) (hL : ∀ (j : Nat) x, L[j]? = some x → x.block < v.heap.size) (hbv : base ≤ v.heap.size) (hb : Below w.heap.size w w') : Rdd base L Z v w' :=
 ⟨h.1.trans (hb.mono (Nat.le_trans hbv h.1.size)), fun p hp => by rw [hb.frozen (Nat.lt_of_lt_of_le hp h.1.size)]; exact h.2.1 p hp, fun p hp hn => by rw [hb.cell (Nat.lt_of_lt_of_le hp h.1.size)]; exact h.2.2.1 p hp hn, fun j x hj hx => by rw [hb.cell (Nat.lt_of_lt_of_le (hL j x hx) h.1.size)]; exact h.2.2.2.1 j x hj hx, h.2.2.2.2.below h.1.size hb⟩
def eV (L : List Addr) : Prop := ∀ (i j : Nat) (y : Addr), L[i]? = some y → L[j]? = some y → i = j
theorem Rdd.at {base : Nat} {L : List Addr} {Z : List Int} {v w : World} (h : Rdd base L Z v w) (hN : eV L) {x : Addr} (hx : L[Z.length]? = some x) (hT : x.block < v.heap.size) : w.cell? x = v.cell? x :=
 h.2.2.1 x hT fun j y hj hy e => by subst e; exact absurd (hN _ _ _ hx hy) (by omega)
theorem Rdd.put {base : Nat} {L : List Addr} {Z : List Int} {v w : World} (h : Rdd base L Z v w) (hN : eV L) {x : Addr} (hx : L[Z.length]? = some x) (hT : x.block < v.heap.size) (hb : base ≤ x.block) (hsp : x.spot = none) {u : Value} (hc : v.cell? x = some u) (z : Int) : Rdd base L (Z ++ [z]) v (w.setCell x (.int .i64 z)) := by
 have hl : (Z ++ [z]).length = Z.length + 1 := by simp
 have hcw := (h.at hN hx hT).trans hc
 refine ⟨h.1.setCell hb _, fun p hp => ?_, fun p hp hn => ?_, fun j y hj hy => ?_, h.2.2.2.2.put hsp _⟩
 ·have q := h.2.1 p hp
  simpa using q
 ·have hne : x ≠ p := fun e => hn Z.length x (by omega) hx e.symm
  rw [World.cell?_setCell_other _ _ _ _ hne]
  exact h.2.2.1 p hp fun j y hj hy => hn j y (by omega) hy
 ·by_cases e : j = Z.length
  ·subst e
   rw [hx] at hy
   cases hy
   rw [mR]
   exact World.cell?_setCell_same _ _ _ hcw
  ·have hne : x ≠ y := fun e2 => by subst e2; exact e (hN _ _ _ hy hx)
   rw [World.cell?_setCell_other _ _ _ _ hne, mT Z z (by omega)]
   exact h.2.2.2.1 j y (by omega) hy
def TgL (base : Nat) (w : World) (L : List Addr) : Prop := ∀ (j : Nat) x, L[j]? = some x → x.block < w.heap.size ∧ base ≤ x.block ∧ x.spot = none ∧ (∃ u, w.cell? x = some u) ∧ w.frozen? x = false
theorem aV {L : List Addr} (h : L.Nodup) : eV L := fun i j y hi hj => by
 obtain ⟨hl, _⟩ := List.getElem?_eq_some_iff.1 hi
 exact (List.getElem?_inj hl h).1 (hi.trans hj.symm)
theorem mE (ob : Nat) (ad : Addr) : ∀ n, (psL ob ad n)[0]? = some ⟨ob, 3, none⟩
 | 0 => rfl
 | n + 1 => by rw [psL, List.getElem?_append_left (by rw [bu]; omega)]; exact mE ob ad n
theorem lp (ob : Nat) (ad : Addr) : ∀ n j, j < n → (psL ob ad n)[j + 1]? = some (ad.add j)
 | 0, j, h => by omega
 | n + 1, j, h => by
  rw [psL]
  by_cases e : j = n
  ·subst e
   rw [List.getElem?_append_right (by rw [bu]; omega), bu, show j + 1 - (1 + j) = 0 by omega]
   rfl
  ·rw [List.getElem?_append_left (by rw [bu]; omega)]
   exact lp ob ad n j (by omega)
def dR (w : World) (ob : Nat) (K : Nat) (p : Option Addr) (n : Nat) : Prop := Bo w ob #[.int .i64 (K : Int), .int .i64 0, .int .i64 0, .int .i64 0, .int .i64 0, .string ⟨#[]⟩, .slice p n n] ∧ (K ≠ 1 → p = none) ∧ ((p = none ∧ n = 0) ∨ ∃ g, p = some ⟨g, 0, none⟩ ∧ g ≠ ob ∧ bA w g 3 n n (fun _ => .int .i64 0))
theorem cX {w : World} {ob K base : Nat} {p : Option Addr} {n : Nat} (h1 : 1 ≤ K) (h2 : K ≤ 14) (hR : dR w ob K p n) (hob : base ≤ ob) (hg : ∀ g, p = some ⟨g, 0, none⟩ → base ≤ g) : TgL base w (opA ob p n (K : Int)) ∧ eV (opA ob p n (K : Int)) ∧ (K ≠ 1 → ∀ (j : Nat) x, (opA ob p n (K : Int))[j]? = some x → x.block = ob) ∧ ∀ (j : Nat) x, (opA ob p n (K : Int))[j]? = some x → x ≠ ⟨ob, 5, none⟩ := by
 obtain ⟨hO, hk, hs⟩ := hR
 have C : ∀ i u, (#[.int .i64 (K : Int), .int .i64 0, .int .i64 0, .int .i64 0, .int .i64 0, .string ⟨#[]⟩, .slice p n n] : Array Value)[i]? = some u → (⟨ob, i, none⟩ : Addr).block < w.heap.size ∧ base ≤ (⟨ob, i, none⟩ : Addr).block ∧ (⟨ob, i, none⟩ : Addr).spot = none ∧ (∃ u, w.cell? ⟨ob, i, none⟩ = some u) ∧ w.frozen? ⟨ob, i, none⟩ = false := fun i u hi => ⟨hO.1, hob, rfl, ⟨u, hO.2.1 i u hi⟩, hO.2.2 i (Array.getElem?_eq_some_iff.1 hi).1⟩
 have C1 := C 1 _ rfl
 have C2 := C 2 _ rfl
 have C3 := C 3 _ rfl
 have C4 := C 4 _ rfl
 rcases jy h1 h2 with rfl | rfl | rfl | rfl | rfl | rfl | rfl | rfl | rfl | rfl | rfl | rfl | rfl | rfl
 ·rcases hs with ⟨rfl, rfl⟩ | ⟨g, rfl, hne, hG⟩
  ·refine ⟨fun j x hx => ?_, aV (by simp [opA, psP]), fun h => absurd rfl h, fun j x hx => ?_⟩
   ·have hx : ([⟨ob, 3, none⟩] : List Addr)[j]? = some x := hx
    match j, hx with
    | 0, hx => simp at hx; subst hx; exact C3
    | j + 1, hx => simp at hx
   ·have hx : ([⟨ob, 3, none⟩] : List Addr)[j]? = some x := hx
    match j, hx with
    | 0, hx => simp at hx; subst hx; simp
    | j + 1, hx => simp at hx
  ·refine ⟨fun j x hx => ?_, fun i j y hi hj => ?_, fun h => absurd rfl h, fun j x hx => ?_⟩
   ·rcases bs ob ⟨g, 0, none⟩ n j x hx with ⟨rfl, rfl⟩ | ⟨q1, q2, rfl⟩
    ·exact C3
    ·rw [add_at, Nat.zero_add]
     obtain ⟨f1, f2⟩ := hG.facts (j - 1) (by omega)
     exact ⟨hG.lt, hg g rfl, rfl, f1, f2⟩
   ·rcases bs ob ⟨g, 0, none⟩ n i y hi with ⟨rfl, e1⟩ | ⟨q1, q2, e1⟩
    ·rcases bs ob ⟨g, 0, none⟩ n j y hj with ⟨rfl, e2⟩ | ⟨r1, r2, e2⟩
     ·rfl
     ·rw [e1, add_at] at e2
      injection e2 with e3
      exact absurd e3.symm hne
    ·rcases bs ob ⟨g, 0, none⟩ n j y hj with ⟨rfl, e2⟩ | ⟨r1, r2, e2⟩
     ·rw [e1, add_at] at e2
      injection e2 with e3
      exact absurd e3 hne
     ·rw [e1, add_at, add_at] at e2
      injection e2 with e3 e4
      omega
   ·rcases bs ob ⟨g, 0, none⟩ n j x hx with ⟨rfl, rfl⟩ | ⟨q1, q2, rfl⟩
    ·simp
    ·rw [add_at]
     intro e
     injection e with e3
     exact hne e3
 ·refine ⟨fun j x hx => ?_, aV (show ([⟨ob, 1, none⟩] : List Addr).Nodup by simp), fun _ j x hx => ?_, fun j x hx => ?_⟩
  ·have hx : ([⟨ob, 1, none⟩] : List Addr)[j]? = some x := hx
   match j, hx with
   | 0, hx => simp at hx; subst hx; exact C1
   | j + 1, hx => simp at hx
  ·have hx : ([⟨ob, 1, none⟩] : List Addr)[j]? = some x := hx
   match j, hx with
   | 0, hx => simp at hx; subst hx; rfl
   | j + 1, hx => simp at hx
  ·have hx : ([⟨ob, 1, none⟩] : List Addr)[j]? = some x := hx
   match j, hx with
   | 0, hx => simp at hx; subst hx; simp
   | j + 1, hx => simp at hx
 ·refine ⟨fun j x hx => ?_, aV (show ([⟨ob, 1, none⟩] : List Addr).Nodup by simp), fun _ j x hx => ?_, fun j x hx => ?_⟩
  ·have hx : ([⟨ob, 1, none⟩] : List Addr)[j]? = some x := hx
   match j, hx with
   | 0, hx => simp at hx; subst hx; exact C1
   | j + 1, hx => simp at hx
  ·have hx : ([⟨ob, 1, none⟩] : List Addr)[j]? = some x := hx
   match j, hx with
   | 0, hx => simp at hx; subst hx; rfl
   | j + 1, hx => simp at hx
  ·have hx : ([⟨ob, 1, none⟩] : List Addr)[j]? = some x := hx
   match j, hx with
   | 0, hx => simp at hx; subst hx; simp
   | j + 1, hx => simp at hx
 ·refine ⟨fun j x hx => ?_, aV (show ([⟨ob, 1, none⟩, ⟨ob, 3, none⟩, ⟨ob, 4, none⟩] : List Addr).Nodup by simp), fun _ j x hx => ?_, fun j x hx => ?_⟩
  ·have hx : ([⟨ob, 1, none⟩, ⟨ob, 3, none⟩, ⟨ob, 4, none⟩] : List Addr)[j]? = some x := hx
   match j, hx with
   | 0, hx => simp at hx; subst hx; exact C1
   | 1, hx => simp at hx; subst hx; exact C3
   | 2, hx => simp at hx; subst hx; exact C4
   | j + 3, hx => simp at hx
  ·have hx : ([⟨ob, 1, none⟩, ⟨ob, 3, none⟩, ⟨ob, 4, none⟩] : List Addr)[j]? = some x := hx
   match j, hx with
   | 0, hx => simp at hx; subst hx; rfl
   | 1, hx => simp at hx; subst hx; rfl
   | 2, hx => simp at hx; subst hx; rfl
   | j + 3, hx => simp at hx
  ·have hx : ([⟨ob, 1, none⟩, ⟨ob, 3, none⟩, ⟨ob, 4, none⟩] : List Addr)[j]? = some x := hx
   match j, hx with
   | 0, hx => simp at hx; subst hx; simp
   | 1, hx => simp at hx; subst hx; simp
   | 2, hx => simp at hx; subst hx; simp
   | j + 3, hx => simp at hx
 ·refine ⟨fun j x hx => ?_, aV (show ([⟨ob, 1, none⟩, ⟨ob, 2, none⟩] : List Addr).Nodup by simp), fun _ j x hx => ?_, fun j x hx => ?_⟩
  ·have hx : ([⟨ob, 1, none⟩, ⟨ob, 2, none⟩] : List Addr)[j]? = some x := hx
   match j, hx with
   | 0, hx => simp at hx; subst hx; exact C1
   | 1, hx => simp at hx; subst hx; exact C2
   | j + 2, hx => simp at hx
  ·have hx : ([⟨ob, 1, none⟩, ⟨ob, 2, none⟩] : List Addr)[j]? = some x := hx
   match j, hx with
   | 0, hx => simp at hx; subst hx; rfl
   | 1, hx => simp at hx; subst hx; rfl
   | j + 2, hx => simp at hx
  ·have hx : ([⟨ob, 1, none⟩, ⟨ob, 2, none⟩] : List Addr)[j]? = some x := hx
   match j, hx with
   | 0, hx => simp at hx; subst hx; simp
   | 1, hx => simp at hx; subst hx; simp
   | j + 2, hx => simp at hx
 ·refine ⟨fun j x hx => ?_, aV (show ([⟨ob, 1, none⟩] : List Addr).Nodup by simp), fun _ j x hx => ?_, fun j x hx => ?_⟩
  ·have hx : ([⟨ob, 1, none⟩] : List Addr)[j]? = some x := hx
   match j, hx with
   | 0, hx => simp at hx; subst hx; exact C1
   | j + 1, hx => simp at hx
  ·have hx : ([⟨ob, 1, none⟩] : List Addr)[j]? = some x := hx
   match j, hx with
   | 0, hx => simp at hx; subst hx; rfl
   | j + 1, hx => simp at hx
  ·have hx : ([⟨ob, 1, none⟩] : List Addr)[j]? = some x := hx
   match j, hx with
   | 0, hx => simp at hx; subst hx; simp
   | j + 1, hx => simp at hx
 ·refine ⟨fun j x hx => ?_, aV (show ([⟨ob, 1, none⟩] : List Addr).Nodup by simp), fun _ j x hx => ?_, fun j x hx => ?_⟩
  ·have hx : ([⟨ob, 1, none⟩] : List Addr)[j]? = some x := hx
   match j, hx with
   | 0, hx => simp at hx; subst hx; exact C1
   | j + 1, hx => simp at hx
  ·have hx : ([⟨ob, 1, none⟩] : List Addr)[j]? = some x := hx
   match j, hx with
   | 0, hx => simp at hx; subst hx; rfl
   | j + 1, hx => simp at hx
  ·have hx : ([⟨ob, 1, none⟩] : List Addr)[j]? = some x := hx
   match j, hx with
   | 0, hx => simp at hx; subst hx; simp
   | j + 1, hx => simp at hx
 ·refine ⟨fun j x hx => ?_, aV (show ([⟨ob, 1, none⟩] : List Addr).Nodup by simp), fun _ j x hx => ?_, fun j x hx => ?_⟩
  ·have hx : ([⟨ob, 1, none⟩] : List Addr)[j]? = some x := hx
   match j, hx with
   | 0, hx => simp at hx; subst hx; exact C1
   | j + 1, hx => simp at hx
  ·have hx : ([⟨ob, 1, none⟩] : List Addr)[j]? = some x := hx
   match j, hx with
   | 0, hx => simp at hx; subst hx; rfl
   | j + 1, hx => simp at hx
  ·have hx : ([⟨ob, 1, none⟩] : List Addr)[j]? = some x := hx
   match j, hx with
   | 0, hx => simp at hx; subst hx; simp
   | j + 1, hx => simp at hx
 ·refine ⟨fun j x hx => ?_, aV (show ([⟨ob, 1, none⟩, ⟨ob, 3, none⟩] : List Addr).Nodup by simp), fun _ j x hx => ?_, fun j x hx => ?_⟩
  ·have hx : ([⟨ob, 1, none⟩, ⟨ob, 3, none⟩] : List Addr)[j]? = some x := hx
   match j, hx with
   | 0, hx => simp at hx; subst hx; exact C1
   | 1, hx => simp at hx; subst hx; exact C3
   | j + 2, hx => simp at hx
  ·have hx : ([⟨ob, 1, none⟩, ⟨ob, 3, none⟩] : List Addr)[j]? = some x := hx
   match j, hx with
   | 0, hx => simp at hx; subst hx; rfl
   | 1, hx => simp at hx; subst hx; rfl
   | j + 2, hx => simp at hx
  ·have hx : ([⟨ob, 1, none⟩, ⟨ob, 3, none⟩] : List Addr)[j]? = some x := hx
   match j, hx with
   | 0, hx => simp at hx; subst hx; simp
   | 1, hx => simp at hx; subst hx; simp
   | j + 2, hx => simp at hx
 ·refine ⟨fun j x hx => ?_, aV (show ([⟨ob, 3, none⟩] : List Addr).Nodup by simp), fun _ j x hx => ?_, fun j x hx => ?_⟩
  ·have hx : ([⟨ob, 3, none⟩] : List Addr)[j]? = some x := hx
   match j, hx with
   | 0, hx => simp at hx; subst hx; exact C3
   | j + 1, hx => simp at hx
  ·have hx : ([⟨ob, 3, none⟩] : List Addr)[j]? = some x := hx
   match j, hx with
   | 0, hx => simp at hx; subst hx; rfl
   | j + 1, hx => simp at hx
  ·have hx : ([⟨ob, 3, none⟩] : List Addr)[j]? = some x := hx
   match j, hx with
   | 0, hx => simp at hx; subst hx; simp
   | j + 1, hx => simp at hx
 ·refine ⟨fun j x hx => ?_, aV (show ([⟨ob, 3, none⟩] : List Addr).Nodup by simp), fun _ j x hx => ?_, fun j x hx => ?_⟩
  ·have hx : ([⟨ob, 3, none⟩] : List Addr)[j]? = some x := hx
   match j, hx with
   | 0, hx => simp at hx; subst hx; exact C3
   | j + 1, hx => simp at hx
  ·have hx : ([⟨ob, 3, none⟩] : List Addr)[j]? = some x := hx
   match j, hx with
   | 0, hx => simp at hx; subst hx; rfl
   | j + 1, hx => simp at hx
  ·have hx : ([⟨ob, 3, none⟩] : List Addr)[j]? = some x := hx
   match j, hx with
   | 0, hx => simp at hx; subst hx; simp
   | j + 1, hx => simp at hx
 ·refine ⟨fun j x hx => ?_, aV (show ([⟨ob, 3, none⟩] : List Addr).Nodup by simp), fun _ j x hx => ?_, fun j x hx => ?_⟩
  ·have hx : ([⟨ob, 3, none⟩] : List Addr)[j]? = some x := hx
   match j, hx with
   | 0, hx => simp at hx; subst hx; exact C3
   | j + 1, hx => simp at hx
  ·have hx : ([⟨ob, 3, none⟩] : List Addr)[j]? = some x := hx
   match j, hx with
   | 0, hx => simp at hx; subst hx; rfl
   | j + 1, hx => simp at hx
  ·have hx : ([⟨ob, 3, none⟩] : List Addr)[j]? = some x := hx
   match j, hx with
   | 0, hx => simp at hx; subst hx; simp
   | j + 1, hx => simp at hx
 ·refine ⟨fun j x hx => ?_, aV (show ([⟨ob, 3, none⟩, ⟨ob, 4, none⟩] : List Addr).Nodup by simp), fun _ j x hx => ?_, fun j x hx => ?_⟩
  ·have hx : ([⟨ob, 3, none⟩, ⟨ob, 4, none⟩] : List Addr)[j]? = some x := hx
   match j, hx with
   | 0, hx => simp at hx; subst hx; exact C3
   | 1, hx => simp at hx; subst hx; exact C4
   | j + 2, hx => simp at hx
  ·have hx : ([⟨ob, 3, none⟩, ⟨ob, 4, none⟩] : List Addr)[j]? = some x := hx
   match j, hx with
   | 0, hx => simp at hx; subst hx; rfl
   | 1, hx => simp at hx; subst hx; rfl
   | j + 2, hx => simp at hx
  ·have hx : ([⟨ob, 3, none⟩, ⟨ob, 4, none⟩] : List Addr)[j]? = some x := hx
   match j, hx with
   | 0, hx => simp at hx; subst hx; simp
   | 1, hx => simp at hx; subst hx; simp
   | j + 2, hx => simp at hx
 ·refine ⟨fun j x hx => ?_, aV (show ([⟨ob, 1, none⟩, ⟨ob, 2, none⟩] : List Addr).Nodup by simp), fun _ j x hx => ?_, fun j x hx => ?_⟩
  ·have hx : ([⟨ob, 1, none⟩, ⟨ob, 2, none⟩] : List Addr)[j]? = some x := hx
   match j, hx with
   | 0, hx => simp at hx; subst hx; exact C1
   | 1, hx => simp at hx; subst hx; exact C2
   | j + 2, hx => simp at hx
  ·have hx : ([⟨ob, 1, none⟩, ⟨ob, 2, none⟩] : List Addr)[j]? = some x := hx
   match j, hx with
   | 0, hx => simp at hx; subst hx; rfl
   | 1, hx => simp at hx; subst hx; rfl
   | j + 2, hx => simp at hx
  ·have hx : ([⟨ob, 1, none⟩, ⟨ob, 2, none⟩] : List Addr)[j]? = some x := hx
   match j, hx with
   | 0, hx => simp at hx; subst hx; simp
   | 1, hx => simp at hx; subst hx; simp
   | j + 2, hx => simp at hx
theorem jJ {w w' : World} {ob K : Nat} {p : Option Addr} {n : Nat} {Z : List Int} {t : ByteArray} (h1 : 1 ≤ K) (h2 : K ≤ 14) (hR : dR w ob K p n) (hsz : w.heap.size ≤ w'.heap.size)
 (hA : ∀ (j : Nat) x, (opA ob p n (K : Int))[j]? = some x → w'.cell? x = some (.int .i64 (gI Z j))) (hl : Z.length = (opA ob p n (K : Int)).length) (ht : opT (K : Int) = true → w'.cell? ⟨ob, 5, none⟩ = some (.string t)) (hno : opT (K : Int) = false → t = ⟨#[]⟩)
 (hk : ∀ q : Addr, q.block < w.heap.size → (∀ (j : Nat) x, (opA ob p n (K : Int))[j]? = some x → q ≠ x) → (opT (K : Int) = true → q ≠ ⟨ob, 5, none⟩) → w'.cell? q = w.cell? q) (hf : ∀ q : Addr, q.block < w.heap.size → w'.frozen? q = w.frozen? q) (hK : c7 w w') :
 Bo w' ob (opV (opZ (K : Int) Z t) p n) ∧ (opZ (K : Int) Z t).n = n ∧ ((p = none ∧ n = 0) ∨ ∃ g, p = some ⟨g, 0, none⟩ ∧ g < w.heap.size ∧ bA w' g 3 n n (itG (opZ (K : Int) Z t).f)) := by
 obtain ⟨hO, hp, hs⟩ := hR
 have F : ∀ {A : Array Value} (i : Nat), A.size = 7 → i < A.size → w'.frozen? ⟨ob, i, none⟩ = false := fun i h hi => (hf ⟨ob, i, none⟩ hO.1).trans (hO.2.2 i (by rw [h] at hi; exact hi))
 have hb := Nat.lt_of_lt_of_le hO.1 hsz
 have Q : ∀ i u, (#[.int .i64 (K : Int), .int .i64 0, .int .i64 0, .int .i64 0, .int .i64 0, .string ⟨#[]⟩, .slice p n n] : Array Value)[i]? = some u → (∀ (j : Nat) x, (opA ob p n (K : Int))[j]? = some x → (⟨ob, i, none⟩ : Addr) ≠ x) → (opT (K : Int) = true → i ≠ 5) → w'.cell? ⟨ob, i, none⟩ = some u := fun i u hi h h5 => (hk ⟨ob, i, none⟩ hO.1 h (fun e e2 => h5 e (by injection e2))).trans (hO.2.1 i u hi)
 rcases jy h1 h2 with rfl | rfl | rfl | rfl | rfl | rfl | rfl | rfl | rfl | rfl | rfl | rfl | rfl | rfl
 ·rcases hs with ⟨rfl, rfl⟩ | ⟨g, rfl, hne, hG⟩
  ·have hl : Z.length = 1 := hl
   refine ⟨⟨hb, fun i u hi => ?_, fun i hi => F i rfl hi⟩, by show Z.length - 1 = 0; omega, .inl ⟨rfl, rfl⟩⟩
   have e0 : Z.length - 1 = 0 := by omega
   match i, hi with
   | 0, hi =>
    simp [opV, opZ, e0] at hi
    subst hi
    exact Q 0 _ rfl (fun j x hx e => by (have hx : ([⟨ob, 3, none⟩] : List Addr)[j]? = some x := hx); match j, hx with | 0, hx => (subst e; simp at hx) | j + 1, hx => simp at hx) (fun _ => by decide)
   | 1, hi =>
    simp [opV, opZ, e0] at hi
    subst hi
    exact Q 1 _ rfl (fun j x hx e => by (have hx : ([⟨ob, 3, none⟩] : List Addr)[j]? = some x := hx); match j, hx with | 0, hx => (subst e; simp at hx) | j + 1, hx => simp at hx) (fun _ => by decide)
   | 2, hi =>
    simp [opV, opZ, e0] at hi
    subst hi
    exact Q 2 _ rfl (fun j x hx e => by (have hx : ([⟨ob, 3, none⟩] : List Addr)[j]? = some x := hx); match j, hx with | 0, hx => (subst e; simp at hx) | j + 1, hx => simp at hx) (fun _ => by decide)
   | 3, hi =>
    simp [opV, opZ, e0] at hi
    subst hi
    exact hA 0 _ rfl
   | 4, hi =>
    simp [opV, opZ, e0] at hi
    subst hi
    exact Q 4 _ rfl (fun j x hx e => by (have hx : ([⟨ob, 3, none⟩] : List Addr)[j]? = some x := hx); match j, hx with | 0, hx => (subst e; simp at hx) | j + 1, hx => simp at hx) (fun _ => by decide)
   | 5, hi =>
    simp [opV, opZ, e0] at hi
    subst hi
    rw [hno rfl]
    exact Q 5 _ rfl (fun j x hx e => by (have hx : ([⟨ob, 3, none⟩] : List Addr)[j]? = some x := hx); match j, hx with | 0, hx => (subst e; simp at hx) | j + 1, hx => simp at hx) (fun e => by cases e)
   | 6, hi =>
    simp [opV, opZ, e0] at hi
    subst hi
    exact Q 6 _ rfl (fun j x hx e => by (have hx : ([⟨ob, 3, none⟩] : List Addr)[j]? = some x := hx); match j, hx with | 0, hx => (subst e; simp at hx) | j + 1, hx => simp at hx) (fun _ => by decide)
   | i + 7, hi => simp [opV] at hi
  ·have hl : Z.length = 1 + n := by rw [hl]; exact bu ob _ n
   have e0 : Z.length - 1 = n := by omega
   refine ⟨⟨hb, fun i u hi => ?_, fun i hi => F i rfl hi⟩, e0, .inr ⟨g, rfl, hG.lt, ?_⟩⟩
   ·match i, hi with
    | 0, hi =>
     simp [opV, opZ, e0] at hi
     subst hi
     exact Q 0 _ rfl (fun j x hx e => by (rcases bs ob ⟨g, 0, none⟩ n j x hx with ⟨_, r⟩ | ⟨_, _, r⟩); (· rw [← e] at r; simp at r); (· rw [← e, add_at] at r; injection r with r; exact hne r.symm)) (fun _ => by decide)
    | 1, hi =>
     simp [opV, opZ, e0] at hi
     subst hi
     exact Q 1 _ rfl (fun j x hx e => by (rcases bs ob ⟨g, 0, none⟩ n j x hx with ⟨_, r⟩ | ⟨_, _, r⟩); (· rw [← e] at r; simp at r); (· rw [← e, add_at] at r; injection r with r; exact hne r.symm)) (fun _ => by decide)
    | 2, hi =>
     simp [opV, opZ, e0] at hi
     subst hi
     exact Q 2 _ rfl (fun j x hx e => by (rcases bs ob ⟨g, 0, none⟩ n j x hx with ⟨_, r⟩ | ⟨_, _, r⟩); (· rw [← e] at r; simp at r); (· rw [← e, add_at] at r; injection r with r; exact hne r.symm)) (fun _ => by decide)
    | 3, hi =>
     simp [opV, opZ, e0] at hi
     subst hi
     exact hA 0 _ (mE ob _ n)
    | 4, hi =>
     simp [opV, opZ, e0] at hi
     subst hi
     exact Q 4 _ rfl (fun j x hx e => by (rcases bs ob ⟨g, 0, none⟩ n j x hx with ⟨_, r⟩ | ⟨_, _, r⟩); (· rw [← e] at r; simp at r); (· rw [← e, add_at] at r; injection r with r; exact hne r.symm)) (fun _ => by decide)
    | 5, hi =>
     simp [opV, opZ, e0] at hi
     subst hi
     rw [hno rfl]
     exact Q 5 _ rfl (fun j x hx e => by (rcases bs ob ⟨g, 0, none⟩ n j x hx with ⟨_, r⟩ | ⟨_, _, r⟩); (· rw [← e] at r; simp at r); (· rw [← e, add_at] at r; injection r with r; exact hne r.symm)) (fun e => by cases e)
    | 6, hi =>
     simp [opV, opZ, e0] at hi
     subst hi
     exact Q 6 _ rfl (fun j x hx e => by (rcases bs ob ⟨g, 0, none⟩ n j x hx with ⟨_, r⟩ | ⟨_, _, r⟩); (· rw [← e] at r; simp at r); (· rw [← e, add_at] at r; injection r with r; exact hne r.symm)) (fun _ => by decide)
    | i + 7, hi => simp [opV] at hi
   ·obtain ⟨G, hG2, _⟩ := hG
    obtain ⟨G2, hG3⟩ := hK g _ n hG2.lt ⟨G, hG2⟩
    refine ⟨G2, hG3, fun i hi => ?_⟩
    have q := hA (i + 1) _ (lp ob ⟨g, 0, none⟩ n i hi)
    rw [add_at, Nat.zero_add, hG3.cell hi] at q
    exact Option.some.inj q
 ·obtain rfl := hp (by decide)
  obtain ⟨-, rfl⟩ : (none : Option Addr) = none ∧ n = 0 := hs.elim id (fun ⟨g, e, _⟩ => by cases e)
  refine ⟨⟨hb, fun i u hi => ?_, fun i hi => F i rfl hi⟩, rfl, .inl ⟨rfl, rfl⟩⟩
  match i, hi with
  | 0, hi =>
   simp [opV, opZ] at hi
   subst hi
   exact Q 0 _ rfl (fun j x hx e => by (have hx : ([⟨ob, 1, none⟩] : List Addr)[j]? = some x := hx); match j, hx with | 0, hx => (subst e; simp at hx) | j + 1, hx => simp at hx) (fun _ => by decide)
  | 1, hi =>
   simp [opV, opZ] at hi
   subst hi
   exact hA 0 _ rfl
  | 2, hi =>
   simp [opV, opZ] at hi
   subst hi
   exact Q 2 _ rfl (fun j x hx e => by (have hx : ([⟨ob, 1, none⟩] : List Addr)[j]? = some x := hx); match j, hx with | 0, hx => (subst e; simp at hx) | j + 1, hx => simp at hx) (fun _ => by decide)
  | 3, hi =>
   simp [opV, opZ] at hi
   subst hi
   exact Q 3 _ rfl (fun j x hx e => by (have hx : ([⟨ob, 1, none⟩] : List Addr)[j]? = some x := hx); match j, hx with | 0, hx => (subst e; simp at hx) | j + 1, hx => simp at hx) (fun _ => by decide)
  | 4, hi =>
   simp [opV, opZ] at hi
   subst hi
   exact Q 4 _ rfl (fun j x hx e => by (have hx : ([⟨ob, 1, none⟩] : List Addr)[j]? = some x := hx); match j, hx with | 0, hx => (subst e; simp at hx) | j + 1, hx => simp at hx) (fun _ => by decide)
  | 5, hi =>
   simp [opV, opZ] at hi
   subst hi
   rw [hno rfl]
   exact Q 5 _ rfl (fun j x hx e => by (have hx : ([⟨ob, 1, none⟩] : List Addr)[j]? = some x := hx); match j, hx with | 0, hx => (subst e; simp at hx) | j + 1, hx => simp at hx) (fun e => by cases e)
  | 6, hi =>
   simp [opV, opZ] at hi
   subst hi
   exact Q 6 _ rfl (fun j x hx e => by (have hx : ([⟨ob, 1, none⟩] : List Addr)[j]? = some x := hx); match j, hx with | 0, hx => (subst e; simp at hx) | j + 1, hx => simp at hx) (fun _ => by decide)
  | i + 7, hi => simp [opV] at hi
 ·obtain rfl := hp (by decide)
  obtain ⟨-, rfl⟩ : (none : Option Addr) = none ∧ n = 0 := hs.elim id (fun ⟨g, e, _⟩ => by cases e)
  refine ⟨⟨hb, fun i u hi => ?_, fun i hi => F i rfl hi⟩, rfl, .inl ⟨rfl, rfl⟩⟩
  match i, hi with
  | 0, hi =>
   simp [opV, opZ] at hi
   subst hi
   exact Q 0 _ rfl (fun j x hx e => by (have hx : ([⟨ob, 1, none⟩] : List Addr)[j]? = some x := hx); match j, hx with | 0, hx => (subst e; simp at hx) | j + 1, hx => simp at hx) (fun _ => by decide)
  | 1, hi =>
   simp [opV, opZ] at hi
   subst hi
   exact hA 0 _ rfl
  | 2, hi =>
   simp [opV, opZ] at hi
   subst hi
   exact Q 2 _ rfl (fun j x hx e => by (have hx : ([⟨ob, 1, none⟩] : List Addr)[j]? = some x := hx); match j, hx with | 0, hx => (subst e; simp at hx) | j + 1, hx => simp at hx) (fun _ => by decide)
  | 3, hi =>
   simp [opV, opZ] at hi
   subst hi
   exact Q 3 _ rfl (fun j x hx e => by (have hx : ([⟨ob, 1, none⟩] : List Addr)[j]? = some x := hx); match j, hx with | 0, hx => (subst e; simp at hx) | j + 1, hx => simp at hx) (fun _ => by decide)
  | 4, hi =>
   simp [opV, opZ] at hi
   subst hi
   exact Q 4 _ rfl (fun j x hx e => by (have hx : ([⟨ob, 1, none⟩] : List Addr)[j]? = some x := hx); match j, hx with | 0, hx => (subst e; simp at hx) | j + 1, hx => simp at hx) (fun _ => by decide)
  | 5, hi =>
   simp [opV, opZ] at hi
   subst hi
   rw [hno rfl]
   exact Q 5 _ rfl (fun j x hx e => by (have hx : ([⟨ob, 1, none⟩] : List Addr)[j]? = some x := hx); match j, hx with | 0, hx => (subst e; simp at hx) | j + 1, hx => simp at hx) (fun e => by cases e)
  | 6, hi =>
   simp [opV, opZ] at hi
   subst hi
   exact Q 6 _ rfl (fun j x hx e => by (have hx : ([⟨ob, 1, none⟩] : List Addr)[j]? = some x := hx); match j, hx with | 0, hx => (subst e; simp at hx) | j + 1, hx => simp at hx) (fun _ => by decide)
  | i + 7, hi => simp [opV] at hi
 ·obtain rfl := hp (by decide)
  obtain ⟨-, rfl⟩ : (none : Option Addr) = none ∧ n = 0 := hs.elim id (fun ⟨g, e, _⟩ => by cases e)
  refine ⟨⟨hb, fun i u hi => ?_, fun i hi => F i rfl hi⟩, rfl, .inl ⟨rfl, rfl⟩⟩
  match i, hi with
  | 0, hi =>
   simp [opV, opZ] at hi
   subst hi
   exact Q 0 _ rfl (fun j x hx e => by (have hx : ([⟨ob, 1, none⟩, ⟨ob, 3, none⟩, ⟨ob, 4, none⟩] : List Addr)[j]? = some x := hx); match j, hx with | 0, hx => (subst e; simp at hx) | 1, hx => (subst e; simp at hx) | 2, hx => (subst e; simp at hx) | j + 3, hx => simp at hx) (fun _ => by decide)
  | 1, hi =>
   simp [opV, opZ] at hi
   subst hi
   exact hA 0 _ rfl
  | 2, hi =>
   simp [opV, opZ] at hi
   subst hi
   exact Q 2 _ rfl (fun j x hx e => by (have hx : ([⟨ob, 1, none⟩, ⟨ob, 3, none⟩, ⟨ob, 4, none⟩] : List Addr)[j]? = some x := hx); match j, hx with | 0, hx => (subst e; simp at hx) | 1, hx => (subst e; simp at hx) | 2, hx => (subst e; simp at hx) | j + 3, hx => simp at hx) (fun _ => by decide)
  | 3, hi =>
   simp [opV, opZ] at hi
   subst hi
   exact hA 1 _ rfl
  | 4, hi =>
   simp [opV, opZ] at hi
   subst hi
   exact hA 2 _ rfl
  | 5, hi =>
   simp [opV, opZ] at hi
   subst hi
   rw [hno rfl]
   exact Q 5 _ rfl (fun j x hx e => by (have hx : ([⟨ob, 1, none⟩, ⟨ob, 3, none⟩, ⟨ob, 4, none⟩] : List Addr)[j]? = some x := hx); match j, hx with | 0, hx => (subst e; simp at hx) | 1, hx => (subst e; simp at hx) | 2, hx => (subst e; simp at hx) | j + 3, hx => simp at hx) (fun e => by cases e)
  | 6, hi =>
   simp [opV, opZ] at hi
   subst hi
   exact Q 6 _ rfl (fun j x hx e => by (have hx : ([⟨ob, 1, none⟩, ⟨ob, 3, none⟩, ⟨ob, 4, none⟩] : List Addr)[j]? = some x := hx); match j, hx with | 0, hx => (subst e; simp at hx) | 1, hx => (subst e; simp at hx) | 2, hx => (subst e; simp at hx) | j + 3, hx => simp at hx) (fun _ => by decide)
  | i + 7, hi => simp [opV] at hi
 ·obtain rfl := hp (by decide)
  obtain ⟨-, rfl⟩ : (none : Option Addr) = none ∧ n = 0 := hs.elim id (fun ⟨g, e, _⟩ => by cases e)
  refine ⟨⟨hb, fun i u hi => ?_, fun i hi => F i rfl hi⟩, rfl, .inl ⟨rfl, rfl⟩⟩
  match i, hi with
  | 0, hi =>
   simp [opV, opZ] at hi
   subst hi
   exact Q 0 _ rfl (fun j x hx e => by (have hx : ([⟨ob, 1, none⟩, ⟨ob, 2, none⟩] : List Addr)[j]? = some x := hx); match j, hx with | 0, hx => (subst e; simp at hx) | 1, hx => (subst e; simp at hx) | j + 2, hx => simp at hx) (fun _ => by decide)
  | 1, hi =>
   simp [opV, opZ] at hi
   subst hi
   exact hA 0 _ rfl
  | 2, hi =>
   simp [opV, opZ] at hi
   subst hi
   exact hA 1 _ rfl
  | 3, hi =>
   simp [opV, opZ] at hi
   subst hi
   exact Q 3 _ rfl (fun j x hx e => by (have hx : ([⟨ob, 1, none⟩, ⟨ob, 2, none⟩] : List Addr)[j]? = some x := hx); match j, hx with | 0, hx => (subst e; simp at hx) | 1, hx => (subst e; simp at hx) | j + 2, hx => simp at hx) (fun _ => by decide)
  | 4, hi =>
   simp [opV, opZ] at hi
   subst hi
   exact Q 4 _ rfl (fun j x hx e => by (have hx : ([⟨ob, 1, none⟩, ⟨ob, 2, none⟩] : List Addr)[j]? = some x := hx); match j, hx with | 0, hx => (subst e; simp at hx) | 1, hx => (subst e; simp at hx) | j + 2, hx => simp at hx) (fun _ => by decide)
  | 5, hi =>
   simp [opV, opZ] at hi
   subst hi
   rw [hno rfl]
   exact Q 5 _ rfl (fun j x hx e => by (have hx : ([⟨ob, 1, none⟩, ⟨ob, 2, none⟩] : List Addr)[j]? = some x := hx); match j, hx with | 0, hx => (subst e; simp at hx) | 1, hx => (subst e; simp at hx) | j + 2, hx => simp at hx) (fun e => by cases e)
  | 6, hi =>
   simp [opV, opZ] at hi
   subst hi
   exact Q 6 _ rfl (fun j x hx e => by (have hx : ([⟨ob, 1, none⟩, ⟨ob, 2, none⟩] : List Addr)[j]? = some x := hx); match j, hx with | 0, hx => (subst e; simp at hx) | 1, hx => (subst e; simp at hx) | j + 2, hx => simp at hx) (fun _ => by decide)
  | i + 7, hi => simp [opV] at hi
 ·obtain rfl := hp (by decide)
  obtain ⟨-, rfl⟩ : (none : Option Addr) = none ∧ n = 0 := hs.elim id (fun ⟨g, e, _⟩ => by cases e)
  refine ⟨⟨hb, fun i u hi => ?_, fun i hi => F i rfl hi⟩, rfl, .inl ⟨rfl, rfl⟩⟩
  match i, hi with
  | 0, hi =>
   simp [opV, opZ] at hi
   subst hi
   exact Q 0 _ rfl (fun j x hx e => by (have hx : ([⟨ob, 1, none⟩] : List Addr)[j]? = some x := hx); match j, hx with | 0, hx => (subst e; simp at hx) | j + 1, hx => simp at hx) (fun _ => by decide)
  | 1, hi =>
   simp [opV, opZ] at hi
   subst hi
   exact hA 0 _ rfl
  | 2, hi =>
   simp [opV, opZ] at hi
   subst hi
   exact Q 2 _ rfl (fun j x hx e => by (have hx : ([⟨ob, 1, none⟩] : List Addr)[j]? = some x := hx); match j, hx with | 0, hx => (subst e; simp at hx) | j + 1, hx => simp at hx) (fun _ => by decide)
  | 3, hi =>
   simp [opV, opZ] at hi
   subst hi
   exact Q 3 _ rfl (fun j x hx e => by (have hx : ([⟨ob, 1, none⟩] : List Addr)[j]? = some x := hx); match j, hx with | 0, hx => (subst e; simp at hx) | j + 1, hx => simp at hx) (fun _ => by decide)
  | 4, hi =>
   simp [opV, opZ] at hi
   subst hi
   exact Q 4 _ rfl (fun j x hx e => by (have hx : ([⟨ob, 1, none⟩] : List Addr)[j]? = some x := hx); match j, hx with | 0, hx => (subst e; simp at hx) | j + 1, hx => simp at hx) (fun _ => by decide)
  | 5, hi =>
   simp [opV, opZ] at hi
   subst hi
   rw [hno rfl]
   exact Q 5 _ rfl (fun j x hx e => by (have hx : ([⟨ob, 1, none⟩] : List Addr)[j]? = some x := hx); match j, hx with | 0, hx => (subst e; simp at hx) | j + 1, hx => simp at hx) (fun e => by cases e)
  | 6, hi =>
   simp [opV, opZ] at hi
   subst hi
   exact Q 6 _ rfl (fun j x hx e => by (have hx : ([⟨ob, 1, none⟩] : List Addr)[j]? = some x := hx); match j, hx with | 0, hx => (subst e; simp at hx) | j + 1, hx => simp at hx) (fun _ => by decide)
  | i + 7, hi => simp [opV] at hi
 ·obtain rfl := hp (by decide)
  obtain ⟨-, rfl⟩ : (none : Option Addr) = none ∧ n = 0 := hs.elim id (fun ⟨g, e, _⟩ => by cases e)
  refine ⟨⟨hb, fun i u hi => ?_, fun i hi => F i rfl hi⟩, rfl, .inl ⟨rfl, rfl⟩⟩
  match i, hi with
  | 0, hi =>
   simp [opV, opZ] at hi
   subst hi
   exact Q 0 _ rfl (fun j x hx e => by (have hx : ([⟨ob, 1, none⟩] : List Addr)[j]? = some x := hx); match j, hx with | 0, hx => (subst e; simp at hx) | j + 1, hx => simp at hx) (fun _ => by decide)
  | 1, hi =>
   simp [opV, opZ] at hi
   subst hi
   exact hA 0 _ rfl
  | 2, hi =>
   simp [opV, opZ] at hi
   subst hi
   exact Q 2 _ rfl (fun j x hx e => by (have hx : ([⟨ob, 1, none⟩] : List Addr)[j]? = some x := hx); match j, hx with | 0, hx => (subst e; simp at hx) | j + 1, hx => simp at hx) (fun _ => by decide)
  | 3, hi =>
   simp [opV, opZ] at hi
   subst hi
   exact Q 3 _ rfl (fun j x hx e => by (have hx : ([⟨ob, 1, none⟩] : List Addr)[j]? = some x := hx); match j, hx with | 0, hx => (subst e; simp at hx) | j + 1, hx => simp at hx) (fun _ => by decide)
  | 4, hi =>
   simp [opV, opZ] at hi
   subst hi
   exact Q 4 _ rfl (fun j x hx e => by (have hx : ([⟨ob, 1, none⟩] : List Addr)[j]? = some x := hx); match j, hx with | 0, hx => (subst e; simp at hx) | j + 1, hx => simp at hx) (fun _ => by decide)
  | 5, hi =>
   simp [opV, opZ] at hi
   subst hi
   rw [hno rfl]
   exact Q 5 _ rfl (fun j x hx e => by (have hx : ([⟨ob, 1, none⟩] : List Addr)[j]? = some x := hx); match j, hx with | 0, hx => (subst e; simp at hx) | j + 1, hx => simp at hx) (fun e => by cases e)
  | 6, hi =>
   simp [opV, opZ] at hi
   subst hi
   exact Q 6 _ rfl (fun j x hx e => by (have hx : ([⟨ob, 1, none⟩] : List Addr)[j]? = some x := hx); match j, hx with | 0, hx => (subst e; simp at hx) | j + 1, hx => simp at hx) (fun _ => by decide)
  | i + 7, hi => simp [opV] at hi
 ·obtain rfl := hp (by decide)
  obtain ⟨-, rfl⟩ : (none : Option Addr) = none ∧ n = 0 := hs.elim id (fun ⟨g, e, _⟩ => by cases e)
  refine ⟨⟨hb, fun i u hi => ?_, fun i hi => F i rfl hi⟩, rfl, .inl ⟨rfl, rfl⟩⟩
  match i, hi with
  | 0, hi =>
   simp [opV, opZ] at hi
   subst hi
   exact Q 0 _ rfl (fun j x hx e => by (have hx : ([⟨ob, 1, none⟩] : List Addr)[j]? = some x := hx); match j, hx with | 0, hx => (subst e; simp at hx) | j + 1, hx => simp at hx) (fun _ => by decide)
  | 1, hi =>
   simp [opV, opZ] at hi
   subst hi
   exact hA 0 _ rfl
  | 2, hi =>
   simp [opV, opZ] at hi
   subst hi
   exact Q 2 _ rfl (fun j x hx e => by (have hx : ([⟨ob, 1, none⟩] : List Addr)[j]? = some x := hx); match j, hx with | 0, hx => (subst e; simp at hx) | j + 1, hx => simp at hx) (fun _ => by decide)
  | 3, hi =>
   simp [opV, opZ] at hi
   subst hi
   exact Q 3 _ rfl (fun j x hx e => by (have hx : ([⟨ob, 1, none⟩] : List Addr)[j]? = some x := hx); match j, hx with | 0, hx => (subst e; simp at hx) | j + 1, hx => simp at hx) (fun _ => by decide)
  | 4, hi =>
   simp [opV, opZ] at hi
   subst hi
   exact Q 4 _ rfl (fun j x hx e => by (have hx : ([⟨ob, 1, none⟩] : List Addr)[j]? = some x := hx); match j, hx with | 0, hx => (subst e; simp at hx) | j + 1, hx => simp at hx) (fun _ => by decide)
  | 5, hi =>
   simp [opV, opZ] at hi
   subst hi
   rw [hno rfl]
   exact Q 5 _ rfl (fun j x hx e => by (have hx : ([⟨ob, 1, none⟩] : List Addr)[j]? = some x := hx); match j, hx with | 0, hx => (subst e; simp at hx) | j + 1, hx => simp at hx) (fun e => by cases e)
  | 6, hi =>
   simp [opV, opZ] at hi
   subst hi
   exact Q 6 _ rfl (fun j x hx e => by (have hx : ([⟨ob, 1, none⟩] : List Addr)[j]? = some x := hx); match j, hx with | 0, hx => (subst e; simp at hx) | j + 1, hx => simp at hx) (fun _ => by decide)
  | i + 7, hi => simp [opV] at hi
 ·obtain rfl := hp (by decide)
  obtain ⟨-, rfl⟩ : (none : Option Addr) = none ∧ n = 0 := hs.elim id (fun ⟨g, e, _⟩ => by cases e)
  refine ⟨⟨hb, fun i u hi => ?_, fun i hi => F i rfl hi⟩, rfl, .inl ⟨rfl, rfl⟩⟩
  match i, hi with
  | 0, hi =>
   simp [opV, opZ] at hi
   subst hi
   exact Q 0 _ rfl (fun j x hx e => by (have hx : ([⟨ob, 1, none⟩, ⟨ob, 3, none⟩] : List Addr)[j]? = some x := hx); match j, hx with | 0, hx => (subst e; simp at hx) | 1, hx => (subst e; simp at hx) | j + 2, hx => simp at hx) (fun _ => by decide)
  | 1, hi =>
   simp [opV, opZ] at hi
   subst hi
   exact hA 0 _ rfl
  | 2, hi =>
   simp [opV, opZ] at hi
   subst hi
   exact Q 2 _ rfl (fun j x hx e => by (have hx : ([⟨ob, 1, none⟩, ⟨ob, 3, none⟩] : List Addr)[j]? = some x := hx); match j, hx with | 0, hx => (subst e; simp at hx) | 1, hx => (subst e; simp at hx) | j + 2, hx => simp at hx) (fun _ => by decide)
  | 3, hi =>
   simp [opV, opZ] at hi
   subst hi
   exact hA 1 _ rfl
  | 4, hi =>
   simp [opV, opZ] at hi
   subst hi
   exact Q 4 _ rfl (fun j x hx e => by (have hx : ([⟨ob, 1, none⟩, ⟨ob, 3, none⟩] : List Addr)[j]? = some x := hx); match j, hx with | 0, hx => (subst e; simp at hx) | 1, hx => (subst e; simp at hx) | j + 2, hx => simp at hx) (fun _ => by decide)
  | 5, hi =>
   simp [opV, opZ] at hi
   subst hi
   exact ht rfl
  | 6, hi =>
   simp [opV, opZ] at hi
   subst hi
   exact Q 6 _ rfl (fun j x hx e => by (have hx : ([⟨ob, 1, none⟩, ⟨ob, 3, none⟩] : List Addr)[j]? = some x := hx); match j, hx with | 0, hx => (subst e; simp at hx) | 1, hx => (subst e; simp at hx) | j + 2, hx => simp at hx) (fun _ => by decide)
  | i + 7, hi => simp [opV] at hi
 ·obtain rfl := hp (by decide)
  obtain ⟨-, rfl⟩ : (none : Option Addr) = none ∧ n = 0 := hs.elim id (fun ⟨g, e, _⟩ => by cases e)
  refine ⟨⟨hb, fun i u hi => ?_, fun i hi => F i rfl hi⟩, rfl, .inl ⟨rfl, rfl⟩⟩
  match i, hi with
  | 0, hi =>
   simp [opV, opZ] at hi
   subst hi
   exact Q 0 _ rfl (fun j x hx e => by (have hx : ([⟨ob, 3, none⟩] : List Addr)[j]? = some x := hx); match j, hx with | 0, hx => (subst e; simp at hx) | j + 1, hx => simp at hx) (fun _ => by decide)
  | 1, hi =>
   simp [opV, opZ] at hi
   subst hi
   exact Q 1 _ rfl (fun j x hx e => by (have hx : ([⟨ob, 3, none⟩] : List Addr)[j]? = some x := hx); match j, hx with | 0, hx => (subst e; simp at hx) | j + 1, hx => simp at hx) (fun _ => by decide)
  | 2, hi =>
   simp [opV, opZ] at hi
   subst hi
   exact Q 2 _ rfl (fun j x hx e => by (have hx : ([⟨ob, 3, none⟩] : List Addr)[j]? = some x := hx); match j, hx with | 0, hx => (subst e; simp at hx) | j + 1, hx => simp at hx) (fun _ => by decide)
  | 3, hi =>
   simp [opV, opZ] at hi
   subst hi
   exact hA 0 _ rfl
  | 4, hi =>
   simp [opV, opZ] at hi
   subst hi
   exact Q 4 _ rfl (fun j x hx e => by (have hx : ([⟨ob, 3, none⟩] : List Addr)[j]? = some x := hx); match j, hx with | 0, hx => (subst e; simp at hx) | j + 1, hx => simp at hx) (fun _ => by decide)
  | 5, hi =>
   simp [opV, opZ] at hi
   subst hi
   rw [hno rfl]
   exact Q 5 _ rfl (fun j x hx e => by (have hx : ([⟨ob, 3, none⟩] : List Addr)[j]? = some x := hx); match j, hx with | 0, hx => (subst e; simp at hx) | j + 1, hx => simp at hx) (fun e => by cases e)
  | 6, hi =>
   simp [opV, opZ] at hi
   subst hi
   exact Q 6 _ rfl (fun j x hx e => by (have hx : ([⟨ob, 3, none⟩] : List Addr)[j]? = some x := hx); match j, hx with | 0, hx => (subst e; simp at hx) | j + 1, hx => simp at hx) (fun _ => by decide)
  | i + 7, hi => simp [opV] at hi
 ·obtain rfl := hp (by decide)
  obtain ⟨-, rfl⟩ : (none : Option Addr) = none ∧ n = 0 := hs.elim id (fun ⟨g, e, _⟩ => by cases e)
  refine ⟨⟨hb, fun i u hi => ?_, fun i hi => F i rfl hi⟩, rfl, .inl ⟨rfl, rfl⟩⟩
  match i, hi with
  | 0, hi =>
   simp [opV, opZ] at hi
   subst hi
   exact Q 0 _ rfl (fun j x hx e => by (have hx : ([⟨ob, 3, none⟩] : List Addr)[j]? = some x := hx); match j, hx with | 0, hx => (subst e; simp at hx) | j + 1, hx => simp at hx) (fun _ => by decide)
  | 1, hi =>
   simp [opV, opZ] at hi
   subst hi
   exact Q 1 _ rfl (fun j x hx e => by (have hx : ([⟨ob, 3, none⟩] : List Addr)[j]? = some x := hx); match j, hx with | 0, hx => (subst e; simp at hx) | j + 1, hx => simp at hx) (fun _ => by decide)
  | 2, hi =>
   simp [opV, opZ] at hi
   subst hi
   exact Q 2 _ rfl (fun j x hx e => by (have hx : ([⟨ob, 3, none⟩] : List Addr)[j]? = some x := hx); match j, hx with | 0, hx => (subst e; simp at hx) | j + 1, hx => simp at hx) (fun _ => by decide)
  | 3, hi =>
   simp [opV, opZ] at hi
   subst hi
   exact hA 0 _ rfl
  | 4, hi =>
   simp [opV, opZ] at hi
   subst hi
   exact Q 4 _ rfl (fun j x hx e => by (have hx : ([⟨ob, 3, none⟩] : List Addr)[j]? = some x := hx); match j, hx with | 0, hx => (subst e; simp at hx) | j + 1, hx => simp at hx) (fun _ => by decide)
  | 5, hi =>
   simp [opV, opZ] at hi
   subst hi
   rw [hno rfl]
   exact Q 5 _ rfl (fun j x hx e => by (have hx : ([⟨ob, 3, none⟩] : List Addr)[j]? = some x := hx); match j, hx with | 0, hx => (subst e; simp at hx) | j + 1, hx => simp at hx) (fun e => by cases e)
  | 6, hi =>
   simp [opV, opZ] at hi
   subst hi
   exact Q 6 _ rfl (fun j x hx e => by (have hx : ([⟨ob, 3, none⟩] : List Addr)[j]? = some x := hx); match j, hx with | 0, hx => (subst e; simp at hx) | j + 1, hx => simp at hx) (fun _ => by decide)
  | i + 7, hi => simp [opV] at hi
 ·obtain rfl := hp (by decide)
  obtain ⟨-, rfl⟩ : (none : Option Addr) = none ∧ n = 0 := hs.elim id (fun ⟨g, e, _⟩ => by cases e)
  refine ⟨⟨hb, fun i u hi => ?_, fun i hi => F i rfl hi⟩, rfl, .inl ⟨rfl, rfl⟩⟩
  match i, hi with
  | 0, hi =>
   simp [opV, opZ] at hi
   subst hi
   exact Q 0 _ rfl (fun j x hx e => by (have hx : ([⟨ob, 3, none⟩] : List Addr)[j]? = some x := hx); match j, hx with | 0, hx => (subst e; simp at hx) | j + 1, hx => simp at hx) (fun _ => by decide)
  | 1, hi =>
   simp [opV, opZ] at hi
   subst hi
   exact Q 1 _ rfl (fun j x hx e => by (have hx : ([⟨ob, 3, none⟩] : List Addr)[j]? = some x := hx); match j, hx with | 0, hx => (subst e; simp at hx) | j + 1, hx => simp at hx) (fun _ => by decide)
  | 2, hi =>
   simp [opV, opZ] at hi
   subst hi
   exact Q 2 _ rfl (fun j x hx e => by (have hx : ([⟨ob, 3, none⟩] : List Addr)[j]? = some x := hx); match j, hx with | 0, hx => (subst e; simp at hx) | j + 1, hx => simp at hx) (fun _ => by decide)
  | 3, hi =>
   simp [opV, opZ] at hi
   subst hi
   exact hA 0 _ rfl
  | 4, hi =>
   simp [opV, opZ] at hi
   subst hi
   exact Q 4 _ rfl (fun j x hx e => by (have hx : ([⟨ob, 3, none⟩] : List Addr)[j]? = some x := hx); match j, hx with | 0, hx => (subst e; simp at hx) | j + 1, hx => simp at hx) (fun _ => by decide)
  | 5, hi =>
   simp [opV, opZ] at hi
   subst hi
   rw [hno rfl]
   exact Q 5 _ rfl (fun j x hx e => by (have hx : ([⟨ob, 3, none⟩] : List Addr)[j]? = some x := hx); match j, hx with | 0, hx => (subst e; simp at hx) | j + 1, hx => simp at hx) (fun e => by cases e)
  | 6, hi =>
   simp [opV, opZ] at hi
   subst hi
   exact Q 6 _ rfl (fun j x hx e => by (have hx : ([⟨ob, 3, none⟩] : List Addr)[j]? = some x := hx); match j, hx with | 0, hx => (subst e; simp at hx) | j + 1, hx => simp at hx) (fun _ => by decide)
  | i + 7, hi => simp [opV] at hi
 ·obtain rfl := hp (by decide)
  obtain ⟨-, rfl⟩ : (none : Option Addr) = none ∧ n = 0 := hs.elim id (fun ⟨g, e, _⟩ => by cases e)
  refine ⟨⟨hb, fun i u hi => ?_, fun i hi => F i rfl hi⟩, rfl, .inl ⟨rfl, rfl⟩⟩
  match i, hi with
  | 0, hi =>
   simp [opV, opZ] at hi
   subst hi
   exact Q 0 _ rfl (fun j x hx e => by (have hx : ([⟨ob, 3, none⟩, ⟨ob, 4, none⟩] : List Addr)[j]? = some x := hx); match j, hx with | 0, hx => (subst e; simp at hx) | 1, hx => (subst e; simp at hx) | j + 2, hx => simp at hx) (fun _ => by decide)
  | 1, hi =>
   simp [opV, opZ] at hi
   subst hi
   exact Q 1 _ rfl (fun j x hx e => by (have hx : ([⟨ob, 3, none⟩, ⟨ob, 4, none⟩] : List Addr)[j]? = some x := hx); match j, hx with | 0, hx => (subst e; simp at hx) | 1, hx => (subst e; simp at hx) | j + 2, hx => simp at hx) (fun _ => by decide)
  | 2, hi =>
   simp [opV, opZ] at hi
   subst hi
   exact Q 2 _ rfl (fun j x hx e => by (have hx : ([⟨ob, 3, none⟩, ⟨ob, 4, none⟩] : List Addr)[j]? = some x := hx); match j, hx with | 0, hx => (subst e; simp at hx) | 1, hx => (subst e; simp at hx) | j + 2, hx => simp at hx) (fun _ => by decide)
  | 3, hi =>
   simp [opV, opZ] at hi
   subst hi
   exact hA 0 _ rfl
  | 4, hi =>
   simp [opV, opZ] at hi
   subst hi
   exact hA 1 _ rfl
  | 5, hi =>
   simp [opV, opZ] at hi
   subst hi
   rw [hno rfl]
   exact Q 5 _ rfl (fun j x hx e => by (have hx : ([⟨ob, 3, none⟩, ⟨ob, 4, none⟩] : List Addr)[j]? = some x := hx); match j, hx with | 0, hx => (subst e; simp at hx) | 1, hx => (subst e; simp at hx) | j + 2, hx => simp at hx) (fun e => by cases e)
  | 6, hi =>
   simp [opV, opZ] at hi
   subst hi
   exact Q 6 _ rfl (fun j x hx e => by (have hx : ([⟨ob, 3, none⟩, ⟨ob, 4, none⟩] : List Addr)[j]? = some x := hx); match j, hx with | 0, hx => (subst e; simp at hx) | 1, hx => (subst e; simp at hx) | j + 2, hx => simp at hx) (fun _ => by decide)
  | i + 7, hi => simp [opV] at hi
 ·obtain rfl := hp (by decide)
  obtain ⟨-, rfl⟩ : (none : Option Addr) = none ∧ n = 0 := hs.elim id (fun ⟨g, e, _⟩ => by cases e)
  refine ⟨⟨hb, fun i u hi => ?_, fun i hi => F i rfl hi⟩, rfl, .inl ⟨rfl, rfl⟩⟩
  match i, hi with
  | 0, hi =>
   simp [opV, opZ] at hi
   subst hi
   exact Q 0 _ rfl (fun j x hx e => by (have hx : ([⟨ob, 1, none⟩, ⟨ob, 2, none⟩] : List Addr)[j]? = some x := hx); match j, hx with | 0, hx => (subst e; simp at hx) | 1, hx => (subst e; simp at hx) | j + 2, hx => simp at hx) (fun _ => by decide)
  | 1, hi =>
   simp [opV, opZ] at hi
   subst hi
   exact hA 0 _ rfl
  | 2, hi =>
   simp [opV, opZ] at hi
   subst hi
   exact hA 1 _ rfl
  | 3, hi =>
   simp [opV, opZ] at hi
   subst hi
   exact Q 3 _ rfl (fun j x hx e => by (have hx : ([⟨ob, 1, none⟩, ⟨ob, 2, none⟩] : List Addr)[j]? = some x := hx); match j, hx with | 0, hx => (subst e; simp at hx) | 1, hx => (subst e; simp at hx) | j + 2, hx => simp at hx) (fun _ => by decide)
  | 4, hi =>
   simp [opV, opZ] at hi
   subst hi
   exact Q 4 _ rfl (fun j x hx e => by (have hx : ([⟨ob, 1, none⟩, ⟨ob, 2, none⟩] : List Addr)[j]? = some x := hx); match j, hx with | 0, hx => (subst e; simp at hx) | 1, hx => (subst e; simp at hx) | j + 2, hx => simp at hx) (fun _ => by decide)
  | 5, hi =>
   simp [opV, opZ] at hi
   subst hi
   exact ht rfl
  | 6, hi =>
   simp [opV, opZ] at hi
   subst hi
   exact Q 6 _ rfl (fun j x hx e => by (have hx : ([⟨ob, 1, none⟩, ⟨ob, 2, none⟩] : List Addr)[j]? = some x := hx); match j, hx with | 0, hx => (subst e; simp at hx) | 1, hx => (subst e; simp at hx) | j + 2, hx => simp at hx) (fun _ => by decide)
  | i + 7, hi => simp [opV] at hi
theorem eE (W : List ByteArray) : ∀ j, (rdF W false j).2.1 = ⟨#[]⟩
 | 0 => rfl
 | j + 1 => by
  have q := eE W j
  rw [rdF]
  split
  ·rw [if_neg (fun h => by cases h.1)]
   split <;> exact q
  ·exact q

end Go.Proofs.YtddjiamollfplaaGreatDoor
