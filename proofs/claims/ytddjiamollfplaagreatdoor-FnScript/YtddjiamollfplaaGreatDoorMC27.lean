/- An op out of its kind, its numbers and its text (the specification). What a line says as an op. ParseOp (the specification). ParseScript (the specification). -/
import Derived.Maps.OwnSet
import Derived.Test.YtddjiamollfplaaGreatDoorMC25
import Derived.Test.YtddjiamollfplaaGreatDoorMC26
namespace Go.Proofs.YtddjiamollfplaaGreatDoor
open Go.RowKit
set_option linter.unusedVariables false

def opZ (k : Int) (L : List Int) (t : ByteArray) : OpD :=
 if k = 1 then ⟨1, 0, 0, gI L 0, 0, t, L.length - 1, fun j => gI L (j + 1)⟩
 else if k = 4 then ⟨4, gI L 0, 0, gI L 1, gI L 2, t, 0, fun _ => 0⟩
 else if k = 5 then ⟨5, gI L 0, gI L 1, 0, 0, t, 0, fun _ => 0⟩
 else if k = 14 then ⟨14, gI L 0, gI L 1, 0, 0, t, 0, fun _ => 0⟩
 else if k = 9 then ⟨9, gI L 0, 0, gI L 1, 0, t, 0, fun _ => 0⟩
 else if k = 10 ∨ k = 11 ∨ k = 12 then ⟨k, 0, 0, gI L 0, 0, t, 0, fun _ => 0⟩
 else if k = 13 then ⟨13, 0, 0, gI L 0, gI L 1, t, 0, fun _ => 0⟩
 else ⟨k, gI L 0, 0, 0, 0, t, 0, fun _ => 0⟩
def cnK (k : Int) : Nat := if k = 4 then 3 else if k = 5 ∨ k = 9 ∨ k = 13 ∨ k = 14 then 2 else 1
def LsA (w : World) (base : Nat) (p : Option Addr) (n c : Nat) (f : Nat → Int) : Prop := (p = none ∧ n = 0 ∧ c = 0) ∨ ∃ b, p = some ⟨b, 0, none⟩ ∧ base ≤ b ∧ (n = 0 ∨ Cs w b 0 n (fun j => .int .i64 (f j)))
theorem LsA.ls {w : World} {base : Nat} {p : Option Addr} {n c : Nat} {f : Nat → Int} (h : LsA w base p n c f) : LsO w p n c f := by
 rcases h with h | ⟨b, e, _, h⟩
 ·exact .inl h
 ·exact .inr ⟨b, 0, e, h⟩
theorem LsA.low {w : World} {base base' : Nat} {p : Option Addr} {n c : Nat} {f : Nat → Int} (h : LsA w base p n c f) (hb : base' ≤ base) : LsA w base' p n c f := by
 rcases h with h | ⟨b, e, h1, h2⟩
 ·exact .inl h
 ·exact .inr ⟨b, e, Nat.le_trans hb h1, h2⟩
theorem LsA.below {w w' : World} {base : Nat} {p : Option Addr} {n c : Nat} {f : Nat → Int} (h : LsA w base p n c f) (hb : Below w.heap.size w w') : LsA w' base p n c f := by
 rcases h with h | ⟨b, e, h1, h | h⟩
 ·exact .inl h
 ·exact .inr ⟨b, e, h1, .inl h⟩
 ·exact .inr ⟨b, e, h1, .inr (h.below hb h.1)⟩
theorem LsA.but {w : World} {base k : Nat} {p : Option Addr} {n c : Nat} {f : Nat → Int} (us : List Value) (o : Nat) (h : LsA w base p n c f) (hk : k < base) : LsA (ac w k o us) base p n c f := by
 rcases h with h | ⟨b, e, hb, h | h⟩
 ·exact .inl h
 ·exact .inr ⟨b, e, hb, .inl h⟩
 ·refine .inr ⟨b, e, hb, .inr ⟨by rw [aR]; exact h.1, fun i hi => ?_⟩⟩
  rw [dg k _ (by show b ≠ k; omega)]
  exact h.2 i hi
end Go.Proofs.YtddjiamollfplaaGreatDoor
namespace Go.Proofs.YtddjiamollfplaaGreatDoor
open Go.RowKit
set_option linter.unusedVariables false

def kdL (t : ByteArray) : Nat → Nat
 | 0 => 0
 | k + 1 => if (t.toList == (nmK ((k + 1 : Nat) : Int)).toList) = true then k + 1 else kdL t k
theorem iS (t : ByteArray) : ∀ k, kdL t k ≤ k
 | 0 => Nat.le_refl _
 | k + 1 => by
  have q := iS t k
  unfold kdL
  split <;> omega
def rdF (W : List ByteArray) (tb : Bool) : Nat → List Int × ByteArray × Int
 | 0 => ([], ⟨#[]⟩, 0)
 | j + 1 => if (rdF W tb j).2.2 = 0 then
  (if tb = true ∧ j + 1 = W.length - 1 then (if fhB (W.getD (j + 1) ⟨#[]⟩) = true then ((rdF W tb j).1, fhO (W.getD (j + 1) ⟨#[]⟩), 0) else ((rdF W tb j).1, (rdF W tb j).2.1, 5))
   else (if nuB (W.getD (j + 1) ⟨#[]⟩) = true then ((rdF W tb j).1 ++ [nuI (W.getD (j + 1) ⟨#[]⟩)], (rdF W tb j).2.1, 0) else ((rdF W tb j).1, (rdF W tb j).2.1, 4)))
  else rdF W tb j
theorem ic {W : List ByteArray} {j : Nat} (h0 : (rdF W true j).2.2 = 0) (hj : j + 1 = W.length - 1) : rdF W true (j + 1) = if fhB (W.getD (j + 1) ⟨#[]⟩) = true then ((rdF W true j).1, fhO (W.getD (j + 1) ⟨#[]⟩), 0) else ((rdF W true j).1, (rdF W true j).2.1, 5) := by
 rw [rdF, if_pos h0, if_pos ⟨rfl, hj⟩]
theorem gd {W : List ByteArray} {tb : Bool} {j : Nat} (h0 : (rdF W tb j).2.2 = 0) (hj : ¬ (tb = true ∧ j + 1 = W.length - 1)) : rdF W tb (j + 1) = if nuB (W.getD (j + 1) ⟨#[]⟩) = true then ((rdF W tb j).1 ++ [nuI (W.getD (j + 1) ⟨#[]⟩)], (rdF W tb j).2.1, 0) else ((rdF W tb j).1, (rdF W tb j).2.1, 4) := by
 rw [rdF, if_pos h0, if_neg hj]
theorem gc {W : List ByteArray} {tb : Bool} {j : Nat} (h0 : (rdF W tb j).2.2 ≠ 0) : ∀ d, rdF W tb (j + d) = rdF W tb j
 | 0 => rfl
 | d + 1 => by
  have q := gc h0 d
  rw [← Nat.add_assoc, rdF, if_neg (by rw [q]; exact h0)]
  exact q
def mOk (k n : Nat) : Bool := if k = 1 then decide (2 ≤ n ∧ n ≤ 10) else decide (n = cnK (k : Int) + 1 + (if opT (k : Int) = true then 1 else 0))
def bf : OpD := ⟨0, 0, 0, 0, 0, ⟨#[]⟩, 0, fun _ => 0⟩
def paW (W : List ByteArray) : OpD × Int :=
 if kdL (W.getD 0 ⟨#[]⟩) 14 = 0 then (bf, 2)
 else if mOk (kdL (W.getD 0 ⟨#[]⟩) 14) W.length = true then
  (if (rdF W (opT (kdL (W.getD 0 ⟨#[]⟩) 14 : Int)) (W.length - 1)).2.2 = 0 then
   (if oB (opZ (kdL (W.getD 0 ⟨#[]⟩) 14 : Int) (rdF W (opT (kdL (W.getD 0 ⟨#[]⟩) 14 : Int)) (W.length - 1)).1 (rdF W (opT (kdL (W.getD 0 ⟨#[]⟩) 14 : Int)) (W.length - 1)).2.1) = true then (opZ (kdL (W.getD 0 ⟨#[]⟩) 14 : Int) (rdF W (opT (kdL (W.getD 0 ⟨#[]⟩) 14 : Int)) (W.length - 1)).1 (rdF W (opT (kdL (W.getD 0 ⟨#[]⟩) 14 : Int)) (W.length - 1)).2.1, 0) else (bf, 6))
   else (bf, (rdF W (opT (kdL (W.getD 0 ⟨#[]⟩) 14 : Int)) (W.length - 1)).2.2))
  else (bf, 3)
def paS (s : ByteArray) : OpD × Int := if 20000 < s.size then (bf, 1) else paW (wdW s 32)
theorem lj {s : ByteArray} (h : 20000 < s.size) : paS s = (bf, 1) := by rw [paS, if_pos h]
theorem jL {s : ByteArray} (h : ¬ 20000 < s.size) : paS s = paW (wdW s 32) := by rw [paS, if_neg h]
theorem lk {W : List ByteArray} (h : kdL (W.getD 0 ⟨#[]⟩) 14 = 0) : paW W = (bf, 2) := by rw [paW, if_pos h]
theorem g7 {W : List ByteArray} {K : Nat} (hK : kdL (W.getD 0 ⟨#[]⟩) 14 = K) (h : K ≠ 0) (hm : mOk K W.length = false) : paW W = (bf, 3) := by
 rw [paW, hK, if_neg h, if_neg (by rw [hm]; decide)]
theorem jM {W : List ByteArray} {K : Nat} (hK : kdL (W.getD 0 ⟨#[]⟩) 14 = K) (h : K ≠ 0) (hm : mOk K W.length = true) (h2 : (rdF W (opT (K : Int)) (W.length - 1)).2.2 ≠ 0) : paW W = (bf, (rdF W (opT (K : Int)) (W.length - 1)).2.2) := by
 rw [paW, hK, if_neg h, if_pos hm, if_neg h2]
theorem iX {W : List ByteArray} {K : Nat} {L : List Int} {t : ByteArray} (hK : kdL (W.getD 0 ⟨#[]⟩) 14 = K) (h : K ≠ 0) (hm : mOk K W.length = true) (h2 : rdF W (opT (K : Int)) (W.length - 1) = (L, t, 0)) : paW W = if oB (opZ (K : Int) L t) = true then (opZ (K : Int) L t, 0) else (bf, 6) := by
 rw [paW, hK, if_neg h, if_pos hm, h2]
 rfl
theorem dp (s : ByteArray) (c : Int) : ∀ i, ∀ x ∈ (av s c i).2, x.size ≤ s.size
 | 0, x, hx => by cases hx
 | i + 1, x, hx => by
  by_cases h : bt s i = c
  ·rw [bH h] at hx
   rcases List.mem_append.1 hx with hx | hx
   ·exact dp s c i x hx
   ·obtain rfl := List.mem_singleton.1 hx
    rw [ByteArray.size_extract]; omega
  ·rw [cx h] at hx
   exact dp s c i x hx
theorem lS (s : ByteArray) (c : Int) : ∀ x ∈ wdW s c, x.size ≤ s.size := by
 intro x hx
 rcases List.mem_append.1 hx with hx | hx
 ·exact dp s c _ x hx
 ·obtain rfl := List.mem_singleton.1 hx
  rw [ByteArray.size_extract]; omega
theorem my (s : ByteArray) (c : Int) : 0 < (wdW s c).length ∧ (wdW s c).length ≤ s.size + 1 := by
 have q := (cv s c s.size).2
 unfold wdW
 rw [List.length_append]
 show 0 < _ + 1 ∧ _ + 1 ≤ _
 omega
theorem jW {W : List ByteArray} {z : Nat} (h : ∀ x ∈ W, x.size ≤ z) (i : Nat) : (W.getD i ⟨#[]⟩).size ≤ z := by
 rw [List.getD_eq_getElem?_getD]
 rcases Nat.lt_or_ge i W.length with hi | hi
 ·rw [List.getElem?_eq_getElem hi]
  exact h _ (List.getElem_mem hi)
 ·rw [List.getElem?_eq_none hi]
  exact Nat.zero_le _
theorem jy {K : Nat} (h1 : 1 ≤ K) (h2 : K ≤ 14) : K = 1 ∨ K = 2 ∨ K = 3 ∨ K = 4 ∨ K = 5 ∨ K = 6 ∨ K = 7 ∨ K = 8 ∨ K = 9 ∨ K = 10 ∨ K = 11 ∨ K = 12 ∨ K = 13 ∨ K = 14 := by omega
end Go.Proofs.YtddjiamollfplaaGreatDoor
namespace Go.Proofs.YtddjiamollfplaaGreatDoor
open Go.RowKit
set_option linter.unusedVariables false

theorem mQ (s : ByteArray) : (fhO s).size ≤ s.size := by
 unfold fhO
 split
 ·exact Nat.zero_le _
 ·split
  ·rw [strOfNums_size, fR]; omega
  ·exact Nat.zero_le _
theorem iZ (W : List ByteArray) (tb : Bool) {z : Nat} (h : ∀ i, (W.getD i ⟨#[]⟩).size ≤ z) : ∀ j, (rdF W tb j).2.1.size ≤ z
 | 0 => Nat.zero_le _
 | j + 1 => by
  have q := iZ W tb h j
  have e := Nat.le_trans (mQ (W.getD (j + 1) ⟨#[]⟩)) (h (j + 1))
  unfold rdF
  (repeat' split) <;> first | exact q | exact e
theorem lh (k : Int) (L : List Int) (t : ByteArray) : (opZ k L t).tx = t := by
 unfold opZ
 (repeat' split) <;> rfl
theorem mO (k : Int) : cnK k ≤ 3 := by unfold cnK; (repeat' split) <;> omega
theorem fP (k : Int) : 1 ≤ cnK k := by unfold cnK; (repeat' split) <;> omega
theorem jX {W : List ByteArray} {i : Nat} (h : i < W.length) : W[i]? = some (W.getD i ⟨#[]⟩) := by
 rw [List.getD_eq_getElem?_getD, List.getElem?_eq_getElem h]
 rfl
end Go.Proofs.YtddjiamollfplaaGreatDoor
namespace Go.Proofs.YtddjiamollfplaaGreatDoor
open Go.RowKit
set_option linter.unusedVariables false

theorem nc (s : ByteArray) : (paS s).1.n ≤ 8 ∧ (paS s).1.tx.size ≤ 64 := by
 unfold paS paW
 (repeat' split) <;> first | exact ⟨Nat.zero_le _, Nat.zero_le _⟩ | (rename_i h; exact ⟨(co h).1, (co h).2.1⟩)
end Go.Proofs.YtddjiamollfplaaGreatDoor
