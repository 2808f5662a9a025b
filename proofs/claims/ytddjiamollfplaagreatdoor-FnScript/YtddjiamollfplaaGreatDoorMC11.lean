/- The words of an op, its numbers (the specification). -/
import Derived.Laws.Strings
import Derived.Laws.OwnMore
import Derived.Lib.BufferRead
import Derived.Test.YtddjiamollfplaaGreatDoorMC10
namespace Go.Proofs.YtddjiamollfplaaGreatDoor
open Go.RowKit
set_option linter.unusedVariables false
def nmK (k : Int) : ByteArray := if k = 1 then ⟨#[112, 97, 115, 115]⟩ else if k = 2 then ⟨#[98, 111, 111, 116]⟩ else if k = 3 then ⟨#[99, 114, 97, 115, 104]⟩ else if k = 4 then ⟨#[102, 105, 120]⟩ else if k = 5 then ⟨#[97, 115, 107]⟩ else if k = 6 then ⟨#[116, 105, 99, 107]⟩ else if k = 7 then ⟨#[102, 117, 115, 101]⟩ else if k = 8 then ⟨#[114, 101, 97, 100]⟩ else if k = 9 then ⟨#[115, 101, 110, 100]⟩ else if k = 10 then ⟨#[100, 101, 108, 105, 118, 101, 114]⟩ else if k = 11 then ⟨#[100, 114, 111, 112]⟩ else if k = 12 then ⟨#[100, 111, 117, 98, 108, 101]⟩ else if k = 13 then ⟨#[109, 111, 118, 101]⟩ else if k = 14 then ⟨#[102, 111, 114, 103, 101]⟩ else ⟨#[]⟩
theorem ld {k : Int} (h : ¬ (1 ≤ k ∧ k ≤ 14)) : nmK k = ⟨#[]⟩ := by
 unfold nmK
 repeat rw [if_neg (by omega)]
theorem dA (k : Int) : (nmK k).size ≤ 7 := by
 by_cases h : 1 ≤ k ∧ k ≤ 14
 ·obtain ⟨h1, h2⟩ := h
  rcases (show k = 1 ∨ k = 2 ∨ k = 3 ∨ k = 4 ∨ k = 5 ∨ k = 6 ∨ k = 7 ∨ k = 8 ∨ k = 9 ∨ k = 10 ∨ k = 11 ∨ k = 12 ∨ k = 13 ∨ k = 14 by omega) with rfl | rfl | rfl | rfl | rfl | rfl | rfl | rfl | rfl | rfl | rfl | rfl | rfl | rfl
  all_goals decide
 ·rw [ld h]; decide
set_option maxRecDepth 100000 in
set_option maxHeartbeats 4000000 in
theorem gj (k : Int) (w : World) :
 Calls Tryz.prog 36 #[.int .i64 k] w fun e w' => e = .returned (.string (nmK k)) ∧ Below w.heap.size w w' := by
 by_cases h : 1 ≤ k ∧ k ≤ 14
 ·have hd : decide ((1 : Int) ≤ k ∧ k ≤ 14) = true := by simp; omega
  have CL := fun v => az k 1 14 v
  rw [hd] at CL
  clear hd
  obtain ⟨h1, h2⟩ := h
  rcases (show k = 1 ∨ k = 2 ∨ k = 3 ∨ k = 4 ∨ k = 5 ∨ k = 6 ∨ k = 7 ∨ k = 8 ∨ k = 9 ∨ k = 10 ∨ k = 11 ∨ k = 12 ∨ k = 13 ∨ k = 14 by omega) with rfl | rfl | rfl | rfl | rfl | rfl | rfl | rfl | rfl | rfl | rfl | rfl | rfl | rfl
  all_goals clear h1 h2
  all_goals go_enter Tryz.func36, Tryz.ntmps36
  all_goals go_wp2_with fail
  all_goals refine (CL _).mono ?_
  all_goals rintro e w1 ⟨rfl, rfl⟩
  all_goals go_wp2_with fail
  all_goals go_ret
  all_goals exact ⟨rfl, Below.nw _ _⟩
 ·have hd : decide ((1 : Int) ≤ k ∧ k ≤ 14) = false := by (rw [decide_eq_false_iff_not]; exact h)
  have CL := fun v => az k 1 14 v
  rw [hd] at CL
  have HE : Hid (nmK k = ⟨#[]⟩) := ld h
  clear hd h
  go_enter Tryz.func36, Tryz.ntmps36
  go_wp2_with fail
  refine (CL _).mono ?_
  rintro e w1 ⟨rfl, rfl⟩
  go_wp2_with fail
  go_ret
  exact ⟨by rw [HE.out]; rfl, Below.refl _ _⟩
theorem ah {w : World} {base base' s n : Nat} {T : TypeId} {v : Value} {xs : List Value} (h : w.ownsRow base' T s v n xs) (hb : base ≤ base') : w.ownsRow base T s v n xs := by
 refine ⟨h.1, ?_⟩
 rcases h.2 with q | ⟨g, cap, cur, h1, h2, h3⟩
 ·exact .inl q
 ·exact .inr ⟨g, cap, cur, h1, Nat.le_trans hb h2, h3⟩
def opN (k nd tt a b : Int) (n : Nat) (f : Nat → Int) : List Int := if k = 1 then a :: (List.range n).map f else if k = 4 then [nd, a, b] else if k = 5 then [nd, tt] else if k = 9 then [nd, a] else if k = 10 then [a] else if k = 11 then [a] else if k = 12 then [a] else if k = 13 then [a, b] else if k = 14 then [nd, tt] else [nd]
def opT (k : Int) : Bool := decide (k = 9 ∨ k = 14)
theorem bZ (L : List Int) : aG L = L.map (Value.int .i64) := by
 apply List.ext_getElem?
 intro i
 rw [aG, Nat.mul_one]
 by_cases hi : i < L.length
 ·rw [List.getElem?_map, List.getElem?_range hi, List.getElem?_map, List.getElem?_eq_getElem hi]
  show some (Value.int .i64 (gI L i)) = some _
  rw [gI, List.getD_eq_getElem?_getD, List.getElem?_eq_getElem hi]
  rfl
 ·rw [List.getElem?_eq_none (by simp; omega), List.getElem?_eq_none (by simp; omega)]
theorem fI (b off n : Nat) : (⟨b, off, none⟩ : Addr).add n = ⟨b, off + n, none⟩ := by
 unfold Addr.add
 split
 ·next h => subst h; rfl
 ·rfl
theorem bB (w : World) (L : List Int) (hl : L.length ≤ 64) : (w.alloc (.cells (aG L).toArray 3)).ownsRow w.heap.size 3 1 (.slice (some ⟨w.heap.size, 0, none⟩) L.length L.length) L.length (aG L) :=
 ⟨by simp [aG], .inr ⟨w.heap.size, L.length, (aG L).toArray, rfl, Nat.le_refl _, heap_alloc_new w _, Nat.le_refl _, by unfold maxLen; omega, by simp [aG], by simp [aG, List.take_of_length_le]⟩⟩
set_option maxRecDepth 100000 in
set_option maxHeartbeats 2000000 in
theorem i7 (nd tt a b : Int) (tx : ByteArray) (p : Option Addr) (n c : Nat) (w : World) :
 Calls Tryz.prog 37 #[.agg #[.int .i64 4, .int .i64 nd, .int .i64 tt, .int .i64 a, .int .i64 b, .string tx, .slice p n c]] w fun e w' => ∃ v, e = .returned (.tuple #[v, .bool false]) ∧ w'.ownsRow w.heap.size 3 1 v ([nd, a, b] : List Int).length (aG [nd, a, b]) ∧ Below w.heap.size w w' := by
 have B := (Below.nw w (.cells #[.int .i64 4, .int .i64 nd, .int .i64 tt, .int .i64 a, .int .i64 b, .string tx, .slice p n c] 26)).alloc (by simp) (.cells #[.int .i64 nd, .int .i64 a, .int .i64 b] 3)
 have O := bB (w.alloc (.cells #[.int .i64 4, .int .i64 nd, .int .i64 tt, .int .i64 a, .int .i64 b, .string tx, .slice p n c] 26)) [nd, a, b] (by simp)
 have O2 : ((w.alloc (.cells #[.int .i64 4, .int .i64 nd, .int .i64 tt, .int .i64 a, .int .i64 b, .string tx, .slice p n c] 26)).alloc (.cells #[.int .i64 nd, .int .i64 a, .int .i64 b] 3)).ownsRow w.heap.size 3 1 (.slice (some ⟨(w.alloc (.cells #[.int .i64 4, .int .i64 nd, .int .i64 tt, .int .i64 a, .int .i64 b, .string tx, .slice p n c] 26)).heap.size, 0, none⟩) 3 3) ([nd, a, b] : List Int).length (aG [nd, a, b]) := ah O (by simp)
 simp only [World.size_alloc] at O2
 clear O
 skip
 go_enter Tryz.func37, Tryz.ntmps37
 go_wp2_with fail
 go_ret2
 exact ⟨_, rfl, O2, B⟩
set_option maxRecDepth 100000 in
set_option maxHeartbeats 2000000 in
theorem i8 (nd tt a b : Int) (tx : ByteArray) (p : Option Addr) (n c : Nat) (w : World) :
 Calls Tryz.prog 37 #[.agg #[.int .i64 5, .int .i64 nd, .int .i64 tt, .int .i64 a, .int .i64 b, .string tx, .slice p n c]] w fun e w' => ∃ v, e = .returned (.tuple #[v, .bool false]) ∧ w'.ownsRow w.heap.size 3 1 v ([nd, tt] : List Int).length (aG [nd, tt]) ∧ Below w.heap.size w w' := by
 have B := (Below.nw w (.cells #[.int .i64 5, .int .i64 nd, .int .i64 tt, .int .i64 a, .int .i64 b, .string tx, .slice p n c] 26)).alloc (by simp) (.cells #[.int .i64 nd, .int .i64 tt] 3)
 have O := bB (w.alloc (.cells #[.int .i64 5, .int .i64 nd, .int .i64 tt, .int .i64 a, .int .i64 b, .string tx, .slice p n c] 26)) [nd, tt] (by simp)
 have O2 : ((w.alloc (.cells #[.int .i64 5, .int .i64 nd, .int .i64 tt, .int .i64 a, .int .i64 b, .string tx, .slice p n c] 26)).alloc (.cells #[.int .i64 nd, .int .i64 tt] 3)).ownsRow w.heap.size 3 1 (.slice (some ⟨(w.alloc (.cells #[.int .i64 5, .int .i64 nd, .int .i64 tt, .int .i64 a, .int .i64 b, .string tx, .slice p n c] 26)).heap.size, 0, none⟩) 2 2) ([nd, tt] : List Int).length (aG [nd, tt]) := ah O (by simp)
 simp only [World.size_alloc] at O2
 clear O
 skip
 go_enter Tryz.func37, Tryz.ntmps37
 go_wp2_with fail
 go_ret2
 exact ⟨_, rfl, O2, B⟩
set_option maxRecDepth 100000 in
set_option maxHeartbeats 2000000 in
theorem ja (nd tt a b : Int) (tx : ByteArray) (p : Option Addr) (n c : Nat) (w : World) :
 Calls Tryz.prog 37 #[.agg #[.int .i64 9, .int .i64 nd, .int .i64 tt, .int .i64 a, .int .i64 b, .string tx, .slice p n c]] w fun e w' => ∃ v, e = .returned (.tuple #[v, .bool true]) ∧ w'.ownsRow w.heap.size 3 1 v ([nd, a] : List Int).length (aG [nd, a]) ∧ Below w.heap.size w w' := by
 have B := (Below.nw w (.cells #[.int .i64 9, .int .i64 nd, .int .i64 tt, .int .i64 a, .int .i64 b, .string tx, .slice p n c] 26)).alloc (by simp) (.cells #[.int .i64 nd, .int .i64 a] 3)
 have O := bB (w.alloc (.cells #[.int .i64 9, .int .i64 nd, .int .i64 tt, .int .i64 a, .int .i64 b, .string tx, .slice p n c] 26)) [nd, a] (by simp)
 have O2 : ((w.alloc (.cells #[.int .i64 9, .int .i64 nd, .int .i64 tt, .int .i64 a, .int .i64 b, .string tx, .slice p n c] 26)).alloc (.cells #[.int .i64 nd, .int .i64 a] 3)).ownsRow w.heap.size 3 1 (.slice (some ⟨(w.alloc (.cells #[.int .i64 9, .int .i64 nd, .int .i64 tt, .int .i64 a, .int .i64 b, .string tx, .slice p n c] 26)).heap.size, 0, none⟩) 2 2) ([nd, a] : List Int).length (aG [nd, a]) := ah O (by simp)
 simp only [World.size_alloc] at O2
 clear O
 skip
 go_enter Tryz.func37, Tryz.ntmps37
 go_wp2_with fail
 go_ret2
 exact ⟨_, rfl, O2, B⟩
set_option maxRecDepth 100000 in
set_option maxHeartbeats 2000000 in
theorem iq (nd tt a b : Int) (tx : ByteArray) (p : Option Addr) (n c : Nat) (w : World) :
 Calls Tryz.prog 37 #[.agg #[.int .i64 10, .int .i64 nd, .int .i64 tt, .int .i64 a, .int .i64 b, .string tx, .slice p n c]] w fun e w' => ∃ v, e = .returned (.tuple #[v, .bool false]) ∧ w'.ownsRow w.heap.size 3 1 v ([a] : List Int).length (aG [a]) ∧ Below w.heap.size w w' := by
 have B := (Below.nw w (.cells #[.int .i64 10, .int .i64 nd, .int .i64 tt, .int .i64 a, .int .i64 b, .string tx, .slice p n c] 26)).alloc (by simp) (.cells #[.int .i64 a] 3)
 have O := bB (w.alloc (.cells #[.int .i64 10, .int .i64 nd, .int .i64 tt, .int .i64 a, .int .i64 b, .string tx, .slice p n c] 26)) [a] (by simp)
 have O2 : ((w.alloc (.cells #[.int .i64 10, .int .i64 nd, .int .i64 tt, .int .i64 a, .int .i64 b, .string tx, .slice p n c] 26)).alloc (.cells #[.int .i64 a] 3)).ownsRow w.heap.size 3 1 (.slice (some ⟨(w.alloc (.cells #[.int .i64 10, .int .i64 nd, .int .i64 tt, .int .i64 a, .int .i64 b, .string tx, .slice p n c] 26)).heap.size, 0, none⟩) 1 1) ([a] : List Int).length (aG [a]) := ah O (by simp)
 simp only [World.size_alloc] at O2
 clear O
 skip
 go_enter Tryz.func37, Tryz.ntmps37
 go_wp2_with fail
 go_ret2
 exact ⟨_, rfl, O2, B⟩
set_option maxRecDepth 100000 in
set_option maxHeartbeats 2000000 in
theorem ir (nd tt a b : Int) (tx : ByteArray) (p : Option Addr) (n c : Nat) (w : World) :
 Calls Tryz.prog 37 #[.agg #[.int .i64 11, .int .i64 nd, .int .i64 tt, .int .i64 a, .int .i64 b, .string tx, .slice p n c]] w fun e w' => ∃ v, e = .returned (.tuple #[v, .bool false]) ∧ w'.ownsRow w.heap.size 3 1 v ([a] : List Int).length (aG [a]) ∧ Below w.heap.size w w' := by
 have B := (Below.nw w (.cells #[.int .i64 11, .int .i64 nd, .int .i64 tt, .int .i64 a, .int .i64 b, .string tx, .slice p n c] 26)).alloc (by simp) (.cells #[.int .i64 a] 3)
 have O := bB (w.alloc (.cells #[.int .i64 11, .int .i64 nd, .int .i64 tt, .int .i64 a, .int .i64 b, .string tx, .slice p n c] 26)) [a] (by simp)
 have O2 : ((w.alloc (.cells #[.int .i64 11, .int .i64 nd, .int .i64 tt, .int .i64 a, .int .i64 b, .string tx, .slice p n c] 26)).alloc (.cells #[.int .i64 a] 3)).ownsRow w.heap.size 3 1 (.slice (some ⟨(w.alloc (.cells #[.int .i64 11, .int .i64 nd, .int .i64 tt, .int .i64 a, .int .i64 b, .string tx, .slice p n c] 26)).heap.size, 0, none⟩) 1 1) ([a] : List Int).length (aG [a]) := ah O (by simp)
 simp only [World.size_alloc] at O2
 clear O
 skip
 go_enter Tryz.func37, Tryz.ntmps37
 go_wp2_with fail
 go_ret2
 exact ⟨_, rfl, O2, B⟩
set_option maxRecDepth 100000 in
set_option maxHeartbeats 2000000 in
theorem iu (nd tt a b : Int) (tx : ByteArray) (p : Option Addr) (n c : Nat) (w : World) :
 Calls Tryz.prog 37 #[.agg #[.int .i64 12, .int .i64 nd, .int .i64 tt, .int .i64 a, .int .i64 b, .string tx, .slice p n c]] w fun e w' => ∃ v, e = .returned (.tuple #[v, .bool false]) ∧ w'.ownsRow w.heap.size 3 1 v ([a] : List Int).length (aG [a]) ∧ Below w.heap.size w w' := by
 have B := (Below.nw w (.cells #[.int .i64 12, .int .i64 nd, .int .i64 tt, .int .i64 a, .int .i64 b, .string tx, .slice p n c] 26)).alloc (by simp) (.cells #[.int .i64 a] 3)
 have O := bB (w.alloc (.cells #[.int .i64 12, .int .i64 nd, .int .i64 tt, .int .i64 a, .int .i64 b, .string tx, .slice p n c] 26)) [a] (by simp)
 have O2 : ((w.alloc (.cells #[.int .i64 12, .int .i64 nd, .int .i64 tt, .int .i64 a, .int .i64 b, .string tx, .slice p n c] 26)).alloc (.cells #[.int .i64 a] 3)).ownsRow w.heap.size 3 1 (.slice (some ⟨(w.alloc (.cells #[.int .i64 12, .int .i64 nd, .int .i64 tt, .int .i64 a, .int .i64 b, .string tx, .slice p n c] 26)).heap.size, 0, none⟩) 1 1) ([a] : List Int).length (aG [a]) := ah O (by simp)
 simp only [World.size_alloc] at O2
 clear O
 skip
 go_enter Tryz.func37, Tryz.ntmps37
 go_wp2_with fail
 go_ret2
 exact ⟨_, rfl, O2, B⟩
set_option maxRecDepth 100000 in
set_option maxHeartbeats 2000000 in
theorem iv (nd tt a b : Int) (tx : ByteArray) (p : Option Addr) (n c : Nat) (w : World) :
 Calls Tryz.prog 37 #[.agg #[.int .i64 13, .int .i64 nd, .int .i64 tt, .int .i64 a, .int .i64 b, .string tx, .slice p n c]] w fun e w' => ∃ v, e = .returned (.tuple #[v, .bool false]) ∧ w'.ownsRow w.heap.size 3 1 v ([a, b] : List Int).length (aG [a, b]) ∧ Below w.heap.size w w' := by
 have B := (Below.nw w (.cells #[.int .i64 13, .int .i64 nd, .int .i64 tt, .int .i64 a, .int .i64 b, .string tx, .slice p n c] 26)).alloc (by simp) (.cells #[.int .i64 a, .int .i64 b] 3)
 have O := bB (w.alloc (.cells #[.int .i64 13, .int .i64 nd, .int .i64 tt, .int .i64 a, .int .i64 b, .string tx, .slice p n c] 26)) [a, b] (by simp)
 have O2 : ((w.alloc (.cells #[.int .i64 13, .int .i64 nd, .int .i64 tt, .int .i64 a, .int .i64 b, .string tx, .slice p n c] 26)).alloc (.cells #[.int .i64 a, .int .i64 b] 3)).ownsRow w.heap.size 3 1 (.slice (some ⟨(w.alloc (.cells #[.int .i64 13, .int .i64 nd, .int .i64 tt, .int .i64 a, .int .i64 b, .string tx, .slice p n c] 26)).heap.size, 0, none⟩) 2 2) ([a, b] : List Int).length (aG [a, b]) := ah O (by simp)
 simp only [World.size_alloc] at O2
 clear O
 skip
 go_enter Tryz.func37, Tryz.ntmps37
 go_wp2_with fail
 go_ret2
 exact ⟨_, rfl, O2, B⟩
set_option maxRecDepth 100000 in
set_option maxHeartbeats 2000000 in
theorem iw (nd tt a b : Int) (tx : ByteArray) (p : Option Addr) (n c : Nat) (w : World) :
 Calls Tryz.prog 37 #[.agg #[.int .i64 14, .int .i64 nd, .int .i64 tt, .int .i64 a, .int .i64 b, .string tx, .slice p n c]] w fun e w' => ∃ v, e = .returned (.tuple #[v, .bool true]) ∧ w'.ownsRow w.heap.size 3 1 v ([nd, tt] : List Int).length (aG [nd, tt]) ∧ Below w.heap.size w w' := by
 have B := (Below.nw w (.cells #[.int .i64 14, .int .i64 nd, .int .i64 tt, .int .i64 a, .int .i64 b, .string tx, .slice p n c] 26)).alloc (by simp) (.cells #[.int .i64 nd, .int .i64 tt] 3)
 have O := bB (w.alloc (.cells #[.int .i64 14, .int .i64 nd, .int .i64 tt, .int .i64 a, .int .i64 b, .string tx, .slice p n c] 26)) [nd, tt] (by simp)
 have O2 : ((w.alloc (.cells #[.int .i64 14, .int .i64 nd, .int .i64 tt, .int .i64 a, .int .i64 b, .string tx, .slice p n c] 26)).alloc (.cells #[.int .i64 nd, .int .i64 tt] 3)).ownsRow w.heap.size 3 1 (.slice (some ⟨(w.alloc (.cells #[.int .i64 14, .int .i64 nd, .int .i64 tt, .int .i64 a, .int .i64 b, .string tx, .slice p n c] 26)).heap.size, 0, none⟩) 2 2) ([nd, tt] : List Int).length (aG [nd, tt]) := ah O (by simp)
 simp only [World.size_alloc] at O2
 clear O
 skip
 go_enter Tryz.func37, Tryz.ntmps37
 go_wp2_with fail
 go_ret2
 exact ⟨_, rfl, O2, B⟩
set_option maxRecDepth 100000 in
set_option maxHeartbeats 2000000 in
theorem jc (k nd tt a b : Int) (tx : ByteArray) (p : Option Addr) (n c : Nat) (w : World) (hk : k ≠ 1 ∧ k ≠ 4 ∧ k ≠ 5 ∧ k ≠ 9 ∧ k ≠ 10 ∧ k ≠ 11 ∧ k ≠ 12 ∧ k ≠ 13 ∧ k ≠ 14) :
 Calls Tryz.prog 37 #[.agg #[.int .i64 k, .int .i64 nd, .int .i64 tt, .int .i64 a, .int .i64 b, .string tx, .slice p n c]] w fun e w' => ∃ v, e = .returned (.tuple #[v, .bool false]) ∧ w'.ownsRow w.heap.size 3 1 v ([nd] : List Int).length (aG [nd]) ∧ Below w.heap.size w w' := by
 have B := (Below.nw w (.cells #[.int .i64 k, .int .i64 nd, .int .i64 tt, .int .i64 a, .int .i64 b, .string tx, .slice p n c] 26)).alloc (by simp) (.cells #[.int .i64 nd] 3)
 have O := bB (w.alloc (.cells #[.int .i64 k, .int .i64 nd, .int .i64 tt, .int .i64 a, .int .i64 b, .string tx, .slice p n c] 26)) [nd] (by simp)
 have O2 : ((w.alloc (.cells #[.int .i64 k, .int .i64 nd, .int .i64 tt, .int .i64 a, .int .i64 b, .string tx, .slice p n c] 26)).alloc (.cells #[.int .i64 nd] 3)).ownsRow w.heap.size 3 1 (.slice (some ⟨(w.alloc (.cells #[.int .i64 k, .int .i64 nd, .int .i64 tt, .int .i64 a, .int .i64 b, .string tx, .slice p n c] 26)).heap.size, 0, none⟩) 1 1) ([nd] : List Int).length (aG [nd]) := ah O (by simp)
 simp only [World.size_alloc] at O2
 clear O
 have z1 : (k == 1) = false := by (rw [beq_eq_false_iff_ne]; omega)
 have z4 : (k == 4) = false := by (rw [beq_eq_false_iff_ne]; omega)
 have z5 : (k == 5) = false := by (rw [beq_eq_false_iff_ne]; omega)
 have z9 : (k == 9) = false := by (rw [beq_eq_false_iff_ne]; omega)
 have z10 : (k == 10) = false := by (rw [beq_eq_false_iff_ne]; omega)
 have z11 : (k == 11) = false := by (rw [beq_eq_false_iff_ne]; omega)
 have z12 : (k == 12) = false := by (rw [beq_eq_false_iff_ne]; omega)
 have z13 : (k == 13) = false := by (rw [beq_eq_false_iff_ne]; omega)
 have z14 : (k == 14) = false := by (rw [beq_eq_false_iff_ne]; omega)
 go_enter Tryz.func37, Tryz.ntmps37
 go_wp2_with fail
 go_ret2
 exact ⟨_, rfl, O2, B⟩
theorem bd (L M : List Int) : aG (L ++ M) = aG L ++ aG M := by rw [bZ, bZ, bZ, List.map_append]
theorem mV {w : World} {b off n : Nat} {f : Nat → Int} (h : Cs w b off n (fun j => .int .i64 (f j))) : ∀ j u, (aG ((List.range n).map f))[j]? = some u → w.cell? ((⟨b, off, none⟩ : Addr).add j) = some u := by
 intro j u hu
 rw [bZ, List.map_map] at hu
 by_cases hj : j < n
 ·rw [List.getElem?_map, List.getElem?_range hj] at hu
  simp at hu
  subst hu
  rw [fI]
  exact h.2 j hj
 ·rw [List.getElem?_eq_none (by simp; omega)] at hu
  cases hu
theorem eT {P : Program} {w : World} {o : Oper} {a : Act} {K : Act → World → Prop} {Q : Exit → Act → World → Prop} (s x : Operand) (t : TypeId)
 (ho : o.op = .call { callee := .builtin .append, args := #[s, x], argTypes := #[t, t] })
 (base : Nat) (e : TypeId) (i : TypeInfo) (z : Value) (size bytes : Nat) (ht : P.underlying t = some (.slice e)) (hi : P.info? e = some i) (hz : i.zero = some z)
 (hsize : i.size = size) (hby : i.bytes = bytes) (hzs : z.cells.size = size) (hsz : 0 < size)
 (v : Value) (n : Nat) (xs : List Value) (hs : a.eval s = v) (hown : w.ownsRow base e size v n xs)
 (A : Option Addr) (m c : Nat) (news : List Value) (hx : a.eval x = .slice A m c) (hsrc : (A = none ∧ m = 0 ∧ c = 0) ∨ ∃ ad, A = some ad ∧ ∀ j u, news[j]? = some u → w.cell? (ad.add j) = some u) (hl : news.length = m * size) (h1 : ∀ u ∈ news, u.oneCell' = true)
 (h63 : n + m ≤ maxLen) (hbytes : (n + m) * bytes ≤ 140737488355328) (hbase : base ≤ w.heap.size)
 (h : ∀ v' w', w'.ownsRow base e size v' (n + m) (xs ++ news) → w.grownBy w' v.ownBlock → K (a.put o.dst v') w') : o.wp P a w K Q := by
 rcases hsrc with ⟨rfl, rfl, rfl⟩ | ⟨ad, rfl, hnews⟩
 ·have hr := run_append_owned_none (P := P) (w := w) base t o.type e i size ht hi v n xs hown
  have hn0 : news = [] := List.eq_nil_of_length_eq_zero (by rw [hl]; simp)
  subst hn0
  unfold Oper.wp execOp
  simp only [ho, resolve, invoke, builtin, Sem.run_bind, Sem.run_pure, Result.andThen_ok, List.map_toArray, List.map_cons, List.map_nil, hs, hx, hr]
  exact h v w (by rw [List.append_nil]; exact hown) ⟨rfl, rfl, rfl, Nat.le_refl _, fun _ _ _ => rfl⟩
 ·exact wp_append_own w s x t ho base e i z size bytes ht hi hz hsize hby hzs hsz v n xs hs hown ad m c news hx hl hnews h1 h63 hbytes hbase (fun v' w' p1 p2 _ => h v' w' p1 p2)
theorem dk {P : Program} {w : World} {ops : Array Oper} {rest : List Oper} {o : Oper} {a : Act} {Q : Exit → Act → World → Prop} (hgd : o.guard = none) (s x : Operand) (t : TypeId)
 (ho : o.op = .call { callee := .builtin .append, args := #[s, x], argTypes := #[t, t] })
 (base : Nat) (e : TypeId) (i : TypeInfo) (z : Value) (size bytes : Nat) (ht : P.underlying t = some (.slice e)) (hi : P.info? e = some i) (hz : i.zero = some z)
 (hsize : i.size = size) (hby : i.bytes = bytes) (hzs : z.cells.size = size) (hsz : 0 < size)
 (v : Value) (n : Nat) (xs : List Value) (hs : a.eval s = v) (hown : w.ownsRow base e size v n xs)
 (A : Option Addr) (m c : Nat) (news : List Value) (hx : a.eval x = .slice A m c) (hsrc : (A = none ∧ m = 0 ∧ c = 0) ∨ ∃ ad, A = some ad ∧ ∀ j u, news[j]? = some u → w.cell? (ad.add j) = some u) (hl : news.length = m * size) (h1 : ∀ u ∈ news, u.oneCell' = true)
 (h63 : n + m ≤ maxLen) (hbytes : (n + m) * bytes ≤ 140737488355328) (hbase : base ≤ w.heap.size)
 (h : ∀ v' w', w'.ownsRow base e size v' (n + m) (xs ++ news) → w.grownBy w' v.ownBlock → wpList P ops Q rest (a.put o.dst v') w') : wpList P ops Q (o :: rest) a w := by
 refine wpList_plain hgd fun _ hK => ?_
 exact eT s x t ho base e i z size bytes ht hi hz hsize hby hzs hsz v n xs hs hown A m c news hx hsrc hl h1 h63 hbytes hbase fun v' w' q1 q2 => hK _ _ (h v' w' q1 q2)
def LsO (w : World) (p : Option Addr) (n c : Nat) (f : Nat → Int) : Prop := (p = none ∧ n = 0 ∧ c = 0) ∨ ∃ b off, p = some ⟨b, off, none⟩ ∧ (n = 0 ∨ Cs w b off n (fun j => .int .i64 (f j)))
theorem LsO.below {w w' : World} {p : Option Addr} {n c : Nat} {f : Nat → Int} (h : LsO w p n c f) (hb : Below w.heap.size w w') : LsO w' p n c f := by
 rcases h with h | ⟨b, off, e, h | h⟩
 ·exact .inl h
 ·exact .inr ⟨b, off, e, .inl h⟩
 ·exact .inr ⟨b, off, e, .inr (h.below hb h.1)⟩
theorem LsO.at {w : World} {p : Option Addr} {n c : Nat} {f : Nat → Int} (h : LsO w p n c f) : (p = none ∧ n = 0 ∧ c = 0) ∨ ∃ ad, p = some ad ∧ ∀ j u, (aG ((List.range n).map f))[j]? = some u → w.cell? (ad.add j) = some u := by
 rcases h with h | ⟨b, off, e, h | h⟩
 ·exact .inl h
 ·refine .inr ⟨_, e, fun j u hu => ?_⟩
  rw [h] at hu
  rw [List.getElem?_eq_none (by simp [aG])] at hu
  cases hu
 ·exact .inr ⟨_, e, mV h⟩
theorem mh (L : List Int) : ∀ u ∈ aG L, u.oneCell' = true := by
 intro u hu
 rw [bZ, List.mem_map] at hu
 obtain ⟨z, _, rfl⟩ := hu
 rfl
set_option maxRecDepth 100000 in
set_option maxHeartbeats 2000000 in
theorem i6 (nd tt a b : Int) (tx : ByteArray) (p : Option Addr) (n c : Nat) (f : Nat → Int) (w : World) (hn : n ≤ 64) (hs : LsO w p n c f) :
 Calls Tryz.prog 37 #[.agg #[.int .i64 1, .int .i64 nd, .int .i64 tt, .int .i64 a, .int .i64 b, .string tx, .slice p n c]] w fun e w' => ∃ v, e = .returned (.tuple #[v, .bool false]) ∧ w'.ownsRow w.heap.size 3 1 v (a :: (List.range n).map f).length (aG (a :: (List.range n).map f)) ∧ Below w.heap.size w w' := by
 obtain ⟨i0, hi, hz0, hz1, hz2⟩ := info_parts dv
 have B := (Below.nw w (.cells #[.int .i64 1, .int .i64 nd, .int .i64 tt, .int .i64 a, .int .i64 b, .string tx, .slice p n c] 26)).alloc (by simp) (.cells #[.int .i64 a] 3)
 have O := bB (w.alloc (.cells #[.int .i64 1, .int .i64 nd, .int .i64 tt, .int .i64 a, .int .i64 b, .string tx, .slice p n c] 26)) [a] (by simp)
 have O2 : ((w.alloc (.cells #[.int .i64 1, .int .i64 nd, .int .i64 tt, .int .i64 a, .int .i64 b, .string tx, .slice p n c] 26)).alloc (.cells #[.int .i64 a] 3)).ownsRow w.heap.size 3 1 (.slice (some ⟨(w.alloc (.cells #[.int .i64 1, .int .i64 nd, .int .i64 tt, .int .i64 a, .int .i64 b, .string tx, .slice p n c] 26)).heap.size, 0, none⟩) 1 1) 1 (aG [a]) := ah O (by simp)
 simp only [World.size_alloc] at O2
 have HS : Hid ((p = none ∧ n = 0 ∧ c = 0) ∨ ∃ ad, p = some ad ∧ ∀ j u, (aG ((List.range n).map f))[j]? = some u → ((w.alloc (.cells #[.int .i64 1, .int .i64 nd, .int .i64 tt, .int .i64 a, .int .i64 b, .string tx, .slice p n c] 26)).alloc (.cells #[.int .i64 a] 3)).cell? (ad.add j) = some u) := ((hs.below (Below.nw w (.cells #[.int .i64 1, .int .i64 nd, .int .i64 tt, .int .i64 a, .int .i64 b, .string tx, .slice p n c] 26))).below (Below.nw _ (.cells #[.int .i64 a] 3))).at
 have hsz : w.heap.size ≤ ((w.alloc (.cells #[.int .i64 1, .int .i64 nd, .int .i64 tt, .int .i64 a, .int .i64 b, .string tx, .slice p n c] 26)).alloc (.cells #[.int .i64 a] 3)).heap.size := B.size
 have hlm : (aG ((List.range n).map f)).length = n * 1 := by simp [aG]
 clear O hs
 go_enter Tryz.func37, Tryz.ntmps37
 go_wp2_with (at_builtin; refine dk rfl _ _ 24 rfl w.heap.size 3 i0 (.int .i64 0) 1 8 Tryz.underlying24 hi hz0 hz1 hz2 rfl (by decide) _ _ _ rfl O2 p n c (aG ((List.range n).map f)) rfl HS.out hlm (mh _) (by unfold maxLen; omega) (by omega) hsz ?_; intro v' w9 O9 hg)
 have B9 := B.trans (fS O2 hg hsz)
 have e1 : aG [a] ++ aG ((List.range n).map f) = aG (a :: (List.range n).map f) := (bd [a] _).symm
 have e2 : (a :: (List.range n).map f).length = 1 + n := by simp; omega
 rw [e1] at O9
 clear hg HS O2 B hsz hlm e1
 go_wp2_with fail
 go_ret2
 rw [← e2] at O9
 exact ⟨_, rfl, O9, B9⟩
end Go.Proofs.YtddjiamollfplaaGreatDoor
