/- The line of an op: its numbers (the specification). -/
import Derived.Test.YtddjiamollfplaaDoorMS16
import Derived.Test.YtddjiamollfplaaDoorMS26
namespace Go.Proofs.YtddjiamollfplaaDoor
open Go.RowKit
set_option linter.unusedVariables false
set_option maxHeartbeats 1000000 in
theorem specNums_any (k nd tt a b : Int) (tx : ByteArray) (p : Option Addr) (n c : Nat) (f : Nat → Int) (w : World) (hn : n ≤ 64) (hs : LsO w p n c f) :
 Calls Tryd.prog 55 #[.agg #[.int .i64 k, .int .i64 nd, .int .i64 tt, .int .i64 a, .int .i64 b, .string tx, .slice p n c]] w fun e w' => ∃ v, e = .returned (.tuple #[v, .bool (opT k)]) ∧ w'.ownsRow w.heap.size 3 1 v (opN k nd tt a b n f).length (irow (opN k nd tt a b n f)) ∧ Below w.heap.size w w' := by
 by_cases h1 : k = 1
 ·subst h1; exact specNums_1 nd tt a b tx p n c f w hn hs
 by_cases h4 : k = 4
 ·subst h4; exact specNums_4 nd tt a b tx p n c w
 by_cases h5 : k = 5
 ·subst h5; exact specNums_5 nd tt a b tx p n c w
 by_cases h9 : k = 9
 ·subst h9; exact specNums_9 nd tt a b tx p n c w
 by_cases h10 : k = 10
 ·subst h10; exact specNums_10 nd tt a b tx p n c w
 by_cases h11 : k = 11
 ·subst h11; exact specNums_11 nd tt a b tx p n c w
 by_cases h12 : k = 12
 ·subst h12; exact specNums_12 nd tt a b tx p n c w
 by_cases h13 : k = 13
 ·subst h13; exact specNums_13 nd tt a b tx p n c w
 by_cases h14 : k = 14
 ·subst h14; exact specNums_14 nd tt a b tx p n c w
 have e1 : opT k = false := by unfold opT; simp; omega
 have e2 : opN k nd tt a b n f = [nd] := by unfold opN; simp only [h1, h4, h5, h9, h10, h11, h12, h13, h14, if_false]
 rw [e1, e2]
 exact specNums_e k nd tt a b tx p n c w ⟨h1, h4, h5, h9, h10, h11, h12, h13, h14⟩
theorem upB_of {x m : Int} (h : upB x m = true) : 0 ≤ x ∧ x ≤ m := by
 unfold upB at h
 rw [Bool.and_eq_true] at h
 exact ⟨of_decide_eq_true h.1, of_decide_eq_true h.2⟩
theorem ol_facts {k nd tt a b : Int} {tx : ByteArray} {n : Nat} {f : Nat → Int} (h : opB k nd tt a b tx n f = true) :
 n ≤ 8 ∧ tx.size ≤ 64 ∧ (opN k nd tt a b n f).length ≤ 9 ∧ ∀ i, -1000000 ≤ gI (opN k nd tt a b n f) i ∧ gI (opN k nd tt a b n f) i ≤ 1000000 := by
 unfold opB hdB at h
 simp only [Bool.and_eq_true] at h
 obtain ⟨⟨_, ⟨⟨⟨⟨⟨h1, h2⟩, _⟩, h3⟩, h4⟩, h5⟩, h6⟩, h7⟩ := h
 have q1 := upB_of h1
 have q2 := upB_of h2
 have q3 := upB_of h3
 have q4 := upB_of h4
 have q5 := of_decide_eq_true h5
 have q6 := of_decide_eq_true h6
 have q7 := of_decide_eq_true h7
 have b1 : bdN k ≤ 7 := by unfold bdN; split <;> omega
 have b2 : bdT k ≤ 7 := by unfold bdT; split <;> omega
 have b3 : bdA k ≤ 1000000 := by unfold bdA; split <;> (try split) <;> omega
 have b4 : bdB k ≤ 1000000 := by unfold bdB; split <;> (try split) <;> omega
 have b5 : bdX k ≤ 64 := by unfold bdX; split <;> (try split) <;> omega
 have b6 : bdL k ≤ 8 := by unfold bdL; split <;> omega
 have hall : ∀ x ∈ opN k nd tt a b n f, -1000000 ≤ x ∧ x ≤ 1000000 := by
  intro x hx
  unfold opN at hx
  split at hx
  ·rcases List.mem_cons.1 hx with rfl | hx
   ·omega
   ·obtain ⟨i, hi, rfl⟩ := List.mem_map.1 hx
    exact q7 i (List.mem_range.1 hi)
  ·repeat' split at hx
   all_goals (simp only [List.mem_cons, List.not_mem_nil, or_false] at hx; omega)
 refine ⟨by omega, by omega, ?_, fun i => ?_⟩
 ·unfold opN
  repeat' split
  all_goals simp
  omega
 ·by_cases hi : i < (opN k nd tt a b n f).length
  ·rw [gI, List.getD_eq_getElem?_getD, List.getElem?_eq_getElem hi]
   exact hall _ (List.getElem_mem hi)
  ·rw [gI, List.getD_eq_getElem?_getD, List.getElem?_eq_none (by omega)]
   show (-1000000 : Int) ≤ 0 ∧ (0 : Int) ≤ 1000000
   omega
theorem LsO.src {w : World} {p : Option Addr} {n c : Nat} {f : Nat → Int} (h : LsO w p n c f) : SrcC w p n (itG f) := by
 rcases h with h | ⟨b, off, e, h | h⟩
 ·exact .inl h.2.1
 ·exact .inl h
 ·exact .inr ⟨b, off, e, h⟩
theorem own_cellX {w : World} {base : Nat} {v : Value} {L : List Int} (h : w.ownsRow base 3 1 v L.length (irow L)) : (v = .slice none 0 0 ∧ L.length = 0) ∨ ∃ g cap, v = .slice (some ⟨g, 0, none⟩) L.length cap ∧ ∀ i, i < L.length → w.cell? ⟨g, i, none⟩ = some (.int .i64 (gI L i)) := by
 rcases h.2 with ⟨rfl, h0⟩ | ⟨g, cap, cur, rfl, _⟩
 ·exact .inl ⟨rfl, h0⟩
 ·refine .inr ⟨g, cap, rfl, fun i hi => ?_⟩
  rw [World.ownsRow.cellAt h i (by omega), irow_mapX, List.getElem?_map, List.getElem?_eq_getElem hi, gI, List.getD_eq_getElem?_getD, List.getElem?_eq_getElem hi]
  rfl
end Go.Proofs.YtddjiamollfplaaDoor
