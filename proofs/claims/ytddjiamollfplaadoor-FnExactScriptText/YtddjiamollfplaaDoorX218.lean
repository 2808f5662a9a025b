/- The line of an op: its numbers (the specification). -/
import Derived.Test.YtddjiamollfplaaDoorX217
import Derived.Test.YtddjiamollfplaaDoorO191
import Derived.Deep.RegionHeld3
import Derived.WalkKit
import Derived.WalkSpells
import Derived.WalkLawsBesides
import Derived.Deep.RegionHeld
namespace Go.Proofs.YtddjiamollfplaaDoor
open Go.RowKit
set_option linter.unusedVariables false
theorem tdS_size : ∀ (f K : Nat) (o : ByteArray), (tdS f K o).size ≤ o.size + f
  | 0, _, o => by simp [tdS]
  | f + 1, K, o => by
    by_cases h : K = 0
    · subst h; rw [tdS_end]; omega
    · rw [tdS_go h]
      have q := tdS_size f (K / 10) (strOfNums [48 + (K : Int) % 10] ++ o)
      rw [ByteArray.size_append, strOfNums_size] at q
      simp at q
      omega
theorem txI_size (n : Int) : (txI n).size ≤ 21 := by
  have q := tdS_size 20 n.natAbs ⟨#[]⟩
  have e0 : (⟨#[]⟩ : ByteArray).size = 0 := rfl
  have e1 : (⟨#[45]⟩ : ByteArray).size = 1 := rfl
  have e2 : (⟨#[48]⟩ : ByteArray).size = 1 := rfl
  unfold txI dgs
  split
  · omega
  · split
    · rw [ByteArray.size_append]; omega
    · omega
theorem hexO_size (s : ByteArray) : (hexO s).size ≤ 128 := by
  unfold hexO
  split
  · show (0 : Nat) ≤ 128; omega
  · split
    · show (1 : Nat) ≤ 128; omega
    · rw [strOfNums_size, hxL_len]; omega
/- The words of numbers behind a text; the line of an op. -/
def lnL (L : List Int) : Nat → ByteArray → ByteArray
  | 0, o => o
  | i + 1, o => (lnL L i o ++ ⟨#[32]⟩) ++ txI (gI L i)
theorem lnL_size (L : List Int) (o : ByteArray) : ∀ i, (lnL L i o).size ≤ o.size + 22 * i
  | 0 => by simp [lnL]
  | i + 1 => by
    have q := lnL_size L o i
    have t := txI_size (gI L i)
    have e1 : (⟨#[32]⟩ : ByteArray).size = 1 := rfl
    rw [lnL, ByteArray.size_append, ByteArray.size_append]
    omega
def olB (L : List Int) (k : Int) : ByteArray := lnL L L.length (nmK k)
def olO (k nd tt a b : Int) (tx : ByteArray) (n : Nat) (f : Nat → Int) : ByteArray :=
  if opB k nd tt a b tx n f then (if opT k then (olB (opN k nd tt a b n f) k ++ ⟨#[32]⟩) ++ hexO tx else olB (opN k nd tt a b n f) k) else ⟨#[]⟩
set_option maxHeartbeats 1000000 in
theorem specNums_any (k nd tt a b : Int) (tx : ByteArray) (p : Option Addr) (n c : Nat) (f : Nat → Int) (w : World) (hn : n ≤ 64) (hs : LsO w p n c f) :
    Calls Tryd.prog 55 #[.agg #[.int .i64 k, .int .i64 nd, .int .i64 tt, .int .i64 a, .int .i64 b, .string tx, .slice p n c]] w fun e w' => ∃ v, e = .returned (.tuple #[v, .bool (opT k)]) ∧ w'.ownsRow w.heap.size 3 1 v (opN k nd tt a b n f).length (irow (opN k nd tt a b n f)) ∧ Below w.heap.size w w' := by
  by_cases h1 : k = 1
  · subst h1; exact specNums_1 nd tt a b tx p n c f w hn hs
  by_cases h4 : k = 4
  · subst h4; exact specNums_4 nd tt a b tx p n c w
  by_cases h5 : k = 5
  · subst h5; exact specNums_5 nd tt a b tx p n c w
  by_cases h9 : k = 9
  · subst h9; exact specNums_9 nd tt a b tx p n c w
  by_cases h10 : k = 10
  · subst h10; exact specNums_10 nd tt a b tx p n c w
  by_cases h11 : k = 11
  · subst h11; exact specNums_11 nd tt a b tx p n c w
  by_cases h12 : k = 12
  · subst h12; exact specNums_12 nd tt a b tx p n c w
  by_cases h13 : k = 13
  · subst h13; exact specNums_13 nd tt a b tx p n c w
  by_cases h14 : k = 14
  · subst h14; exact specNums_14 nd tt a b tx p n c w
  have e1 : opT k = false := by unfold opT; simp; omega
  have e2 : opN k nd tt a b n f = [nd] := by unfold opN; simp only [h1, h4, h5, h9, h10, h11, h12, h13, h14, if_false]
  rw [e1, e2]
  exact specNums_e k nd tt a b tx p n c w ⟨h1, h4, h5, h9, h10, h11, h12, h13, h14⟩
theorem upB_of {x m : Int} (h : upB x m = true) : 0 ≤ x ∧ x ≤ m := by
  unfold upB at h
  rw [Bool.and_eq_true] at h
  exact ⟨of_decide_eq_true h.1, of_decide_eq_true h.2⟩
theorem ol_facts {k nd tt a b : Int} {tx : ByteArray} {n : Nat} {f : Nat → Int} (h : opB k nd tt a b tx n f = true) :
    n ≤ 8 ∧ tx.size ≤ 64 ∧ (opN k nd tt a b n f).length ≤ 9 ∧ ∀ i, -1000000 ≤ gI (opN k nd tt a b n f) i ∧ gI (opN k nd tt a b n f) i ≤ 1000000 := by
  unfold opB hdB at h
  simp only [Bool.and_eq_true] at h
  obtain ⟨⟨_, ⟨⟨⟨⟨⟨h1, h2⟩, _⟩, h3⟩, h4⟩, h5⟩, h6⟩, h7⟩ := h
  have q1 := upB_of h1
  have q2 := upB_of h2
  have q3 := upB_of h3
  have q4 := upB_of h4
  have q5 := of_decide_eq_true h5
  have q6 := of_decide_eq_true h6
  have q7 := of_decide_eq_true h7
  have b1 : bdN k ≤ 7 := by unfold bdN; split <;> omega
  have b2 : bdT k ≤ 7 := by unfold bdT; split <;> omega
  have b3 : bdA k ≤ 1000000 := by unfold bdA; split <;> (try split) <;> omega
  have b4 : bdB k ≤ 1000000 := by unfold bdB; split <;> (try split) <;> omega
  have b5 : bdX k ≤ 64 := by unfold bdX; split <;> (try split) <;> omega
  have b6 : bdL k ≤ 8 := by unfold bdL; split <;> omega
  have hall : ∀ x ∈ opN k nd tt a b n f, -1000000 ≤ x ∧ x ≤ 1000000 := by
    intro x hx
    unfold opN at hx
    split at hx
    · rcases List.mem_cons.1 hx with rfl | hx
      · omega
      · obtain ⟨i, hi, rfl⟩ := List.mem_map.1 hx
        exact q7 i (List.mem_range.1 hi)
    · repeat' split at hx
      all_goals (simp only [List.mem_cons, List.not_mem_nil, or_false] at hx; omega)
  refine ⟨by omega, by omega, ?_, fun i => ?_⟩
  · unfold opN
    repeat' split
    all_goals simp
    omega
  · by_cases hi : i < (opN k nd tt a b n f).length
    · rw [gI, List.getD_eq_getElem?_getD, List.getElem?_eq_getElem hi]
      exact hall _ (List.getElem_mem hi)
    · rw [gI, List.getD_eq_getElem?_getD, List.getElem?_eq_none (by omega)]
      show (-1000000 : Int) ≤ 0 ∧ (0 : Int) ≤ 1000000
      omega
theorem LsO.src {w : World} {p : Option Addr} {n c : Nat} {f : Nat → Int} (h : LsO w p n c f) : SrcC w p n (itG f) := by
  rcases h with h | ⟨b, off, e, h | h⟩
  · exact .inl h.2.1
  · exact .inl h
  · exact .inr ⟨b, off, e, h⟩
theorem own_cellX {w : World} {base : Nat} {v : Value} {L : List Int} (h : w.ownsRow base 3 1 v L.length (irow L)) : (v = .slice none 0 0 ∧ L.length = 0) ∨ ∃ g cap, v = .slice (some ⟨g, 0, none⟩) L.length cap ∧ ∀ i, i < L.length → w.cell? ⟨g, i, none⟩ = some (.int .i64 (gI L i)) := by
  rcases h.2 with ⟨rfl, h0⟩ | ⟨g, cap, cur, rfl, _⟩
  · exact .inl ⟨rfl, h0⟩
  · refine .inr ⟨g, cap, rfl, fun i hi => ?_⟩
    rw [World.ownsRow.cellAt h i (by omega), irow_mapX, List.getElem?_map, List.getElem?_eq_getElem hi, gI, List.getD_eq_getElem?_getD, List.getElem?_eq_getElem hi]
    rfl
end Go.Proofs.YtddjiamollfplaaDoor
