/- An element of a list of peers is written. -/
import Derived.Test.YtkeijldfblgeaaaV101
import Derived.WalkKit
import Derived.WalkSpells
import Derived.WalkLawsBesides
import Derived.Deep.RegionHeld
namespace Go.Proofs.Ytkeijldfblgeaaa
open Go.RowKit
set_option linter.unusedVariables false
theorem gP_set {L : List PT} {i q : Nat} (hi : i < L.length) (v : PT) : gP (L.set i v) q = if i = q then v else gP L q := by
  rw [gP, List.getD_eq_getElem?_getD, List.getElem?_set, gP, List.getD_eq_getElem?_getD]
  by_cases e : i = q
  · subst e; simp [hi]
  · simp [e]
theorem own_put5 {w : World} {base : Nat} {T : TypeId} {a : Option Addr} {c : Nat} {L : List PT} (h : w.ownsRow base T 5 (.slice a L.length c) L.length (prow L)) {i : Nat} (hi : i < L.length) :
    ∃ g, a = some ⟨g, 0, none⟩ ∧ base ≤ g ∧ g < w.heap.size ∧ (∀ j, j < 5 → (∃ u, w.cell? ⟨g, i * 5 + j, none⟩ = some u) ∧ w.frozen? ⟨g, i * 5 + j, none⟩ = false) ∧
      ∀ (j : Nat) (q : PT) (u : Value), j < 5 → MCPeer q j = u → (∀ t, t < 5 → t ≠ j → MCPeer q t = MCPeer (gP L i) t) → (w.setCell ⟨g, i * 5 + j, none⟩ u).ownsRow base T 5 (.slice a (L.set i q).length c) (L.set i q).length (prow (L.set i q)) := by
  rcases h.2 with ⟨_, h0⟩ | ⟨g, cap, cur, he, hb, hg, hn, hc, hs, ht⟩
  · omega
  simp at he
  obtain ⟨rfl, rfl⟩ := he
  have hr : w.rowIs g T (c * 5) (fun j => cur.getD j undef) := ⟨cur, hg, hs, fun j hj => by rw [Array.getElem?_eq_getElem (by omega)]; exact congrArg some (by show _ = cur.getD j undef; rw [Array.getD_eq_getD_getElem?, Array.getElem?_eq_getElem (by omega)]; rfl)⟩
  have hcell : ∀ t, t < L.length * 5 → cur.getD t undef = MFPeer (gP L) t := fun t h2 => by
    have e : (cur.toList.take (L.length * 5))[t]? = (prow L)[t]? := by rw [ht]
    rw [List.getElem?_take, if_pos h2, prow, List.getElem?_map, List.getElem?_range h2] at e
    have e2 : cur[t]? = some (MFPeer (gP L) t) := by simpa using e
    rw [Array.getD_eq_getD_getElem?, e2]
    rfl
  refine ⟨g, rfl, hb, hr.lt, fun j hj => ⟨⟨_, hr.cell (by omega)⟩, hr.frozen _⟩, fun j q u hj hu hq => ?_⟩
  have hr2 := hr.set (i * 5 + j) u
  obtain ⟨c2, k1, k2, k3⟩ := hr2
  rw [List.length_set]
  refine ⟨by simp [prow], .inr ⟨g, c, c2, rfl, hb, k1, hn, hc, k2, ?_⟩⟩
  apply List.ext_getElem?
  intro t
  by_cases ht5 : t < L.length * 5
  · rw [List.getElem?_take, if_pos ht5, prow, List.length_set, List.getElem?_map, List.getElem?_range ht5]
    have e := k3 t (by omega)
    rw [Array.getElem?_toList, e]
    show some _ = some (MFPeer (gP (L.set i q)) t)
    congr 1
    show (if t = i * 5 + j then u else cur.getD t undef) = MCPeer (gP (L.set i q) (t / 5)) (t % 5)
    rw [gP_set hi]
    by_cases e1 : t = i * 5 + j
    · rw [if_pos e1, if_pos (by omega), show t % 5 = j by omega, hu]
    · rw [if_neg e1, hcell t ht5]
      show MCPeer (gP L (t / 5)) (t % 5) = _
      by_cases e2 : i = t / 5
      · rw [if_pos e2, hq (t % 5) (by omega) (by omega), e2]
      · rw [if_neg e2]
  · rw [List.getElem?_take, if_neg ht5, List.getElem?_eq_none (by simp [prow]; omega)]
theorem Pw.set {w : World} {B p : Nat} {v : Value} {L L' : List PT} {wr : World} {g o : Nat} {u : Value} (h : Pw w B p v L wr) (hg : w.heap.size ≤ g) (O : (wr.setCell ⟨g, o, none⟩ u).ownsRow w.heap.size 51 5 v L'.length (prow L')) : Pw w B p v L' (wr.setCell ⟨g, o, none⟩ u) := by
  obtain ⟨h1, h2, h3, h4⟩ := h
  have hb := (But.refl g wr).setCell o u
  exact ⟨h1.kept hb.grK (fun k hk e => by have := Option.some.inj e; omega), O, ⟨hb.1.trans h3.1, hb.2.1.trans h3.2.1, hb.2.2.1.trans h3.2.2.1, Nat.le_trans h3.2.2.2.1 hb.2.2.2.1, fun k hk hp => (hb.2.2.2.2 k (Nat.lt_of_lt_of_le hk h3.2.2.2.1) (by omega)).trans (h3.2.2.2.2 k hk hp)⟩, h4⟩
end Go.Proofs.Ytkeijldfblgeaaa
