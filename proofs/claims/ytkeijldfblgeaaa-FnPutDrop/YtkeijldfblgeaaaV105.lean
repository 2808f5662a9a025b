/- Lists of sources that one is put into and dropped from. -/
import Derived.Test.YtkeijldfblgeaaaV104
import Derived.WalkKit
import Derived.WalkSpells
import Derived.WalkLawsBesides
import Derived.Deep.RegionHeld
namespace Go.Proofs.Ytkeijldfblgeaaa
open Go.RowKit
set_option linter.unusedVariables false
abbrev Asc (L : List PT) : Prop := L.Pairwise fun a b => a.1 < b.1
theorem oks_of {M : Nat → PT} : ∀ {n : Nat}, (∀ k, k < n → pOk (M k) = true) → (∀ i j, i < j → j < n → (M i).1 < (M j).1) → oks M n = true
  | 0, _, _ => rfl
  | n + 1, h1, h2 => by
    refine oks_step (oks_of (fun k hk => h1 k (by omega)) (fun i j hij hj => h2 i j hij (by omega))) ?_
    rw [elP, h1 n (by omega)]
    simp only [Bool.true_and, decide_eq_true_eq]
    cases n with
    | zero =>
      have := nodB_t (pOk_t (h1 0 (by omega))).1
      show (-1 : Int) < _
      omega
    | succ k => exact h2 k (k + 1) (by omega) (by omega)
theorem lst_gP (L : List PT) : lst (gP L) L.length = L := by
  apply List.ext_getElem?
  intro i
  rw [lst, List.getElem?_map]
  by_cases h : i < L.length
  · rw [List.getElem?_range h, Option.map_some, gP, List.getD_eq_getElem?_getD, List.getElem?_eq_getElem h]; rfl
  · rw [List.getElem?_eq_none (by simpa using h), List.getElem?_eq_none (by simpa using h)]; rfl
theorem gP_mem {L : List PT} {k : Nat} (h : k < L.length) : gP L k ∈ L := by
  rw [gP, List.getD_eq_getElem?_getD, List.getElem?_eq_getElem h]
  exact List.getElem_mem h
theorem oks_list {L : List PT} (h1 : ∀ p, p ∈ L → pOk p = true) (h2 : Asc L) : oks (gP L) L.length = true := by
  refine oks_of (fun k hk => h1 _ (gP_mem hk)) (fun i j hij hj => ?_)
  have hi : i < L.length := by omega
  have e1 : gP L i = L[i] := by rw [gP, List.getD_eq_getElem?_getD, List.getElem?_eq_getElem hi]; rfl
  have e2 : gP L j = L[j] := by rw [gP, List.getD_eq_getElem?_getD, List.getElem?_eq_getElem hj]; rfl
  rw [e1, e2]
  exact (List.pairwise_iff_getElem.1 h2) i j hi hj hij
theorem oks_mem {L : List PT} (h : oks (gP L) L.length = true) : (∀ p, p ∈ L → pOk p = true) ∧ Asc L := by
  refine ⟨fun p hp => ?_, ?_⟩
  · obtain ⟨i, hi, rfl⟩ := List.getElem_of_mem hp
    have e1 : gP L i = L[i] := by rw [gP, List.getD_eq_getElem?_getD, List.getElem?_eq_getElem hi]; rfl
    rw [← e1]
    exact (elP_t (oks_el h i hi)).1
  · have := (FLP.ofLst h).1
    rw [lst_gP] at this
    exact this
theorem asc_split {x : Int} : ∀ {L : List PT}, Asc L → L = pt1 x L ++ L.filter (fun q => q.1 == x) ++ pt2 x L
  | [], _ => rfl
  | a :: T, h => by
    obtain ⟨ha, hT⟩ := List.pairwise_cons.1 h
    have ih := asc_split (x := x) hT
    rcases Int.lt_trichotomy a.1 x with q | q | q
    · have e1 : pt1 x (a :: T) = a :: pt1 x T := by simp [pt1, q]
      have e2 : (a :: T).filter (fun q => q.1 == x) = T.filter (fun q => q.1 == x) := by
        rw [List.filter_cons, if_neg]
        simp; omega
      have e3 : pt2 x (a :: T) = pt2 x T := by
        rw [pt2, List.filter_cons, if_neg]
        · rfl
        · simp; omega
      rw [e1, e2, e3, List.cons_append, List.cons_append, ← ih]
    · have k1 : pt1 x (a :: T) = [] := List.filter_eq_nil_iff.2 fun b hb => by
        rcases List.mem_cons.1 hb with rfl | hb
        · simp; omega
        · have := ha b hb; simp; omega
      have k2 : T.filter (fun q => q.1 == x) = [] := List.filter_eq_nil_iff.2 fun b hb => by have := ha b hb; simp; omega
      have k3 : pt2 x (a :: T) = T := by
        rw [pt2, List.filter_cons, if_neg (by simp; omega)]
        exact List.filter_eq_self.2 fun b hb => by have := ha b hb; simp; omega
      rw [k1, List.filter_cons, if_pos (by simpa using q), k2, k3]
      rfl
    · have k1 : pt1 x (a :: T) = [] := List.filter_eq_nil_iff.2 fun b hb => by
        rcases List.mem_cons.1 hb with rfl | hb
        · simp; omega
        · have := ha b hb; simp; omega
      have k2 : (a :: T).filter (fun q => q.1 == x) = [] := List.filter_eq_nil_iff.2 fun b hb => by
        rcases List.mem_cons.1 hb with rfl | hb
        · simp; omega
        · have := ha b hb; simp; omega
      have k3 : pt2 x (a :: T) = a :: T := List.filter_eq_self.2 fun b hb => by
        rcases List.mem_cons.1 hb with rfl | hb
        · simp; omega
        · have := ha b hb; simp; omega
      rw [k1, k2, k3]
      rfl
theorem asc_one {x : Int} {L : List PT} (h : Asc L) : (L.filter (fun q => q.1 == x)).length ≤ 1 := by
  have hp : Asc (L.filter (fun q => q.1 == x)) := h.filter _
  have hm : ∀ q, q ∈ L.filter (fun q => q.1 == x) → q.1 = x := fun q hq => by simpa using (List.mem_filter.1 hq).2
  revert hp hm
  generalize L.filter (fun q => q.1 == x) = K
  intro hp hm
  match K, hp, hm with
  | [], _, _ => simp
  | [_], _, _ => simp
  | a :: b :: T, hp, hm =>
    have h1 := hm a (by simp)
    have h2 := hm b (by simp)
    have h3 := (List.pairwise_cons.1 hp).1 b (by simp)
    omega
theorem pin_1 {x : Int} {L : List PT} {p : PT} (hp : p.1 = x) : pt1 x (pinL L p) = pt1 x L := by
  rw [pinL, hp, pt1, List.filter_append, List.filter_append]
  have e1 : (pt1 x L).filter (fun q => decide (q.1 < x)) = pt1 x L := List.filter_eq_self.2 fun b hb => by simpa using (List.mem_filter.1 hb).2
  have e2 : [p].filter (fun q => decide (q.1 < x)) = [] := List.filter_eq_nil_iff.2 fun b hb => by simp at hb; subst hb; simp; omega
  have e3 : (pt2 x L).filter (fun q => decide (q.1 < x)) = [] := List.filter_eq_nil_iff.2 fun b hb => by have := (List.mem_filter.1 hb).2; simp at this ⊢; omega
  rw [e1, e2, e3, List.append_nil, List.append_nil]
theorem pin_2 {x : Int} {L : List PT} {p : PT} (hp : p.1 = x) : pt2 x (pinL L p) = pt2 x L := by
  rw [pinL, hp, pt2, List.filter_append, List.filter_append]
  have e1 : (pt1 x L).filter (fun q => decide (x < q.1)) = [] := List.filter_eq_nil_iff.2 fun b hb => by have := (List.mem_filter.1 hb).2; simp at this ⊢; omega
  have e2 : [p].filter (fun q => decide (x < q.1)) = [] := List.filter_eq_nil_iff.2 fun b hb => by simp at hb; subst hb; simp; omega
  have e3 : (pt2 x L).filter (fun q => decide (x < q.1)) = pt2 x L := List.filter_eq_self.2 fun b hb => by simpa using (List.mem_filter.1 hb).2
  rw [e1, e2, e3]
  rfl
theorem pin_drop {x : Int} {L : List PT} {p : PT} (hp : p.1 = x) : (pinL L p).filter (fun q => q.1 != x) = pt1 x L ++ pt2 x L := by
  rw [pinL, hp, List.filter_append, List.filter_append]
  have e1 : (pt1 x L).filter (fun q => q.1 != x) = pt1 x L := List.filter_eq_self.2 fun b hb => by have := (List.mem_filter.1 hb).2; simp at this ⊢; omega
  have e2 : [p].filter (fun q => q.1 != x) = [] := List.filter_eq_nil_iff.2 fun b hb => by simp at hb; subst hb; simp; omega
  have e3 : (pt2 x L).filter (fun q => q.1 != x) = pt2 x L := List.filter_eq_self.2 fun b hb => by have := (List.mem_filter.1 hb).2; simp at this ⊢; omega
  rw [e1, e2, e3, List.append_nil]
theorem pin_asc {L : List PT} (h : Asc L) (p : PT) : Asc (pinL L p) := by
  rw [pinL]
  refine List.pairwise_append.2 ⟨List.pairwise_append.2 ⟨h.filter _, by simp, fun a ha b hb => ?_⟩, h.filter _, fun a ha b hb => ?_⟩
  · have := (List.mem_filter.1 ha).2
    simp at this hb
    subst hb
    exact this
  · have q := (List.mem_filter.1 hb).2
    rcases List.mem_append.1 ha with ha | ha
    · have := (List.mem_filter.1 ha).2
      simp at this q
      omega
    · simp at ha q
      subst ha
      exact q
theorem pin_len (L : List PT) (p : PT) : (pinL L p).length = (pt1 p.1 L).length + 1 + (pt2 p.1 L).length := by simp [pinL]; omega
theorem pin_ok {L : List PT} {p : PT} (h : ∀ q, q ∈ L → pOk q = true) (hp : pOk p = true) : ∀ q, q ∈ pinL L p → pOk q = true := fun q hq => by
  rcases List.mem_append.1 hq with hq | hq
  · rcases List.mem_append.1 hq with hq | hq
    · exact h q (List.mem_filter.1 hq).1
    · simp at hq; subst hq; exact hp
  · exact h q (List.mem_filter.1 hq).1
def hadB (M : Nat → PT) (x : Int) (k : Nat) : Bool := (lst M k).any fun q => q.1 == x
theorem hadB_succ (M : Nat → PT) (x : Int) (k : Nat) : hadB M x (k + 1) = (hadB M x k || (M k).1 == x) := by rw [hadB, lst_succ, List.any_append]; simp [hadB]
theorem ptP_t {M : Nat → PT} {n : Nat} {x lo hi y : Int} (h : ptP M n x lo hi y = true) : oks M n = true ∧ nodB x = true ∧ okI lo hi = true ∧ okT y = true := by
  unfold ptP at h
  simp only [Bool.and_eq_true] at h
  exact ⟨h.1.1.1, h.1.1.2, h.1.2, h.2⟩
theorem okI56 : okI 5 6 = true := by decide
/- What FnPutDrop says, of lists. -/
theorem put_drop {L one : List PT} {x lo hi y : Int} (h : ptP (gP L) L.length x lo hi y = true) (h1 : one = ptL (gP L) L.length x lo hi y) :
    ptC (gP one) one.length x 5 6 y = 0 ∧ ∀ two, two = ptL (gP one) one.length x 5 6 y → drC (gP two) two.length x = 0 ∧ two.length = one.length ∧ ((drL (gP two) two.length x).length : Int) = (one.length : Int) - 1 ∧ hadB (gP L) x L.length = ((one.length : Int) == (L.length : Int)) ∧ (hadB (gP L) x L.length = false → drL (gP two) two.length x = L) := by
  obtain ⟨q1, q2, q3, q4⟩ := ptP_t h
  obtain ⟨m1, m2⟩ := oks_mem q1
  rw [(ptL_t h).1, lst_gP] at h1
  generalize skB (gP L) x L.length = s at h1
  have hp : pOk (x, lo, hi, y, s) = true := by unfold pOk; rw [q2, q3, q4]; rfl
  have o1 : oks (gP one) one.length = true := by rw [h1]; exact oks_list (pin_ok m1 hp) (pin_asc m2 _)
  have h2 : ptP (gP one) one.length x 5 6 y = true := by unfold ptP; rw [o1, q2, okI56, q4]; rfl
  refine ⟨(ptL_t h2).2, fun two h3 => ?_⟩
  rw [(ptL_t h2).1, lst_gP] at h3
  generalize skB (gP one) x one.length = s2 at h3
  obtain ⟨n1, n2⟩ := oks_mem o1
  have hp2 : pOk (x, 5, 6, y, s2) = true := by unfold pOk; rw [q2, okI56, q4]; rfl
  have o2 : oks (gP two) two.length = true := by rw [h3]; exact oks_list (pin_ok n1 hp2) (pin_asc n2 _)
  have l1 : one.length = (pt1 x L).length + 1 + (pt2 x L).length := by rw [h1, pin_len]
  have f1 : pt1 x one = pt1 x L := by rw [h1]; exact pin_1 rfl
  have f2 : pt2 x one = pt2 x L := by rw [h1]; exact pin_2 rfl
  have l2 : two.length = (pt1 x L).length + 1 + (pt2 x L).length := by rw [h3, pin_len, f1, f2]
  have d1 : drL (gP two) two.length x = pt1 x L ++ pt2 x L := by
    rw [(drL_t o2).1, drN, lst_gP, h3, pin_drop (x := x) rfl, f1, f2]
  have sp := asc_split (x := x) m2
  have on := asc_one (x := x) m2
  have ll : L.length = (pt1 x L).length + (L.filter (fun q => q.1 == x)).length + (pt2 x L).length := by
    have := congrArg List.length sp
    rw [List.length_append, List.length_append] at this
    exact this
  have hh : hadB (gP L) x L.length = decide (0 < (L.filter (fun q => q.1 == x)).length) := by
    rw [hadB, lst_gP]
    cases e : L.any (fun q => q.1 == x)
    · rw [List.any_eq_false] at e
      rw [List.filter_eq_nil_iff.2 e]
      rfl
    · rw [List.any_eq_true] at e
      obtain ⟨q, hq, hx⟩ := e
      have := List.length_pos_of_mem (List.mem_filter (p := fun q : PT => q.1 == x) |>.2 ⟨hq, hx⟩)
      simp [this]
  refine ⟨?_, by omega, ?_, ?_, fun hf => ?_⟩
  · rw [(drL_t o2).2, drA, lst_gP, h3, if_pos]
    rw [List.any_eq_true]
    exact ⟨(x, 5, 6, y, s2), by simp [pinL], by simp⟩
  · rw [d1, List.length_append]; omega
  · rw [hh]
    by_cases e : 0 < (L.filter (fun q => q.1 == x)).length
    · rw [decide_eq_true e]
      exact (beq_iff_eq.2 (by omega)).symm
    · rw [decide_eq_false e]
      exact (beq_eq_false_iff_ne.2 (by omega)).symm
  · rw [d1]
    rw [hh, decide_eq_false_iff_not] at hf
    have e0 : L.filter (fun q => q.1 == x) = [] := List.eq_nil_of_length_eq_zero (by omega)
    rw [e0, List.append_nil] at sp
    exact sp.symm
end Go.Proofs.Ytkeijldfblgeaaa
