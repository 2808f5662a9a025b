/- A list, a node, an interval and a count are drawn. Lists of sources that one is put into and dropped from. Contracts of the four roundings of chapter 2. Contracts of Nearest and Within. Contracts of MayCount, Between and Clamp. Contracts of OscOk, and the walk of its exact law. A local interval in memory; contracts of LocalOk, and the walk of its exact law. Contracts of CarryOn. -/
import Derived.Test.YtkeijldfblgeaaaGreatMm3
import Derived.Deep.RegionHeld3
import Derived.WalkKit
import Derived.WalkSpells
import Derived.WalkLawsBesides
import Derived.Deep.RegionHeld
import Derived.Test.YtkeijldfblgeaaaGreatMm1
import Derived.Deep.DeepCutAuto
namespace Go.Proofs.YtkeijldfblgeaaaGreat
open Go.RowKit
set_option linter.unusedVariables false
theorem two_but (w : World) (j : Nat) (a b : Value) : But j w ((w.setCell ⟨j, 0, none⟩ a).setCell ⟨j, 1, none⟩ b) := ((But.refl j w).setCell 0 a).setCell 1 b
theorem CodeB.up {w : World} {B B' : Nat} {a : Option Addr} {n : Nat} (h : CodeB w B a n) (hb : B ≤ B') : CodeB w B' a n := by
  rcases h with h | ⟨b, off, h1, h2, h3⟩
  · exact .inl h
  · exact .inr ⟨b, off, h1, by omega, h3⟩
/- The state of the draw: the list beside the cursor, the two boxes. -/
def Ds (w w1 : World) (B p : Nat) (v : Value) (L : List PT) (bn : Nat) (lo hi : Int) (wr : World) : Prop := Pw w1 B p v L wr ∧ Bx2 wr w.heap.size (.int .i64 0) (.int .i64 0) ∧ Bx2 wr bn (.int .i64 lo) (.int .i64 hi) ∧ w.heap.size < p ∧ p < bn ∧ w.heap.size ≤ w1.heap.size ∧ Below w.heap.size w wr
theorem Ds.call {w w1 : World} {B p : Nat} {v : Value} {L : List PT} {bn : Nat} {lo hi : Int} {wr wr' : World} (h : Ds w w1 B p v L bn lo hi wr) (hc : CurOk wr' B p) (hb : But p wr wr') : Ds w w1 B p v L bn lo hi wr' := by
  obtain ⟨h1, h2, h3, h4, h5, h6, h7⟩ := h
  exact ⟨h1.call hc hb, h2.but hb (by omega), h3.but hb (by omega), h4, h5, h6, h7.trans (hb.below (by omega) h7.size)⟩
theorem Ds.drew {w w1 : World} {B p : Nat} {v : Value} {L : List PT} {bn : Nat} {lo hi : Int} {wr : World} (h : Ds w w1 B p v L bn lo hi wr) : Ds w w1 B p v L bn lo hi wr.drew := by
  obtain ⟨⟨a1, a2, a3, a4⟩, h2, h3, h4, h5, h6, h7⟩ := h
  exact ⟨⟨a1, a2, ⟨a3.1, a3.2.1, a3.2.2.1, a3.2.2.2.1, a3.2.2.2.2⟩, a4⟩, h2, h3, h4, h5, h6, Below.drew h7⟩
theorem wrap_nd {u z : Int} (h1 : 0 ≤ u) (h2 : u < 9) (h3 : 0 ≤ z) (h4 : z < 20) : IntKind.i64.wrap (u - IntKind.i64.wrap (Int.tdiv z 19)) = u - Int.tdiv z 19 := by
  rw [Int.tdiv_eq_ediv_of_nonneg h3]
  rw [Go.IntWalk.i64_in (z / 19) ⟨by omega, by omega⟩]
  exact Go.IntWalk.i64_in _ ⟨by omega, by omega⟩
theorem wf_nd {u z : Int} (h1 : 0 ≤ u) (h2 : u < 9) (h3 : 0 ≤ z) (h4 : z < 20) : (Lit.int .i64 (u - Int.tdiv z 19)).wf = true := by
  rw [Int.tdiv_eq_ediv_of_nonneg h3]
  simp only [Lit.wf, Bool.and_eq_true, decide_eq_true_eq]
  exact ⟨by show (-9223372036854775808 : Int) ≤ _; omega, by show _ ≤ (9223372036854775807 : Int); omega⟩
end Go.Proofs.YtkeijldfblgeaaaGreat
namespace Go.Proofs.YtkeijldfblgeaaaGreat
open Go.RowKit
set_option linter.unusedVariables false
abbrev Asc (L : List PT) : Prop := L.Pairwise fun a b => a.1 < b.1
theorem oks_of {M : Nat → PT} : ∀ {n : Nat}, (∀ k, k < n → pOk (M k) = true) → (∀ i j, i < j → j < n → (M i).1 < (M j).1) → oks M n = true
  | 0, _, _ => rfl
  | n + 1, h1, h2 => by
    refine oks_step (oks_of (fun k hk => h1 k (by omega)) (fun i j hij hj => h2 i j hij (by omega))) ?_
    rw [elP, h1 n (by omega)]
    simp only [Bool.true_and, decide_eq_true_eq]
    cases n with
    | zero =>
      have := nodB_t (pOk_t (h1 0 (by omega))).1
      show (-1 : Int) < _
      omega
    | succ k => exact h2 k (k + 1) (by omega) (by omega)
theorem lst_gP (L : List PT) : lst (gP L) L.length = L := by
  apply List.ext_getElem?
  intro i
  rw [lst, List.getElem?_map]
  by_cases h : i < L.length
  · rw [List.getElem?_range h, Option.map_some, gP, List.getD_eq_getElem?_getD, List.getElem?_eq_getElem h]; rfl
  · rw [List.getElem?_eq_none (by simpa using h), List.getElem?_eq_none (by simpa using h)]; rfl
theorem gP_mem {L : List PT} {k : Nat} (h : k < L.length) : gP L k ∈ L := by
  rw [gP, List.getD_eq_getElem?_getD, List.getElem?_eq_getElem h]
  exact List.getElem_mem h
theorem oks_list {L : List PT} (h1 : ∀ p, p ∈ L → pOk p = true) (h2 : Asc L) : oks (gP L) L.length = true := by
  refine oks_of (fun k hk => h1 _ (gP_mem hk)) (fun i j hij hj => ?_)
  have hi : i < L.length := by omega
  have e1 : gP L i = L[i] := by rw [gP, List.getD_eq_getElem?_getD, List.getElem?_eq_getElem hi]; rfl
  have e2 : gP L j = L[j] := by rw [gP, List.getD_eq_getElem?_getD, List.getElem?_eq_getElem hj]; rfl
  rw [e1, e2]
  exact (List.pairwise_iff_getElem.1 h2) i j hi hj hij
theorem oks_mem {L : List PT} (h : oks (gP L) L.length = true) : (∀ p, p ∈ L → pOk p = true) ∧ Asc L := by
  refine ⟨fun p hp => ?_, ?_⟩
  · obtain ⟨i, hi, rfl⟩ := List.getElem_of_mem hp
    have e1 : gP L i = L[i] := by rw [gP, List.getD_eq_getElem?_getD, List.getElem?_eq_getElem hi]; rfl
    rw [← e1]
    exact (elP_t (oks_el h i hi)).1
  · have := (FLP.ofLst h).1
    rw [lst_gP] at this
    exact this
theorem asc_split {x : Int} : ∀ {L : List PT}, Asc L → L = pt1 x L ++ L.filter (fun q => q.1 == x) ++ pt2 x L
  | [], _ => rfl
  | a :: T, h => by
    obtain ⟨ha, hT⟩ := List.pairwise_cons.1 h
    have ih := asc_split (x := x) hT
    rcases Int.lt_trichotomy a.1 x with q | q | q
    · have e1 : pt1 x (a :: T) = a :: pt1 x T := by simp [pt1, q]
      have e2 : (a :: T).filter (fun q => q.1 == x) = T.filter (fun q => q.1 == x) := by
        rw [List.filter_cons, if_neg]
        simp; omega
      have e3 : pt2 x (a :: T) = pt2 x T := by
        rw [pt2, List.filter_cons, if_neg]
        · rfl
        · simp; omega
      rw [e1, e2, e3, List.cons_append, List.cons_append, ← ih]
    · have k1 : pt1 x (a :: T) = [] := List.filter_eq_nil_iff.2 fun b hb => by
        rcases List.mem_cons.1 hb with rfl | hb
        · simp; omega
        · have := ha b hb; simp; omega
      have k2 : T.filter (fun q => q.1 == x) = [] := List.filter_eq_nil_iff.2 fun b hb => by have := ha b hb; simp; omega
      have k3 : pt2 x (a :: T) = T := by
        rw [pt2, List.filter_cons, if_neg (by simp; omega)]
        exact List.filter_eq_self.2 fun b hb => by have := ha b hb; simp; omega
      rw [k1, List.filter_cons, if_pos (by simpa using q), k2, k3]
      rfl
    · have k1 : pt1 x (a :: T) = [] := List.filter_eq_nil_iff.2 fun b hb => by
        rcases List.mem_cons.1 hb with rfl | hb
        · simp; omega
        · have := ha b hb; simp; omega
      have k2 : (a :: T).filter (fun q => q.1 == x) = [] := List.filter_eq_nil_iff.2 fun b hb => by
        rcases List.mem_cons.1 hb with rfl | hb
        · simp; omega
        · have := ha b hb; simp; omega
      have k3 : pt2 x (a :: T) = a :: T := List.filter_eq_self.2 fun b hb => by
        rcases List.mem_cons.1 hb with rfl | hb
        · simp; omega
        · have := ha b hb; simp; omega
      rw [k1, k2, k3]
      rfl
theorem asc_one {x : Int} {L : List PT} (h : Asc L) : (L.filter (fun q => q.1 == x)).length ≤ 1 := by
  have hp : Asc (L.filter (fun q => q.1 == x)) := h.filter _
  have hm : ∀ q, q ∈ L.filter (fun q => q.1 == x) → q.1 = x := fun q hq => by simpa using (List.mem_filter.1 hq).2
  revert hp hm
  generalize L.filter (fun q => q.1 == x) = K
  intro hp hm
  match K, hp, hm with
  | [], _, _ => simp
  | [_], _, _ => simp
  | a :: b :: T, hp, hm =>
    have h1 := hm a (by simp)
    have h2 := hm b (by simp)
    have h3 := (List.pairwise_cons.1 hp).1 b (by simp)
    omega
theorem pin_1 {x : Int} {L : List PT} {p : PT} (hp : p.1 = x) : pt1 x (pinL L p) = pt1 x L := by
  rw [pinL, hp, pt1, List.filter_append, List.filter_append]
  have e1 : (pt1 x L).filter (fun q => decide (q.1 < x)) = pt1 x L := List.filter_eq_self.2 fun b hb => by simpa using (List.mem_filter.1 hb).2
  have e2 : [p].filter (fun q => decide (q.1 < x)) = [] := List.filter_eq_nil_iff.2 fun b hb => by simp at hb; subst hb; simp; omega
  have e3 : (pt2 x L).filter (fun q => decide (q.1 < x)) = [] := List.filter_eq_nil_iff.2 fun b hb => by have := (List.mem_filter.1 hb).2; simp at this ⊢; omega
  rw [e1, e2, e3, List.append_nil, List.append_nil]
theorem pin_2 {x : Int} {L : List PT} {p : PT} (hp : p.1 = x) : pt2 x (pinL L p) = pt2 x L := by
  rw [pinL, hp, pt2, List.filter_append, List.filter_append]
  have e1 : (pt1 x L).filter (fun q => decide (x < q.1)) = [] := List.filter_eq_nil_iff.2 fun b hb => by have := (List.mem_filter.1 hb).2; simp at this ⊢; omega
  have e2 : [p].filter (fun q => decide (x < q.1)) = [] := List.filter_eq_nil_iff.2 fun b hb => by simp at hb; subst hb; simp; omega
  have e3 : (pt2 x L).filter (fun q => decide (x < q.1)) = pt2 x L := List.filter_eq_self.2 fun b hb => by simpa using (List.mem_filter.1 hb).2
  rw [e1, e2, e3]
  rfl
theorem pin_drop {x : Int} {L : List PT} {p : PT} (hp : p.1 = x) : (pinL L p).filter (fun q => q.1 != x) = pt1 x L ++ pt2 x L := by
  rw [pinL, hp, List.filter_append, List.filter_append]
  have e1 : (pt1 x L).filter (fun q => q.1 != x) = pt1 x L := List.filter_eq_self.2 fun b hb => by have := (List.mem_filter.1 hb).2; simp at this ⊢; omega
  have e2 : [p].filter (fun q => q.1 != x) = [] := List.filter_eq_nil_iff.2 fun b hb => by simp at hb; subst hb; simp; omega
  have e3 : (pt2 x L).filter (fun q => q.1 != x) = pt2 x L := List.filter_eq_self.2 fun b hb => by have := (List.mem_filter.1 hb).2; simp at this ⊢; omega
  rw [e1, e2, e3, List.append_nil]
theorem pin_asc {L : List PT} (h : Asc L) (p : PT) : Asc (pinL L p) := by
  rw [pinL]
  refine List.pairwise_append.2 ⟨List.pairwise_append.2 ⟨h.filter _, by simp, fun a ha b hb => ?_⟩, h.filter _, fun a ha b hb => ?_⟩
  · have := (List.mem_filter.1 ha).2
    simp at this hb
    subst hb
    exact this
  · have q := (List.mem_filter.1 hb).2
    rcases List.mem_append.1 ha with ha | ha
    · have := (List.mem_filter.1 ha).2
      simp at this q
      omega
    · simp at ha q
      subst ha
      exact q
theorem pin_len (L : List PT) (p : PT) : (pinL L p).length = (pt1 p.1 L).length + 1 + (pt2 p.1 L).length := by simp [pinL]; omega
theorem pin_ok {L : List PT} {p : PT} (h : ∀ q, q ∈ L → pOk q = true) (hp : pOk p = true) : ∀ q, q ∈ pinL L p → pOk q = true := fun q hq => by
  rcases List.mem_append.1 hq with hq | hq
  · rcases List.mem_append.1 hq with hq | hq
    · exact h q (List.mem_filter.1 hq).1
    · simp at hq; subst hq; exact hp
  · exact h q (List.mem_filter.1 hq).1
def hadB (M : Nat → PT) (x : Int) (k : Nat) : Bool := (lst M k).any fun q => q.1 == x
theorem hadB_succ (M : Nat → PT) (x : Int) (k : Nat) : hadB M x (k + 1) = (hadB M x k || (M k).1 == x) := by rw [hadB, lst_succ, List.any_append]; simp [hadB]
theorem ptP_t {M : Nat → PT} {n : Nat} {x lo hi y : Int} (h : ptP M n x lo hi y = true) : oks M n = true ∧ nodB x = true ∧ okI lo hi = true ∧ okT y = true := by
  unfold ptP at h
  simp only [Bool.and_eq_true] at h
  exact ⟨h.1.1.1, h.1.1.2, h.1.2, h.2⟩
theorem okI56 : okI 5 6 = true := by decide
/- What FnPutDrop says, of lists. -/
theorem put_drop {L one : List PT} {x lo hi y : Int} (h : ptP (gP L) L.length x lo hi y = true) (h1 : one = ptL (gP L) L.length x lo hi y) :
    ptC (gP one) one.length x 5 6 y = 0 ∧ ∀ two, two = ptL (gP one) one.length x 5 6 y → drC (gP two) two.length x = 0 ∧ two.length = one.length ∧ ((drL (gP two) two.length x).length : Int) = (one.length : Int) - 1 ∧ hadB (gP L) x L.length = ((one.length : Int) == (L.length : Int)) ∧ (hadB (gP L) x L.length = false → drL (gP two) two.length x = L) := by
  obtain ⟨q1, q2, q3, q4⟩ := ptP_t h
  obtain ⟨m1, m2⟩ := oks_mem q1
  rw [(ptL_t h).1, lst_gP] at h1
  generalize skB (gP L) x L.length = s at h1
  have hp : pOk (x, lo, hi, y, s) = true := by unfold pOk; rw [q2, q3, q4]; rfl
  have o1 : oks (gP one) one.length = true := by rw [h1]; exact oks_list (pin_ok m1 hp) (pin_asc m2 _)
  have h2 : ptP (gP one) one.length x 5 6 y = true := by unfold ptP; rw [o1, q2, okI56, q4]; rfl
  refine ⟨(ptL_t h2).2, fun two h3 => ?_⟩
  rw [(ptL_t h2).1, lst_gP] at h3
  generalize skB (gP one) x one.length = s2 at h3
  obtain ⟨n1, n2⟩ := oks_mem o1
  have hp2 : pOk (x, 5, 6, y, s2) = true := by unfold pOk; rw [q2, okI56, q4]; rfl
  have o2 : oks (gP two) two.length = true := by rw [h3]; exact oks_list (pin_ok n1 hp2) (pin_asc n2 _)
  have l1 : one.length = (pt1 x L).length + 1 + (pt2 x L).length := by rw [h1, pin_len]
  have f1 : pt1 x one = pt1 x L := by rw [h1]; exact pin_1 rfl
  have f2 : pt2 x one = pt2 x L := by rw [h1]; exact pin_2 rfl
  have l2 : two.length = (pt1 x L).length + 1 + (pt2 x L).length := by rw [h3, pin_len, f1, f2]
  have d1 : drL (gP two) two.length x = pt1 x L ++ pt2 x L := by
    rw [(drL_t o2).1, drN, lst_gP, h3, pin_drop (x := x) rfl, f1, f2]
  have sp := asc_split (x := x) m2
  have on := asc_one (x := x) m2
  have ll : L.length = (pt1 x L).length + (L.filter (fun q => q.1 == x)).length + (pt2 x L).length := by
    have := congrArg List.length sp
    rw [List.length_append, List.length_append] at this
    exact this
  have hh : hadB (gP L) x L.length = decide (0 < (L.filter (fun q => q.1 == x)).length) := by
    rw [hadB, lst_gP]
    cases e : L.any (fun q => q.1 == x)
    · rw [List.any_eq_false] at e
      rw [List.filter_eq_nil_iff.2 e]
      rfl
    · rw [List.any_eq_true] at e
      obtain ⟨q, hq, hx⟩ := e
      have := List.length_pos_of_mem (List.mem_filter (p := fun q : PT => q.1 == x) |>.2 ⟨hq, hx⟩)
      simp [this]
  refine ⟨?_, by omega, ?_, ?_, fun hf => ?_⟩
  · rw [(drL_t o2).2, drA, lst_gP, h3, if_pos]
    rw [List.any_eq_true]
    exact ⟨(x, 5, 6, y, s2), by simp [pinL], by simp⟩
  · rw [d1, List.length_append]; omega
  · rw [hh]
    by_cases e : 0 < (L.filter (fun q => q.1 == x)).length
    · rw [decide_eq_true e]
      exact (beq_iff_eq.2 (by omega)).symm
    · rw [decide_eq_false e]
      exact (beq_eq_false_iff_ne.2 (by omega)).symm
  · rw [d1]
    rw [hh, decide_eq_false_iff_not] at hf
    have e0 : L.filter (fun q => q.1 == x) = [] := List.eq_nil_of_length_eq_zero (by omega)
    rw [e0, List.append_nil] at sp
    exact sp.symm
end Go.Proofs.YtkeijldfblgeaaaGreat
namespace Go.Proofs.YtkeijldfblgeaaaGreat
open Go.RowKit
set_option linter.unusedVariables false
def rB (n d x r : Int) : Bool := okD n d && okT x && okT r
theorem rB_d {n d x r : Int} (h : okD n d = false) : rB n d x r = false := by simp [rB, h]
theorem rB_t {n d x r : Int} (h : okT x = false) : rB n d x r = false := by simp [rB, h]
theorem rB_r {n d x r : Int} (h : okD n d = true) (h' : okT x = true) : rB n d x r = okT r := by simp [rB, h, h']
set_option maxHeartbeats 1000000 in
theorem turned_f (n d x tuu fr : Int) (fv : Value) (w : World) (h : (okD n d && okT x) = false) :
    Calls Tryz.prog 105 #[.agg #[.int .i64 n, .int .i64 d], .int .i64 x, .int .i64 tuu, .int .i64 fr, fv] w fun e w' => e = .returned (.tuple #[.int .i64 0, .bool false]) ∧ Below w.heap.size w w' := by
  cases ho : okD n d
  · go_enter Tryz.func105, Tryz.ntmps105
    go_wp2_with (first | (go_at_call 99; refine (okd_any _ _ _).mono ?_; rintro e w' ⟨rfl, hb⟩; obtain ⟨hc, hf⟩ := bcell hb; (first | have hB := Below.trans (Below.trans hB (by repeat (first | exact Below.refl _ _ | refine Below.drew ?_ | refine Below.alloc ?_ (by first | (simp; done) | (simp; omega) | omega) _ | refine Below.setCell ?_ (by first | (simp; done) | (simp; omega) | omega) _ | refine Below.trans ?_ (Below.mono (by assumption) (by first | (simp; done) | (simp; omega) | omega))))) (Below.mono hb (by first | (simp; done) | (simp; omega) | omega)) | have hB := hb); obtain ⟨hC, hF⟩ := bcell hB; have hz := hb.size; (try simp at hz); (try (have hz0 : w.heap.size < w'.heap.size := by omega)); (try (have hz1 : w.heap.size + 1 < w'.heap.size := by omega)); (try (have hz2 : w.heap.size + 1 + 1 < w'.heap.size := by omega)); (try (have hz3 : w.heap.size + 1 + 1 + 1 < w'.heap.size := by omega))) | (go_at_call 52; refine (isTime_any _ _).mono ?_; rintro e w' ⟨rfl, rfl⟩))
    go_ret2
    exact ⟨rfl, by repeat (first | exact Below.refl _ _ | refine Below.drew ?_ | refine Below.alloc ?_ (by first | (simp; done) | (simp; omega) | omega) _ | refine Below.setCell ?_ (by first | (simp; done) | (simp; omega) | omega) _ | refine Below.trans ?_ (Below.mono (by assumption) (by first | (simp; done) | (simp; omega) | omega)))⟩
  · have ht : okT x = false := by simpa [ho] using h
    go_enter Tryz.func105, Tryz.ntmps105
    go_wp2_with (first | (go_at_call 99; refine (okd_any _ _ _).mono ?_; rintro e w' ⟨rfl, hb⟩; obtain ⟨hc, hf⟩ := bcell hb; (first | have hB := Below.trans (Below.trans hB (by repeat (first | exact Below.refl _ _ | refine Below.drew ?_ | refine Below.alloc ?_ (by first | (simp; done) | (simp; omega) | omega) _ | refine Below.setCell ?_ (by first | (simp; done) | (simp; omega) | omega) _ | refine Below.trans ?_ (Below.mono (by assumption) (by first | (simp; done) | (simp; omega) | omega))))) (Below.mono hb (by first | (simp; done) | (simp; omega) | omega)) | have hB := hb); obtain ⟨hC, hF⟩ := bcell hB; have hz := hb.size; (try simp at hz); (try (have hz0 : w.heap.size < w'.heap.size := by omega)); (try (have hz1 : w.heap.size + 1 < w'.heap.size := by omega)); (try (have hz2 : w.heap.size + 1 + 1 < w'.heap.size := by omega)); (try (have hz3 : w.heap.size + 1 + 1 + 1 < w'.heap.size := by omega))) | (go_at_call 52; refine (isTime_any _ _).mono ?_; rintro e w' ⟨rfl, rfl⟩))
    go_ret2
    exact ⟨rfl, by repeat (first | exact Below.refl _ _ | refine Below.drew ?_ | refine Below.alloc ?_ (by first | (simp; done) | (simp; omega) | omega) _ | refine Below.setCell ?_ (by first | (simp; done) | (simp; omega) | omega) _ | refine Below.trans ?_ (Below.mono (by assumption) (by first | (simp; done) | (simp; omega) | omega)))⟩
set_option maxHeartbeats 1000000 in
theorem turned_up (n d x tuu fr : Int) (w : World) (ho : okD n d = true) (ht : okT x = true) (h1 : 0 ≤ x * tuu) (h2 : x * tuu ≤ 4000000000000000000) (h3 : 0 < fr) (h4 : fr ≤ 4000000000000000000) :
    Calls Tryz.prog 105 #[.agg #[.int .i64 n, .int .i64 d], .int .i64 x, .int .i64 tuu, .int .i64 fr, .func (.func 107) #[] #[]] w fun e w' => e = .returned (.tuple #[.int .i64 (sel (okT (upI (x * tuu) fr)) (upI (x * tuu) fr)), .bool (okT (upI (x * tuu) fr))]) ∧ Below w.heap.size w w' := by
  cases hr : okT (upI (x * tuu) fr)
  · rw [sel_f rfl]
    go_enter Tryz.func105, Tryz.ntmps105
    go_wp2_with (first | (go_at_call 99; refine (okd_any _ _ _).mono ?_; rintro e w' ⟨rfl, hb⟩; obtain ⟨hc, hf⟩ := bcell hb; (first | have hB := Below.trans (Below.trans hB (by repeat (first | exact Below.refl _ _ | refine Below.drew ?_ | refine Below.alloc ?_ (by first | (simp; done) | (simp; omega) | omega) _ | refine Below.setCell ?_ (by first | (simp; done) | (simp; omega) | omega) _ | refine Below.trans ?_ (Below.mono (by assumption) (by first | (simp; done) | (simp; omega) | omega))))) (Below.mono hb (by first | (simp; done) | (simp; omega) | omega)) | have hB := hb); obtain ⟨hC, hF⟩ := bcell hB; have hz := hb.size; (try simp at hz); (try (have hz0 : w.heap.size < w'.heap.size := by omega)); (try (have hz1 : w.heap.size + 1 < w'.heap.size := by omega)); (try (have hz2 : w.heap.size + 1 + 1 < w'.heap.size := by omega)); (try (have hz3 : w.heap.size + 1 + 1 + 1 < w'.heap.size := by omega))) | (go_at_call 52; refine (isTime_any _ _).mono ?_; rintro e w' ⟨rfl, rfl⟩) | (go_at_call 107; refine (implUp_any _ _ _ (by omega) (by omega) (by omega) (by omega)).mono ?_; rintro e w' ⟨rfl, rfl⟩))
    go_ret2
    exact ⟨rfl, by repeat (first | exact Below.refl _ _ | refine Below.drew ?_ | refine Below.alloc ?_ (by first | (simp; done) | (simp; omega) | omega) _ | refine Below.setCell ?_ (by first | (simp; done) | (simp; omega) | omega) _ | refine Below.trans ?_ (Below.mono (by assumption) (by first | (simp; done) | (simp; omega) | omega)))⟩
  · rw [sel_t rfl]
    go_enter Tryz.func105, Tryz.ntmps105
    go_wp2_with (first | (go_at_call 99; refine (okd_any _ _ _).mono ?_; rintro e w' ⟨rfl, hb⟩; obtain ⟨hc, hf⟩ := bcell hb; (first | have hB := Below.trans (Below.trans hB (by repeat (first | exact Below.refl _ _ | refine Below.drew ?_ | refine Below.alloc ?_ (by first | (simp; done) | (simp; omega) | omega) _ | refine Below.setCell ?_ (by first | (simp; done) | (simp; omega) | omega) _ | refine Below.trans ?_ (Below.mono (by assumption) (by first | (simp; done) | (simp; omega) | omega))))) (Below.mono hb (by first | (simp; done) | (simp; omega) | omega)) | have hB := hb); obtain ⟨hC, hF⟩ := bcell hB; have hz := hb.size; (try simp at hz); (try (have hz0 : w.heap.size < w'.heap.size := by omega)); (try (have hz1 : w.heap.size + 1 < w'.heap.size := by omega)); (try (have hz2 : w.heap.size + 1 + 1 < w'.heap.size := by omega)); (try (have hz3 : w.heap.size + 1 + 1 + 1 < w'.heap.size := by omega))) | (go_at_call 52; refine (isTime_any _ _).mono ?_; rintro e w' ⟨rfl, rfl⟩) | (go_at_call 107; refine (implUp_any _ _ _ (by omega) (by omega) (by omega) (by omega)).mono ?_; rintro e w' ⟨rfl, rfl⟩))
    go_ret2
    exact ⟨rfl, by repeat (first | exact Below.refl _ _ | refine Below.drew ?_ | refine Below.alloc ?_ (by first | (simp; done) | (simp; omega) | omega) _ | refine Below.setCell ?_ (by first | (simp; done) | (simp; omega) | omega) _ | refine Below.trans ?_ (Below.mono (by assumption) (by first | (simp; done) | (simp; omega) | omega)))⟩
set_option maxHeartbeats 1000000 in
theorem turned_dn (n d x tuu fr : Int) (w : World) (ho : okD n d = true) (ht : okT x = true) (h1 : 0 ≤ x * tuu) (h2 : x * tuu ≤ 4000000000000000000) (h3 : 0 < fr) (h4 : fr ≤ 4000000000000000000) :
    Calls Tryz.prog 105 #[.agg #[.int .i64 n, .int .i64 d], .int .i64 x, .int .i64 tuu, .int .i64 fr, .func (.func 109) #[] #[]] w fun e w' => e = .returned (.tuple #[.int .i64 (sel (okT (dnI (x * tuu) fr)) (dnI (x * tuu) fr)), .bool (okT (dnI (x * tuu) fr))]) ∧ Below w.heap.size w w' := by
  cases hr : okT (dnI (x * tuu) fr)
  · rw [sel_f rfl]
    go_enter Tryz.func105, Tryz.ntmps105
    go_wp2_with (first | (go_at_call 99; refine (okd_any _ _ _).mono ?_; rintro e w' ⟨rfl, hb⟩; obtain ⟨hc, hf⟩ := bcell hb; (first | have hB := Below.trans (Below.trans hB (by repeat (first | exact Below.refl _ _ | refine Below.drew ?_ | refine Below.alloc ?_ (by first | (simp; done) | (simp; omega) | omega) _ | refine Below.setCell ?_ (by first | (simp; done) | (simp; omega) | omega) _ | refine Below.trans ?_ (Below.mono (by assumption) (by first | (simp; done) | (simp; omega) | omega))))) (Below.mono hb (by first | (simp; done) | (simp; omega) | omega)) | have hB := hb); obtain ⟨hC, hF⟩ := bcell hB; have hz := hb.size; (try simp at hz); (try (have hz0 : w.heap.size < w'.heap.size := by omega)); (try (have hz1 : w.heap.size + 1 < w'.heap.size := by omega)); (try (have hz2 : w.heap.size + 1 + 1 < w'.heap.size := by omega)); (try (have hz3 : w.heap.size + 1 + 1 + 1 < w'.heap.size := by omega))) | (go_at_call 52; refine (isTime_any _ _).mono ?_; rintro e w' ⟨rfl, rfl⟩) | (go_at_call 109; refine (implDown_any _ _ _ (by omega) (by omega) (by omega) (by omega)).mono ?_; rintro e w' ⟨rfl, rfl⟩))
    go_ret2
    exact ⟨rfl, by repeat (first | exact Below.refl _ _ | refine Below.drew ?_ | refine Below.alloc ?_ (by first | (simp; done) | (simp; omega) | omega) _ | refine Below.setCell ?_ (by first | (simp; done) | (simp; omega) | omega) _ | refine Below.trans ?_ (Below.mono (by assumption) (by first | (simp; done) | (simp; omega) | omega)))⟩
  · rw [sel_t rfl]
    go_enter Tryz.func105, Tryz.ntmps105
    go_wp2_with (first | (go_at_call 99; refine (okd_any _ _ _).mono ?_; rintro e w' ⟨rfl, hb⟩; obtain ⟨hc, hf⟩ := bcell hb; (first | have hB := Below.trans (Below.trans hB (by repeat (first | exact Below.refl _ _ | refine Below.drew ?_ | refine Below.alloc ?_ (by first | (simp; done) | (simp; omega) | omega) _ | refine Below.setCell ?_ (by first | (simp; done) | (simp; omega) | omega) _ | refine Below.trans ?_ (Below.mono (by assumption) (by first | (simp; done) | (simp; omega) | omega))))) (Below.mono hb (by first | (simp; done) | (simp; omega) | omega)) | have hB := hb); obtain ⟨hC, hF⟩ := bcell hB; have hz := hb.size; (try simp at hz); (try (have hz0 : w.heap.size < w'.heap.size := by omega)); (try (have hz1 : w.heap.size + 1 < w'.heap.size := by omega)); (try (have hz2 : w.heap.size + 1 + 1 < w'.heap.size := by omega)); (try (have hz3 : w.heap.size + 1 + 1 + 1 < w'.heap.size := by omega))) | (go_at_call 52; refine (isTime_any _ _).mono ?_; rintro e w' ⟨rfl, rfl⟩) | (go_at_call 109; refine (implDown_any _ _ _ (by omega) (by omega) (by omega) (by omega)).mono ?_; rintro e w' ⟨rfl, rfl⟩))
    go_ret2
    exact ⟨rfl, by repeat (first | exact Below.refl _ _ | refine Below.drew ?_ | refine Below.alloc ?_ (by first | (simp; done) | (simp; omega) | omega) _ | refine Below.setCell ?_ (by first | (simp; done) | (simp; omega) | omega) _ | refine Below.trans ?_ (Below.mono (by assumption) (by first | (simp; done) | (simp; omega) | omega)))⟩
set_option maxHeartbeats 1000000 in
theorem specLeastTime_any (n d x : Int) (w : World) :
    Calls Tryz.prog 59 #[.agg #[.int .i64 n, .int .i64 d], .int .i64 x] w fun e w' => e = .returned (.tuple #[.int .i64 (sel (rB n d x (upI (x * d) (d + n))) (upI (x * d) (d + n))), .bool (rB n d x (upI (x * d) (d + n)))]) ∧ Below w.heap.size w w' := by
  cases ho : okD n d
  · rw [rB_d ho, sel_f rfl]
    go_enter Tryz.func59, Tryz.ntmps59
    go_wp2_with (first | (go_at_call 34; refine (specDriftOk_any _ _ _).mono ?_; rintro e w' ⟨rfl, hb⟩; obtain ⟨hc, hf⟩ := bcell hb; (first | have hB := Below.trans (Below.trans hB (by repeat (first | exact Below.refl _ _ | refine Below.drew ?_ | refine Below.alloc ?_ (by first | (simp; done) | (simp; omega) | omega) _ | refine Below.setCell ?_ (by first | (simp; done) | (simp; omega) | omega) _ | refine Below.trans ?_ (Below.mono (by assumption) (by first | (simp; done) | (simp; omega) | omega))))) (Below.mono hb (by first | (simp; done) | (simp; omega) | omega)) | have hB := hb); obtain ⟨hC, hF⟩ := bcell hB; have hz := hb.size; (try simp at hz); (try (have hz0 : w.heap.size < w'.heap.size := by omega)); (try (have hz1 : w.heap.size + 1 < w'.heap.size := by omega)); (try (have hz2 : w.heap.size + 1 + 1 < w'.heap.size := by omega)); (try (have hz3 : w.heap.size + 1 + 1 + 1 < w'.heap.size := by omega))) | (go_at_call 25; refine (l2Time_any _ _).mono ?_; rintro e w' ⟨rfl, rfl⟩))
    go_ret2
    exact ⟨rfl, by repeat (first | exact Below.refl _ _ | refine Below.drew ?_ | refine Below.alloc ?_ (by first | (simp; done) | (simp; omega) | omega) _ | refine Below.setCell ?_ (by first | (simp; done) | (simp; omega) | omega) _ | refine Below.trans ?_ (Below.mono (by assumption) (by first | (simp; done) | (simp; omega) | omega)))⟩
  cases ht : okT x
  · rw [rB_t ht, sel_f rfl]
    go_enter Tryz.func59, Tryz.ntmps59
    go_wp2_with (first | (go_at_call 34; refine (specDriftOk_any _ _ _).mono ?_; rintro e w' ⟨rfl, hb⟩; obtain ⟨hc, hf⟩ := bcell hb; (first | have hB := Below.trans (Below.trans hB (by repeat (first | exact Below.refl _ _ | refine Below.drew ?_ | refine Below.alloc ?_ (by first | (simp; done) | (simp; omega) | omega) _ | refine Below.setCell ?_ (by first | (simp; done) | (simp; omega) | omega) _ | refine Below.trans ?_ (Below.mono (by assumption) (by first | (simp; done) | (simp; omega) | omega))))) (Below.mono hb (by first | (simp; done) | (simp; omega) | omega)) | have hB := hb); obtain ⟨hC, hF⟩ := bcell hB; have hz := hb.size; (try simp at hz); (try (have hz0 : w.heap.size < w'.heap.size := by omega)); (try (have hz1 : w.heap.size + 1 < w'.heap.size := by omega)); (try (have hz2 : w.heap.size + 1 + 1 < w'.heap.size := by omega)); (try (have hz3 : w.heap.size + 1 + 1 + 1 < w'.heap.size := by omega))) | (go_at_call 25; refine (l2Time_any _ _).mono ?_; rintro e w' ⟨rfl, rfl⟩))
    go_ret2
    exact ⟨rfl, by repeat (first | exact Below.refl _ _ | refine Below.drew ?_ | refine Below.alloc ?_ (by first | (simp; done) | (simp; omega) | omega) _ | refine Below.setCell ?_ (by first | (simp; done) | (simp; omega) | omega) _ | refine Below.trans ?_ (Below.mono (by assumption) (by first | (simp; done) | (simp; omega) | omega)))⟩
  rw [rB_r ho ht]
  have ⟨d1, d2, d3, d4⟩ := okD_t ho
  have ⟨t1, t2⟩ := okT_t ht
  have ⟨m1, m2⟩ := mul_bd (x := x) (y := d) (X := 1000000000000) (Y := 2000000) (by omega) (by omega) (by omega) (by omega)
  have ⟨v1, v2⟩ := upI_bd (x := x * d) (n := d + n) m1 (by omega)
  go_enter Tryz.func59, Tryz.ntmps59
  go_wp2_with (first | (go_at_call 34; refine (specDriftOk_any _ _ _).mono ?_; rintro e w' ⟨rfl, hb⟩; obtain ⟨hc, hf⟩ := bcell hb; (first | have hB := Below.trans (Below.trans hB (by repeat (first | exact Below.refl _ _ | refine Below.drew ?_ | refine Below.alloc ?_ (by first | (simp; done) | (simp; omega) | omega) _ | refine Below.setCell ?_ (by first | (simp; done) | (simp; omega) | omega) _ | refine Below.trans ?_ (Below.mono (by assumption) (by first | (simp; done) | (simp; omega) | omega))))) (Below.mono hb (by first | (simp; done) | (simp; omega) | omega)) | have hB := hb); obtain ⟨hC, hF⟩ := bcell hB; have hz := hb.size; (try simp at hz); (try (have hz0 : w.heap.size < w'.heap.size := by omega)); (try (have hz1 : w.heap.size + 1 < w'.heap.size := by omega)); (try (have hz2 : w.heap.size + 1 + 1 < w'.heap.size := by omega)); (try (have hz3 : w.heap.size + 1 + 1 + 1 < w'.heap.size := by omega))) | (go_at_call 25; refine (l2Time_any _ _).mono ?_; rintro e w' ⟨rfl, rfl⟩) | (go_at_call 76; refine (l1Up_any _ _ _ (by omega) (by omega) (by omega) (by omega)).mono ?_; rintro e w' ⟨rfl, rfl⟩) | (go_at_call 75; refine (l2Told_any _ _ (by first | assumption | (simp only [← dnI]; assumption) | omega)).mono ?_; rintro e w' ⟨rfl, rfl⟩))
  go_ret2
  exact ⟨rfl, by repeat (first | exact Below.refl _ _ | refine Below.drew ?_ | refine Below.alloc ?_ (by first | (simp; done) | (simp; omega) | omega) _ | refine Below.setCell ?_ (by first | (simp; done) | (simp; omega) | omega) _ | refine Below.trans ?_ (Below.mono (by assumption) (by first | (simp; done) | (simp; omega) | omega)))⟩
set_option maxHeartbeats 2000000 in
theorem implLeastTime_any (n d x : Int) (w : World) :
    Calls Tryz.prog 101 #[.agg #[.int .i64 n, .int .i64 d], .int .i64 x] w fun e w' => e = .returned (.tuple #[.int .i64 (sel (rB n d x (upI (x * d) (d + n))) (upI (x * d) (d + n))), .bool (rB n d x (upI (x * d) (d + n)))]) ∧ Below w.heap.size w w' := by
  cases hg : okD n d && okT x
  · rw [show rB n d x (upI (x * d) (d + n)) = false by simp [rB, hg], sel_f rfl]
    go_enter Tryz.func101, Tryz.ntmps101
    go_wp2_with fail
    go_region_held (fun w' => w'.cell? ⟨w.heap.size, 0, none⟩ = some (.int .i64 n) ∧ w'.cell? ⟨w.heap.size, 1, none⟩ = some (.int .i64 d)) (simp (maxDischargeDepth := 6) [go_sem, *]) (first | (go_at_call 106; refine (fastest_wrap _ _ _).mono ?_; rintro e w' ⟨rfl, hb⟩; obtain ⟨hc, hf⟩ := bcell hb; (first | have hB := Below.trans (Below.trans hB (by repeat (first | exact Below.refl _ _ | refine Below.drew ?_ | refine Below.alloc ?_ (by first | (simp; done) | (simp; omega) | omega) _ | refine Below.setCell ?_ (by first | (simp; done) | (simp; omega) | omega) _ | refine Below.trans ?_ (Below.mono (by assumption) (by first | (simp; done) | (simp; omega) | omega))))) (Below.mono hb (by first | (simp; done) | (simp; omega) | omega)) | have hB := hb); obtain ⟨hC, hF⟩ := bcell hB; have hz := hb.size; (try simp at hz); (try (have hz0 : w.heap.size < w'.heap.size := by omega)); (try (have hz1 : w.heap.size + 1 < w'.heap.size := by omega)); (try (have hz2 : w.heap.size + 1 + 1 < w'.heap.size := by omega)); (try (have hz3 : w.heap.size + 1 + 1 + 1 < w'.heap.size := by omega))) | (go_at_call 105; refine (turned_f _ _ _ _ _ _ _ hg).mono ?_; rintro e w' ⟨rfl, hb⟩; obtain ⟨hc, hf⟩ := bcell hb; (first | have hB := Below.trans (Below.trans hB (by repeat (first | exact Below.refl _ _ | refine Below.drew ?_ | refine Below.alloc ?_ (by first | (simp; done) | (simp; omega) | omega) _ | refine Below.setCell ?_ (by first | (simp; done) | (simp; omega) | omega) _ | refine Below.trans ?_ (Below.mono (by assumption) (by first | (simp; done) | (simp; omega) | omega))))) (Below.mono hb (by first | (simp; done) | (simp; omega) | omega)) | have hB := hb); obtain ⟨hC, hF⟩ := bcell hB; have hz := hb.size; (try simp at hz); (try (have hz0 : w.heap.size < w'.heap.size := by omega)); (try (have hz1 : w.heap.size + 1 < w'.heap.size := by omega)); (try (have hz2 : w.heap.size + 1 + 1 < w'.heap.size := by omega)); (try (have hz3 : w.heap.size + 1 + 1 + 1 < w'.heap.size := by omega))))
    all_goals go_wp2
    all_goals go_ret2
    all_goals exact ⟨rfl, by repeat (first | exact Below.refl _ _ | refine Below.drew ?_ | refine Below.alloc ?_ (by first | (simp; done) | (simp; omega) | omega) _ | refine Below.setCell ?_ (by first | (simp; done) | (simp; omega) | omega) _ | refine Below.trans ?_ (Below.mono (by assumption) (by first | (simp; done) | (simp; omega) | omega)))⟩
  have ho : okD n d = true := by simp at hg; exact hg.1
  have ht : okT x = true := by simp at hg; exact hg.2
  rw [rB_r ho ht]
  have ⟨d1, d2, d3, d4⟩ := okD_t ho
  have ⟨t1, t2⟩ := okT_t ht
  have ⟨m1, m2⟩ := mul_bd (x := x) (y := d) (X := 1000000000000) (Y := 2000000) (by omega) (by omega) (by omega) (by omega)
  go_enter Tryz.func101, Tryz.ntmps101
  go_wp2_with fail
  go_region_held (fun w' => w'.cell? ⟨w.heap.size, 0, none⟩ = some (.int .i64 n) ∧ w'.cell? ⟨w.heap.size, 1, none⟩ = some (.int .i64 d)) (simp (maxDischargeDepth := 6) [go_sem, *]) (first | (go_at_call 106; refine (fastest_any _ _ _ ho).mono ?_; rintro e w' ⟨rfl, hb⟩; obtain ⟨hc, hf⟩ := bcell hb; (first | have hB := Below.trans (Below.trans hB (by repeat (first | exact Below.refl _ _ | refine Below.drew ?_ | refine Below.alloc ?_ (by first | (simp; done) | (simp; omega) | omega) _ | refine Below.setCell ?_ (by first | (simp; done) | (simp; omega) | omega) _ | refine Below.trans ?_ (Below.mono (by assumption) (by first | (simp; done) | (simp; omega) | omega))))) (Below.mono hb (by first | (simp; done) | (simp; omega) | omega)) | have hB := hb); obtain ⟨hC, hF⟩ := bcell hB; have hz := hb.size; (try simp at hz); (try (have hz0 : w.heap.size < w'.heap.size := by omega)); (try (have hz1 : w.heap.size + 1 < w'.heap.size := by omega)); (try (have hz2 : w.heap.size + 1 + 1 < w'.heap.size := by omega)); (try (have hz3 : w.heap.size + 1 + 1 + 1 < w'.heap.size := by omega))) | (go_at_call 105; refine (turned_up _ _ _ _ _ _ ho ht (by omega) (by omega) (by omega) (by omega)).mono ?_; rintro e w' ⟨rfl, hb⟩; obtain ⟨hc, hf⟩ := bcell hb; (first | have hB := Below.trans (Below.trans hB (by repeat (first | exact Below.refl _ _ | refine Below.drew ?_ | refine Below.alloc ?_ (by first | (simp; done) | (simp; omega) | omega) _ | refine Below.setCell ?_ (by first | (simp; done) | (simp; omega) | omega) _ | refine Below.trans ?_ (Below.mono (by assumption) (by first | (simp; done) | (simp; omega) | omega))))) (Below.mono hb (by first | (simp; done) | (simp; omega) | omega)) | have hB := hb); obtain ⟨hC, hF⟩ := bcell hB; have hz := hb.size; (try simp at hz); (try (have hz0 : w.heap.size < w'.heap.size := by omega)); (try (have hz1 : w.heap.size + 1 < w'.heap.size := by omega)); (try (have hz2 : w.heap.size + 1 + 1 < w'.heap.size := by omega)); (try (have hz3 : w.heap.size + 1 + 1 + 1 < w'.heap.size := by omega))))
  all_goals go_wp2
  all_goals go_ret2
  all_goals exact ⟨rfl, by repeat (first | exact Below.refl _ _ | refine Below.drew ?_ | refine Below.alloc ?_ (by first | (simp; done) | (simp; omega) | omega) _ | refine Below.setCell ?_ (by first | (simp; done) | (simp; omega) | omega) _ | refine Below.trans ?_ (Below.mono (by assumption) (by first | (simp; done) | (simp; omega) | omega)))⟩
set_option maxHeartbeats 1000000 in
theorem specMostTime_any (n d x : Int) (w : World) :
    Calls Tryz.prog 60 #[.agg #[.int .i64 n, .int .i64 d], .int .i64 x] w fun e w' => e = .returned (.tuple #[.int .i64 (sel (rB n d x (dnI (x * d) (d - n))) (dnI (x * d) (d - n))), .bool (rB n d x (dnI (x * d) (d - n)))]) ∧ Below w.heap.size w w' := by
  cases ho : okD n d
  · rw [rB_d ho, sel_f rfl]
    go_enter Tryz.func60, Tryz.ntmps60
    go_wp2_with (first | (go_at_call 34; refine (specDriftOk_any _ _ _).mono ?_; rintro e w' ⟨rfl, hb⟩; obtain ⟨hc, hf⟩ := bcell hb; (first | have hB := Below.trans (Below.trans hB (by repeat (first | exact Below.refl _ _ | refine Below.drew ?_ | refine Below.alloc ?_ (by first | (simp; done) | (simp; omega) | omega) _ | refine Below.setCell ?_ (by first | (simp; done) | (simp; omega) | omega) _ | refine Below.trans ?_ (Below.mono (by assumption) (by first | (simp; done) | (simp; omega) | omega))))) (Below.mono hb (by first | (simp; done) | (simp; omega) | omega)) | have hB := hb); obtain ⟨hC, hF⟩ := bcell hB; have hz := hb.size; (try simp at hz); (try (have hz0 : w.heap.size < w'.heap.size := by omega)); (try (have hz1 : w.heap.size + 1 < w'.heap.size := by omega)); (try (have hz2 : w.heap.size + 1 + 1 < w'.heap.size := by omega)); (try (have hz3 : w.heap.size + 1 + 1 + 1 < w'.heap.size := by omega))) | (go_at_call 25; refine (l2Time_any _ _).mono ?_; rintro e w' ⟨rfl, rfl⟩))
    go_ret2
    exact ⟨rfl, by repeat (first | exact Below.refl _ _ | refine Below.drew ?_ | refine Below.alloc ?_ (by first | (simp; done) | (simp; omega) | omega) _ | refine Below.setCell ?_ (by first | (simp; done) | (simp; omega) | omega) _ | refine Below.trans ?_ (Below.mono (by assumption) (by first | (simp; done) | (simp; omega) | omega)))⟩
  cases ht : okT x
  · rw [rB_t ht, sel_f rfl]
    go_enter Tryz.func60, Tryz.ntmps60
    go_wp2_with (first | (go_at_call 34; refine (specDriftOk_any _ _ _).mono ?_; rintro e w' ⟨rfl, hb⟩; obtain ⟨hc, hf⟩ := bcell hb; (first | have hB := Below.trans (Below.trans hB (by repeat (first | exact Below.refl _ _ | refine Below.drew ?_ | refine Below.alloc ?_ (by first | (simp; done) | (simp; omega) | omega) _ | refine Below.setCell ?_ (by first | (simp; done) | (simp; omega) | omega) _ | refine Below.trans ?_ (Below.mono (by assumption) (by first | (simp; done) | (simp; omega) | omega))))) (Below.mono hb (by first | (simp; done) | (simp; omega) | omega)) | have hB := hb); obtain ⟨hC, hF⟩ := bcell hB; have hz := hb.size; (try simp at hz); (try (have hz0 : w.heap.size < w'.heap.size := by omega)); (try (have hz1 : w.heap.size + 1 < w'.heap.size := by omega)); (try (have hz2 : w.heap.size + 1 + 1 < w'.heap.size := by omega)); (try (have hz3 : w.heap.size + 1 + 1 + 1 < w'.heap.size := by omega))) | (go_at_call 25; refine (l2Time_any _ _).mono ?_; rintro e w' ⟨rfl, rfl⟩))
    go_ret2
    exact ⟨rfl, by repeat (first | exact Below.refl _ _ | refine Below.drew ?_ | refine Below.alloc ?_ (by first | (simp; done) | (simp; omega) | omega) _ | refine Below.setCell ?_ (by first | (simp; done) | (simp; omega) | omega) _ | refine Below.trans ?_ (Below.mono (by assumption) (by first | (simp; done) | (simp; omega) | omega)))⟩
  rw [rB_r ho ht]
  have ⟨d1, d2, d3, d4⟩ := okD_t ho
  have ⟨t1, t2⟩ := okT_t ht
  have ⟨m1, m2⟩ := mul_bd (x := x) (y := d) (X := 1000000000000) (Y := 2000000) (by omega) (by omega) (by omega) (by omega)
  have ⟨v1, v2⟩ := dnI_bd (x := x * d) (n := d - n) m1 (by omega)
  go_enter Tryz.func60, Tryz.ntmps60
  go_wp2_with (first | (go_at_call 34; refine (specDriftOk_any _ _ _).mono ?_; rintro e w' ⟨rfl, hb⟩; obtain ⟨hc, hf⟩ := bcell hb; (first | have hB := Below.trans (Below.trans hB (by repeat (first | exact Below.refl _ _ | refine Below.drew ?_ | refine Below.alloc ?_ (by first | (simp; done) | (simp; omega) | omega) _ | refine Below.setCell ?_ (by first | (simp; done) | (simp; omega) | omega) _ | refine Below.trans ?_ (Below.mono (by assumption) (by first | (simp; done) | (simp; omega) | omega))))) (Below.mono hb (by first | (simp; done) | (simp; omega) | omega)) | have hB := hb); obtain ⟨hC, hF⟩ := bcell hB; have hz := hb.size; (try simp at hz); (try (have hz0 : w.heap.size < w'.heap.size := by omega)); (try (have hz1 : w.heap.size + 1 < w'.heap.size := by omega)); (try (have hz2 : w.heap.size + 1 + 1 < w'.heap.size := by omega)); (try (have hz3 : w.heap.size + 1 + 1 + 1 < w'.heap.size := by omega))) | (go_at_call 25; refine (l2Time_any _ _).mono ?_; rintro e w' ⟨rfl, rfl⟩) | (go_at_call 77; refine (l1Down_any _ _ _ (by omega) (by omega) (by omega) (by omega)).mono ?_; rintro e w' ⟨rfl, rfl⟩) | (go_at_call 75; refine (l2Told_any _ _ (by first | assumption | (simp only [← dnI]; assumption) | omega)).mono ?_; rintro e w' ⟨rfl, rfl⟩))
  go_ret2
  exact ⟨rfl, by repeat (first | exact Below.refl _ _ | refine Below.drew ?_ | refine Below.alloc ?_ (by first | (simp; done) | (simp; omega) | omega) _ | refine Below.setCell ?_ (by first | (simp; done) | (simp; omega) | omega) _ | refine Below.trans ?_ (Below.mono (by assumption) (by first | (simp; done) | (simp; omega) | omega)))⟩
set_option maxHeartbeats 2000000 in
theorem implMostTime_any (n d x : Int) (w : World) :
    Calls Tryz.prog 102 #[.agg #[.int .i64 n, .int .i64 d], .int .i64 x] w fun e w' => e = .returned (.tuple #[.int .i64 (sel (rB n d x (dnI (x * d) (d - n))) (dnI (x * d) (d - n))), .bool (rB n d x (dnI (x * d) (d - n)))]) ∧ Below w.heap.size w w' := by
  cases hg : okD n d && okT x
  · rw [show rB n d x (dnI (x * d) (d - n)) = false by simp [rB, hg], sel_f rfl]
    go_enter Tryz.func102, Tryz.ntmps102
    go_wp2_with fail
    go_region_held (fun w' => w'.cell? ⟨w.heap.size, 0, none⟩ = some (.int .i64 n) ∧ w'.cell? ⟨w.heap.size, 1, none⟩ = some (.int .i64 d)) (simp (maxDischargeDepth := 6) [go_sem, *]) (first | (go_at_call 108; refine (slowest_wrap _ _ _).mono ?_; rintro e w' ⟨rfl, hb⟩; obtain ⟨hc, hf⟩ := bcell hb; (first | have hB := Below.trans (Below.trans hB (by repeat (first | exact Below.refl _ _ | refine Below.drew ?_ | refine Below.alloc ?_ (by first | (simp; done) | (simp; omega) | omega) _ | refine Below.setCell ?_ (by first | (simp; done) | (simp; omega) | omega) _ | refine Below.trans ?_ (Below.mono (by assumption) (by first | (simp; done) | (simp; omega) | omega))))) (Below.mono hb (by first | (simp; done) | (simp; omega) | omega)) | have hB := hb); obtain ⟨hC, hF⟩ := bcell hB; have hz := hb.size; (try simp at hz); (try (have hz0 : w.heap.size < w'.heap.size := by omega)); (try (have hz1 : w.heap.size + 1 < w'.heap.size := by omega)); (try (have hz2 : w.heap.size + 1 + 1 < w'.heap.size := by omega)); (try (have hz3 : w.heap.size + 1 + 1 + 1 < w'.heap.size := by omega))) | (go_at_call 105; refine (turned_f _ _ _ _ _ _ _ hg).mono ?_; rintro e w' ⟨rfl, hb⟩; obtain ⟨hc, hf⟩ := bcell hb; (first | have hB := Below.trans (Below.trans hB (by repeat (first | exact Below.refl _ _ | refine Below.drew ?_ | refine Below.alloc ?_ (by first | (simp; done) | (simp; omega) | omega) _ | refine Below.setCell ?_ (by first | (simp; done) | (simp; omega) | omega) _ | refine Below.trans ?_ (Below.mono (by assumption) (by first | (simp; done) | (simp; omega) | omega))))) (Below.mono hb (by first | (simp; done) | (simp; omega) | omega)) | have hB := hb); obtain ⟨hC, hF⟩ := bcell hB; have hz := hb.size; (try simp at hz); (try (have hz0 : w.heap.size < w'.heap.size := by omega)); (try (have hz1 : w.heap.size + 1 < w'.heap.size := by omega)); (try (have hz2 : w.heap.size + 1 + 1 < w'.heap.size := by omega)); (try (have hz3 : w.heap.size + 1 + 1 + 1 < w'.heap.size := by omega))))
    all_goals go_wp2
    all_goals go_ret2
    all_goals exact ⟨rfl, by repeat (first | exact Below.refl _ _ | refine Below.drew ?_ | refine Below.alloc ?_ (by first | (simp; done) | (simp; omega) | omega) _ | refine Below.setCell ?_ (by first | (simp; done) | (simp; omega) | omega) _ | refine Below.trans ?_ (Below.mono (by assumption) (by first | (simp; done) | (simp; omega) | omega)))⟩
  have ho : okD n d = true := by simp at hg; exact hg.1
  have ht : okT x = true := by simp at hg; exact hg.2
  rw [rB_r ho ht]
  have ⟨d1, d2, d3, d4⟩ := okD_t ho
  have ⟨t1, t2⟩ := okT_t ht
  have ⟨m1, m2⟩ := mul_bd (x := x) (y := d) (X := 1000000000000) (Y := 2000000) (by omega) (by omega) (by omega) (by omega)
  go_enter Tryz.func102, Tryz.ntmps102
  go_wp2_with fail
  go_region_held (fun w' => w'.cell? ⟨w.heap.size, 0, none⟩ = some (.int .i64 n) ∧ w'.cell? ⟨w.heap.size, 1, none⟩ = some (.int .i64 d)) (simp (maxDischargeDepth := 6) [go_sem, *]) (first | (go_at_call 108; refine (slowest_any _ _ _ ho).mono ?_; rintro e w' ⟨rfl, hb⟩; obtain ⟨hc, hf⟩ := bcell hb; (first | have hB := Below.trans (Below.trans hB (by repeat (first | exact Below.refl _ _ | refine Below.drew ?_ | refine Below.alloc ?_ (by first | (simp; done) | (simp; omega) | omega) _ | refine Below.setCell ?_ (by first | (simp; done) | (simp; omega) | omega) _ | refine Below.trans ?_ (Below.mono (by assumption) (by first | (simp; done) | (simp; omega) | omega))))) (Below.mono hb (by first | (simp; done) | (simp; omega) | omega)) | have hB := hb); obtain ⟨hC, hF⟩ := bcell hB; have hz := hb.size; (try simp at hz); (try (have hz0 : w.heap.size < w'.heap.size := by omega)); (try (have hz1 : w.heap.size + 1 < w'.heap.size := by omega)); (try (have hz2 : w.heap.size + 1 + 1 < w'.heap.size := by omega)); (try (have hz3 : w.heap.size + 1 + 1 + 1 < w'.heap.size := by omega))) | (go_at_call 105; refine (turned_dn _ _ _ _ _ _ ho ht (by omega) (by omega) (by omega) (by omega)).mono ?_; rintro e w' ⟨rfl, hb⟩; obtain ⟨hc, hf⟩ := bcell hb; (first | have hB := Below.trans (Below.trans hB (by repeat (first | exact Below.refl _ _ | refine Below.drew ?_ | refine Below.alloc ?_ (by first | (simp; done) | (simp; omega) | omega) _ | refine Below.setCell ?_ (by first | (simp; done) | (simp; omega) | omega) _ | refine Below.trans ?_ (Below.mono (by assumption) (by first | (simp; done) | (simp; omega) | omega))))) (Below.mono hb (by first | (simp; done) | (simp; omega) | omega)) | have hB := hb); obtain ⟨hC, hF⟩ := bcell hB; have hz := hb.size; (try simp at hz); (try (have hz0 : w.heap.size < w'.heap.size := by omega)); (try (have hz1 : w.heap.size + 1 < w'.heap.size := by omega)); (try (have hz2 : w.heap.size + 1 + 1 < w'.heap.size := by omega)); (try (have hz3 : w.heap.size + 1 + 1 + 1 < w'.heap.size := by omega))))
  all_goals go_wp2
  all_goals go_ret2
  all_goals exact ⟨rfl, by repeat (first | exact Below.refl _ _ | refine Below.drew ?_ | refine Below.alloc ?_ (by first | (simp; done) | (simp; omega) | omega) _ | refine Below.setCell ?_ (by first | (simp; done) | (simp; omega) | omega) _ | refine Below.trans ?_ (Below.mono (by assumption) (by first | (simp; done) | (simp; omega) | omega)))⟩
end Go.Proofs.YtkeijldfblgeaaaGreat
namespace Go.Proofs.YtkeijldfblgeaaaGreat
open Go.RowKit
set_option linter.unusedVariables false
def nearI (lo hi t : Int) : Int := match okI lo hi with | true => imn (imx t lo) hi | false => 0
theorem nearI_t {lo hi t : Int} (h : okI lo hi = true) : nearI lo hi t = imn (imx t lo) hi := by rw [nearI, h]
theorem nearI_f {lo hi t : Int} (h : okI lo hi = false) : nearI lo hi t = 0 := by rw [nearI, h]
def withinI (al ah bl bh : Int) : Bool := okII al ah bl bh && decide (bl ≤ al ∧ ah ≤ bh)
end Go.Proofs.YtkeijldfblgeaaaGreat
namespace Go.Proofs.YtkeijldfblgeaaaGreat
open Go.RowKit
set_option linter.unusedVariables false
def mcB (n d t c : Int) : Bool := okD n d && okT t && okT c && decide (t * (d - n) ≤ c * d) && decide (c * d ≤ t * (d + n))
theorem mcB_d {n d t c : Int} (h : okD n d = false) : mcB n d t c = false := by simp [mcB, h]
theorem mcB_t {n d t c : Int} (h : okT t = false) : mcB n d t c = false := by simp [mcB, h]
theorem mcB_c {n d t c : Int} (h : okT c = false) : mcB n d t c = false := by simp [mcB, h]
theorem mcB_l {n d t c : Int} (h : decide (t * (d - n) ≤ c * d) = false) : mcB n d t c = false := by simp [mcB, h]
theorem mcB_r {n d t c : Int} (h1 : okD n d = true) (h2 : okT t = true) (h3 : okT c = true) (h : decide (t * (d - n) ≤ c * d) = true) : mcB n d t c = decide (c * d ≤ t * (d + n)) := by simp [mcB, h1, h2, h3, h]
def btB (n d x : Int) : Bool := rB n d x (upI (x * d) (d + n)) && rB n d x (dnI (x * d) (d - n))
def ctB (n d x : Int) : Bool := rB n d x (upI (x * (d - n)) d) && rB n d x (dnI (x * (d + n)) d)
set_option maxHeartbeats 2000000 in
theorem specBetween_any (n d x : Int) (w : World) :
    Calls Tryz.prog 48 #[.agg #[.int .i64 n, .int .i64 d], .int .i64 x] w fun e w' => e = .returned (.tuple #[.agg #[.int .i64 (sel (btB n d x) (upI (x * d) (d + n))), .int .i64 (sel (btB n d x) (dnI (x * d) (d - n)))], .bool (btB n d x)]) ∧ Below w.heap.size w w' := by
  cases h1 : rB n d x (upI (x * d) (d + n))
  · rw [show btB n d x = false by simp [btB, h1], sel_f rfl, sel_f rfl]
    go_enter Tryz.func48, Tryz.ntmps48
    go_wp2_with (first | (go_at_call 59; refine (specLeastTime_any _ _ _ _).mono ?_; rintro e w' ⟨rfl, hb⟩; obtain ⟨hc, hf⟩ := bcell hb; (first | have hB := Below.trans (Below.trans hB (by repeat (first | exact Below.refl _ _ | refine Below.drew ?_ | refine Below.alloc ?_ (by first | (simp; done) | (simp; omega) | omega) _ | refine Below.setCell ?_ (by first | (simp; done) | (simp; omega) | omega) _ | refine Below.trans ?_ (Below.mono (by assumption) (by first | (simp; done) | (simp; omega) | omega))))) (Below.mono hb (by first | (simp; done) | (simp; omega) | omega)) | have hB := hb); obtain ⟨hC, hF⟩ := bcell hB; have hz := hb.size; (try simp at hz); (try (have hz0 : w.heap.size < w'.heap.size := by omega)); (try (have hz1 : w.heap.size + 1 < w'.heap.size := by omega)); (try (have hz2 : w.heap.size + 1 + 1 < w'.heap.size := by omega)); (try (have hz3 : w.heap.size + 1 + 1 + 1 < w'.heap.size := by omega))) | (go_at_call 60; refine (specMostTime_any _ _ _ _).mono ?_; rintro e w' ⟨rfl, hb⟩; obtain ⟨hc, hf⟩ := bcell hb; (first | have hB := Below.trans (Below.trans hB (by repeat (first | exact Below.refl _ _ | refine Below.drew ?_ | refine Below.alloc ?_ (by first | (simp; done) | (simp; omega) | omega) _ | refine Below.setCell ?_ (by first | (simp; done) | (simp; omega) | omega) _ | refine Below.trans ?_ (Below.mono (by assumption) (by first | (simp; done) | (simp; omega) | omega))))) (Below.mono hb (by first | (simp; done) | (simp; omega) | omega)) | have hB := hb); obtain ⟨hC, hF⟩ := bcell hB; have hz := hb.size; (try simp at hz); (try (have hz0 : w.heap.size < w'.heap.size := by omega)); (try (have hz1 : w.heap.size + 1 < w'.heap.size := by omega)); (try (have hz2 : w.heap.size + 1 + 1 < w'.heap.size := by omega)); (try (have hz3 : w.heap.size + 1 + 1 + 1 < w'.heap.size := by omega))))
    exact bodyPost_ret (v := .tuple #[.agg #[.int .i64 0, .int .i64 0], .bool false]) (by simp (maxDischargeDepth := 6) [results, Tryz.results48, go_sem, *]) rfl ⟨rfl, by repeat (first | exact Below.refl _ _ | refine Below.drew ?_ | refine Below.alloc ?_ (by first | (simp; done) | (simp; omega) | omega) _ | refine Below.setCell ?_ (by first | (simp; done) | (simp; omega) | omega) _ | refine Below.trans ?_ (Below.mono (by assumption) (by first | (simp; done) | (simp; omega) | omega)))⟩
  cases h2 : rB n d x (dnI (x * d) (d - n))
  · rw [show btB n d x = false by simp [btB, h2], sel_f rfl, sel_f rfl]
    go_enter Tryz.func48, Tryz.ntmps48
    go_wp2_with (first | (go_at_call 59; refine (specLeastTime_any _ _ _ _).mono ?_; rintro e w' ⟨rfl, hb⟩; obtain ⟨hc, hf⟩ := bcell hb; (first | have hB := Below.trans (Below.trans hB (by repeat (first | exact Below.refl _ _ | refine Below.drew ?_ | refine Below.alloc ?_ (by first | (simp; done) | (simp; omega) | omega) _ | refine Below.setCell ?_ (by first | (simp; done) | (simp; omega) | omega) _ | refine Below.trans ?_ (Below.mono (by assumption) (by first | (simp; done) | (simp; omega) | omega))))) (Below.mono hb (by first | (simp; done) | (simp; omega) | omega)) | have hB := hb); obtain ⟨hC, hF⟩ := bcell hB; have hz := hb.size; (try simp at hz); (try (have hz0 : w.heap.size < w'.heap.size := by omega)); (try (have hz1 : w.heap.size + 1 < w'.heap.size := by omega)); (try (have hz2 : w.heap.size + 1 + 1 < w'.heap.size := by omega)); (try (have hz3 : w.heap.size + 1 + 1 + 1 < w'.heap.size := by omega))) | (go_at_call 60; refine (specMostTime_any _ _ _ _).mono ?_; rintro e w' ⟨rfl, hb⟩; obtain ⟨hc, hf⟩ := bcell hb; (first | have hB := Below.trans (Below.trans hB (by repeat (first | exact Below.refl _ _ | refine Below.drew ?_ | refine Below.alloc ?_ (by first | (simp; done) | (simp; omega) | omega) _ | refine Below.setCell ?_ (by first | (simp; done) | (simp; omega) | omega) _ | refine Below.trans ?_ (Below.mono (by assumption) (by first | (simp; done) | (simp; omega) | omega))))) (Below.mono hb (by first | (simp; done) | (simp; omega) | omega)) | have hB := hb); obtain ⟨hC, hF⟩ := bcell hB; have hz := hb.size; (try simp at hz); (try (have hz0 : w.heap.size < w'.heap.size := by omega)); (try (have hz1 : w.heap.size + 1 < w'.heap.size := by omega)); (try (have hz2 : w.heap.size + 1 + 1 < w'.heap.size := by omega)); (try (have hz3 : w.heap.size + 1 + 1 + 1 < w'.heap.size := by omega))))
    exact bodyPost_ret (v := .tuple #[.agg #[.int .i64 0, .int .i64 0], .bool false]) (by simp (maxDischargeDepth := 6) [results, Tryz.results48, go_sem, *]) rfl ⟨rfl, by repeat (first | exact Below.refl _ _ | refine Below.drew ?_ | refine Below.alloc ?_ (by first | (simp; done) | (simp; omega) | omega) _ | refine Below.setCell ?_ (by first | (simp; done) | (simp; omega) | omega) _ | refine Below.trans ?_ (Below.mono (by assumption) (by first | (simp; done) | (simp; omega) | omega)))⟩
  rw [show btB n d x = true by simp [btB, h1, h2], sel_t rfl, sel_t rfl]
  have e1 : sel true (upI (x * d) (d + n)) = (upI (x * d) (d + n)) := rfl
  have e2 : sel true (dnI (x * d) (d - n)) = (dnI (x * d) (d - n)) := rfl
  go_enter Tryz.func48, Tryz.ntmps48
  go_wp2_with (first | (go_at_call 59; refine (specLeastTime_any _ _ _ _).mono ?_; rintro e w' ⟨rfl, hb⟩; obtain ⟨hc, hf⟩ := bcell hb; (first | have hB := Below.trans (Below.trans hB (by repeat (first | exact Below.refl _ _ | refine Below.drew ?_ | refine Below.alloc ?_ (by first | (simp; done) | (simp; omega) | omega) _ | refine Below.setCell ?_ (by first | (simp; done) | (simp; omega) | omega) _ | refine Below.trans ?_ (Below.mono (by assumption) (by first | (simp; done) | (simp; omega) | omega))))) (Below.mono hb (by first | (simp; done) | (simp; omega) | omega)) | have hB := hb); obtain ⟨hC, hF⟩ := bcell hB; have hz := hb.size; (try simp at hz); (try (have hz0 : w.heap.size < w'.heap.size := by omega)); (try (have hz1 : w.heap.size + 1 < w'.heap.size := by omega)); (try (have hz2 : w.heap.size + 1 + 1 < w'.heap.size := by omega)); (try (have hz3 : w.heap.size + 1 + 1 + 1 < w'.heap.size := by omega))) | (go_at_call 60; refine (specMostTime_any _ _ _ _).mono ?_; rintro e w' ⟨rfl, hb⟩; obtain ⟨hc, hf⟩ := bcell hb; (first | have hB := Below.trans (Below.trans hB (by repeat (first | exact Below.refl _ _ | refine Below.drew ?_ | refine Below.alloc ?_ (by first | (simp; done) | (simp; omega) | omega) _ | refine Below.setCell ?_ (by first | (simp; done) | (simp; omega) | omega) _ | refine Below.trans ?_ (Below.mono (by assumption) (by first | (simp; done) | (simp; omega) | omega))))) (Below.mono hb (by first | (simp; done) | (simp; omega) | omega)) | have hB := hb); obtain ⟨hC, hF⟩ := bcell hB; have hz := hb.size; (try simp at hz); (try (have hz0 : w.heap.size < w'.heap.size := by omega)); (try (have hz1 : w.heap.size + 1 < w'.heap.size := by omega)); (try (have hz2 : w.heap.size + 1 + 1 < w'.heap.size := by omega)); (try (have hz3 : w.heap.size + 1 + 1 + 1 < w'.heap.size := by omega))))
  exact bodyPost_ret (v := .tuple #[.agg #[.int .i64 (upI (x * d) (d + n)), .int .i64 (dnI (x * d) (d - n))], .bool true]) (by simp (maxDischargeDepth := 6) [results, Tryz.results48, go_sem, *]) rfl ⟨rfl, by repeat (first | exact Below.refl _ _ | refine Below.drew ?_ | refine Below.alloc ?_ (by first | (simp; done) | (simp; omega) | omega) _ | refine Below.setCell ?_ (by first | (simp; done) | (simp; omega) | omega) _ | refine Below.trans ?_ (Below.mono (by assumption) (by first | (simp; done) | (simp; omega) | omega)))⟩
set_option maxHeartbeats 2000000 in
theorem fromToT_any (n d x : Int) (w : World) :
    Calls Tryz.prog 100 #[.agg #[.int .i64 n, .int .i64 d], .int .i64 x, .func (.func 101) #[] #[], .func (.func 102) #[] #[]] w fun e w' => e = .returned (.tuple #[.agg #[.int .i64 (sel (btB n d x) (upI (x * d) (d + n))), .int .i64 (sel (btB n d x) (dnI (x * d) (d - n)))], .bool (btB n d x)]) ∧ Below w.heap.size w w' := by
  cases h1 : rB n d x (upI (x * d) (d + n))
  · rw [show btB n d x = false by simp [btB, h1], sel_f rfl, sel_f rfl]
    go_enter Tryz.func100, Tryz.ntmps100
    go_wp2_with (first | (go_at_call 101; refine (implLeastTime_any _ _ _ _).mono ?_; rintro e w' ⟨rfl, hb⟩; obtain ⟨hc, hf⟩ := bcell hb; (first | have hB := Below.trans (Below.trans hB (by repeat (first | exact Below.refl _ _ | refine Below.drew ?_ | refine Below.alloc ?_ (by first | (simp; done) | (simp; omega) | omega) _ | refine Below.setCell ?_ (by first | (simp; done) | (simp; omega) | omega) _ | refine Below.trans ?_ (Below.mono (by assumption) (by first | (simp; done) | (simp; omega) | omega))))) (Below.mono hb (by first | (simp; done) | (simp; omega) | omega)) | have hB := hb); obtain ⟨hC, hF⟩ := bcell hB; have hz := hb.size; (try simp at hz); (try (have hz0 : w.heap.size < w'.heap.size := by omega)); (try (have hz1 : w.heap.size + 1 < w'.heap.size := by omega)); (try (have hz2 : w.heap.size + 1 + 1 < w'.heap.size := by omega)); (try (have hz3 : w.heap.size + 1 + 1 + 1 < w'.heap.size := by omega))) | (go_at_call 102; refine (implMostTime_any _ _ _ _).mono ?_; rintro e w' ⟨rfl, hb⟩; obtain ⟨hc, hf⟩ := bcell hb; (first | have hB := Below.trans (Below.trans hB (by repeat (first | exact Below.refl _ _ | refine Below.drew ?_ | refine Below.alloc ?_ (by first | (simp; done) | (simp; omega) | omega) _ | refine Below.setCell ?_ (by first | (simp; done) | (simp; omega) | omega) _ | refine Below.trans ?_ (Below.mono (by assumption) (by first | (simp; done) | (simp; omega) | omega))))) (Below.mono hb (by first | (simp; done) | (simp; omega) | omega)) | have hB := hb); obtain ⟨hC, hF⟩ := bcell hB; have hz := hb.size; (try simp at hz); (try (have hz0 : w.heap.size < w'.heap.size := by omega)); (try (have hz1 : w.heap.size + 1 < w'.heap.size := by omega)); (try (have hz2 : w.heap.size + 1 + 1 < w'.heap.size := by omega)); (try (have hz3 : w.heap.size + 1 + 1 + 1 < w'.heap.size := by omega))))
    exact bodyPost_ret (v := .tuple #[.agg #[.int .i64 0, .int .i64 0], .bool false]) (by simp (maxDischargeDepth := 6) [results, Tryz.results100, go_sem, *]) rfl ⟨rfl, by repeat (first | exact Below.refl _ _ | refine Below.drew ?_ | refine Below.alloc ?_ (by first | (simp; done) | (simp; omega) | omega) _ | refine Below.setCell ?_ (by first | (simp; done) | (simp; omega) | omega) _ | refine Below.trans ?_ (Below.mono (by assumption) (by first | (simp; done) | (simp; omega) | omega)))⟩
  cases h2 : rB n d x (dnI (x * d) (d - n))
  · rw [show btB n d x = false by simp [btB, h2], sel_f rfl, sel_f rfl]
    go_enter Tryz.func100, Tryz.ntmps100
    go_wp2_with (first | (go_at_call 101; refine (implLeastTime_any _ _ _ _).mono ?_; rintro e w' ⟨rfl, hb⟩; obtain ⟨hc, hf⟩ := bcell hb; (first | have hB := Below.trans (Below.trans hB (by repeat (first | exact Below.refl _ _ | refine Below.drew ?_ | refine Below.alloc ?_ (by first | (simp; done) | (simp; omega) | omega) _ | refine Below.setCell ?_ (by first | (simp; done) | (simp; omega) | omega) _ | refine Below.trans ?_ (Below.mono (by assumption) (by first | (simp; done) | (simp; omega) | omega))))) (Below.mono hb (by first | (simp; done) | (simp; omega) | omega)) | have hB := hb); obtain ⟨hC, hF⟩ := bcell hB; have hz := hb.size; (try simp at hz); (try (have hz0 : w.heap.size < w'.heap.size := by omega)); (try (have hz1 : w.heap.size + 1 < w'.heap.size := by omega)); (try (have hz2 : w.heap.size + 1 + 1 < w'.heap.size := by omega)); (try (have hz3 : w.heap.size + 1 + 1 + 1 < w'.heap.size := by omega))) | (go_at_call 102; refine (implMostTime_any _ _ _ _).mono ?_; rintro e w' ⟨rfl, hb⟩; obtain ⟨hc, hf⟩ := bcell hb; (first | have hB := Below.trans (Below.trans hB (by repeat (first | exact Below.refl _ _ | refine Below.drew ?_ | refine Below.alloc ?_ (by first | (simp; done) | (simp; omega) | omega) _ | refine Below.setCell ?_ (by first | (simp; done) | (simp; omega) | omega) _ | refine Below.trans ?_ (Below.mono (by assumption) (by first | (simp; done) | (simp; omega) | omega))))) (Below.mono hb (by first | (simp; done) | (simp; omega) | omega)) | have hB := hb); obtain ⟨hC, hF⟩ := bcell hB; have hz := hb.size; (try simp at hz); (try (have hz0 : w.heap.size < w'.heap.size := by omega)); (try (have hz1 : w.heap.size + 1 < w'.heap.size := by omega)); (try (have hz2 : w.heap.size + 1 + 1 < w'.heap.size := by omega)); (try (have hz3 : w.heap.size + 1 + 1 + 1 < w'.heap.size := by omega))))
    exact bodyPost_ret (v := .tuple #[.agg #[.int .i64 0, .int .i64 0], .bool false]) (by simp (maxDischargeDepth := 6) [results, Tryz.results100, go_sem, *]) rfl ⟨rfl, by repeat (first | exact Below.refl _ _ | refine Below.drew ?_ | refine Below.alloc ?_ (by first | (simp; done) | (simp; omega) | omega) _ | refine Below.setCell ?_ (by first | (simp; done) | (simp; omega) | omega) _ | refine Below.trans ?_ (Below.mono (by assumption) (by first | (simp; done) | (simp; omega) | omega)))⟩
  rw [show btB n d x = true by simp [btB, h1, h2], sel_t rfl, sel_t rfl]
  have e1 : sel true (upI (x * d) (d + n)) = (upI (x * d) (d + n)) := rfl
  have e2 : sel true (dnI (x * d) (d - n)) = (dnI (x * d) (d - n)) := rfl
  go_enter Tryz.func100, Tryz.ntmps100
  go_wp2_with (first | (go_at_call 101; refine (implLeastTime_any _ _ _ _).mono ?_; rintro e w' ⟨rfl, hb⟩; obtain ⟨hc, hf⟩ := bcell hb; (first | have hB := Below.trans (Below.trans hB (by repeat (first | exact Below.refl _ _ | refine Below.drew ?_ | refine Below.alloc ?_ (by first | (simp; done) | (simp; omega) | omega) _ | refine Below.setCell ?_ (by first | (simp; done) | (simp; omega) | omega) _ | refine Below.trans ?_ (Below.mono (by assumption) (by first | (simp; done) | (simp; omega) | omega))))) (Below.mono hb (by first | (simp; done) | (simp; omega) | omega)) | have hB := hb); obtain ⟨hC, hF⟩ := bcell hB; have hz := hb.size; (try simp at hz); (try (have hz0 : w.heap.size < w'.heap.size := by omega)); (try (have hz1 : w.heap.size + 1 < w'.heap.size := by omega)); (try (have hz2 : w.heap.size + 1 + 1 < w'.heap.size := by omega)); (try (have hz3 : w.heap.size + 1 + 1 + 1 < w'.heap.size := by omega))) | (go_at_call 102; refine (implMostTime_any _ _ _ _).mono ?_; rintro e w' ⟨rfl, hb⟩; obtain ⟨hc, hf⟩ := bcell hb; (first | have hB := Below.trans (Below.trans hB (by repeat (first | exact Below.refl _ _ | refine Below.drew ?_ | refine Below.alloc ?_ (by first | (simp; done) | (simp; omega) | omega) _ | refine Below.setCell ?_ (by first | (simp; done) | (simp; omega) | omega) _ | refine Below.trans ?_ (Below.mono (by assumption) (by first | (simp; done) | (simp; omega) | omega))))) (Below.mono hb (by first | (simp; done) | (simp; omega) | omega)) | have hB := hb); obtain ⟨hC, hF⟩ := bcell hB; have hz := hb.size; (try simp at hz); (try (have hz0 : w.heap.size < w'.heap.size := by omega)); (try (have hz1 : w.heap.size + 1 < w'.heap.size := by omega)); (try (have hz2 : w.heap.size + 1 + 1 < w'.heap.size := by omega)); (try (have hz3 : w.heap.size + 1 + 1 + 1 < w'.heap.size := by omega))))
  exact bodyPost_ret (v := .tuple #[.agg #[.int .i64 (upI (x * d) (d + n)), .int .i64 (dnI (x * d) (d - n))], .bool true]) (by simp (maxDischargeDepth := 6) [results, Tryz.results100, go_sem, *]) rfl ⟨rfl, by repeat (first | exact Below.refl _ _ | refine Below.drew ?_ | refine Below.alloc ?_ (by first | (simp; done) | (simp; omega) | omega) _ | refine Below.setCell ?_ (by first | (simp; done) | (simp; omega) | omega) _ | refine Below.trans ?_ (Below.mono (by assumption) (by first | (simp; done) | (simp; omega) | omega)))⟩
set_option maxHeartbeats 1000000 in
theorem implBetween_any (n d x : Int) (w : World) :
    Calls Tryz.prog 88 #[.agg #[.int .i64 n, .int .i64 d], .int .i64 x] w fun e w' => e = .returned (.tuple #[.agg #[.int .i64 (sel (btB n d x) (upI (x * d) (d + n))), .int .i64 (sel (btB n d x) (dnI (x * d) (d - n)))], .bool (btB n d x)]) ∧ Below w.heap.size w w' := by
  go_enter Tryz.func88, Tryz.ntmps88
  go_wp2_with (first | (go_at_call 100; refine (fromToT_any _ _ _ _).mono ?_; rintro e w' ⟨rfl, hb⟩; obtain ⟨hc, hf⟩ := bcell hb; (first | have hB := Below.trans (Below.trans hB (by repeat (first | exact Below.refl _ _ | refine Below.drew ?_ | refine Below.alloc ?_ (by first | (simp; done) | (simp; omega) | omega) _ | refine Below.setCell ?_ (by first | (simp; done) | (simp; omega) | omega) _ | refine Below.trans ?_ (Below.mono (by assumption) (by first | (simp; done) | (simp; omega) | omega))))) (Below.mono hb (by first | (simp; done) | (simp; omega) | omega)) | have hB := hb); obtain ⟨hC, hF⟩ := bcell hB; have hz := hb.size; (try simp at hz); (try (have hz0 : w.heap.size < w'.heap.size := by omega)); (try (have hz1 : w.heap.size + 1 < w'.heap.size := by omega)); (try (have hz2 : w.heap.size + 1 + 1 < w'.heap.size := by omega)); (try (have hz3 : w.heap.size + 1 + 1 + 1 < w'.heap.size := by omega))))
  exact bodyPost_ret (v := .tuple #[.agg #[.int .i64 (sel (btB n d x) (upI (x * d) (d + n))), .int .i64 (sel (btB n d x) (dnI (x * d) (d - n)))], .bool (btB n d x)]) (by simp (maxDischargeDepth := 6) [results, Tryz.results88, go_sem, *]) rfl ⟨rfl, by repeat (first | exact Below.refl _ _ | refine Below.drew ?_ | refine Below.alloc ?_ (by first | (simp; done) | (simp; omega) | omega) _ | refine Below.setCell ?_ (by first | (simp; done) | (simp; omega) | omega) _ | refine Below.trans ?_ (Below.mono (by assumption) (by first | (simp; done) | (simp; omega) | omega)))⟩
theorem le_upI {x n t : Int} (hn : 0 < n) (h : x ≤ t * n) : upI x n ≤ t := by
  rw [← upI_neg hn]
  have h2 : -t ≤ -x / n := (Int.le_ediv_iff_mul_le hn).2 (by rw [Int.neg_mul]; omega)
  omega
theorem dnI_le {x n t : Int} (hn : 0 < n) (h : t * n ≤ x) : t ≤ dnI x n := (Int.le_ediv_iff_mul_le hn).2 h
theorem lc_le {n d x : Int} (h : okD n d = true) (ht : okT x = true) : upI (x * (d - n)) d ≤ x ∧ x ≤ dnI (x * (d + n)) d := by
  have ⟨d1, d2, d3, d4⟩ := okD_t h
  have ⟨t1, t2⟩ := okT_t ht
  exact ⟨le_upI (by omega) (Int.mul_le_mul_of_nonneg_left (by omega) t1), dnI_le (by omega) (Int.mul_le_mul_of_nonneg_left (by omega) t1)⟩
theorem rB_o {n d x r : Int} (h : rB n d x r = true) : okD n d = true ∧ okT x = true ∧ okT r = true := by
  simp [rB] at h; exact ⟨h.1.1, h.1.2, h.2⟩
def clI (n d x t : Int) : Int := imn (imx t (upI (x * (d - n)) d)) (dnI (x * (d + n)) d)
theorem ct_near {n d x : Int} (h1 : rB n d x (upI (x * (d - n)) d) = true) (h2 : rB n d x (dnI (x * (d + n)) d) = true) : okI (upI (x * (d - n)) d) (dnI (x * (d + n)) d) = true := by
  have ⟨a, b, c⟩ := rB_o h1
  have ⟨_, _, e⟩ := rB_o h2
  have ⟨l, m⟩ := lc_le a b
  have ⟨c1, c2⟩ := okT_t c
  have ⟨e1, e2⟩ := okT_t e
  exact decide_eq_true ⟨by omega, by omega, by omega⟩
end Go.Proofs.YtkeijldfblgeaaaGreat
namespace Go.Proofs.YtkeijldfblgeaaaGreat
open Go.RowKit
set_option linter.unusedVariables false
def okO (n d t c : Int) : Bool := okD n d && okT t && okT c
theorem okO_t {n d t c : Int} (h : okO n d t c = true) : okD n d = true ∧ okT t = true ∧ okT c = true := by
  simp [okO] at h; exact ⟨h.1.1, h.1.2, h.2⟩
theorem okO_of {n d t c : Int} (h1 : okD n d = true) (h2 : okT t = true) (h3 : okT c = true) : okO n d t c = true := by simp [okO, h1, h2, h3]
def Bx (w : World) (k : Nat) (x y : Int) : Prop := k < w.heap.size ∧ w.cell? ⟨k, 0, none⟩ = some (.int .i64 x) ∧ w.cell? ⟨k, 1, none⟩ = some (.int .i64 y) ∧ w.frozen? ⟨k, 0, none⟩ = false ∧ w.frozen? ⟨k, 1, none⟩ = false
theorem Bx.belowB {k B : Nat} {w w' : World} {x y : Int} (h : Bx w k x y) (hw : Below B w w') (hk : k < B) : Bx w' k x y :=
  ⟨Nat.lt_of_lt_of_le h.1 hw.size, by rw [hw.cell (p := ⟨k, 0, none⟩) hk]; exact h.2.1, by rw [hw.cell (p := ⟨k, 1, none⟩) hk]; exact h.2.2.1, by rw [hw.frozen (p := ⟨k, 0, none⟩) hk]; exact h.2.2.2.1, by rw [hw.frozen (p := ⟨k, 1, none⟩) hk]; exact h.2.2.2.2⟩
theorem Bx.below {k : Nat} {w w' : World} {x y : Int} (h : Bx w k x y) (hw : Below w.heap.size w w') : Bx w' k x y := h.belowB hw h.1
theorem Bx.alloc {k : Nat} {w : World} {x y : Int} (h : Bx w k x y) (o : Obj) : Bx (w.alloc o) k x y := h.below ((Below.refl _ _).alloc (Nat.le_refl _) _)
theorem Bx.new (w : World) (x y : Int) (T : TypeId) : Bx (w.alloc (.cells #[.int .i64 x, .int .i64 y] T)) w.heap.size x y := ⟨by simp, by simp, by simp, by simp, by simp⟩
theorem Bx.setO {k j : Nat} {w : World} {x y : Int} (h : Bx w k x y) (hk : j ≠ k) (o : Nat) (u : Value) : Bx (w.setCell ⟨j, o, none⟩ u) k x y := by
  have hne : ∀ q, (⟨j, o, none⟩ : Addr) ≠ ⟨k, q, none⟩ := fun q e => hk (congrArg Addr.block e)
  exact ⟨by simpa using h.1, by rw [World.cell?_setCell_other _ _ _ _ (hne _)]; exact h.2.1, by rw [World.cell?_setCell_other _ _ _ _ (hne _)]; exact h.2.2.1, by simpa using h.2.2.2.1, by simpa using h.2.2.2.2⟩
theorem Bx.drew {k : Nat} {w : World} {x y : Int} (h : Bx w k x y) : Bx w.drew k x y := h
theorem Below.alc (w : World) (o : Obj) : Below w.heap.size w (w.alloc o) := (Below.refl _ _).alloc (Nat.le_refl _) _
theorem Below.undrewO {B : Nat} {w w' : World} (h : Below B w.drew w') : Below B w w' := ⟨h.os, h.tape, h.output, h.size, h.block⟩
def Box4 (w : World) (k : Nat) (a b c d : Int) : Prop := k < w.heap.size ∧ w.cell? ⟨k, 0, none⟩ = some (.int .i64 a) ∧ w.cell? ⟨k, 1, none⟩ = some (.int .i64 b) ∧ w.cell? ⟨k, 2, none⟩ = some (.int .i64 c) ∧ w.cell? ⟨k, 3, none⟩ = some (.int .i64 d) ∧ w.frozen? ⟨k, 0, none⟩ = false ∧ w.frozen? ⟨k, 1, none⟩ = false ∧ w.frozen? ⟨k, 2, none⟩ = false ∧ w.frozen? ⟨k, 3, none⟩ = false
theorem Box4.belowB {k B : Nat} {w w' : World} {a b c d : Int} (h : Box4 w k a b c d) (hw : Below B w w') (hk : k < B) : Box4 w' k a b c d := by
  obtain ⟨h0, h1, h2, h3, h4, f1, f2, f3, f4⟩ := h
  exact ⟨Nat.lt_of_lt_of_le h0 hw.size, by rw [hw.cell (p := ⟨k, 0, none⟩) hk]; exact h1, by rw [hw.cell (p := ⟨k, 1, none⟩) hk]; exact h2, by rw [hw.cell (p := ⟨k, 2, none⟩) hk]; exact h3, by rw [hw.cell (p := ⟨k, 3, none⟩) hk]; exact h4, by rw [hw.frozen (p := ⟨k, 0, none⟩) hk]; exact f1, by rw [hw.frozen (p := ⟨k, 1, none⟩) hk]; exact f2, by rw [hw.frozen (p := ⟨k, 2, none⟩) hk]; exact f3, by rw [hw.frozen (p := ⟨k, 3, none⟩) hk]; exact f4⟩
theorem Box4.below {k : Nat} {w w' : World} {a b c d : Int} (h : Box4 w k a b c d) (hw : Below w.heap.size w w') : Box4 w' k a b c d := h.belowB hw h.1
theorem Box4.alloc {k : Nat} {w : World} {a b c d : Int} (h : Box4 w k a b c d) (o : Obj) : Box4 (w.alloc o) k a b c d := h.below ((Below.refl _ _).alloc (Nat.le_refl _) _)
theorem Box4.new (w : World) (a b c d : Int) (T : TypeId) : Box4 (w.alloc (.cells #[.int .i64 a, .int .i64 b, .int .i64 c, .int .i64 d] T)) w.heap.size a b c d := ⟨by simp, by simp, by simp, by simp, by simp, by simp, by simp, by simp, by simp⟩
theorem Box4.drew {k : Nat} {w : World} {a b c d : Int} (h : Box4 w k a b c d) : Box4 w.drew k a b c d := h
theorem Box4.setO {k j : Nat} {w : World} {a b c d : Int} (h : Box4 w k a b c d) (hk : j ≠ k) (o : Nat) (u : Value) : Box4 (w.setCell ⟨j, o, none⟩ u) k a b c d := by
  have hne : ∀ q, (⟨j, o, none⟩ : Addr) ≠ ⟨k, q, none⟩ := fun q e => hk (congrArg Addr.block e)
  obtain ⟨h0, h1, h2, h3, h4, f1, f2, f3, f4⟩ := h
  exact ⟨by simpa using h0, by rw [World.cell?_setCell_other _ _ _ _ (hne _)]; exact h1, by rw [World.cell?_setCell_other _ _ _ _ (hne _)]; exact h2, by rw [World.cell?_setCell_other _ _ _ _ (hne _)]; exact h3, by rw [World.cell?_setCell_other _ _ _ _ (hne _)]; exact h4, by simpa using f1, by simpa using f2, by simpa using f3, by simpa using f4⟩
def set4 (w : World) (k : Nat) (a b c d : Int) : World := (((w.setCell ⟨k, 0, none⟩ (.int .i64 a)).setCell ⟨k, 1, none⟩ (.int .i64 b)).setCell ⟨k, 2, none⟩ (.int .i64 c)).setCell ⟨k, 3, none⟩ (.int .i64 d)
theorem Box4.set {k : Nat} {w : World} {a b c d : Int} (h : Box4 w k a b c d) (a' b' c' d' : Int) : Box4 (set4 w k a' b' c' d') k a' b' c' d' := by
  obtain ⟨h0, h1, h2, h3, h4, f1, f2, f3, f4⟩ := h
  have n0 : ∀ (W : World) (i j : Nat) (u : Value), i ≠ j → (W.setCell ⟨k, i, none⟩ u).cell? ⟨k, j, none⟩ = W.cell? ⟨k, j, none⟩ := fun W i j u hij => World.cell?_setCell_other _ _ _ _ (by intro e; exact hij (congrArg Addr.off e))
  refine ⟨by simpa [set4] using h0, ?_, ?_, ?_, ?_, by simpa [set4] using f1, by simpa [set4] using f2, by simpa [set4] using f3, by simpa [set4] using f4⟩
  · unfold set4; rw [n0 _ _ _ _ (by decide), n0 _ _ _ _ (by decide), n0 _ _ _ _ (by decide)]; exact World.cell?_setCell_same _ _ _ h1
  · unfold set4; rw [n0 _ _ _ _ (by decide), n0 _ _ _ _ (by decide)]; exact World.cell?_setCell_same _ _ _ (by rw [n0 _ _ _ _ (by decide)]; exact h2)
  · unfold set4; rw [n0 _ _ _ _ (by decide)]; exact World.cell?_setCell_same _ _ _ (by rw [n0 _ _ _ _ (by decide), n0 _ _ _ _ (by decide)]; exact h3)
  · unfold set4; exact World.cell?_setCell_same _ _ _ (by rw [n0 _ _ _ _ (by decide), n0 _ _ _ _ (by decide), n0 _ _ _ _ (by decide)]; exact h4)
theorem Box4.set4O {k j : Nat} {w : World} {a b c d : Int} (h : Box4 w k a b c d) (hk : j ≠ k) (a' b' c' d' : Int) : Box4 (set4 w j a' b' c' d') k a b c d := (((h.setO hk _ _).setO hk _ _).setO hk _ _).setO hk _ _
theorem Bx.set4O {k j : Nat} {w : World} {x y : Int} (h : Bx w k x y) (hk : j ≠ k) (a' b' c' d' : Int) : Bx (set4 w j a' b' c' d') k x y := (((h.setO hk _ _).setO hk _ _).setO hk _ _).setO hk _ _
theorem Below.set4 {B j : Nat} {w w' : World} (h : Below B w w') (hj : B ≤ j) (a b c d : Int) : Below B w (set4 w' j a b c d) := (((h.setCell hj _).setCell hj _).setCell hj _).setCell hj _
end Go.Proofs.YtkeijldfblgeaaaGreat
namespace Go.Proofs.YtkeijldfblgeaaaGreat
open Go.RowKit
set_option linter.unusedVariables false
def BoxL (w : World) (k : Nat) (a : Bool) (b c d : Int) : Prop := k < w.heap.size ∧ w.cell? ⟨k, 0, none⟩ = some (.bool a) ∧ w.cell? ⟨k, 1, none⟩ = some (.int .i64 b) ∧ w.cell? ⟨k, 2, none⟩ = some (.int .i64 c) ∧ w.cell? ⟨k, 3, none⟩ = some (.int .i64 d) ∧ w.frozen? ⟨k, 0, none⟩ = false ∧ w.frozen? ⟨k, 1, none⟩ = false ∧ w.frozen? ⟨k, 2, none⟩ = false ∧ w.frozen? ⟨k, 3, none⟩ = false
theorem BoxL.belowB {k B : Nat} {w w' : World} {a : Bool} {b c d : Int} (h : BoxL w k a b c d) (hw : Below B w w') (hk : k < B) : BoxL w' k a b c d := by
  obtain ⟨h0, h1, h2, h3, h4, f1, f2, f3, f4⟩ := h
  exact ⟨Nat.lt_of_lt_of_le h0 hw.size, by rw [hw.cell (p := ⟨k, 0, none⟩) hk]; exact h1, by rw [hw.cell (p := ⟨k, 1, none⟩) hk]; exact h2, by rw [hw.cell (p := ⟨k, 2, none⟩) hk]; exact h3, by rw [hw.cell (p := ⟨k, 3, none⟩) hk]; exact h4, by rw [hw.frozen (p := ⟨k, 0, none⟩) hk]; exact f1, by rw [hw.frozen (p := ⟨k, 1, none⟩) hk]; exact f2, by rw [hw.frozen (p := ⟨k, 2, none⟩) hk]; exact f3, by rw [hw.frozen (p := ⟨k, 3, none⟩) hk]; exact f4⟩
theorem BoxL.below {k : Nat} {w w' : World} {a : Bool} {b c d : Int} (h : BoxL w k a b c d) (hw : Below w.heap.size w w') : BoxL w' k a b c d := h.belowB hw h.1
theorem BoxL.alloc {k : Nat} {w : World} {a : Bool} {b c d : Int} (h : BoxL w k a b c d) (o : Obj) : BoxL (w.alloc o) k a b c d := h.below ((Below.refl _ _).alloc (Nat.le_refl _) _)
theorem BoxL.new (w : World) (a : Bool) (b c d : Int) (T : TypeId) : BoxL (w.alloc (.cells #[.bool a, .int .i64 b, .int .i64 c, .int .i64 d] T)) w.heap.size a b c d := ⟨by simp, by simp, by simp, by simp, by simp, by simp, by simp, by simp, by simp⟩
theorem BoxL.drew {k : Nat} {w : World} {a : Bool} {b c d : Int} (h : BoxL w k a b c d) : BoxL w.drew k a b c d := h
theorem BoxL.setO {k j : Nat} {w : World} {a : Bool} {b c d : Int} (h : BoxL w k a b c d) (hk : j ≠ k) (o : Nat) (u : Value) : BoxL (w.setCell ⟨j, o, none⟩ u) k a b c d := by
  have hne : ∀ q, (⟨j, o, none⟩ : Addr) ≠ ⟨k, q, none⟩ := fun q e => hk (congrArg Addr.block e)
  obtain ⟨h0, h1, h2, h3, h4, f1, f2, f3, f4⟩ := h
  exact ⟨by simpa using h0, by rw [World.cell?_setCell_other _ _ _ _ (hne _)]; exact h1, by rw [World.cell?_setCell_other _ _ _ _ (hne _)]; exact h2, by rw [World.cell?_setCell_other _ _ _ _ (hne _)]; exact h3, by rw [World.cell?_setCell_other _ _ _ _ (hne _)]; exact h4, by simpa using f1, by simpa using f2, by simpa using f3, by simpa using f4⟩
def setL (w : World) (k : Nat) (a : Bool) (b c d : Int) : World := (((w.setCell ⟨k, 0, none⟩ (.bool a)).setCell ⟨k, 1, none⟩ (.int .i64 b)).setCell ⟨k, 2, none⟩ (.int .i64 c)).setCell ⟨k, 3, none⟩ (.int .i64 d)
theorem BoxL.set {k : Nat} {w : World} {a : Bool} {b c d : Int} (h : BoxL w k a b c d) (a' : Bool) (b' c' d' : Int) : BoxL (setL w k a' b' c' d') k a' b' c' d' := by
  obtain ⟨h0, h1, h2, h3, h4, f1, f2, f3, f4⟩ := h
  have n0 : ∀ (W : World) (i j : Nat) (u : Value), i ≠ j → (W.setCell ⟨k, i, none⟩ u).cell? ⟨k, j, none⟩ = W.cell? ⟨k, j, none⟩ := fun W i j u hij => World.cell?_setCell_other _ _ _ _ (by intro e; exact hij (congrArg Addr.off e))
  refine ⟨by simpa [setL] using h0, ?_, ?_, ?_, ?_, by simpa [setL] using f1, by simpa [setL] using f2, by simpa [setL] using f3, by simpa [setL] using f4⟩
  · unfold setL; rw [n0 _ _ _ _ (by decide), n0 _ _ _ _ (by decide), n0 _ _ _ _ (by decide)]; exact World.cell?_setCell_same _ _ _ h1
  · unfold setL; rw [n0 _ _ _ _ (by decide), n0 _ _ _ _ (by decide)]; exact World.cell?_setCell_same _ _ _ (by rw [n0 _ _ _ _ (by decide)]; exact h2)
  · unfold setL; rw [n0 _ _ _ _ (by decide)]; exact World.cell?_setCell_same _ _ _ (by rw [n0 _ _ _ _ (by decide), n0 _ _ _ _ (by decide)]; exact h3)
  · unfold setL; exact World.cell?_setCell_same _ _ _ (by rw [n0 _ _ _ _ (by decide), n0 _ _ _ _ (by decide), n0 _ _ _ _ (by decide)]; exact h4)
theorem BoxL.setLO {k j : Nat} {w : World} {a : Bool} {b c d : Int} (h : BoxL w k a b c d) (hk : j ≠ k) (a' : Bool) (b' c' d' : Int) : BoxL (setL w j a' b' c' d') k a b c d := (((h.setO hk _ _).setO hk _ _).setO hk _ _).setO hk _ _
theorem Bx.setLO {k j : Nat} {w : World} {x y : Int} (h : Bx w k x y) (hk : j ≠ k) (a' : Bool) (b' c' d' : Int) : Bx (setL w j a' b' c' d') k x y := (((h.setO hk _ _).setO hk _ _).setO hk _ _).setO hk _ _
theorem Below.setL {B j : Nat} {w w' : World} (h : Below B w w') (hj : B ≤ j) (a : Bool) (b c d : Int) : Below B w (setL w' j a b c d) := (((h.setCell hj _).setCell hj _).setCell hj _).setCell hj _
def putI (w : World) (k : Nat) (a b : Int) : World := (w.setCell ⟨k, 0, none⟩ (.int .i64 a)).setCell ⟨k, 1, none⟩ (.int .i64 b)
theorem Bx.setI {k : Nat} {w : World} {x y : Int} (h : Bx w k x y) (x' y' : Int) : Bx (putI w k x' y') k x' y' := by
  refine ⟨by simpa [putI] using h.1, ?_, ?_, by simpa [putI] using h.2.2.2.1, by simpa [putI] using h.2.2.2.2⟩
  · unfold putI
    rw [World.cell?_setCell_other _ _ _ _ (by simp), World.cell?_setCell_same _ _ _ h.2.1]
  · unfold putI
    exact World.cell?_setCell_same _ _ _ (by rw [World.cell?_setCell_other _ _ _ _ (by simp)]; exact h.2.2.1)
theorem Bx.setIO {k j : Nat} {w : World} {x y : Int} (h : Bx w k x y) (hk : j ≠ k) (a b : Int) : Bx (putI w j a b) k x y := (h.setO hk _ _).setO hk _ _
theorem BoxL.setIO {k j : Nat} {w : World} {a : Bool} {b c d : Int} (h : BoxL w k a b c d) (hk : j ≠ k) (x y : Int) : BoxL (putI w j x y) k a b c d := (h.setO hk _ _).setO hk _ _
theorem Below.setI {B j : Nat} {w w' : World} (h : Below B w w') (hj : B ≤ j) (a b : Int) : Below B w (putI w' j a b) := (h.setCell hj _).setCell hj _
def okL (kn : Bool) (lo hi a : Int) : Bool := match kn with | true => okI lo hi && okT a | false => decide (lo = 0 ∧ hi = 0 ∧ a = 0)
theorem okL_t {lo hi a : Int} (h : okL true lo hi a = true) : okI lo hi = true ∧ okT a = true := by simpa [okL] using h
set_option maxHeartbeats 1000000 in
theorem specLocalOk_any (kn : Bool) (lo hi a : Int) (w : World) :
    Calls Tryz.prog 47 #[.agg #[.bool kn, .int .i64 lo, .int .i64 hi, .int .i64 a]] w fun e w' => e = .returned (.bool (okL kn lo hi a)) ∧ Below w.heap.size w w' := by
  cases kn
  · go_enter Tryz.func47, Tryz.ntmps47
    go_wp2
    all_goals go_ret
    all_goals exact ⟨ret_bool (by rw [Bool.eq_iff_iff]; simp [okL]; try omega), by repeat (first | exact Below.refl _ _ | refine Below.drew ?_ | refine Below.alloc ?_ (by first | (simp; done) | (simp; omega) | omega) _ | refine Below.setCell ?_ (by first | (simp; done) | (simp; omega) | omega) _ | refine Below.trans ?_ (Below.mono (by assumption) (by first | (simp; done) | (simp; omega) | omega)))⟩
  cases h1 : okI lo hi <;> cases h2 : okT a
  all_goals
    go_enter Tryz.func47, Tryz.ntmps47
    go_wp2_with (first | (go_at_call 8; refine (specIvalOk_any _ _ _).mono ?_; rintro e w' ⟨rfl, hb⟩; obtain ⟨hc, hf⟩ := bcell hb; (first | have hB := Below.trans (Below.trans hB (by repeat (first | exact Below.refl _ _ | refine Below.drew ?_ | refine Below.alloc ?_ (by first | (simp; done) | (simp; omega) | omega) _ | refine Below.setCell ?_ (by first | (simp; done) | (simp; omega) | omega) _ | refine Below.trans ?_ (Below.mono (by assumption) (by first | (simp; done) | (simp; omega) | omega))))) (Below.mono hb (by first | (simp; done) | (simp; omega) | omega)) | have hB := hb); obtain ⟨hC, hF⟩ := bcell hB; have hz := hb.size; (try simp at hz); (try (have hz0 : w.heap.size < w'.heap.size := by omega)); (try (have hz1 : w.heap.size + 1 < w'.heap.size := by omega)); (try (have hz2 : w.heap.size + 1 + 1 < w'.heap.size := by omega)); (try (have hz3 : w.heap.size + 1 + 1 + 1 < w'.heap.size := by omega))) | (go_at_call 25; refine (l2Time_any _ _).mono ?_; rintro e w' ⟨rfl, rfl⟩))
    go_ret
    exact ⟨ret_bool (by simp [okL, *]), by repeat (first | exact Below.refl _ _ | refine Below.drew ?_ | refine Below.alloc ?_ (by first | (simp; done) | (simp; omega) | omega) _ | refine Below.setCell ?_ (by first | (simp; done) | (simp; omega) | omega) _ | refine Below.trans ?_ (Below.mono (by assumption) (by first | (simp; done) | (simp; omega) | omega)))⟩
set_option maxHeartbeats 1000000 in
theorem ptrOk_any (k : Nat) (kn : Bool) (lo hi a : Int) (w : World) (H : BoxL w k kn lo hi a) :
    Calls Tryz.prog 98 #[.pointer (some ⟨k, 0, none⟩)] w fun e w' => e = .returned (.bool (okL kn lo hi a)) ∧ Below w.heap.size w w' := by
  obtain ⟨h0, h1, h2, h3, h4, f1, f2, f3, f4⟩ := id H
  cases kn
  · go_enter Tryz.func98, Tryz.ntmps98
    go_wp2
    all_goals go_ret
    all_goals exact ⟨ret_bool (by rw [Bool.eq_iff_iff]; simp [okL]; try omega), by repeat (first | exact Below.refl _ _ | refine Below.drew ?_ | refine Below.alloc ?_ (by first | (simp; done) | (simp; omega) | omega) _ | refine Below.setCell ?_ (by first | (simp; done) | (simp; omega) | omega) _ | refine Below.trans ?_ (Below.mono (by assumption) (by first | (simp; done) | (simp; omega) | omega)))⟩
  cases c1 : okI lo hi <;> cases c2 : okT a
  all_goals
    go_enter Tryz.func98, Tryz.ntmps98
    go_wp2_with fail
    refine (ok_any _ _ _).mono ?_
    rintro e v ⟨rfl, hb⟩
    have B := hb
    obtain ⟨g0, g1, g2, g3, g4, e1, e2, e3, e4⟩ := H.below hb
    clear hb h0 h1 h2 h3 h4 f1 f2 f3 f4 H
    go_wp2_with (first | (go_at_call 52; refine (isTime_any _ _).mono ?_; rintro e w' ⟨rfl, rfl⟩))
    go_ret
    exact ⟨ret_bool (by simp [okL, *]), B⟩
end Go.Proofs.YtkeijldfblgeaaaGreat
namespace Go.Proofs.YtkeijldfblgeaaaGreat
open Go.RowKit
set_option linter.unusedVariables false
def crC (kn : Bool) (lo hi a n d c : Int) : Int := if okL kn lo hi a && okD n d && okT c then (if kn then (if c < a then 3 else if btB n d (c - a) then (if plusB lo hi (upI ((c - a) * d) (d + n)) (dnI ((c - a) * d) (d - n)) then 0 else 4) else 4) else 2) else 1
def crL (kn : Bool) (lo hi a n d c : Int) : Int := if crC kn lo hi a n d c = 0 then lo + upI ((c - a) * d) (d + n) else 0
def crH (kn : Bool) (lo hi a n d c : Int) : Int := if crC kn lo hi a n d c = 0 then hi + dnI ((c - a) * d) (d - n) else 0
def crP (kn : Bool) (lo hi a n d c : Int) : Bool := okL kn lo hi a && okD n d && okT c
theorem crC_1 {kn : Bool} {lo hi a n d c : Int} (h : crP kn lo hi a n d c = false) : crC kn lo hi a n d c = 1 ∧ crL kn lo hi a n d c = 0 ∧ crH kn lo hi a n d c = 0 := by
  have e : crC kn lo hi a n d c = 1 := by unfold crC; unfold crP at h; rw [h]; rfl
  exact ⟨e, by simp [crL, e], by simp [crH, e]⟩
theorem crC_2 {lo hi a n d c : Int} (h : crP false lo hi a n d c = true) : crC false lo hi a n d c = 2 ∧ crL false lo hi a n d c = 0 ∧ crH false lo hi a n d c = 0 := by
  have e : crC false lo hi a n d c = 2 := by unfold crC; unfold crP at h; rw [h]; rfl
  exact ⟨e, by simp [crL, e], by simp [crH, e]⟩
theorem crC_3 {lo hi a n d c : Int} (h : crP true lo hi a n d c = true) (h3 : c < a) : crC true lo hi a n d c = 3 ∧ crL true lo hi a n d c = 0 ∧ crH true lo hi a n d c = 0 := by
  have e : crC true lo hi a n d c = 3 := by unfold crC; unfold crP at h; rw [h]; simp [h3]
  exact ⟨e, by simp [crL, e], by simp [crH, e]⟩
theorem crC_4 {lo hi a n d c : Int} (h : crP true lo hi a n d c = true) (h3 : ¬ c < a) (h4 : btB n d (c - a) = false) : crC true lo hi a n d c = 4 ∧ crL true lo hi a n d c = 0 ∧ crH true lo hi a n d c = 0 := by
  have e : crC true lo hi a n d c = 4 := by unfold crC; unfold crP at h; rw [h]; simp [h3, h4]
  exact ⟨e, by simp [crL, e], by simp [crH, e]⟩
theorem crC_5 {lo hi a n d c : Int} (h : crP true lo hi a n d c = true) (h3 : ¬ c < a) (h4 : btB n d (c - a) = true) (h5 : plusB lo hi (upI ((c - a) * d) (d + n)) (dnI ((c - a) * d) (d - n)) = false) : crC true lo hi a n d c = 4 ∧ crL true lo hi a n d c = 0 ∧ crH true lo hi a n d c = 0 := by
  have e : crC true lo hi a n d c = 4 := by unfold crC; unfold crP at h; rw [h]; simp [h3, h4, h5]
  exact ⟨e, by simp [crL, e], by simp [crH, e]⟩
theorem crC_0 {lo hi a n d c : Int} (h : crP true lo hi a n d c = true) (h3 : ¬ c < a) (h4 : btB n d (c - a) = true) (h5 : plusB lo hi (upI ((c - a) * d) (d + n)) (dnI ((c - a) * d) (d - n)) = true) : crC true lo hi a n d c = 0 ∧ crL true lo hi a n d c = lo + upI ((c - a) * d) (d + n) ∧ crH true lo hi a n d c = hi + dnI ((c - a) * d) (d - n) := by
  have e : crC true lo hi a n d c = 0 := by unfold crC; unfold crP at h; rw [h]; simp [h3, h4, h5]
  exact ⟨e, by simp [crL, e], by simp [crH, e]⟩
theorem crP_p {lo hi a n d c : Int} (h : crP true lo hi a n d c = true) : okI lo hi = true ∧ okT a = true ∧ okD n d = true ∧ okT c = true := by
  simp [crP] at h; have := okL_t h.1.1; exact ⟨this.1, this.2, h.1.2, h.2⟩
set_option maxHeartbeats 4000000 in
theorem specCarryOn_any (kn : Bool) (lo hi a n d c : Int) (w : World) :
    Calls Tryz.prog 28 #[.agg #[.bool kn, .int .i64 lo, .int .i64 hi, .int .i64 a], .agg #[.int .i64 n, .int .i64 d], .int .i64 c] w fun e w' => e = .returned (.tuple #[.agg #[.int .i64 (crL kn lo hi a n d c), .int .i64 (crH kn lo hi a n d c)], .int .i64 (crC kn lo hi a n d c)]) ∧ Below w.heap.size w w' := by
  cases hp : crP kn lo hi a n d c
  · obtain ⟨e1, e2, e3⟩ := crC_1 hp
    rw [e1, e2, e3]
    clear e1 e2 e3
    cases h1 : okL kn lo hi a
    · go_enter Tryz.func28, Tryz.ntmps28
      go_wp2_with (first | (go_at_call 47; refine (specLocalOk_any _ _ _ _ _).mono ?_; rintro e w' ⟨rfl, hb⟩; obtain ⟨hc, hf⟩ := bcell hb; (first | have hB := Below.trans (Below.trans hB (by repeat (first | exact Below.refl _ _ | refine Below.drew ?_ | refine Below.alloc ?_ (by first | (simp; done) | (simp; omega) | omega) _ | refine Below.setCell ?_ (by first | (simp; done) | (simp; omega) | omega) _ | refine Below.trans ?_ (Below.mono (by assumption) (by first | (simp; done) | (simp; omega) | omega))))) (Below.mono hb (by first | (simp; done) | (simp; omega) | omega)) | have hB := hb); obtain ⟨hC, hF⟩ := bcell hB; have hz := hb.size; (try simp at hz); (try (have hz0 : w.heap.size < w'.heap.size := by omega)); (try (have hz1 : w.heap.size + 1 < w'.heap.size := by omega)); (try (have hz2 : w.heap.size + 1 + 1 < w'.heap.size := by omega)); (try (have hz3 : w.heap.size + 1 + 1 + 1 < w'.heap.size := by omega))) | (go_at_call 34; refine (specDriftOk_any _ _ _).mono ?_; rintro e w' ⟨rfl, hb⟩; obtain ⟨hc, hf⟩ := bcell hb; (first | have hB := Below.trans (Below.trans hB (by repeat (first | exact Below.refl _ _ | refine Below.drew ?_ | refine Below.alloc ?_ (by first | (simp; done) | (simp; omega) | omega) _ | refine Below.setCell ?_ (by first | (simp; done) | (simp; omega) | omega) _ | refine Below.trans ?_ (Below.mono (by assumption) (by first | (simp; done) | (simp; omega) | omega))))) (Below.mono hb (by first | (simp; done) | (simp; omega) | omega)) | have hB := hb); obtain ⟨hC, hF⟩ := bcell hB; have hz := hb.size; (try simp at hz); (try (have hz0 : w.heap.size < w'.heap.size := by omega)); (try (have hz1 : w.heap.size + 1 < w'.heap.size := by omega)); (try (have hz2 : w.heap.size + 1 + 1 < w'.heap.size := by omega)); (try (have hz3 : w.heap.size + 1 + 1 + 1 < w'.heap.size := by omega))) | (go_at_call 25; refine (l2Time_any _ _).mono ?_; rintro e w' ⟨rfl, rfl⟩))
      exact bodyPost_ret (v := .tuple #[.agg #[.int .i64 0, .int .i64 0], .int .i64 1]) (by simp (maxDischargeDepth := 6) [results, Tryz.results28, go_sem, *]) rfl ⟨rfl, by repeat (first | exact Below.refl _ _ | refine Below.drew ?_ | refine Below.alloc ?_ (by first | (simp; done) | (simp; omega) | omega) _ | refine Below.setCell ?_ (by first | (simp; done) | (simp; omega) | omega) _ | refine Below.trans ?_ (Below.mono (by assumption) (by first | (simp; done) | (simp; omega) | omega)))⟩
    cases h2 : okD n d
    · go_enter Tryz.func28, Tryz.ntmps28
      go_wp2_with (first | (go_at_call 47; refine (specLocalOk_any _ _ _ _ _).mono ?_; rintro e w' ⟨rfl, hb⟩; obtain ⟨hc, hf⟩ := bcell hb; (first | have hB := Below.trans (Below.trans hB (by repeat (first | exact Below.refl _ _ | refine Below.drew ?_ | refine Below.alloc ?_ (by first | (simp; done) | (simp; omega) | omega) _ | refine Below.setCell ?_ (by first | (simp; done) | (simp; omega) | omega) _ | refine Below.trans ?_ (Below.mono (by assumption) (by first | (simp; done) | (simp; omega) | omega))))) (Below.mono hb (by first | (simp; done) | (simp; omega) | omega)) | have hB := hb); obtain ⟨hC, hF⟩ := bcell hB; have hz := hb.size; (try simp at hz); (try (have hz0 : w.heap.size < w'.heap.size := by omega)); (try (have hz1 : w.heap.size + 1 < w'.heap.size := by omega)); (try (have hz2 : w.heap.size + 1 + 1 < w'.heap.size := by omega)); (try (have hz3 : w.heap.size + 1 + 1 + 1 < w'.heap.size := by omega))) | (go_at_call 34; refine (specDriftOk_any _ _ _).mono ?_; rintro e w' ⟨rfl, hb⟩; obtain ⟨hc, hf⟩ := bcell hb; (first | have hB := Below.trans (Below.trans hB (by repeat (first | exact Below.refl _ _ | refine Below.drew ?_ | refine Below.alloc ?_ (by first | (simp; done) | (simp; omega) | omega) _ | refine Below.setCell ?_ (by first | (simp; done) | (simp; omega) | omega) _ | refine Below.trans ?_ (Below.mono (by assumption) (by first | (simp; done) | (simp; omega) | omega))))) (Below.mono hb (by first | (simp; done) | (simp; omega) | omega)) | have hB := hb); obtain ⟨hC, hF⟩ := bcell hB; have hz := hb.size; (try simp at hz); (try (have hz0 : w.heap.size < w'.heap.size := by omega)); (try (have hz1 : w.heap.size + 1 < w'.heap.size := by omega)); (try (have hz2 : w.heap.size + 1 + 1 < w'.heap.size := by omega)); (try (have hz3 : w.heap.size + 1 + 1 + 1 < w'.heap.size := by omega))) | (go_at_call 25; refine (l2Time_any _ _).mono ?_; rintro e w' ⟨rfl, rfl⟩))
      exact bodyPost_ret (v := .tuple #[.agg #[.int .i64 0, .int .i64 0], .int .i64 1]) (by simp (maxDischargeDepth := 6) [results, Tryz.results28, go_sem, *]) rfl ⟨rfl, by repeat (first | exact Below.refl _ _ | refine Below.drew ?_ | refine Below.alloc ?_ (by first | (simp; done) | (simp; omega) | omega) _ | refine Below.setCell ?_ (by first | (simp; done) | (simp; omega) | omega) _ | refine Below.trans ?_ (Below.mono (by assumption) (by first | (simp; done) | (simp; omega) | omega)))⟩
    have h3 : okT c = false := by simpa [crP, h1, h2] using hp
    go_enter Tryz.func28, Tryz.ntmps28
    go_wp2_with (first | (go_at_call 47; refine (specLocalOk_any _ _ _ _ _).mono ?_; rintro e w' ⟨rfl, hb⟩; obtain ⟨hc, hf⟩ := bcell hb; (first | have hB := Below.trans (Below.trans hB (by repeat (first | exact Below.refl _ _ | refine Below.drew ?_ | refine Below.alloc ?_ (by first | (simp; done) | (simp; omega) | omega) _ | refine Below.setCell ?_ (by first | (simp; done) | (simp; omega) | omega) _ | refine Below.trans ?_ (Below.mono (by assumption) (by first | (simp; done) | (simp; omega) | omega))))) (Below.mono hb (by first | (simp; done) | (simp; omega) | omega)) | have hB := hb); obtain ⟨hC, hF⟩ := bcell hB; have hz := hb.size; (try simp at hz); (try (have hz0 : w.heap.size < w'.heap.size := by omega)); (try (have hz1 : w.heap.size + 1 < w'.heap.size := by omega)); (try (have hz2 : w.heap.size + 1 + 1 < w'.heap.size := by omega)); (try (have hz3 : w.heap.size + 1 + 1 + 1 < w'.heap.size := by omega))) | (go_at_call 34; refine (specDriftOk_any _ _ _).mono ?_; rintro e w' ⟨rfl, hb⟩; obtain ⟨hc, hf⟩ := bcell hb; (first | have hB := Below.trans (Below.trans hB (by repeat (first | exact Below.refl _ _ | refine Below.drew ?_ | refine Below.alloc ?_ (by first | (simp; done) | (simp; omega) | omega) _ | refine Below.setCell ?_ (by first | (simp; done) | (simp; omega) | omega) _ | refine Below.trans ?_ (Below.mono (by assumption) (by first | (simp; done) | (simp; omega) | omega))))) (Below.mono hb (by first | (simp; done) | (simp; omega) | omega)) | have hB := hb); obtain ⟨hC, hF⟩ := bcell hB; have hz := hb.size; (try simp at hz); (try (have hz0 : w.heap.size < w'.heap.size := by omega)); (try (have hz1 : w.heap.size + 1 < w'.heap.size := by omega)); (try (have hz2 : w.heap.size + 1 + 1 < w'.heap.size := by omega)); (try (have hz3 : w.heap.size + 1 + 1 + 1 < w'.heap.size := by omega))) | (go_at_call 25; refine (l2Time_any _ _).mono ?_; rintro e w' ⟨rfl, rfl⟩))
    exact bodyPost_ret (v := .tuple #[.agg #[.int .i64 0, .int .i64 0], .int .i64 1]) (by simp (maxDischargeDepth := 6) [results, Tryz.results28, go_sem, *]) rfl ⟨rfl, by repeat (first | exact Below.refl _ _ | refine Below.drew ?_ | refine Below.alloc ?_ (by first | (simp; done) | (simp; omega) | omega) _ | refine Below.setCell ?_ (by first | (simp; done) | (simp; omega) | omega) _ | refine Below.trans ?_ (Below.mono (by assumption) (by first | (simp; done) | (simp; omega) | omega)))⟩
  have hp3 : okL kn lo hi a = true ∧ okD n d = true ∧ okT c = true := by simp [crP] at hp; exact ⟨hp.1.1, hp.1.2, hp.2⟩
  obtain ⟨h1, h2, h3⟩ := hp3
  cases kn
  · obtain ⟨e1, e2, e3⟩ := crC_2 hp
    rw [e1, e2, e3]
    clear e1 e2 e3 hp
    go_enter Tryz.func28, Tryz.ntmps28
    go_wp2_with (first | (go_at_call 47; refine (specLocalOk_any _ _ _ _ _).mono ?_; rintro e w' ⟨rfl, hb⟩; obtain ⟨hc, hf⟩ := bcell hb; (first | have hB := Below.trans (Below.trans hB (by repeat (first | exact Below.refl _ _ | refine Below.drew ?_ | refine Below.alloc ?_ (by first | (simp; done) | (simp; omega) | omega) _ | refine Below.setCell ?_ (by first | (simp; done) | (simp; omega) | omega) _ | refine Below.trans ?_ (Below.mono (by assumption) (by first | (simp; done) | (simp; omega) | omega))))) (Below.mono hb (by first | (simp; done) | (simp; omega) | omega)) | have hB := hb); obtain ⟨hC, hF⟩ := bcell hB; have hz := hb.size; (try simp at hz); (try (have hz0 : w.heap.size < w'.heap.size := by omega)); (try (have hz1 : w.heap.size + 1 < w'.heap.size := by omega)); (try (have hz2 : w.heap.size + 1 + 1 < w'.heap.size := by omega)); (try (have hz3 : w.heap.size + 1 + 1 + 1 < w'.heap.size := by omega))) | (go_at_call 34; refine (specDriftOk_any _ _ _).mono ?_; rintro e w' ⟨rfl, hb⟩; obtain ⟨hc, hf⟩ := bcell hb; (first | have hB := Below.trans (Below.trans hB (by repeat (first | exact Below.refl _ _ | refine Below.drew ?_ | refine Below.alloc ?_ (by first | (simp; done) | (simp; omega) | omega) _ | refine Below.setCell ?_ (by first | (simp; done) | (simp; omega) | omega) _ | refine Below.trans ?_ (Below.mono (by assumption) (by first | (simp; done) | (simp; omega) | omega))))) (Below.mono hb (by first | (simp; done) | (simp; omega) | omega)) | have hB := hb); obtain ⟨hC, hF⟩ := bcell hB; have hz := hb.size; (try simp at hz); (try (have hz0 : w.heap.size < w'.heap.size := by omega)); (try (have hz1 : w.heap.size + 1 < w'.heap.size := by omega)); (try (have hz2 : w.heap.size + 1 + 1 < w'.heap.size := by omega)); (try (have hz3 : w.heap.size + 1 + 1 + 1 < w'.heap.size := by omega))) | (go_at_call 25; refine (l2Time_any _ _).mono ?_; rintro e w' ⟨rfl, rfl⟩))
    exact bodyPost_ret (v := .tuple #[.agg #[.int .i64 0, .int .i64 0], .int .i64 2]) (by simp (maxDischargeDepth := 6) [results, Tryz.results28, go_sem, *]) rfl ⟨rfl, by repeat (first | exact Below.refl _ _ | refine Below.drew ?_ | refine Below.alloc ?_ (by first | (simp; done) | (simp; omega) | omega) _ | refine Below.setCell ?_ (by first | (simp; done) | (simp; omega) | omega) _ | refine Below.trans ?_ (Below.mono (by assumption) (by first | (simp; done) | (simp; omega) | omega)))⟩
  by_cases h4 : c < a
  · obtain ⟨e1, e2, e3⟩ := crC_3 hp h4
    rw [e1, e2, e3]
    clear e1 e2 e3 hp
    go_enter Tryz.func28, Tryz.ntmps28
    go_wp2_with (first | (go_at_call 47; refine (specLocalOk_any _ _ _ _ _).mono ?_; rintro e w' ⟨rfl, hb⟩; obtain ⟨hc, hf⟩ := bcell hb; (first | have hB := Below.trans (Below.trans hB (by repeat (first | exact Below.refl _ _ | refine Below.drew ?_ | refine Below.alloc ?_ (by first | (simp; done) | (simp; omega) | omega) _ | refine Below.setCell ?_ (by first | (simp; done) | (simp; omega) | omega) _ | refine Below.trans ?_ (Below.mono (by assumption) (by first | (simp; done) | (simp; omega) | omega))))) (Below.mono hb (by first | (simp; done) | (simp; omega) | omega)) | have hB := hb); obtain ⟨hC, hF⟩ := bcell hB; have hz := hb.size; (try simp at hz); (try (have hz0 : w.heap.size < w'.heap.size := by omega)); (try (have hz1 : w.heap.size + 1 < w'.heap.size := by omega)); (try (have hz2 : w.heap.size + 1 + 1 < w'.heap.size := by omega)); (try (have hz3 : w.heap.size + 1 + 1 + 1 < w'.heap.size := by omega))) | (go_at_call 34; refine (specDriftOk_any _ _ _).mono ?_; rintro e w' ⟨rfl, hb⟩; obtain ⟨hc, hf⟩ := bcell hb; (first | have hB := Below.trans (Below.trans hB (by repeat (first | exact Below.refl _ _ | refine Below.drew ?_ | refine Below.alloc ?_ (by first | (simp; done) | (simp; omega) | omega) _ | refine Below.setCell ?_ (by first | (simp; done) | (simp; omega) | omega) _ | refine Below.trans ?_ (Below.mono (by assumption) (by first | (simp; done) | (simp; omega) | omega))))) (Below.mono hb (by first | (simp; done) | (simp; omega) | omega)) | have hB := hb); obtain ⟨hC, hF⟩ := bcell hB; have hz := hb.size; (try simp at hz); (try (have hz0 : w.heap.size < w'.heap.size := by omega)); (try (have hz1 : w.heap.size + 1 < w'.heap.size := by omega)); (try (have hz2 : w.heap.size + 1 + 1 < w'.heap.size := by omega)); (try (have hz3 : w.heap.size + 1 + 1 + 1 < w'.heap.size := by omega))) | (go_at_call 25; refine (l2Time_any _ _).mono ?_; rintro e w' ⟨rfl, rfl⟩))
    exact bodyPost_ret (v := .tuple #[.agg #[.int .i64 0, .int .i64 0], .int .i64 3]) (by simp (maxDischargeDepth := 6) [results, Tryz.results28, go_sem, *]) rfl ⟨rfl, by repeat (first | exact Below.refl _ _ | refine Below.drew ?_ | refine Below.alloc ?_ (by first | (simp; done) | (simp; omega) | omega) _ | refine Below.setCell ?_ (by first | (simp; done) | (simp; omega) | omega) _ | refine Below.trans ?_ (Below.mono (by assumption) (by first | (simp; done) | (simp; omega) | omega)))⟩
  obtain ⟨_, p2, _, _⟩ := crP_p hp
  obtain ⟨a1, a2⟩ := okT_t p2
  obtain ⟨c1, c2⟩ := okT_t h3
  have CB := fun w' => specBetween_any n d (c - a) w'
  cases h5 : btB n d (c - a)
  · obtain ⟨e1, e2, e3⟩ := crC_4 hp h4 h5
    rw [e1, e2, e3]
    rw [h5, sel_f rfl, sel_f rfl] at CB
    clear e1 e2 e3 hp p2
    go_enter Tryz.func28, Tryz.ntmps28
    go_wp2_with (first | (go_at_call 48; refine (CB _).mono ?_; rintro e w' ⟨rfl, hb⟩; obtain ⟨hc, hf⟩ := bcell hb; (first | have hB := Below.trans (Below.trans hB (by repeat (first | exact Below.refl _ _ | refine Below.drew ?_ | refine Below.alloc ?_ (by first | (simp; done) | (simp; omega) | omega) _ | refine Below.setCell ?_ (by first | (simp; done) | (simp; omega) | omega) _ | refine Below.trans ?_ (Below.mono (by assumption) (by first | (simp; done) | (simp; omega) | omega))))) (Below.mono hb (by first | (simp; done) | (simp; omega) | omega)) | have hB := hb); obtain ⟨hC, hF⟩ := bcell hB; have hz := hb.size; (try simp at hz); (try (have hz0 : w.heap.size < w'.heap.size := by omega)); (try (have hz1 : w.heap.size + 1 < w'.heap.size := by omega)); (try (have hz2 : w.heap.size + 1 + 1 < w'.heap.size := by omega)); (try (have hz3 : w.heap.size + 1 + 1 + 1 < w'.heap.size := by omega))) | (first | (go_at_call 47; refine (specLocalOk_any _ _ _ _ _).mono ?_; rintro e w' ⟨rfl, hb⟩; obtain ⟨hc, hf⟩ := bcell hb; (first | have hB := Below.trans (Below.trans hB (by repeat (first | exact Below.refl _ _ | refine Below.drew ?_ | refine Below.alloc ?_ (by first | (simp; done) | (simp; omega) | omega) _ | refine Below.setCell ?_ (by first | (simp; done) | (simp; omega) | omega) _ | refine Below.trans ?_ (Below.mono (by assumption) (by first | (simp; done) | (simp; omega) | omega))))) (Below.mono hb (by first | (simp; done) | (simp; omega) | omega)) | have hB := hb); obtain ⟨hC, hF⟩ := bcell hB; have hz := hb.size; (try simp at hz); (try (have hz0 : w.heap.size < w'.heap.size := by omega)); (try (have hz1 : w.heap.size + 1 < w'.heap.size := by omega)); (try (have hz2 : w.heap.size + 1 + 1 < w'.heap.size := by omega)); (try (have hz3 : w.heap.size + 1 + 1 + 1 < w'.heap.size := by omega))) | (go_at_call 34; refine (specDriftOk_any _ _ _).mono ?_; rintro e w' ⟨rfl, hb⟩; obtain ⟨hc, hf⟩ := bcell hb; (first | have hB := Below.trans (Below.trans hB (by repeat (first | exact Below.refl _ _ | refine Below.drew ?_ | refine Below.alloc ?_ (by first | (simp; done) | (simp; omega) | omega) _ | refine Below.setCell ?_ (by first | (simp; done) | (simp; omega) | omega) _ | refine Below.trans ?_ (Below.mono (by assumption) (by first | (simp; done) | (simp; omega) | omega))))) (Below.mono hb (by first | (simp; done) | (simp; omega) | omega)) | have hB := hb); obtain ⟨hC, hF⟩ := bcell hB; have hz := hb.size; (try simp at hz); (try (have hz0 : w.heap.size < w'.heap.size := by omega)); (try (have hz1 : w.heap.size + 1 < w'.heap.size := by omega)); (try (have hz2 : w.heap.size + 1 + 1 < w'.heap.size := by omega)); (try (have hz3 : w.heap.size + 1 + 1 + 1 < w'.heap.size := by omega))) | (go_at_call 25; refine (l2Time_any _ _).mono ?_; rintro e w' ⟨rfl, rfl⟩)))
    exact bodyPost_ret (v := .tuple #[.agg #[.int .i64 0, .int .i64 0], .int .i64 4]) (by simp (maxDischargeDepth := 6) [results, Tryz.results28, go_sem, *]) rfl ⟨rfl, by repeat (first | exact Below.refl _ _ | refine Below.drew ?_ | refine Below.alloc ?_ (by first | (simp; done) | (simp; omega) | omega) _ | refine Below.setCell ?_ (by first | (simp; done) | (simp; omega) | omega) _ | refine Below.trans ?_ (Below.mono (by assumption) (by first | (simp; done) | (simp; omega) | omega)))⟩
  rw [h5, sel_t rfl, sel_t rfl] at CB
  have CP := fun w' => specPlusIval_any lo hi (upI ((c - a) * d) (d + n)) (dnI ((c - a) * d) (d - n)) w'
  cases h6 : plusB lo hi (upI ((c - a) * d) (d + n)) (dnI ((c - a) * d) (d - n))
  · obtain ⟨e1, e2, e3⟩ := crC_5 hp h4 h5 h6
    rw [e1, e2, e3]
    rw [h6, sel_f rfl, sel_f rfl] at CP
    clear e1 e2 e3 hp p2 h6
    generalize upI ((c - a) * d) (d + n) = U at *
    generalize dnI ((c - a) * d) (d - n) = D at *
    go_enter Tryz.func28, Tryz.ntmps28
    go_wp2_with (first | (go_at_call 48; refine (CB _).mono ?_; rintro e w' ⟨rfl, hb⟩; obtain ⟨hc, hf⟩ := bcell hb; (first | have hB := Below.trans (Below.trans hB (by repeat (first | exact Below.refl _ _ | refine Below.drew ?_ | refine Below.alloc ?_ (by first | (simp; done) | (simp; omega) | omega) _ | refine Below.setCell ?_ (by first | (simp; done) | (simp; omega) | omega) _ | refine Below.trans ?_ (Below.mono (by assumption) (by first | (simp; done) | (simp; omega) | omega))))) (Below.mono hb (by first | (simp; done) | (simp; omega) | omega)) | have hB := hb); obtain ⟨hC, hF⟩ := bcell hB; have hz := hb.size; (try simp at hz); (try (have hz0 : w.heap.size < w'.heap.size := by omega)); (try (have hz1 : w.heap.size + 1 < w'.heap.size := by omega)); (try (have hz2 : w.heap.size + 1 + 1 < w'.heap.size := by omega)); (try (have hz3 : w.heap.size + 1 + 1 + 1 < w'.heap.size := by omega))) | (go_at_call 49; refine (CP _).mono ?_; rintro e w' ⟨rfl, hb⟩; obtain ⟨hc, hf⟩ := bcell hb; (first | have hB := Below.trans (Below.trans hB (by repeat (first | exact Below.refl _ _ | refine Below.drew ?_ | refine Below.alloc ?_ (by first | (simp; done) | (simp; omega) | omega) _ | refine Below.setCell ?_ (by first | (simp; done) | (simp; omega) | omega) _ | refine Below.trans ?_ (Below.mono (by assumption) (by first | (simp; done) | (simp; omega) | omega))))) (Below.mono hb (by first | (simp; done) | (simp; omega) | omega)) | have hB := hb); obtain ⟨hC, hF⟩ := bcell hB; have hz := hb.size; (try simp at hz); (try (have hz0 : w.heap.size < w'.heap.size := by omega)); (try (have hz1 : w.heap.size + 1 < w'.heap.size := by omega)); (try (have hz2 : w.heap.size + 1 + 1 < w'.heap.size := by omega)); (try (have hz3 : w.heap.size + 1 + 1 + 1 < w'.heap.size := by omega))) | (first | (go_at_call 47; refine (specLocalOk_any _ _ _ _ _).mono ?_; rintro e w' ⟨rfl, hb⟩; obtain ⟨hc, hf⟩ := bcell hb; (first | have hB := Below.trans (Below.trans hB (by repeat (first | exact Below.refl _ _ | refine Below.drew ?_ | refine Below.alloc ?_ (by first | (simp; done) | (simp; omega) | omega) _ | refine Below.setCell ?_ (by first | (simp; done) | (simp; omega) | omega) _ | refine Below.trans ?_ (Below.mono (by assumption) (by first | (simp; done) | (simp; omega) | omega))))) (Below.mono hb (by first | (simp; done) | (simp; omega) | omega)) | have hB := hb); obtain ⟨hC, hF⟩ := bcell hB; have hz := hb.size; (try simp at hz); (try (have hz0 : w.heap.size < w'.heap.size := by omega)); (try (have hz1 : w.heap.size + 1 < w'.heap.size := by omega)); (try (have hz2 : w.heap.size + 1 + 1 < w'.heap.size := by omega)); (try (have hz3 : w.heap.size + 1 + 1 + 1 < w'.heap.size := by omega))) | (go_at_call 34; refine (specDriftOk_any _ _ _).mono ?_; rintro e w' ⟨rfl, hb⟩; obtain ⟨hc, hf⟩ := bcell hb; (first | have hB := Below.trans (Below.trans hB (by repeat (first | exact Below.refl _ _ | refine Below.drew ?_ | refine Below.alloc ?_ (by first | (simp; done) | (simp; omega) | omega) _ | refine Below.setCell ?_ (by first | (simp; done) | (simp; omega) | omega) _ | refine Below.trans ?_ (Below.mono (by assumption) (by first | (simp; done) | (simp; omega) | omega))))) (Below.mono hb (by first | (simp; done) | (simp; omega) | omega)) | have hB := hb); obtain ⟨hC, hF⟩ := bcell hB; have hz := hb.size; (try simp at hz); (try (have hz0 : w.heap.size < w'.heap.size := by omega)); (try (have hz1 : w.heap.size + 1 < w'.heap.size := by omega)); (try (have hz2 : w.heap.size + 1 + 1 < w'.heap.size := by omega)); (try (have hz3 : w.heap.size + 1 + 1 + 1 < w'.heap.size := by omega))) | (go_at_call 25; refine (l2Time_any _ _).mono ?_; rintro e w' ⟨rfl, rfl⟩)))
    exact bodyPost_ret (v := .tuple #[.agg #[.int .i64 0, .int .i64 0], .int .i64 4]) (by simp (maxDischargeDepth := 6) [results, Tryz.results28, go_sem, *]) rfl ⟨rfl, by repeat (first | exact Below.refl _ _ | refine Below.drew ?_ | refine Below.alloc ?_ (by first | (simp; done) | (simp; omega) | omega) _ | refine Below.setCell ?_ (by first | (simp; done) | (simp; omega) | omega) _ | refine Below.trans ?_ (Below.mono (by assumption) (by first | (simp; done) | (simp; omega) | omega)))⟩
  obtain ⟨e1, e2, e3⟩ := crC_0 hp h4 h5 h6
  rw [e1, e2, e3]
  rw [h6, sel_t rfl, sel_t rfl] at CP
  clear e1 e2 e3 hp p2 h6
  generalize upI ((c - a) * d) (d + n) = U at *
  generalize dnI ((c - a) * d) (d - n) = D at *
  generalize lo + U = X at *
  generalize hi + D = Y at *
  go_enter Tryz.func28, Tryz.ntmps28
  go_wp2_with (first | (go_at_call 48; refine (CB _).mono ?_; rintro e w' ⟨rfl, hb⟩; obtain ⟨hc, hf⟩ := bcell hb; (first | have hB := Below.trans (Below.trans hB (by repeat (first | exact Below.refl _ _ | refine Below.drew ?_ | refine Below.alloc ?_ (by first | (simp; done) | (simp; omega) | omega) _ | refine Below.setCell ?_ (by first | (simp; done) | (simp; omega) | omega) _ | refine Below.trans ?_ (Below.mono (by assumption) (by first | (simp; done) | (simp; omega) | omega))))) (Below.mono hb (by first | (simp; done) | (simp; omega) | omega)) | have hB := hb); obtain ⟨hC, hF⟩ := bcell hB; have hz := hb.size; (try simp at hz); (try (have hz0 : w.heap.size < w'.heap.size := by omega)); (try (have hz1 : w.heap.size + 1 < w'.heap.size := by omega)); (try (have hz2 : w.heap.size + 1 + 1 < w'.heap.size := by omega)); (try (have hz3 : w.heap.size + 1 + 1 + 1 < w'.heap.size := by omega))) | (go_at_call 49; refine (CP _).mono ?_; rintro e w' ⟨rfl, hb⟩; obtain ⟨hc, hf⟩ := bcell hb; (first | have hB := Below.trans (Below.trans hB (by repeat (first | exact Below.refl _ _ | refine Below.drew ?_ | refine Below.alloc ?_ (by first | (simp; done) | (simp; omega) | omega) _ | refine Below.setCell ?_ (by first | (simp; done) | (simp; omega) | omega) _ | refine Below.trans ?_ (Below.mono (by assumption) (by first | (simp; done) | (simp; omega) | omega))))) (Below.mono hb (by first | (simp; done) | (simp; omega) | omega)) | have hB := hb); obtain ⟨hC, hF⟩ := bcell hB; have hz := hb.size; (try simp at hz); (try (have hz0 : w.heap.size < w'.heap.size := by omega)); (try (have hz1 : w.heap.size + 1 < w'.heap.size := by omega)); (try (have hz2 : w.heap.size + 1 + 1 < w'.heap.size := by omega)); (try (have hz3 : w.heap.size + 1 + 1 + 1 < w'.heap.size := by omega))) | (first | (go_at_call 47; refine (specLocalOk_any _ _ _ _ _).mono ?_; rintro e w' ⟨rfl, hb⟩; obtain ⟨hc, hf⟩ := bcell hb; (first | have hB := Below.trans (Below.trans hB (by repeat (first | exact Below.refl _ _ | refine Below.drew ?_ | refine Below.alloc ?_ (by first | (simp; done) | (simp; omega) | omega) _ | refine Below.setCell ?_ (by first | (simp; done) | (simp; omega) | omega) _ | refine Below.trans ?_ (Below.mono (by assumption) (by first | (simp; done) | (simp; omega) | omega))))) (Below.mono hb (by first | (simp; done) | (simp; omega) | omega)) | have hB := hb); obtain ⟨hC, hF⟩ := bcell hB; have hz := hb.size; (try simp at hz); (try (have hz0 : w.heap.size < w'.heap.size := by omega)); (try (have hz1 : w.heap.size + 1 < w'.heap.size := by omega)); (try (have hz2 : w.heap.size + 1 + 1 < w'.heap.size := by omega)); (try (have hz3 : w.heap.size + 1 + 1 + 1 < w'.heap.size := by omega))) | (go_at_call 34; refine (specDriftOk_any _ _ _).mono ?_; rintro e w' ⟨rfl, hb⟩; obtain ⟨hc, hf⟩ := bcell hb; (first | have hB := Below.trans (Below.trans hB (by repeat (first | exact Below.refl _ _ | refine Below.drew ?_ | refine Below.alloc ?_ (by first | (simp; done) | (simp; omega) | omega) _ | refine Below.setCell ?_ (by first | (simp; done) | (simp; omega) | omega) _ | refine Below.trans ?_ (Below.mono (by assumption) (by first | (simp; done) | (simp; omega) | omega))))) (Below.mono hb (by first | (simp; done) | (simp; omega) | omega)) | have hB := hb); obtain ⟨hC, hF⟩ := bcell hB; have hz := hb.size; (try simp at hz); (try (have hz0 : w.heap.size < w'.heap.size := by omega)); (try (have hz1 : w.heap.size + 1 < w'.heap.size := by omega)); (try (have hz2 : w.heap.size + 1 + 1 < w'.heap.size := by omega)); (try (have hz3 : w.heap.size + 1 + 1 + 1 < w'.heap.size := by omega))) | (go_at_call 25; refine (l2Time_any _ _).mono ?_; rintro e w' ⟨rfl, rfl⟩)))
  exact bodyPost_ret (v := .tuple #[.agg #[.int .i64 X, .int .i64 Y], .int .i64 0]) (by simp (maxDischargeDepth := 6) [results, Tryz.results28, go_sem, *]) rfl ⟨rfl, by repeat (first | exact Below.refl _ _ | refine Below.drew ?_ | refine Below.alloc ?_ (by first | (simp; done) | (simp; omega) | omega) _ | refine Below.setCell ?_ (by first | (simp; done) | (simp; omega) | omega) _ | refine Below.trans ?_ (Below.mono (by assumption) (by first | (simp; done) | (simp; omega) | omega)))⟩
end Go.Proofs.YtkeijldfblgeaaaGreat
