/- What Issue, Again, Use and Reboot of a right table come to; the state of the law. -/
import Derived.Test.YtlaladalnbdhpaaT78
import Derived.Test.YtlaladalnbdhpaaH72
import Derived.Test.YtlaladalnbdhpaaD9
import Derived.Test.YtlaladalnbdhpaaB9
import Derived.Test.YtlaladalnbdhpaaB7
import Derived.Test.YtlaladalnbdhpaaC2
import Derived.Test.YtlaladalnbdhpaaA7
import Derived.Test.YtlaladalnbdhpaaA1
import Derived.Deep.RegionHeld3
import Derived.Deep.DeepCutAuto
import Derived.WalkKit
import Derived.WalkSpells
import Derived.WalkLawsBesides
import Derived.Deep.RegionHeld
namespace Go.Proofs.Ytlaladalnbdhpaa
open Go.RowKit
set_option linter.unusedVariables false
theorem tOk_all9 {ep us : Int} {M : Nat → KT} : ∀ {n : Nat}, (∀ k, k < n → elB ep us M k = true) → tOk ep us M n = true
  | 0, _ => rfl
  | n + 1, h => by
    rw [tOk, tOk_all9 fun k hk => h k (by omega), h n (by omega)]; rfl
/- An ask that may stand in a table. -/
def askB (ep us : Int) (a : KT) : Prop := npB a.1 = true ∧ npE a.1 = ep ∧ npK a.1 < us ∧ akB a.2.1 a.2.2.1 a.2.2.2 = true
theorem ask_num {ep k : Int} (hep : epB ep = true) (h0 : 0 ≤ k) (h1 : k ≤ 999) : npB (ep * 1000 + k) = true ∧ npE (ep * 1000 + k) = ep ∧ npK (ep * 1000 + k) = k := by
  have he : 0 ≤ ep ∧ ep ≤ 100000 := of_decide_eq_true hep
  have hn : npB (ep * 1000 + k) = true := decide_eq_true (by omega)
  refine ⟨hn, ?_, ?_⟩
  · rw [npE, hn, cond_true, Int.tdiv_eq_ediv_of_nonneg (by omega)]; omega
  · rw [npK, hn, cond_true, Int.tmod_eq_emod_of_nonneg (by omega)]; omega
theorem ask_lt {ep us : Int} {a : KT} (h : askB ep us a) : ep * 1000 ≤ a.1 ∧ a.1 < ep * 1000 + us := by
  obtain ⟨h1, h2, h3, _⟩ := h
  have := np_join h1
  rw [h2] at this
  omega
theorem ask_up {ep us u : Int} {a : KT} (h : askB ep us a) (hu : us ≤ u) : askB ep u a := ⟨h.1, h.2.1, by have := h.2.2.1; omega, h.2.2.2⟩
abbrev AscK (L : List KT) : Prop := L.Pairwise fun a b => a.1 < b.1
theorem rowL_get {L : List KT} {k : Nat} (h : k < L.length) : rowL L k = L[k] := by unfold rowL; rw [List.getD_eq_getElem?_getD, List.getElem?_eq_getElem h]; rfl
theorem tab_list {ep us : Int} {L : List KT} (h0 : epB ep = true) (h1 : usB us = true) (h2 : L.length ≤ 16) (h3 : ∀ a, a ∈ L → askB ep us a) (h4 : AscK L) : tabB ep us (rowL L) L.length = true := by
  refine tabB_ok h0 h1 h2 (tOk_all9 fun k hk => ?_)
  obtain ⟨q1, q2, q3, q4⟩ := h3 (rowL L k) (by rw [rowL_get hk]; exact List.getElem_mem hk)
  have hl : lsB (rowL L) k = true := by
    cases k with
    | zero => rfl
    | succ j =>
      refine decide_eq_true ?_
      rw [rowL_get hk, rowL_get (show j < L.length by omega)]
      exact List.pairwise_iff_getElem.1 h4 j (j + 1) (by omega) hk (by omega)
  rw [elB, q1, hl, q4, decide_eq_true q2, decide_eq_true q3]
  rfl
theorem tab_mem {ep us : Int} {M : Nat → KT} {n : Nat} (h : tabB ep us M n = true) : epB ep = true ∧ usB us = true ∧ n ≤ 16 ∧ (∀ a, a ∈ lst M n → askB ep us a) ∧ AscK (lst M n) := by
  have ht := tabB_tOk h
  have h2 := h
  simp only [tabB, Bool.and_eq_true, decide_eq_true_eq] at h2
  refine ⟨h2.1.1.1, h2.1.1.2, h2.1.2, fun a ha => ?_, ?_⟩
  · simp only [lst, List.mem_map, List.mem_range] at ha
    obtain ⟨k, hk, rfl⟩ := ha
    have he := tOk_el ht hk
    simp only [elB, Bool.and_eq_true, decide_eq_true_eq] at he
    exact ⟨he.1.1.1.1, he.1.1.1.2, he.1.1.2, he.2⟩
  · rw [lst, AscK, List.pairwise_map]
    exact List.Pairwise.imp_of_mem (fun {a b} _ hb hab => tOk_asc ht a b hab (List.mem_range.1 hb)) List.pairwise_lt_range
theorem tOk_congr {ep us : Int} {M H : Nat → KT} : ∀ {n : Nat}, (∀ k, k < n → M k = H k) → tOk ep us M n = tOk ep us H n
  | 0, _ => rfl
  | n + 1, e => by
    have hl : lsB M n = lsB H n := by
      cases n with
      | zero => rfl
      | succ j => rw [lsB, lsB, e j (by omega), e (j + 1) (by omega)]
    rw [tOk, tOk, tOk_congr fun k hk => e k (by omega), elB, elB, e n (by omega), hl]
theorem tab_congr {ep us : Int} {M H : Nat → KT} {n : Nat} (e : ∀ k, k < n → M k = H k) : tabB ep us M n = tabB ep us H n := by rw [tabB, tabB, tOk_congr e]
theorem tab_nums {ep us : Int} {M : Nat → KT} {n : Nat} (h : tabB ep us M n = true) : (0 ≤ ep ∧ ep ≤ 100000) ∧ (0 ≤ us ∧ us ≤ 1000) ∧ n ≤ 16 ∧ ∀ k, k < n → (Lit.int .i64 (M k).1).wf = true := by
  obtain ⟨h1, h2, h3, h4, _⟩ := tab_mem h
  have e1 : 0 ≤ ep ∧ ep ≤ 100000 := of_decide_eq_true h1
  have e2 : 0 ≤ us ∧ us ≤ 1000 := of_decide_eq_true h2
  refine ⟨e1, e2, h3, fun k hk => ?_⟩
  have := ask_lt (h4 (M k) (by simp only [lst, List.mem_map, List.mem_range]; exact ⟨k, hk, rfl⟩))
  simp only [Lit.wf, Bool.and_eq_true, decide_eq_true_eq]
  exact ⟨by show (-9223372036854775808 : Int) ≤ _; omega, by show _ ≤ (9223372036854775807 : Int); omega⟩
theorem tab_new {ep : Int} (h : epB ep = true) (M : Nat → KT) : tabB ep 0 M 0 = true := tabB_ok h rfl (by omega) rfl
theorem tab_issue {ep us : Int} {M : Nat → KT} {n : Nat} {x y : Int} (h : tabB ep us M n = true) (hu : us ≠ 1000) (h16 : n ≠ 16) (hx : nodB x = true) (hy : tmB y = true) : tabB ep (us + 1) (addG M n (kT (ep * 1000 + us) x y 1)) (n + 1) = true := by
  obtain ⟨h1, h2, h3, h4, h5⟩ := tab_mem h
  have e2 : 0 ≤ us ∧ us ≤ 1000 := of_decide_eq_true h2
  obtain ⟨n1, n2, n3⟩ := ask_num h1 e2.1 (show us ≤ 999 by omega)
  have hl : (lst M n ++ [kT (ep * 1000 + us) x y 1]).length = n + 1 := by rw [List.length_append, lst_len]; rfl
  have ht : tabB ep (us + 1) (rowL (lst M n ++ [kT (ep * 1000 + us) x y 1])) (n + 1) = true := by
    rw [← hl]
    refine tab_list h1 (decide_eq_true (by omega)) (by rw [hl]; omega) (fun a ha => ?_) (List.pairwise_append.2 ⟨h5, by simp, fun a ha b hb => ?_⟩)
    · rcases List.mem_append.1 ha with q | q
      · exact ask_up (h4 a q) (by omega)
      · simp at q
        subst q
        refine ⟨n1, n2, ?_, ?_⟩
        · show npK (ep * 1000 + us) < us + 1
          rw [n3]; omega
        · show akB x y 1 = true
          rw [akB, hx, hy]; rfl
    · simp at hb
      subst hb
      exact (ask_lt (h4 a ha)).2
  rw [← ht]
  refine tab_congr fun k hk => ?_
  rw [rowL_app, lst_len, addG]
  by_cases e : k = n
  · rw [if_pos e, if_pos e]
  · rw [if_neg e, if_neg e, rowL_lst (by omega)]
theorem part_len (x y : Int) : ∀ L : List KT, (gon x y L).length + (kep x y L).length = L.length
  | [] => rfl
  | a :: T => by
    have ih := part_len x y T
    unfold gon kep at ih ⊢
    cases h : ltB x y a
    · simp only [List.filter_cons, h, Bool.false_eq_true, if_false, Bool.not_false, if_true, List.length_cons]; omega
    · simp only [List.filter_cons, h, if_true, Bool.not_true, Bool.false_eq_true, if_false, List.length_cons]; omega
theorem ag_asks {ep x us : Int} {L : List KT} (hep : epB ep = true) (hx : tmB x = true) (hu0 : 0 ≤ us) (hu1 : us ≤ 1000) (hL : ∀ a, a ∈ L → askB ep us a) : ∀ k, k ≤ L.length → (∀ b, b ∈ (ag ep x us L k).2.1 → askB ep (ag ep x us L k).1 b ∧ ep * 1000 + us ≤ b.1) ∧ AscK (ag ep x us L k).2.1
  | 0, _ => ⟨fun b h => (by simp [ag] at h), by simp [ag]⟩
  | k + 1, hk => by
    obtain ⟨h1, h2⟩ := ag_asks hep hx hu0 hu1 hL k (by omega)
    obtain ⟨o1, o2, _, _, _⟩ := ag_ok (ep := ep) (x := x) (L := L) hu1 k
    have ha := hL (rowL L k) (by rw [rowL_get (show k < L.length by omega)]; exact List.getElem_mem _)
    rw [ag, agN]
    generalize ag ep x us L k = s at *
    obtain ⟨u, cl, ll⟩ := s
    simp only at h1 h2 o1 o2 ⊢
    by_cases hc : (rowL L k).2.2.2 = 4 ∨ u = 1000
    · rw [if_pos hc]
      exact ⟨h1, h2⟩
    · rw [if_neg hc]
      have hu' : u ≠ 1000 := fun e => hc (.inr e)
      have ht : (rowL L k).2.2.2 ≠ 4 := fun e => hc (.inl e)
      obtain ⟨n1, n2, n3⟩ := ask_num hep (show 0 ≤ u by omega) (show u ≤ 999 by omega)
      have hk4 := ha.2.2.2
      simp only [akB, Bool.and_eq_true] at hk4
      have htr : 1 ≤ (rowL L k).2.2.2 ∧ (rowL L k).2.2.2 ≤ 4 := of_decide_eq_true hk4.2
      refine ⟨fun b hb => ?_, List.pairwise_append.2 ⟨h2, by simp, fun a ha b hb => ?_⟩⟩
      · rcases List.mem_append.1 hb with q | q
        · exact ⟨ask_up (h1 b q).1 (by show u ≤ u + 1; omega), (h1 b q).2⟩
        · simp at q
          subst q
          refine ⟨⟨n1, n2, ?_, ?_⟩, by show ep * 1000 + us ≤ ep * 1000 + u; omega⟩
          · show npK (ep * 1000 + u) < u + 1
            rw [n3]; omega
          · show akB (rowL L k).2.1 x ((rowL L k).2.2.2 + 1) = true
            have : trB ((rowL L k).2.2.2 + 1) = true := decide_eq_true (by omega)
            rw [akB, hk4.1.1, hx, this]; rfl
      · simp at hb
        subst hb
        exact (ask_lt (h1 a ha).1).2
theorem tab_again {ep us : Int} {M : Nat → KT} {n : Nat} {x y U : Int} {CL LL TL : List KT} (h : tabB ep us M n = true) (hx : tmB x = true) (he : ag ep x us (gon x y (lst M n)) (gon x y (lst M n)).length = (U, CL, LL)) (hT : TL = kep x y (lst M n) ++ CL) :
    tabB ep U (rowL TL) TL.length = true ∧ us ≤ U ∧ U ≤ 1000 ∧ CL.length ≤ 16 ∧ (∀ b, b ∈ CL → ep * 1000 + us ≤ b.1 ∧ b.1 < ep * 1000 + U) ∧ AscK CL := by
  obtain ⟨h1, h2, h3, h4, h5⟩ := tab_mem h
  have e2 : 0 ≤ us ∧ us ≤ 1000 := of_decide_eq_true h2
  have hg : ∀ a, a ∈ gon x y (lst M n) → askB ep us a := fun a ha => h4 a (List.mem_filter.1 ha).1
  obtain ⟨q1, q2⟩ := ag_asks h1 hx e2.1 e2.2 hg (gon x y (lst M n)).length (Nat.le_refl _)
  obtain ⟨o1, o2, o3, _, _⟩ := ag_ok (ep := ep) (x := x) (L := gon x y (lst M n)) e2.2 (gon x y (lst M n)).length
  rw [he] at q1 q2 o1 o2 o3
  simp only at q1 q2 o1 o2 o3
  have hp := part_len x y (lst M n)
  rw [lst_len] at hp
  have hl : TL.length ≤ 16 := by rw [hT, List.length_append]; omega
  refine ⟨tab_list h1 (decide_eq_true (by omega)) hl (fun a ha => ?_) ?_, o1, o2, by omega, fun b hb => ⟨(q1 b hb).2, (ask_lt (q1 b hb).1).2⟩, q2⟩
  · rw [hT] at ha
    rcases List.mem_append.1 ha with q | q
    · exact ask_up (h4 a (List.mem_filter.1 q).1) o1
    · exact (q1 a q).1
  · rw [hT]
    refine List.pairwise_append.2 ⟨h5.filter _, q2, fun a ha b hb => ?_⟩
    have := (ask_lt (h4 a (List.mem_filter.1 ha).1)).2
    have := (q1 b hb).2
    omega
/- What was issued so far: ascending, all below the next nonce. -/
def SeenOk (ep us : Int) (S : List Int) : Prop := S.Pairwise (· < ·) ∧ ∀ s, s ∈ S → 0 ≤ s ∧ s < ep * 1000 + us
theorem SeenOk.nil (ep us : Int) : SeenOk ep us [] := ⟨List.Pairwise.nil, fun s h => by simp at h⟩
theorem SeenOk.up {ep us u : Int} {S : List Int} (h : SeenOk ep us S) (hu : us ≤ u) : SeenOk ep u S := ⟨h.1, fun s hs => by have := h.2 s hs; omega⟩
theorem SeenOk.boot {ep us : Int} {S : List Int} (h : SeenOk ep us S) (hu : us ≤ 1000) : SeenOk (ep + 1) 0 S := ⟨h.1, fun s hs => by have := h.2 s hs; omega⟩
theorem SeenOk.add {ep us : Int} {S : List Int} (h : SeenOk ep us S) (h0 : 0 ≤ ep * 1000 + us) : SeenOk ep (us + 1) (S ++ [ep * 1000 + us]) := by
  refine ⟨List.pairwise_append.2 ⟨h.1, by simp, fun a ha b hb => ?_⟩, fun s hs => ?_⟩
  · simp at hb; subst hb; exact (h.2 a ha).2
  · rcases List.mem_append.1 hs with q | q
    · have := h.2 s q; omega
    · simp at q; omega
theorem SeenOk.came {ep us U : Int} {S : List Int} {CL : List KT} (h : SeenOk ep us S) (h0 : 0 ≤ ep * 1000 + us) (hU : us ≤ U) (h1 : ∀ b, b ∈ CL → ep * 1000 + us ≤ b.1 ∧ b.1 < ep * 1000 + U) (h2 : AscK CL) (k : Nat) : SeenOk ep U (S ++ (CL.take k).map fun b => b.1) := by
  have hm : ∀ b, b ∈ CL.take k → b ∈ CL := fun b hb => List.mem_of_mem_take hb
  refine ⟨List.pairwise_append.2 ⟨h.1, List.pairwise_map.2 (h2.sublist (List.take_sublist k CL)), fun a ha b hb => ?_⟩, fun s hs => ?_⟩
  · obtain ⟨c, hc, rfl⟩ := List.mem_map.1 hb
    have := h.2 a ha
    have := h1 c (hm c hc)
    omega
  · rcases List.mem_append.1 hs with q | q
    · have := h.2 s q; omega
    · obtain ⟨c, hc, rfl⟩ := List.mem_map.1 q
      have := h1 c (hm c hc)
      omega
theorem seen_parts {s : Int} (h0 : 0 ≤ s) (h1 : s ≤ 100000999) : npB s = true ∧ nnB (npE s) (npK s) = true ∧ nnI (npE s) (npK s) = s := by
  have hn : npB s = true := decide_eq_true ⟨h0, h1⟩
  have e1 : npE s = Int.tdiv s 1000 := by rw [npE, hn, cond_true]
  have e2 : npK s = Int.tmod s 1000 := by rw [npK, hn, cond_true]
  have hb : nnB (npE s) (npK s) = true := by rw [e1, e2, np_nn, hn]
  refine ⟨hn, hb, ?_⟩
  rw [nnI, hb, cond_true, e1, e2, Int.tdiv_eq_ediv_of_nonneg h0, Int.tmod_eq_emod_of_nonneg h0]
  omega
theorem cut_lo {M : Nat → KT} {i j : Nat} (h : j < i) : cutK M i j = M j := if_pos h
theorem cut_hi {M : Nat → KT} {i j : Nat} (h : ¬ j < i) : cutK M i j = M (j + 1) := if_neg h
theorem cut_is (M : Nat → KT) (i j : Nat) : ∃ m, cutK M i j = M m ∧ j ≤ m ∧ m ≤ j + 1 ∧ (j < i → m = j) ∧ (¬ j < i → m = j + 1) := by
  by_cases h : j < i
  · exact ⟨j, cut_lo h, by omega, by omega, fun _ => rfl, fun q => absurd h q⟩
  · exact ⟨j + 1, cut_hi h, by omega, by omega, fun q => absurd q h, fun _ => rfl⟩
theorem cut_asc {ep us : Int} {M : Nat → KT} {n i : Nat} (ht : tOk ep us M n = true) {j k : Nat} (hjk : j < k) (hk : k < n - 1) : (cutK M i j).1 < (cutK M i k).1 := by
  obtain ⟨m, e, h1, h2, h3, h4⟩ := cut_is M i j
  obtain ⟨m', e', h1', h2', h3', h4'⟩ := cut_is M i k
  rw [e, e']
  refine tOk_asc ht m m' ?_ (by omega)
  by_cases a : j < i
  · have := h3 a; omega
  · have := h4 a; have := h4' (by omega); omega
theorem cut_el {ep us : Int} {M : Nat → KT} {n i : Nat} (ht : tOk ep us M n = true) {k : Nat} (hk : k < n - 1) : elB ep us (cutK M i) k = true := by
  have hl : lsB (cutK M i) k = true := by
    cases k with
    | zero => rfl
    | succ k => exact decide_eq_true (cut_asc ht (Nat.lt_succ_self k) hk)
  obtain ⟨m, e, h1, h2, _, _⟩ := cut_is M i k
  have h := tOk_el ht (show m < n by omega)
  simp only [elB, Bool.and_eq_true] at h ⊢
  rw [e]
  exact ⟨⟨h.1.1, hl⟩, h.2⟩
theorem cut_tab {ep us : Int} {M : Nat → KT} {n i : Nat} (h : tabB ep us M n = true) : tabB ep us (cutK M i) (n - 1) = true := by
  have ht := tabB_tOk h
  have h2 := h
  simp only [tabB, Bool.and_eq_true, decide_eq_true_eq] at h2
  exact tabB_ok h2.1.1.1 h2.1.1.2 (by omega) (tOk_all9 fun k hk => cut_el ht hk)
theorem implUse_own (ep us : Int) (base : Nat) (A : Option Addr) (n c : Nat) (M : Nat → KT) (x y Xe Xu : Int) (mm : Nat) (G : Nat → KT) (z0 z1 z2 z3 C1 : Int) (w : World) (hm : n ≤ 900) (O : w.ownsRow base 34 4 (.slice A n c) n (krow M n)) (hw : ∀ i, i < n → (Lit.int .i64 (M i).1).wf = true) (wx : (Lit.int .i64 x).wf = true) (h : UseIs ep us M n x y Xe Xu mm G z0 z1 z2 z3 C1) :
    Calls Try.prog 10 #[.agg #[.int .i64 ep, .int .i64 us, .slice A n c], .int .i64 x, .int .i64 y] w fun e w' => ∃ a' c', e = .returned (.tuple #[.agg #[.int .i64 Xe, .int .i64 Xu, .slice a' mm c'], .agg #[.int .i64 z0, .int .i64 z1, .int .i64 z2, .int .i64 z3], .int .i64 C1]) ∧ w'.ownsRow w.heap.size 34 4 (.slice a' mm c') mm (krow G mm) ∧ Below w.heap.size w w' := by
  have hmx : n ≤ maxLen := by unfold maxLen; omega
  have hs := own_srcK O
  rcases h with ⟨h, rfl, rfl, rfl, rfl, rfl, rfl, rfl, rfl, rfl⟩ | ⟨h, hno, rfl, rfl, rfl, rfl, rfl, rfl, rfl, rfl, rfl⟩ | ⟨h, i, hi, hx, hy, rfl, rfl, rfl, rfl, rfl, rfl, rfl, rfl, rfl⟩ | ⟨h, i, hi, hx, hy, rfl, rfl, rfl, rfl, hM, rfl⟩
  · exact implUse_bad _ _ _ _ c _ x y w hmx hs hw h
  · exact implUse_none _ _ _ _ c _ x y w hmx hs hw wx h ((FA.lk (tOk_asc (tabB_tOk h))).2.2 x hno)
  · obtain ⟨a0, a1, a2, a3, hM⟩ := tupAsk G i
    refine implUse_other _ _ _ _ c _ x y w hmx hs hw wx h a0 a1 a2 a3 ?_ ?_
    · have := lkK_at (tOk_asc (tabB_tOk h)) hi
      rw [hx] at this
      exact this.trans (congrArg some hM)
    · rw [hM] at hy; exact bne_iff_ne.2 hy
  · have e : z1 = y := by rw [hM] at hy; exact hy
    subst e
    exact implUse_done _ _ _ _ c _ x w hmx hs hw wx h z0 z1 z2 z3 i hi hM (by rw [hM] at hx; exact hx)

def MFI (f : Nat → Int) (c : Nat) : Value := .int .i64 (f c)
def gI (L : List Int) (i : Nat) : Int := L.getD i 0
def irow (L : List Int) : List Value := (List.range (L.length * 1)).map (MFI (gI L))
theorem irow_map (L : List Int) : irow L = L.map (Value.int .i64) := by
  apply List.ext_getElem (by simp [irow])
  intro i h1 h2
  have hi : i < L.length := by simpa using h2
  simp [irow, MFI, gI, hi]
theorem irow_snoc (L : List Int) (p : Int) : irow (L ++ [p]) = irow L ++ [.int .i64 p] := by rw [irow_map, irow_map, List.map_append]; rfl
theorem info_int : (Try.prog.info? 3).map (fun i => (i.zero, i.size, i.bytes)) = some (some (.int .i64 0), 1, 8) := by kernel_rfl
theorem int_at (w : World) (p : Int) (T : TypeId) : ∀ j u, [.int .i64 p][j]? = some u → (w.alloc (.cells #[.int .i64 p] T)).cell? ((⟨w.heap.size, 0, none⟩ : Addr).add j) = some u := by
  intro j u h
  match j, h with
  | 0, h => simp at h; subst h; simp [Addr.add]
theorem int_parts : ∃ i : TypeInfo, Try.prog.info? 3 = some i ∧ i.zero = some (.int .i64 0) ∧ i.size = 1 ∧ i.bytes = 8 := by
  obtain ⟨i, hi, hz⟩ := Option.map_eq_some_iff.1 info_int
  simp only [Prod.mk.injEq] at hz
  exact ⟨i, hi, hz.1, hz.2.1, hz.2.2⟩
theorem add_int {w : World} {ops : Array Oper} {rest : List Oper} {o : Oper} {a : Act} {Q : Exit → Act → World → Prop} {p : Int} (hgd : o.guard = none) (s x : Operand)
    (ho : o.op = .call { callee := .builtin .append, args := #[s, x], argTypes := #[27, 27] }) (base : Nat) (L : List Int) (v : Value) (hs : a.eval s = v) (hown : w.ownsRow base 3 1 v L.length (irow L))
    (hx : a.eval x = .slice (some ⟨w.heap.size, 0, none⟩) 1 1) (hL : L.length ≤ 100000) (hbase : base ≤ w.heap.size)
    (h : ∀ v' w', w'.ownsRow base 3 1 v' (L ++ [p]).length (irow (L ++ [p])) → w.grownBy w' v.ownBlock → (∀ g, v'.ownBlock = some g → v.ownBlock = some g ∨ w.heap.size ≤ g) → wpList Try.prog ops Q rest (a.put o.dst v') w') :
    wpList Try.prog ops Q (o :: rest) a (w.alloc (.cells #[.int .i64 p] 3)) := by
  obtain ⟨i0, hi, hz0, hz1, hz2⟩ := int_parts
  refine wpList_append_new hgd s x 27 ho base 3 i0 (.int .i64 0) 1 8 Try.underlying27 hi hz0 hz1 hz2 rfl (by decide) v L.length (irow L) hs (World.ownsRow.alloc hown _) ⟨w.heap.size, 0, none⟩ 1 1 [.int .i64 p] hx rfl (int_at w p 3) (by intro u hu; simp at hu; subst hu; rfl) (by unfold maxLen; omega) (by omega) (by simp; omega) ?_
  intro v' w' h1 h2 h3
  refine h v' w' (by rw [irow_snoc, List.length_append]; exact h1) ?_ (fun g hg => ?_)
  · exact ⟨h2.os, h2.tape, h2.output, Nat.le_trans (by simp) h2.size, fun k hk hne => (h2.block k (by simp; omega) hne).trans ((World.grownBy_alloc w _ none).block k hk (by simp))⟩
  · rcases h3 g hg with q | q
    · exact .inl q
    · exact .inr (by simp at q; omega)
theorem made_int (w : World) : (w.alloc (.cells #[] 3)).ownsRow w.heap.size 3 1 (.slice (some ⟨w.heap.size, 0, none⟩) 0 0) ([] : List Int).length (irow []) := World.ownsRow_made w #[] 0 (Nat.le_refl _) (by simp [maxLen]) (by simp)
theorem own_sliceN {w : World} {base : Nat} {T : TypeId} {s n : Nat} {v : Value} {xs : List Value} (h : w.ownsRow base T s v n xs) : ∃ a c, v = .slice a n c := by
  rcases h.2 with ⟨rfl, h0⟩ | ⟨g, cap, cur, rfl, _⟩
  · exact ⟨none, 0, by rw [h0]⟩
  · exact ⟨_, _, rfl⟩
theorem own_cellI {w : World} {base c : Nat} {S : List Int} {a : Option Addr} (h : w.ownsRow base 3 1 (.slice a S.length c) S.length (irow S)) (hS : 0 < S.length) : ∃ b, a = some ⟨b, 0, none⟩ ∧ b < w.heap.size ∧ ∀ k, k < S.length → w.cell? ⟨b, k, none⟩ = some (.int .i64 (gI S k)) := by
  have hh := h
  rcases h.2 with ⟨_, h0⟩ | ⟨g, cap, cur, he, _, hg, _⟩
  · omega
  simp at he
  obtain ⟨rfl, rfl⟩ := he
  refine ⟨g, rfl, (Array.getElem?_eq_some_iff.1 hg).1, fun k hk => ?_⟩
  have hc := World.ownsRow.cellAt hh k (by omega)
  rw [hc]
  simp [irow, MFI, hk]
theorem own_block {w : World} {base n c : Nat} {A : Option Addr} {M : Nat → KT} (h : w.ownsRow base 34 4 (.slice A n c) n (krow M n)) : ∀ b off s, A = some ⟨b, off, s⟩ → b < w.heap.size := by
  intro b off s e
  rcases h.2 with ⟨he, _⟩ | ⟨g, cap, cur, he, _, hg, _⟩
  · simp at he
    rw [he.1] at e
    cases e
  · simp at he
    rw [he.1] at e
    simp at e
    have := (Array.getElem?_eq_some_iff.1 hg).1
    omega
/- What Issue of a right table comes to, the specification's and the program's. -/
theorem issue_two {ep us : Int} {M : Nat → KT} {n : Nat} {x y : Int} (ht : tabB ep us M n = true) (hx : nodB x = true) (hy : tmB y = true) :
    ∃ (Xu : Int) (mm : Nat) (G : Nat → KT) (C0 C1 : Int), (∀ (w : World) (base : Nat) (A : Option Addr) (c : Nat), w.ownsRow base 34 4 (.slice A n c) n (krow M n) → Calls Try.prog 6 #[.agg #[.int .i64 ep, .int .i64 us, .slice A n c], .int .i64 x, .int .i64 y] w fun e w' => ∃ a' c', e = .returned (.tuple #[.agg #[.int .i64 ep, .int .i64 Xu, .slice a' mm c'], .int .i64 C0, .int .i64 C1]) ∧ w'.ownsRow w.heap.size 34 4 (.slice a' mm c') mm (krow G mm) ∧ Below w.heap.size w w') ∧
      (∀ (w : World) (base : Nat) (A : Option Addr) (c : Nat), w.ownsRow base 34 4 (.slice A n c) n (krow M n) → Calls Try.prog 7 #[.agg #[.int .i64 ep, .int .i64 us, .slice A n c], .int .i64 x, .int .i64 y] w fun e w' => ∃ a' c', e = .returned (.tuple #[.agg #[.int .i64 ep, .int .i64 Xu, .slice a' mm c'], .int .i64 C0, .int .i64 C1]) ∧ w'.ownsRow w.heap.size 34 4 (.slice a' mm c') mm (krow G mm) ∧ Below w.heap.size w w') ∧ tabB ep Xu G mm = true ∧ ((C1 = 0 ∧ C0 = ep * 1000 + us ∧ Xu = us + 1) ∨ ((C1 = 2 ∨ C1 = 3) ∧ Xu = us)) := by
  obtain ⟨_, _, hn, hw⟩ := tab_nums ht
  have hm : n ≤ maxLen := by unfold maxLen; omega
  by_cases hu : us = 1000
  · exact ⟨us, n, M, 0, 2, fun w base A c O => specIssue_spentO ep us A n c M x y w hm (FromsO.own O) ht hx hy hu, fun w base A c O => implIssue_spent ep us A n c M x y w hm (own_srcK O) hw ht hx hy hu, ht, .inr ⟨.inl rfl, rfl⟩⟩
  by_cases h16 : n = 16
  · exact ⟨us, n, M, 0, 3, fun w base A c O => specIssue_fullO ep us A n c M x y w hm (FromsO.own O) ht hx hy hu h16, fun w base A c O => implIssue_full ep us A n c M x y w hm (own_srcK O) hw ht hx hy hu h16, ht, .inr ⟨.inr rfl, rfl⟩⟩
  · exact ⟨us + 1, n + 1, _, ep * 1000 + us, 0, fun w base A c O => specIssue_doneO ep us A n c M x y w hm (FromsO.own O) ht hx hy hu h16 _ rfl, fun w base A c O => implIssue_done ep us A n c M x y w hm (own_srcK O) hw ht hx hy hu h16 _ rfl, tab_issue ht hu h16 hx hy, .inl ⟨rfl, rfl, rfl⟩⟩
/- What Again of a right table comes to. -/
theorem again_two {ep us : Int} {M : Nat → KT} {n : Nat} {x y : Int} (ht : tabB ep us M n = true) (hx : tmB x = true) (hy : tmB y = true) :
    ∃ (U : Int) (TL CL LL : List KT), (∀ (w : World) (base : Nat) (A : Option Addr) (c : Nat), w.ownsRow base 34 4 (.slice A n c) n (krow M n) → Calls Try.prog 9 #[.agg #[.int .i64 ep, .int .i64 us, .slice A n c], .int .i64 x, .int .i64 y] w fun e w' => ∃ a' c' a1 c1 a2 c2, e = .returned (.tuple #[.agg #[.int .i64 ep, .int .i64 U, .slice a' TL.length c'], .slice a1 CL.length c1, .slice a2 LL.length c2]) ∧ w'.ownsRow w.heap.size 34 4 (.slice a' TL.length c') TL.length (krow (rowL TL) TL.length) ∧ w'.ownsRow w.heap.size 34 4 (.slice a1 CL.length c1) CL.length (krow (rowL CL) CL.length) ∧ Below w.heap.size w w') ∧
      (∀ (w : World) (base : Nat) (A : Option Addr) (c : Nat), w.ownsRow base 34 4 (.slice A n c) n (krow M n) → Calls Try.prog 8 #[.agg #[.int .i64 ep, .int .i64 us, .slice A n c], .int .i64 x, .int .i64 y] w fun e w' => ∃ a' c' a1 c1 a2 c2, e = .returned (.tuple #[.agg #[.int .i64 ep, .int .i64 U, .slice a' TL.length c'], .slice a1 CL.length c1, .slice a2 LL.length c2]) ∧ w'.ownsRow w.heap.size 34 4 (.slice a' TL.length c') TL.length (krow (rowL TL) TL.length) ∧ w'.ownsRow w.heap.size 34 4 (.slice a1 CL.length c1) CL.length (krow (rowL CL) CL.length) ∧ Below w.heap.size w w') ∧ tabB ep U (rowL TL) TL.length = true ∧ us ≤ U ∧ U ≤ 1000 ∧ CL.length ≤ 16 ∧ (∀ b, b ∈ CL → ep * 1000 + us ≤ b.1 ∧ b.1 < ep * 1000 + U) ∧ AscK CL := by
  obtain ⟨_, _, hn, hw⟩ := tab_nums ht
  have hm : n ≤ maxLen := by unfold maxLen; omega
  rcases hE : ag ep x us (gon x y (lst M n)) (gon x y (lst M n)).length with ⟨U, CL, LL⟩
  refine ⟨U, kep x y (lst M n) ++ CL, CL, LL, fun w base A c O => ?_, fun w base A c O => ?_, tab_again ht hx hE rfl⟩
  · refine (specAgain_opt ep us A n c M x y w hm (FromsO.own O) ht hx hy (own_block O) U CL LL _ hE rfl).mono ?_
    rintro e w' ⟨a', c', a1, c1, a2, c2, rfl, h1, h2, _, h4⟩
    exact ⟨a', c', a1, c1, a2, c2, rfl, h1, h2, h4⟩
  · refine (implAgain_done ep us A n c M x y w hm (own_srcK O) hw ht hx hy U CL LL _ hE rfl).mono ?_
    rintro e w' ⟨a', c', a1, c1, a2, c2, rfl, h1, h2, _, _, h4⟩
    exact ⟨a', c', a1, c1, a2, c2, rfl, h1, h2, h4⟩
theorem use_one {ep us : Int} {M : Nat → KT} {n : Nat} (x y : Int) (ht : tabB ep us M n = true) (wx : (Lit.int .i64 x).wf = true) :
    ∃ (mm : Nat) (G : Nat → KT) (z0 z1 z2 z3 C1 : Int), (∀ (w : World) (base : Nat) (A : Option Addr) (c : Nat), w.ownsRow base 34 4 (.slice A n c) n (krow M n) → Calls Try.prog 10 #[.agg #[.int .i64 ep, .int .i64 us, .slice A n c], .int .i64 x, .int .i64 y] w fun e w' => ∃ a' c', e = .returned (.tuple #[.agg #[.int .i64 ep, .int .i64 us, .slice a' mm c'], .agg #[.int .i64 z0, .int .i64 z1, .int .i64 z2, .int .i64 z3], .int .i64 C1]) ∧ w'.ownsRow w.heap.size 34 4 (.slice a' mm c') mm (krow G mm) ∧ Below w.heap.size w w') ∧ tabB ep us G mm = true := by
  obtain ⟨_, _, hn, hw⟩ := tab_nums ht
  obtain ⟨Xe, Xu, mm, G, z0, z1, z2, z3, C1, h, _, _⟩ := ansUse ep us M n x y
  have hh := h
  rcases h with ⟨h, _⟩ | ⟨_, _, rfl, rfl, rfl, rfl, _⟩ | ⟨_, i, _, _, _, rfl, rfl, rfl, rfl, _⟩ | ⟨_, i, _, _, _, rfl, rfl, rfl, rfl, _⟩
  · rw [ht] at h; cases h
  · exact ⟨_, _, z0, z1, z2, z3, C1, fun w base A c O => implUse_own Xe Xu base A _ c _ x y Xe Xu _ _ z0 z1 z2 z3 C1 w (by omega) O hw wx hh, ht⟩
  · exact ⟨_, _, z0, z1, z2, z3, C1, fun w base A c O => implUse_own Xe Xu base A _ c _ x y Xe Xu _ _ z0 z1 z2 z3 C1 w (by omega) O hw wx hh, ht⟩
  · exact ⟨_, _, z0, z1, z2, z3, C1, fun w base A c O => implUse_own Xe Xu base A _ c _ x y Xe Xu _ _ z0 z1 z2 z3 C1 w (by omega) O hw wx hh, cut_tab ht⟩
theorem boot_one {ep us : Int} {M : Nat → KT} {n : Nat} (ht : tabB ep us M n = true) (he : ep + 1 ≤ 100000) (w : World) (base : Nat) (A : Option Addr) (c : Nat) (O : w.ownsRow base 34 4 (.slice A n c) n (krow M n)) :
    Calls Try.prog 11 #[.agg #[.int .i64 ep, .int .i64 us, .slice A n c], .int .i64 (ep + 1)] w fun e w' => ∃ a' c', e = .returned (.tuple #[.agg #[.int .i64 (ep + 1), .int .i64 0, .slice a' 0 c'], .int .i64 0]) ∧ w'.ownsRow w.heap.size 34 4 (.slice a' 0 c') 0 (krow M 0) ∧ Below w.heap.size w w' := by
  obtain ⟨h1, _, hn, hw⟩ := tab_nums ht
  have hr : rbB ep us M n (ep + 1) = true := by
    have a1 : decide (1 ≤ ep + 1 ∧ ep + 1 ≤ 100000) = true := decide_eq_true (by omega)
    have a2 : decide (ep < ep + 1) = true := decide_eq_true (by omega)
    rw [rbB, ht, a1, a2]; rfl
  have := implReboot_any ep us A n c M (ep + 1) w (by unfold maxLen; omega) (own_srcK O) hw
  rw [(rb_yes hr).1, (rb_yes hr).2] at this
  exact this
/- The state of the law: the table in its box, its asks, and what was issued, in rows of one's own, apart. -/
def Ns (w : World) (ep us : Int) (M : Nat → KT) (n : Nat) (S : List Int) (vs : Value) (wr : World) : Prop :=
  ∃ a c, Bx3 wr w.heap.size (.int .i64 ep) (.int .i64 us) (.slice a n c) ∧ wr.ownsRow (w.heap.size + 1) 34 4 (.slice a n c) n (krow M n) ∧ wr.ownsRow (w.heap.size + 1) 3 1 vs S.length (irow S) ∧ Ap (.slice a n c) vs ∧ Below w.heap.size w wr
theorem Ns.below {w : World} {ep us : Int} {M : Nat → KT} {n : Nat} {S : List Int} {vs : Value} {wr wr' : World} (h : Ns w ep us M n S vs wr) (hb : Below wr.heap.size wr wr') : Ns w ep us M n S vs wr' := by
  obtain ⟨a, c, h1, h2, h3, h4, h5⟩ := h
  exact ⟨a, c, h1.below hb, own_belK' h2 hb, own_belK' h3 hb, h4, h5.trans (hb.mono h5.size)⟩
theorem Ns.drew {w : World} {ep us : Int} {M : Nat → KT} {n : Nat} {S : List Int} {vs : Value} {wr : World} (h : Ns w ep us M n S vs wr) : Ns w ep us M n S vs wr.drew := by
  obtain ⟨a, c, h1, h2, h3, h4, h5⟩ := h
  exact ⟨a, c, h1, h2, h3, h4, Below.drew h5⟩
theorem Ns.bw {w : World} {ep us : Int} {M : Nat → KT} {n : Nat} {S : List Int} {vs : Value} {wr : World} (h : Ns w ep us M n S vs wr) : Below w.heap.size w wr := by
  obtain ⟨_, _, _, _, _, _, h5⟩ := h
  exact h5
theorem Ns.seen {w : World} {ep us : Int} {M : Nat → KT} {n : Nat} {S : List Int} {vs : Value} {wr : World} (h : Ns w ep us M n S vs wr) : wr.ownsRow (w.heap.size + 1) 3 1 vs S.length (irow S) := by
  obtain ⟨_, _, _, _, h3, _, _⟩ := h
  exact h3
/- A row made behind what is here is apart from what was issued. -/
theorem Ns.ap {w : World} {ep us : Int} {M : Nat → KT} {n : Nat} {S : List Int} {vs : Value} {wr w' : World} (h : Ns w ep us M n S vs wr) {B s m : Nat} {T : TypeId} {v : Value} {xs : List Value} (O : w'.ownsRow B T s v m xs) (hB : wr.heap.size ≤ B) : Ap v vs := fun g hg e => by
  have h1 := (World.ownsRow.lt O g hg).1
  have h2 := (World.ownsRow.lt h.seen g e).2
  omega
theorem Ns.set {w : World} {ep us : Int} {M : Nat → KT} {n : Nat} {S : List Int} {vs : Value} {wr : World} (h : Ns w ep us M n S vs wr) {Xe Xu : Int} {G : Nat → KT} {mm c' B : Nat} {a' : Option Addr} (O : wr.ownsRow B 34 4 (.slice a' mm c') mm (krow G mm)) (hB : w.heap.size + 1 ≤ B) (hap : Ap (.slice a' mm c') vs) :
    Ns w Xe Xu G mm S vs (((wr.setCell ⟨w.heap.size, 0, none⟩ (.int .i64 Xe)).setCell ⟨w.heap.size, 1, none⟩ (.int .i64 Xu)).setCell ⟨w.heap.size, 2, none⟩ (.slice a' mm c')) := by
  obtain ⟨a, c, h1, h2, h3, h4, h5⟩ := h
  have hb := put3_butK wr w.heap.size (.int .i64 Xe) (.int .i64 Xu) (.slice a' mm c')
  exact ⟨a', c', h1.set _ _ _, ownK_le (base' := w.heap.size + 1) (own_butK O hb (by omega)) hB, own_butK h3 hb (by omega), hap, h5.trans (hb.below (B := w.heap.size) (Nat.le_refl _) h5.size)⟩
theorem Ns.add {w : World} {ep us : Int} {M : Nat → KT} {n : Nat} {S S' : List Int} {vs v' : Value} {wr w9 : World} (h : Ns w ep us M n S vs wr) (O9 : w9.ownsRow (w.heap.size + 1) 3 1 v' S'.length (irow S')) (hg : wr.grownBy w9 vs.ownBlock) (hn : ∀ g, v'.ownBlock = some g → vs.ownBlock = some g ∨ wr.heap.size ≤ g) : Ns w ep us M n S' v' w9 := by
  obtain ⟨a, c, h1, h2, h3, h4, h5⟩ := h
  have hne : some w.heap.size ≠ vs.ownBlock := fun e => by have := (World.ownsRow.lt h3 _ e.symm).1; omega
  have hs : w.heap.size + 1 ≤ wr.heap.size := h1.1
  refine ⟨a, c, h1.kept3 hg hne, World.ownsRow.kept h2 hg ?_, O9, fun g q e => ?_, h5.trans ((grown_belowK h3 hg hs).mono (Nat.le_succ _))⟩
  · cases hq : (Value.slice a n c).ownBlock with
    | none => exact .inl rfl
    | some g => exact .inr fun e => h4 g hq e.symm
  · rcases hn g e with r | r
    · exact h4 g q r
    · have := (World.ownsRow.lt h2 g q).2; omega
/- Another row that the growth of what was issued leaves as it is. -/
theorem kept_seen {w w9 : World} {B s m : Nat} {T : TypeId} {v vs v' : Value} {xs : List Value} (O : w.ownsRow B T s v m xs) (hap : Ap v vs) (hg : w.grownBy w9 vs.ownBlock) (hn : ∀ g, v'.ownBlock = some g → vs.ownBlock = some g ∨ w.heap.size ≤ g) : w9.ownsRow B T s v m xs ∧ Ap v v' := by
  refine ⟨World.ownsRow.kept O hg ?_, fun g q e => ?_⟩
  · cases hq : v.ownBlock with
    | none => exact .inl rfl
    | some g => exact .inr fun e => hap g hq e.symm
  · rcases hn g e with r | r
    · exact hap g q r
    · have := (World.ownsRow.lt O g q).2; omega
end Go.Proofs.Ytlaladalnbdhpaa
