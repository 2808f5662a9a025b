/- Asks by their nonces: a map, told by a function of the nonce; what lies in it, ascending. -/
import Derived.Maps.OwnSet
import Derived.Lib.SlKeysI
import Derived.Test.YtgempaoamamaeaaGreatM18
namespace Go.Proofs.YtgempaoamamaeaaGreat
open Go.RowKit
set_option linter.unusedVariables false
def kv (M : KT) : Value := .agg #[.int .i64 M.1, .int .i64 M.2.1, .int .i64 M.2.2.1, .int .i64 M.2.2.2]
def R0k (v : Value) : Option (DataW Value × List MemPlace) := some (.held v, [])
def atK (o : Option KT) (z : DataW Value) : DataW Value := match o with | some M => .held (kv M) | none => z
def MapK (w : World) (b n : Nat) (F : Int → Option KT) : Prop := ∃ D : DataW Value, w.ownsMap Tryz.prog 3 R0k b n D ∧ ∀ x, (∀ z, D.atKey (.int .i64 x) z = atK (F x) z) ∧ Maps.has D (.int .i64 x) = (F x).isSome
theorem lawKk : Maps.Keyed Tryz.prog 3 := Maps.int_keyed Tryz.underlying3
theorem zeroAk (w : World) : (zeroValue 125).run Tryz.prog w = .ok (kv zK) w := by kernel_rfl
theorem run_mkmapK (n : Nat) (w : World) : (Instr.makeMap 230 (some (.int .i64 (n : Int)))).run Tryz.prog w = .ok (.map (some w.heap.size)) (w.alloc (.map #[] 0)) := by
  first | kernel_rfl | rfl | (simp [Instr.makeMap, go_sem]; done) | (simp [Instr.makeMap]; done)
theorem MapK.made (w : World) : MapK (w.alloc (.map #[] 0)) w.heap.size 0 (fun _ => none) := ⟨.map [], World.ownsMap_made w _ _ _, fun x => ⟨fun z => rfl, rfl⟩⟩
theorem MapK.kept {w w' : World} {b n : Nat} {F : Int → Option KT} (h : MapK w b n F) {row : Option Nat} (hg : w.grownBy w' row) (hne : some b ≠ row) : MapK w' b n F := by
  obtain ⟨D, h1, h2⟩ := h
  exact ⟨D, h1.kept hg hne, h2⟩
theorem MapK.lt {w : World} {b n : Nat} {F : Int → Option KT} (h : MapK w b n F) : b < w.heap.size := by
  obtain ⟨D, h1, h2⟩ := h
  exact h1.lt
theorem MapK.below {w w' : World} {b n : Nat} {F : Int → Option KT} (h : MapK w b n F) (hb : Below w.heap.size w w') : MapK w' b n F :=
  h.kept (row := none) ⟨hb.os, hb.tape, hb.output, hb.size, fun k hk _ => hb.block k hk⟩ (by simp)
theorem MapK.setCell {w : World} {b n : Nat} {F : Int → Option KT} (h : MapK w b n F) {a : Addr} (ha : b ≠ a.block) (u : Value) : MapK (w.setCell a u) b n F := by
  obtain ⟨D, h1, h2⟩ := h
  exact ⟨D, h1.setCell ha u, h2⟩
theorem MapK.congr {w : World} {b n : Nat} {F G : Int → Option KT} (h : MapK w b n F) (e : ∀ x, F x = G x) : MapK w b n G := by
  obtain ⟨D, h1, h2⟩ := h
  exact ⟨D, h1, fun x => by rw [← e x]; exact h2 x⟩
theorem held_injK {o : Option KT} {v : Value} {ps : List MemPlace} (h : R0k v = some (atK o (.held (kv zK)), ps)) : v = kv (o.getD zK) := by
  unfold R0k at h
  simp only [Option.some.injEq, Prod.mk.injEq] at h
  cases o with
  | none => simp only [atK, DataW.held.injEq] at h; exact h.1
  | some M => simp only [atK, DataW.held.injEq] at h; exact h.1
theorem MapK.look {w : World} {b n : Nat} {F : Int → Option KT} (h : MapK w b n F) {x : Int} (hx : (Lit.int .i64 x).wf = true) : (Instr.lookup 230 (.map (some b)) (.int .i64 x) false).run Tryz.prog w = .ok (kv ((F x).getD zK)) w := by
  obtain ⟨D, h1, h2⟩ := h
  obtain ⟨v, ps, hrun, hv⟩ := h1.lookup (t := 230) (e := 125) lawKk Tryz.underlying230 (zeroAk w) (zd := .held (kv zK)) (zp := []) rfl (Maps.keyOf_int_mk Tryz.underlying3 hx)
  rw [(h2 x).1] at hv
  rw [hrun, held_injK hv]
theorem lit_neK {x y : Int} (h : x ≠ y) : (Lit.int .i64 x) ≠ (Lit.int .i64 y) := fun e => h (by injection e)
theorem MapK.put {w : World} {b n : Nat} {F : Int → Option KT} (h : MapK w b n F) {x : Int} (hx : (Lit.int .i64 x).wf = true) (hn : n < maxLen) (M : KT) :
    ∃ w', (Instr.mapUpdate 230 (.map (some b)) (.int .i64 x) (kv M)).run Tryz.prog w = .ok () w' ∧ MapK w' b (n + 1) (fun y => if y = x then some M else F y) ∧ w.grownBy w' (some b) := by
  obtain ⟨D, h1, h2⟩ := h
  have hD := h1.isMap
  obtain ⟨w', hrun, ho, hg⟩ := h1.update (t := 230) (e := 125) lawKk Tryz.underlying230 hn (key := .int .i64 x) (val := kv M) (d := .held (kv M)) (ps := []) (Maps.keyOf_int_mk Tryz.underlying3 hx) rfl
  refine ⟨w', hrun, ⟨_, ho, fun y => ?_⟩, hg⟩
  by_cases e : y = x
  · subst e
    simp only [if_true]
    exact ⟨fun z => Maps.atKey_put_same hD (show WideAt.IsKeyLit (.int .i64 y) from trivial) _ _, Maps.has_put_same hD (show WideAt.IsKeyLit (.int .i64 y) from trivial) _⟩
  · simp only [if_neg e]
    exact ⟨fun z => (Maps.atKey_put_other (lit_neK e) _ _).trans ((h2 y).1 z), (Maps.has_put_other (lit_neK e) _).trans (h2 y).2⟩
theorem But.oneK (w : World) (q o : Nat) (u : Value) : But q w (w.setCell ⟨q, o, none⟩ u) := (But.refl q w).setCell o u
theorem MapK.but {w w' : World} {b n q : Nat} {F : Int → Option KT} (h : MapK w b n F) (hb : But q w w') (hq : b ≠ q) : MapK w' b n F := h.kept hb.grK (by simpa using hq)
theorem MapK.drew {w : World} {b n : Nat} {F : Int → Option KT} (h : MapK w b n F) : MapK w.drew b n F := h
def vI : Value → Int | .int _ q => q | _ => 0
def lkK (M : Nat → KT) : Nat → Int → Option KT
  | 0, _ => none
  | k + 1, x => if (M k).1 = x then some (M k) else lkK M k x
theorem lkK_some {M : Nat → KT} {x : Int} : ∀ {k : Nat}, (lkK M k x).isSome = true ↔ ∃ j, j < k ∧ (M j).1 = x
  | 0 => by simp [lkK]
  | k + 1 => by
    rw [lkK]
    by_cases h : (M k).1 = x
    · rw [if_pos h]; simp; exact ⟨k, by omega, h⟩
    · rw [if_neg h, lkK_some]
      constructor
      · rintro ⟨j, hj, e⟩; exact ⟨j, by omega, e⟩
      · rintro ⟨j, hj, e⟩
        exact ⟨j, by rcases Nat.lt_succ_iff_lt_or_eq.1 hj with q | q; exact q; subst q; exact absurd e h, e⟩
theorem lkK_step {M : Nat → KT} {k : Nat} {x0 : Int} (e : (M k).1 = x0) (y : Int) : lkK M (k + 1) y = if y = x0 then some (M k) else lkK M k y := by
  rw [lkK]
  by_cases h : y = x0
  · rw [if_pos h, if_pos (e.trans h.symm)]
  · rw [if_neg h, if_neg (fun q => h (q.symm.trans e))]
def Asc (A : Nat → KT) (m : Nat) : Prop := ∀ i j, i < j → j < m → (A i).1 < (A j).1
theorem lkK_at {A : Nat → KT} : ∀ {m : Nat}, Asc A m → ∀ {j : Nat}, j < m → lkK A m (A j).1 = some (A j)
  | 0, _, j, h => absurd h (Nat.not_lt_zero _)
  | m + 1, ha, j, h => by
    rw [lkK]
    by_cases e : j = m
    · subst e; rw [if_pos rfl]
    · rw [if_neg (by have := ha j m (by omega) (by omega); omega)]
      exact lkK_at (fun a b h1 h2 => ha a b h1 (by omega)) (by omega)
def FA (F : Int → Option KT) (A : Nat → KT) (m : Nat) : Prop := Asc A m ∧ (∀ j, j < m → F (A j).1 = some (A j)) ∧ ∀ x, (∀ j, j < m → (A j).1 ≠ x) → F x = none
theorem FA.has {F : Int → Option KT} {A : Nat → KT} {m : Nat} (h : FA F A m) (x : Int) : (F x).isSome = true ↔ ∃ j, j < m ∧ (A j).1 = x := by
  constructor
  · intro hx
    by_cases he : ∃ j, j < m ∧ (A j).1 = x
    · exact he
    · rw [h.2.2 x (fun j hj e => he ⟨j, hj, e⟩)] at hx; cases hx
  · rintro ⟨j, hj, rfl⟩; rw [h.2.1 j hj]; rfl
theorem FA.lk {A : Nat → KT} {m : Nat} (h : Asc A m) : FA (lkK A m) A m := ⟨h, fun j hj => lkK_at h hj, fun x hx => by
  cases e : lkK A m x with
  | none => rfl
  | some v =>
    obtain ⟨j, hj, q⟩ := lkK_some.1 (by rw [e]; rfl : (lkK A m x).isSome = true)
    exact absurd q (hx j hj)⟩
def nzs (A : Nat → KT) (m : Nat) : List Int := (List.range m).map fun j => (A j).1
theorem nzs_mem {A : Nat → KT} {m : Nat} {x : Int} : x ∈ nzs A m ↔ ∃ j, j < m ∧ (A j).1 = x := by simp [nzs]
theorem nzs_asc {A : Nat → KT} {m : Nat} (h : Asc A m) : (nzs A m).Pairwise (· < ·) := by
  rw [nzs, List.pairwise_map]
  exact List.Pairwise.imp_of_mem (fun {a b} ha hb hab => h a b hab (List.mem_range.1 hb)) List.pairwise_lt_range
theorem MapK.keys {w : World} {b n m : Nat} {F : Int → Option KT} {A : Nat → KT} (h : MapK w b n F) (hF : FA F A m) : ∃ D : DataW Value, w.ownsMap Tryz.prog 3 R0k b n D ∧ (nzs A m).Perm (intKeys D) ∧ Maps.size D = m := by
  obtain ⟨D, h1, h2⟩ := h
  have hp : (nzs A m).Perm (intKeys D) := CollectedI.perm (left := fun _ => false) ⟨List.Pairwise.imp (fun hab => Int.ne_of_lt hab) (nzs_asc hF.1), fun x => by rw [nzs_mem, (h2 x).2, hF.has x]; simp⟩ h1 lawKk Tryz.underlying3 (fun _ => rfl)
  refine ⟨D, h1, hp, ?_⟩
  have hl := hp.length_eq
  obtain ⟨es, hD, _⟩ := h1.keysOf
  subst hD
  simp [nzs, intKeys] at hl
  simp [Maps.size]
  omega
theorem sorted_nzs {A : Nat → KT} {m : Nat} (h : Asc A m) {ss : List Int} {l : List Int} (hs : ss.Perm l) (hl : (nzs A m).Perm l) : ss.mergeSort (fun x y => decide (x ≤ y)) = nzs A m := by
  have e1 := mergeSort_of_perm_i (hs.trans hl.symm)
  refine e1.trans ?_
  have tr : ∀ a b c : Int, leI a b = true → leI b c = true → leI a c = true := fun a b c h1 h2 => by simp only [leI, decide_eq_true_eq] at *; exact Int.le_trans h1 h2
  have tuu' : ∀ a b : Int, (leI a b || leI b a) = true := fun a b => by simp only [leI, Bool.or_eq_true, decide_eq_true_eq]; exact Int.le_total a b
  refine List.Perm.eq_of_pairwise (le := fun a b => leI a b = true) (fun a b _ _ h1 h2 => ?_) (List.pairwise_mergeSort tr tuu' _) (List.Pairwise.imp (fun {a b} hab => by simp only [leI, decide_eq_true_eq]; exact Int.le_of_lt hab) (nzs_asc h)) (List.mergeSort_perm _ leI)
  simp only [leI, decide_eq_true_eq] at h1 h2
  exact Int.le_antisymm h1 h2
theorem MapK.len {w : World} {b n m : Nat} {F : Int → Option KT} {A : Nat → KT} (h : MapK w b n F) (hF : FA F A m) (ty : TypeId) : (Builtin.len_ #[230] ty #[.map (some b)]).run Tryz.prog w = .ok (.int .i64 (m : Int)) w := by
  obtain ⟨D, h1, _, h3⟩ := h.keys hF
  have := h1.len (t := 230) (e := 125) Tryz.underlying230 ty
  rw [h3] at this
  exact this
end Go.Proofs.YtgempaoamamaeaaGreat
