/- Asks by their nonces: a map, told by a function of the nonce; what lies in it, ascending. -/
import Derived.Test.YtlaladalnbdhpaaA4
import Derived.Maps.OwnSet
import Derived.Lib.SlKeysI
import Derived.WalkKit
import Derived.WalkSpells
import Derived.WalkLawsBesides
import Derived.Deep.RegionHeld
namespace Go.Proofs.Ytlaladalnbdhpaa
open Go.RowKit
set_option linter.unusedVariables false
def kv (M : KT) : Value := .agg #[.int .i64 M.1, .int .i64 M.2.1, .int .i64 M.2.2.1, .int .i64 M.2.2.2]
def R0k (v : Value) : Option (DataW Value × List MemPlace) := some (.held v, [])
def atK (o : Option KT) (z : DataW Value) : DataW Value := match o with | some M => .held (kv M) | none => z
def MapK (w : World) (b n : Nat) (F : Int → Option KT) : Prop := ∃ D : DataW Value, w.ownsMap Try.prog 3 R0k b n D ∧ ∀ x, (∀ z, D.atKey (.int .i64 x) z = atK (F x) z) ∧ Maps.has D (.int .i64 x) = (F x).isSome
theorem lawKk : Maps.Keyed Try.prog 3 := Maps.int_keyed Try.underlying3
theorem zeroAk (w : World) : (zeroValue 34).run Try.prog w = .ok (kv zK) w := by kernel_rfl
theorem run_mkmapK (n : Nat) (w : World) : (Instr.makeMap 48 (some (.int .i64 (n : Int)))).run Try.prog w = .ok (.map (some w.heap.size)) (w.alloc (.map #[] 0)) := by
  first | kernel_rfl | rfl | (simp [Instr.makeMap, go_sem]; done) | (simp [Instr.makeMap]; done)
theorem MapK.made (w : World) : MapK (w.alloc (.map #[] 0)) w.heap.size 0 (fun _ => none) := ⟨.map [], World.ownsMap_made w _ _ _, fun x => ⟨fun z => rfl, rfl⟩⟩
theorem MapK.kept {w w' : World} {b n : Nat} {F : Int → Option KT} (h : MapK w b n F) {row : Option Nat} (hg : w.grownBy w' row) (hne : some b ≠ row) : MapK w' b n F := by
  obtain ⟨D, h1, h2⟩ := h
  exact ⟨D, h1.kept hg hne, h2⟩
theorem MapK.lt {w : World} {b n : Nat} {F : Int → Option KT} (h : MapK w b n F) : b < w.heap.size := by
  obtain ⟨D, h1, h2⟩ := h
  exact h1.lt
theorem MapK.below {w w' : World} {b n : Nat} {F : Int → Option KT} (h : MapK w b n F) (hb : Below w.heap.size w w') : MapK w' b n F :=
  h.kept (row := none) ⟨hb.os, hb.tape, hb.output, hb.size, fun k hk _ => hb.block k hk⟩ (by simp)
theorem MapK.setCell {w : World} {b n : Nat} {F : Int → Option KT} (h : MapK w b n F) {a : Addr} (ha : b ≠ a.block) (u : Value) : MapK (w.setCell a u) b n F := by
  obtain ⟨D, h1, h2⟩ := h
  exact ⟨D, h1.setCell ha u, h2⟩
theorem MapK.congr {w : World} {b n : Nat} {F G : Int → Option KT} (h : MapK w b n F) (e : ∀ x, F x = G x) : MapK w b n G := by
  obtain ⟨D, h1, h2⟩ := h
  exact ⟨D, h1, fun x => by rw [← e x]; exact h2 x⟩
theorem held_injK {o : Option KT} {v : Value} {ps : List MemPlace} (h : R0k v = some (atK o (.held (kv zK)), ps)) : v = kv (o.getD zK) := by
  unfold R0k at h
  simp only [Option.some.injEq, Prod.mk.injEq] at h
  cases o with
  | none => simp only [atK, DataW.held.injEq] at h; exact h.1
  | some M => simp only [atK, DataW.held.injEq] at h; exact h.1
theorem MapK.look_ok {w : World} {b n : Nat} {F : Int → Option KT} (h : MapK w b n F) {x : Int} (hx : (Lit.int .i64 x).wf = true) : (Instr.lookup 48 (.map (some b)) (.int .i64 x) true).run Try.prog w = .ok (.tuple #[kv ((F x).getD zK), .bool (F x).isSome]) w := by
  obtain ⟨D, h1, h2⟩ := h
  obtain ⟨v, ps, hrun, hv⟩ := h1.look_ok (t := 48) (e := 34) lawKk Try.underlying48 (zeroAk w) (zd := .held (kv zK)) (zp := []) rfl (Maps.keyOf_int_mk Try.underlying3 hx)
  rw [(h2 x).1] at hv
  rw [hrun, held_injK hv, (h2 x).2]
theorem MapK.look {w : World} {b n : Nat} {F : Int → Option KT} (h : MapK w b n F) {x : Int} (hx : (Lit.int .i64 x).wf = true) : (Instr.lookup 48 (.map (some b)) (.int .i64 x) false).run Try.prog w = .ok (kv ((F x).getD zK)) w := by
  obtain ⟨D, h1, h2⟩ := h
  obtain ⟨v, ps, hrun, hv⟩ := h1.lookup (t := 48) (e := 34) lawKk Try.underlying48 (zeroAk w) (zd := .held (kv zK)) (zp := []) rfl (Maps.keyOf_int_mk Try.underlying3 hx)
  rw [(h2 x).1] at hv
  rw [hrun, held_injK hv]
theorem lit_neK {x y : Int} (h : x ≠ y) : (Lit.int .i64 x) ≠ (Lit.int .i64 y) := fun e => h (by injection e)
theorem MapK.put {w : World} {b n : Nat} {F : Int → Option KT} (h : MapK w b n F) {x : Int} (hx : (Lit.int .i64 x).wf = true) (hn : n < maxLen) (M : KT) :
    ∃ w', (Instr.mapUpdate 48 (.map (some b)) (.int .i64 x) (kv M)).run Try.prog w = .ok () w' ∧ MapK w' b (n + 1) (fun y => if y = x then some M else F y) ∧ w.grownBy w' (some b) := by
  obtain ⟨D, h1, h2⟩ := h
  have hD := h1.isMap
  obtain ⟨w', hrun, ho, hg⟩ := h1.update (t := 48) (e := 34) lawKk Try.underlying48 hn (key := .int .i64 x) (val := kv M) (d := .held (kv M)) (ps := []) (Maps.keyOf_int_mk Try.underlying3 hx) rfl
  refine ⟨w', hrun, ⟨_, ho, fun y => ?_⟩, hg⟩
  by_cases e : y = x
  · subst e
    simp only [if_true]
    exact ⟨fun z => Maps.atKey_put_same hD (show WideAt.IsKeyLit (.int .i64 y) from trivial) _ _, Maps.has_put_same hD (show WideAt.IsKeyLit (.int .i64 y) from trivial) _⟩
  · simp only [if_neg e]
    exact ⟨fun z => (Maps.atKey_put_other (lit_neK e) _ _).trans ((h2 y).1 z), (Maps.has_put_other (lit_neK e) _).trans (h2 y).2⟩
theorem MapK.del {w : World} {b n : Nat} {F : Int → Option KT} (h : MapK w b n F) {x : Int} (hx : (Lit.int .i64 x).wf = true) (ty : TypeId) :
    ∃ w', (Builtin.delete_ #[48, 3] ty #[.map (some b), .int .i64 x]).run Try.prog w = .ok (.tuple #[]) w' ∧ MapK w' b n (fun y => if y = x then none else F y) ∧ w.grownBy w' (some b) := by
  obtain ⟨D, h1, h2⟩ := h
  obtain ⟨w', hrun, ho, hg⟩ := h1.drop (t := 48) (e := 34) lawKk Try.underlying48 (Maps.keyOf_int_mk Try.underlying3 hx) ty
  refine ⟨w', hrun, ⟨_, ho, fun y => ?_⟩, hg.grown⟩
  by_cases e : y = x
  · subst e
    simp only [if_true]
    exact ⟨fun z => Maps.atKey_del_same z, Maps.has_del_same⟩
  · simp only [if_neg e]
    exact ⟨fun z => (Maps.atKey_del_other (lit_neK e) _).trans ((h2 y).1 z), (Maps.has_del_other (lit_neK e)).trans (h2 y).2⟩

theorem But.oneK (w : World) (q o : Nat) (u : Value) : But q w (w.setCell ⟨q, o, none⟩ u) := (But.refl q w).setCell o u
theorem But.ofGrownK {w w' : World} {q : Nat} (h : w.grownBy w' (some q)) : But q w w' := ⟨h.os, h.tape, h.output, h.size, fun k hk hq => h.block k hk (fun e => hq (by simpa using e))⟩
theorem But.grK {w w' : World} {q : Nat} (h : But q w w') : w.grownBy w' (some q) := ⟨h.1, h.2.1, h.2.2.1, h.2.2.2.1, fun k hk hp => h.2.2.2.2 k hk (fun e => hp (by rw [e]))⟩
theorem MapK.but {w w' : World} {b n q : Nat} {F : Int → Option KT} (h : MapK w b n F) (hb : But q w w') (hq : b ≠ q) : MapK w' b n F := h.kept hb.grK (by simpa using hq)
theorem MapK.drew {w : World} {b n : Nat} {F : Int → Option KT} (h : MapK w b n F) : MapK w.drew b n F := h
theorem RowF.butK {w w' : World} {b N m q : Nat} {T : TypeId} {F : Nat → Value} (h : RowF w b T N m F) (hb : But q w w') (hq : b ≠ q) : RowF w' b T N m F := by
  obtain ⟨g, hr, hg⟩ := h
  exact ⟨g, hr.of_block (hb.2.2.2.2 b hr.lt hq), hg⟩
def vI : Value → Int | .int _ q => q | _ => 0
/- A block of three cells. -/
def Bx3 (w : World) (j : Nat) (u0 u1 u2 : Value) : Prop := j < w.heap.size ∧ w.cell? ⟨j, 0, none⟩ = some u0 ∧ w.cell? ⟨j, 1, none⟩ = some u1 ∧ w.cell? ⟨j, 2, none⟩ = some u2 ∧ w.frozen? ⟨j, 0, none⟩ = false ∧ w.frozen? ⟨j, 1, none⟩ = false ∧ w.frozen? ⟨j, 2, none⟩ = false
theorem Bx3.below {w w' : World} {j : Nat} {u0 u1 u2 : Value} (h : Bx3 w j u0 u1 u2) (hb : Below w.heap.size w w') : Bx3 w' j u0 u1 u2 := by
  obtain ⟨h0, h1, h2, h3, h4, h5, h6⟩ := h
  exact ⟨Nat.lt_of_lt_of_le h0 hb.size, by rw [hb.cell (p := ⟨j, 0, none⟩) h0]; exact h1, by rw [hb.cell (p := ⟨j, 1, none⟩) h0]; exact h2, by rw [hb.cell (p := ⟨j, 2, none⟩) h0]; exact h3, by rw [hb.frozen (p := ⟨j, 0, none⟩) h0]; exact h4, by rw [hb.frozen (p := ⟨j, 1, none⟩) h0]; exact h5, by rw [hb.frozen (p := ⟨j, 2, none⟩) h0]; exact h6⟩
theorem Bx3.but {w w' : World} {j q : Nat} {u0 u1 u2 : Value} (h : Bx3 w j u0 u1 u2) (hb : But q w w') (hq : j ≠ q) : Bx3 w' j u0 u1 u2 := by
  obtain ⟨h0, h1, h2, h3, h4, h5, h6⟩ := h
  exact ⟨Nat.lt_of_lt_of_le h0 hb.2.2.2.1, by rw [hb.cell h0 hq]; exact h1, by rw [hb.cell h0 hq]; exact h2, by rw [hb.cell h0 hq]; exact h3, by rw [hb.frozen h0 hq]; exact h4, by rw [hb.frozen h0 hq]; exact h5, by rw [hb.frozen h0 hq]; exact h6⟩
theorem Bx3.drew {w : World} {j : Nat} {u0 u1 u2 : Value} (h : Bx3 w j u0 u1 u2) : Bx3 w.drew j u0 u1 u2 := h
theorem Bx3.new (w : World) (u0 u1 u2 : Value) (T : TypeId) : Bx3 (w.alloc (.cells #[u0, u1, u2] T)) w.heap.size u0 u1 u2 := ⟨by simp, by simp, by simp, by simp, by simp, by simp, by simp⟩
theorem Bx3.set {w : World} {j : Nat} {u0 u1 u2 : Value} (h : Bx3 w j u0 u1 u2) (a0 a1 a2 : Value) : Bx3 (((w.setCell ⟨j, 0, none⟩ a0).setCell ⟨j, 1, none⟩ a1).setCell ⟨j, 2, none⟩ a2) j a0 a1 a2 := by
  obtain ⟨h0, h1, h2, h3, h4, h5, h6⟩ := h
  have e1 : (w.setCell ⟨j, 0, none⟩ a0).cell? ⟨j, 1, none⟩ = some u1 := (World.cell?_setCell_other _ _ _ _ (by simp)).trans h2
  have e2 : ((w.setCell ⟨j, 0, none⟩ a0).setCell ⟨j, 1, none⟩ a1).cell? ⟨j, 2, none⟩ = some u2 := (World.cell?_setCell_other _ _ _ _ (by simp)).trans ((World.cell?_setCell_other _ _ _ _ (by simp)).trans h3)
  refine ⟨by simpa using h0, ?_, ?_, World.cell?_setCell_same _ _ _ e2, by simpa using h4, by simpa using h5, by simpa using h6⟩
  · exact (World.cell?_setCell_other _ _ _ _ (by simp)).trans ((World.cell?_setCell_other _ _ _ _ (by simp)).trans (World.cell?_setCell_same _ _ _ h1))
  · exact (World.cell?_setCell_other _ _ _ _ (by simp)).trans (World.cell?_setCell_same _ _ _ e1)
theorem Bx3.set1 {w : World} {j : Nat} {u0 u1 u2 : Value} (h : Bx3 w j u0 u1 u2) (a1 : Value) : Bx3 (w.setCell ⟨j, 1, none⟩ a1) j u0 a1 u2 := by
  obtain ⟨h0, h1, h2, h3, h4, h5, h6⟩ := h
  exact ⟨by simpa using h0, (World.cell?_setCell_other _ _ _ _ (by simp)).trans h1, World.cell?_setCell_same _ _ _ h2, (World.cell?_setCell_other _ _ _ _ (by simp)).trans h3, by simpa using h4, by simpa using h5, by simpa using h6⟩
theorem Bx3.set2 {w : World} {j : Nat} {u0 u1 u2 : Value} (h : Bx3 w j u0 u1 u2) (a2 : Value) : Bx3 (w.setCell ⟨j, 2, none⟩ a2) j u0 u1 a2 := by
  obtain ⟨h0, h1, h2, h3, h4, h5, h6⟩ := h
  exact ⟨by simpa using h0, (World.cell?_setCell_other _ _ _ _ (by simp)).trans h1, (World.cell?_setCell_other _ _ _ _ (by simp)).trans h2, World.cell?_setCell_same _ _ _ h3, by simpa using h4, by simpa using h5, by simpa using h6⟩
theorem Bx3.ib {w : World} {j : Nat} {ep us : Int} {a : Option Addr} {n c : Nat} (h : Bx3 w j (.int .i64 ep) (.int .i64 us) (.slice a n c)) : IB3 w j ep us a n c := ⟨h.1, h.2.1, h.2.2.1, h.2.2.2.1⟩
theorem put3_butK (w : World) (j : Nat) (a0 a1 a2 : Value) : But j w (((w.setCell ⟨j, 0, none⟩ a0).setCell ⟨j, 1, none⟩ a1).setCell ⟨j, 2, none⟩ a2) := (((But.refl j w).setCell 0 a0).setCell 1 a1).setCell 2 a2
/- Asks by their nonces: the first k of M. -/
def lkK (M : Nat → KT) : Nat → Int → Option KT
  | 0, _ => none
  | k + 1, x => if (M k).1 = x then some (M k) else lkK M k x
theorem lkK_some {M : Nat → KT} {x : Int} : ∀ {k : Nat}, (lkK M k x).isSome = true ↔ ∃ j, j < k ∧ (M j).1 = x
  | 0 => by simp [lkK]
  | k + 1 => by
    rw [lkK]
    by_cases h : (M k).1 = x
    · rw [if_pos h]; simp; exact ⟨k, by omega, h⟩
    · rw [if_neg h, lkK_some]
      constructor
      · rintro ⟨j, hj, e⟩; exact ⟨j, by omega, e⟩
      · rintro ⟨j, hj, e⟩
        exact ⟨j, by rcases Nat.lt_succ_iff_lt_or_eq.1 hj with q | q; exact q; subst q; exact absurd e h, e⟩
theorem lkK_step {M : Nat → KT} {k : Nat} {x0 : Int} (e : (M k).1 = x0) (y : Int) : lkK M (k + 1) y = if y = x0 then some (M k) else lkK M k y := by
  rw [lkK]
  by_cases h : y = x0
  · rw [if_pos h, if_pos (e.trans h.symm)]
  · rw [if_neg h, if_neg (fun q => h (q.symm.trans e))]
/- The first m of A ascend by their nonces. -/
def Asc (A : Nat → KT) (m : Nat) : Prop := ∀ i j, i < j → j < m → (A i).1 < (A j).1
theorem lkK_at {A : Nat → KT} : ∀ {m : Nat}, Asc A m → ∀ {j : Nat}, j < m → lkK A m (A j).1 = some (A j)
  | 0, _, j, h => absurd h (Nat.not_lt_zero _)
  | m + 1, ha, j, h => by
    rw [lkK]
    by_cases e : j = m
    · subst e; rw [if_pos rfl]
    · rw [if_neg (by have := ha j m (by omega) (by omega); omega)]
      exact lkK_at (fun a b h1 h2 => ha a b h1 (by omega)) (by omega)
/- A book's map: F tells just the first m of A, ascending. -/
def FA (F : Int → Option KT) (A : Nat → KT) (m : Nat) : Prop := Asc A m ∧ (∀ j, j < m → F (A j).1 = some (A j)) ∧ ∀ x, (∀ j, j < m → (A j).1 ≠ x) → F x = none
theorem FA.has {F : Int → Option KT} {A : Nat → KT} {m : Nat} (h : FA F A m) (x : Int) : (F x).isSome = true ↔ ∃ j, j < m ∧ (A j).1 = x := by
  constructor
  · intro hx
    by_cases he : ∃ j, j < m ∧ (A j).1 = x
    · exact he
    · rw [h.2.2 x (fun j hj e => he ⟨j, hj, e⟩)] at hx; cases hx
  · rintro ⟨j, hj, rfl⟩; rw [h.2.1 j hj]; rfl
theorem FA.lk {A : Nat → KT} {m : Nat} (h : Asc A m) : FA (lkK A m) A m := ⟨h, fun j hj => lkK_at h hj, fun x hx => by
  cases e : lkK A m x with
  | none => rfl
  | some v =>
    obtain ⟨j, hj, q⟩ := lkK_some.1 (by rw [e]; rfl : (lkK A m x).isSome = true)
    exact absurd q (hx j hj)⟩
def nzs (A : Nat → KT) (m : Nat) : List Int := (List.range m).map fun j => (A j).1
theorem nzs_mem {A : Nat → KT} {m : Nat} {x : Int} : x ∈ nzs A m ↔ ∃ j, j < m ∧ (A j).1 = x := by simp [nzs]
theorem nzs_asc {A : Nat → KT} {m : Nat} (h : Asc A m) : (nzs A m).Pairwise (· < ·) := by
  rw [nzs, List.pairwise_map]
  exact List.Pairwise.imp_of_mem (fun {a b} ha hb hab => h a b hab (List.mem_range.1 hb)) List.pairwise_lt_range
theorem MapK.keys {w : World} {b n m : Nat} {F : Int → Option KT} {A : Nat → KT} (h : MapK w b n F) (hF : FA F A m) : ∃ D : DataW Value, w.ownsMap Try.prog 3 R0k b n D ∧ (nzs A m).Perm (intKeys D) ∧ Maps.size D = m := by
  obtain ⟨D, h1, h2⟩ := h
  have hp : (nzs A m).Perm (intKeys D) := CollectedI.perm (left := fun _ => false) ⟨List.Pairwise.imp (fun hab => Int.ne_of_lt hab) (nzs_asc hF.1), fun x => by rw [nzs_mem, (h2 x).2, hF.has x]; simp⟩ h1 lawKk Try.underlying3 (fun _ => rfl)
  refine ⟨D, h1, hp, ?_⟩
  have hl := hp.length_eq
  obtain ⟨es, hD, _⟩ := h1.keysOf
  subst hD
  simp [nzs, intKeys] at hl
  simp [Maps.size]
  omega
theorem sorted_nzs {A : Nat → KT} {m : Nat} (h : Asc A m) {ss : List Int} {l : List Int} (hs : ss.Perm l) (hl : (nzs A m).Perm l) : ss.mergeSort (fun x y => decide (x ≤ y)) = nzs A m := by
  have e1 := mergeSort_of_perm_i (hs.trans hl.symm)
  refine e1.trans ?_
  have tr : ∀ a b c : Int, leI a b = true → leI b c = true → leI a c = true := fun a b c h1 h2 => by simp only [leI, decide_eq_true_eq] at *; exact Int.le_trans h1 h2
  have to' : ∀ a b : Int, (leI a b || leI b a) = true := fun a b => by simp only [leI, Bool.or_eq_true, decide_eq_true_eq]; exact Int.le_total a b
  refine List.Perm.eq_of_pairwise (le := fun a b => leI a b = true) (fun a b _ _ h1 h2 => ?_) (List.pairwise_mergeSort tr to' _) (List.Pairwise.imp (fun {a b} hab => by simp only [leI, decide_eq_true_eq]; exact Int.le_of_lt hab) (nzs_asc h)) (List.mergeSort_perm _ leI)
  simp only [leI, decide_eq_true_eq] at h1 h2
  exact Int.le_antisymm h1 h2
theorem MapK.len {w : World} {b n m : Nat} {F : Int → Option KT} {A : Nat → KT} (h : MapK w b n F) (hF : FA F A m) (ty : TypeId) : (Builtin.len_ #[48] ty #[.map (some b)]).run Try.prog w = .ok (.int .i64 (m : Int)) w := by
  obtain ⟨D, h1, _, h3⟩ := h.keys hF
  have := h1.len (t := 48) (e := 34) Try.underlying48 ty
  rw [h3] at this
  exact this
end Go.Proofs.Ytlaladalnbdhpaa
