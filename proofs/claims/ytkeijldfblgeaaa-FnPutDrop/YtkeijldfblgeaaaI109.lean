/- Peers by their Ids: a map, told by a function of the Id; what a range over it meets. -/
import Derived.Test.YtkeijldfblgeaaaI107
import Derived.Maps.OwnSet
import Derived.Maps.RangeWalk
import Derived.Lib.SlKeysI
import Derived.WalkKit
import Derived.WalkSpells
import Derived.WalkLawsBesides
import Derived.Deep.RegionHeld
namespace Go.Proofs.Ytkeijldfblgeaaa
open Go.RowKit
set_option linter.unusedVariables false
def pv (M : PT) : Value := .agg #[.int .i64 M.1, .int .i64 M.2.1, .int .i64 M.2.2.1, .int .i64 M.2.2.2.1, .bool M.2.2.2.2]
open Classical in
noncomputable def R0p (v : Value) : Option (DataW Value × List MemPlace) := if ∃ M, v = pv M then some (.held v, []) else none
theorem R0p_mk (M : PT) : R0p (pv M) = some (.held (pv M), []) := if_pos ⟨M, rfl⟩
theorem R0p_inv {v : Value} {d : DataW Value} {ps : List MemPlace} (h : R0p v = some (d, ps)) : (∃ M, v = pv M) ∧ .held v = d := by
  unfold R0p at h
  split at h
  · next hM => simp only [Option.some.injEq, Prod.mk.injEq] at h; exact ⟨hM, h.1⟩
  · cases h
def atP (o : Option PT) (z : DataW Value) : DataW Value := match o with | some M => .held (pv M) | none => z
def MapP (w : World) (b n : Nat) (F : Int → Option PT) : Prop := ∃ D : DataW Value, w.ownsMap Try.prog 3 R0p b n D ∧ ∀ x, (∀ z, D.atKey (.int .i64 x) z = atP (F x) z) ∧ Maps.has D (.int .i64 x) = (F x).isSome
theorem lawPk : Maps.Keyed Try.prog 3 := Maps.int_keyed Try.underlying3
theorem zeroPk (w : World) : (zeroValue 51).run Try.prog w = .ok (pv zP) w := by kernel_rfl
theorem run_mkmapP (n : Nat) (w : World) : (Instr.makeMap 66 (some (.int .i64 (n : Int)))).run Try.prog w = .ok (.map (some w.heap.size)) (w.alloc (.map #[] 0)) := by
  first | kernel_rfl | rfl | (simp [Instr.makeMap, go_sem]; done) | (simp [Instr.makeMap]; done)
theorem MapP.made (w : World) : MapP (w.alloc (.map #[] 0)) w.heap.size 0 (fun _ => none) := ⟨.map [], World.ownsMap_made w _ _ _, fun x => ⟨fun z => rfl, rfl⟩⟩
theorem MapP.kept {w w' : World} {b n : Nat} {F : Int → Option PT} (h : MapP w b n F) {row : Option Nat} (hg : w.grownBy w' row) (hne : some b ≠ row) : MapP w' b n F := by
  obtain ⟨D, h1, h2⟩ := h
  exact ⟨D, h1.kept hg hne, h2⟩
theorem MapP.lt {w : World} {b n : Nat} {F : Int → Option PT} (h : MapP w b n F) : b < w.heap.size := by
  obtain ⟨D, h1, h2⟩ := h
  exact h1.lt
theorem MapP.below {w w' : World} {b n : Nat} {F : Int → Option PT} (h : MapP w b n F) (hb : Below w.heap.size w w') : MapP w' b n F :=
  h.kept (row := none) ⟨hb.os, hb.tape, hb.output, hb.size, fun k hk _ => hb.block k hk⟩ (by simp)
theorem MapP.setCell {w : World} {b n : Nat} {F : Int → Option PT} (h : MapP w b n F) {a : Addr} (ha : b ≠ a.block) (u : Value) : MapP (w.setCell a u) b n F := by
  obtain ⟨D, h1, h2⟩ := h
  exact ⟨D, h1.setCell ha u, h2⟩
theorem MapP.congr {w : World} {b n : Nat} {F G : Int → Option PT} (h : MapP w b n F) (e : ∀ x, F x = G x) : MapP w b n G := by
  obtain ⟨D, h1, h2⟩ := h
  exact ⟨D, h1, fun x => by rw [← e x]; exact h2 x⟩
theorem held_injP {o : Option PT} {v : Value} {ps : List MemPlace} (h : R0p v = some (atP o (.held (pv zP)), ps)) : v = pv (o.getD zP) := by
  have h1 := (R0p_inv h).2
  cases o with
  | none => simp only [atP, DataW.held.injEq] at h1; exact h1
  | some M => simp only [atP, DataW.held.injEq] at h1; exact h1
theorem MapP.look_ok {w : World} {b n : Nat} {F : Int → Option PT} (h : MapP w b n F) {x : Int} (hx : (Lit.int .i64 x).wf = true) : (Instr.lookup 66 (.map (some b)) (.int .i64 x) true).run Try.prog w = .ok (.tuple #[pv ((F x).getD zP), .bool (F x).isSome]) w := by
  obtain ⟨D, h1, h2⟩ := h
  obtain ⟨v, ps, hrun, hv⟩ := h1.look_ok (t := 66) (e := 51) lawPk Try.underlying66 (zeroPk w) (zd := .held (pv zP)) (zp := []) (R0p_mk zP) (Maps.keyOf_int_mk Try.underlying3 hx)
  rw [(h2 x).1] at hv
  rw [hrun, held_injP hv, (h2 x).2]
theorem MapP.look {w : World} {b n : Nat} {F : Int → Option PT} (h : MapP w b n F) {x : Int} (hx : (Lit.int .i64 x).wf = true) : (Instr.lookup 66 (.map (some b)) (.int .i64 x) false).run Try.prog w = .ok (pv ((F x).getD zP)) w := by
  obtain ⟨D, h1, h2⟩ := h
  obtain ⟨v, ps, hrun, hv⟩ := h1.lookup (t := 66) (e := 51) lawPk Try.underlying66 (zeroPk w) (zd := .held (pv zP)) (zp := []) (R0p_mk zP) (Maps.keyOf_int_mk Try.underlying3 hx)
  rw [(h2 x).1] at hv
  rw [hrun, held_injP hv]
theorem lit_neP {x y : Int} (h : x ≠ y) : (Lit.int .i64 x) ≠ (Lit.int .i64 y) := fun e => h (by injection e)
theorem MapP.put {w : World} {b n : Nat} {F : Int → Option PT} (h : MapP w b n F) {x : Int} (hx : (Lit.int .i64 x).wf = true) (hn : n < maxLen) (M : PT) :
    ∃ w', (Instr.mapUpdate 66 (.map (some b)) (.int .i64 x) (pv M)).run Try.prog w = .ok () w' ∧ MapP w' b (n + 1) (fun y => if y = x then some M else F y) ∧ w.grownBy w' (some b) := by
  obtain ⟨D, h1, h2⟩ := h
  have hD := h1.isMap
  obtain ⟨w', hrun, ho, hg⟩ := h1.update (t := 66) (e := 51) lawPk Try.underlying66 hn (key := .int .i64 x) (val := pv M) (d := .held (pv M)) (ps := []) (Maps.keyOf_int_mk Try.underlying3 hx) (R0p_mk M)
  refine ⟨w', hrun, ⟨_, ho, fun y => ?_⟩, hg⟩
  by_cases e : y = x
  · subst e
    simp only [if_true]
    exact ⟨fun z => Maps.atKey_put_same hD (show WideAt.IsKeyLit (.int .i64 y) from trivial) _ _, Maps.has_put_same hD (show WideAt.IsKeyLit (.int .i64 y) from trivial) _⟩
  · simp only [if_neg e]
    exact ⟨fun z => (Maps.atKey_put_other (lit_neP e) _ _).trans ((h2 y).1 z), (Maps.has_put_other (lit_neP e) _).trans (h2 y).2⟩
theorem MapP.del {w : World} {b n : Nat} {F : Int → Option PT} (h : MapP w b n F) {x : Int} (hx : (Lit.int .i64 x).wf = true) (ty : TypeId) :
    ∃ w', (Builtin.delete_ #[66, 3] ty #[.map (some b), .int .i64 x]).run Try.prog w = .ok (.tuple #[]) w' ∧ MapP w' b n (fun y => if y = x then none else F y) ∧ w.grownBy w' (some b) := by
  obtain ⟨D, h1, h2⟩ := h
  obtain ⟨w', hrun, ho, hg⟩ := h1.drop (t := 66) (e := 51) lawPk Try.underlying66 (Maps.keyOf_int_mk Try.underlying3 hx) ty
  refine ⟨w', hrun, ⟨_, ho, fun y => ?_⟩, hg.grown⟩
  by_cases e : y = x
  · subst e
    simp only [if_true]
    exact ⟨fun z => Maps.atKey_del_same z, Maps.has_del_same⟩
  · simp only [if_neg e]
    exact ⟨fun z => (Maps.atKey_del_other (lit_neP e) _).trans ((h2 y).1 z), (Maps.has_del_other (lit_neP e)).trans (h2 y).2⟩

theorem MapP.but {w w' : World} {b n q : Nat} {F : Int → Option PT} (h : MapP w b n F) (hb : But q w w') (hq : b ≠ q) : MapP w' b n F := h.kept hb.grK (by simpa using hq)
theorem MapP.drew {w : World} {b n : Nat} {F : Int → Option PT} (h : MapP w b n F) : MapP w.drew b n F := h
/- What a map tells, as a list that ascends by Id. -/
def FLP (F : Int → Option PT) (L : List PT) : Prop := L.Pairwise (fun a b => a.1 < b.1) ∧ ∀ x q, F x = some q ↔ (q ∈ L ∧ q.1 = x)
theorem FLP.ofLst {M : Nat → PT} {n : Nat} (h : oks M n = true) : FLP (lkP M n) (lst M n) := by
  refine ⟨?_, fun x q => ⟨fun hx => ?_, fun ⟨h1, h2⟩ => ?_⟩⟩
  · rw [lst, List.pairwise_map]
    exact List.Pairwise.imp_of_mem (fun {a b} ha hb hab => oks_asc h hab (List.mem_range.1 hb)) List.pairwise_lt_range
  · obtain ⟨j, h1, h2, h3⟩ := lkP_some hx
    exact ⟨lst_mem.2 ⟨j, h1, h2⟩, h3⟩
  · obtain ⟨j, hj, rfl⟩ := lst_mem.1 h1
    rw [← h2]
    exact lkP_at (fun i j h1 h2 => oks_asc h h1 h2) hj
theorem FLP.del {F : Int → Option PT} {L : List PT} (h : FLP F L) (x : Int) : FLP (fun y => if y = x then none else F y) (L.filter fun p => p.1 != x) := by
  refine ⟨h.1.filter _, fun y q => ?_⟩
  show (if y = x then none else F y) = some q ↔ _
  by_cases e : y = x
  · rw [if_pos e]
    simp only [List.mem_filter]
    constructor
    · intro hh; cases hh
    · rintro ⟨⟨_, h2⟩, h3⟩
      rw [h3, e] at h2
      simp at h2
  · rw [if_neg e, h.2 y q]
    simp only [List.mem_filter]
    constructor
    · rintro ⟨h1, h2⟩
      refine ⟨⟨h1, ?_⟩, h2⟩
      rw [h2]
      simpa using e
    · rintro ⟨⟨h1, _⟩, h3⟩
      exact ⟨h1, h3⟩
theorem FLP.none_same {F : Int → Option PT} {L : List PT} (h : FLP F L) {x : Int} (hx : F x = none) : (L.filter fun p => p.1 != x) = L := by
  refine List.filter_eq_self.2 fun q hq => ?_
  have := (h.2 q.1 q).2 ⟨hq, rfl⟩
  by_cases e : q.1 = x
  · rw [e, hx] at this; cases this
  · simpa using e
theorem FLP.len {M : Nat → PT} {n : Nat} : (lst M n).length = n := lst_len M n
theorem FLP.nodup {F : Int → Option PT} {L : List PT} (h : FLP F L) : L.Nodup := by
  refine List.Pairwise.imp (fun {a b} hab e => ?_) h.1
  rw [e] at hab
  exact absurd hab (Int.lt_irrefl _)
theorem FLP.sorted {F : Int → Option PT} {L : List PT} (h : FLP F L) {acc : List PT} (hp : acc.Perm L) (hs : acc.Pairwise (fun a b => ¬ b.1 < a.1)) : acc = L := by
  refine List.Perm.eq_of_pairwise (le := fun a b : PT => a.1 ≤ b.1) (fun a b ha hb h1 h2 => ?_) (List.Pairwise.imp (fun {a b} hab => by omega) hs) (List.Pairwise.imp (fun {a b} hab => by omega) h.1) hp
  have ha' := hp.mem_iff.1 ha
  have e : a.1 = b.1 := Int.le_antisymm h1 h2
  have q1 := (h.2 a.1 a).2 ⟨ha', rfl⟩
  have q2 := (h.2 b.1 b).2 ⟨by first | exact hb | exact hp.mem_iff.1 hb, rfl⟩
  rw [e] at q1
  exact Option.some.inj (q1.symm.trans q2)
/- What a range over the map has met so far. -/
def Met (F : Int → Option PT) (left : Lit → Bool) (acc : List PT) : Prop := acc.Nodup ∧ ∀ q, q ∈ acc ↔ (F q.1 = some q ∧ left (.int .i64 q.1) = false)
theorem Met.step {F : Int → Option PT} {left : Lit → Bool} {acc : List PT} (h : Met F left acc) {q : PT} (hq : F q.1 = some q) (hl : left (.int .i64 q.1) = true) : Met F (fun z => left z && !z.sameKey (.int .i64 q.1)) (acc ++ [q]) := by
  have hn : q ∉ acc := fun hm => by have := ((h.2 q).1 hm).2; rw [hl] at this; cases this
  refine ⟨?_, fun r => ?_⟩
  · rw [List.nodup_append]
    refine ⟨h.1, by simp, fun a ha b hb e => ?_⟩
    simp at hb
    subst hb
    subst e
    exact hn ha
  · rw [List.mem_append, h.2 r, List.mem_singleton]
    by_cases e : r.1 = q.1
    · constructor
      · rintro (⟨h1, h2⟩ | rfl)
        · rw [e] at h2; rw [hl] at h2; cases h2
        · exact ⟨hq, by simp [Lit.sameKey]⟩
      · rintro ⟨h1, h2⟩
        rw [e, hq] at h1
        exact .inr (Option.some.inj h1).symm
    · have hk : (Lit.int .i64 r.1).sameKey (.int .i64 q.1) = false := by simp [Lit.sameKey, e]
      constructor
      · rintro (⟨h1, h2⟩ | rfl)
        · exact ⟨h1, by simp [h2]⟩
        · exact absurd rfl e
      · rintro ⟨h1, h2⟩
        refine .inl ⟨h1, ?_⟩
        have h3 : (left (.int .i64 r.1) && !(Lit.int .i64 r.1).sameKey (.int .i64 q.1)) = false := h2
        rw [hk] at h3
        simpa using h3
theorem Met.perm {F : Int → Option PT} {L acc : List PT} {left : Lit → Bool} (hF : FLP F L) (h : Met F left acc) (hl : ∀ kl, left kl = false) : acc.Perm L := by
  refine (List.perm_ext_iff_of_nodup h.1 hF.nodup).2 fun q => ?_
  rw [h.2 q, hF.2 q.1 q]
  constructor
  · rintro ⟨⟨h1, _⟩, _⟩; exact h1
  · intro h1; exact ⟨⟨h1, rfl⟩, hl _⟩
theorem MapP.sized {w : World} {b n : Nat} {F : Int → Option PT} {L : List PT} (h : MapP w b n F) (hF : FLP F L) : ∃ D : DataW Value, w.ownsMap Try.prog 3 R0p b n D ∧ (∀ x, (∀ z, D.atKey (.int .i64 x) z = atP (F x) z) ∧ Maps.has D (.int .i64 x) = (F x).isSome) ∧ Maps.size D = L.length := by
  obtain ⟨D, h1, h2⟩ := h
  have hm : ∀ x, x ∈ L.map (fun p => p.1) ↔ (F x).isSome = true := fun x => by
    rw [List.mem_map]
    constructor
    · rintro ⟨q, hq, rfl⟩
      rw [(hF.2 q.1 q).2 ⟨hq, rfl⟩]; rfl
    · intro hx
      obtain ⟨q, hq⟩ := Option.isSome_iff_exists.1 hx
      exact ⟨q, (hF.2 x q).1 hq⟩
  have hp : (L.map fun p => p.1).Perm (intKeys D) := CollectedI.perm (left := fun _ => false) ⟨by
    rw [List.Nodup, List.pairwise_map]
    exact List.Pairwise.imp (fun hab => Int.ne_of_lt hab) hF.1, fun x => by rw [hm x, (h2 x).2]; simp⟩ h1 lawPk Try.underlying3 (fun _ => rfl)
  refine ⟨D, h1, h2, ?_⟩
  have hl := hp.length_eq
  obtain ⟨es, hD, _⟩ := h1.keysOf
  subst hD
  simp [intKeys] at hl
  simp [Maps.size]
  omega
theorem MapP.len {w : World} {b n : Nat} {F : Int → Option PT} {L : List PT} (h : MapP w b n F) (hF : FLP F L) (ty : TypeId) : (Builtin.len_ #[66] ty #[.map (some b)]).run Try.prog w = .ok (.int .i64 (L.length : Int)) w := by
  obtain ⟨D, h1, _, h3⟩ := h.sized hF
  have := h1.len (t := 66) (e := 51) Try.underlying66 ty
  rw [h3] at this
  exact this
end Go.Proofs.Ytkeijldfblgeaaa
