/- A map of numbers, told by a function; what the map of changes holds. -/
import Derived.Test.YtaggohibfghnmaaX95
import Derived.Maps.OwnSet
import Derived.Lib.SlKeysI
import Derived.RangeFuncWrites
import Derived.WalkKit
import Derived.WalkSpells
import Derived.WalkLawsBesides
import Derived.Deep.RegionHeld
namespace Go.Proofs.Ytaggohibfghnmaa
open Go.RowKit
set_option linter.unusedVariables false
/- A map of numbers, told by a function. -/
def R0n (v : Value) : Option (DataW Value × List MemPlace) := some (.held v, [])
def atN (o : Option Int) (z : DataW Value) : DataW Value := match o with | some M => .held (.int .i64 M) | none => z
def MapN (w : World) (b n : Nat) (F : Int → Option Int) : Prop := ∃ D : DataW Value, w.ownsMap Try.prog 3 R0n b n D ∧ ∀ x, (∀ z, D.atKey (.int .i64 x) z = atN (F x) z) ∧ Maps.has D (.int .i64 x) = (F x).isSome
theorem lawKn : Maps.Keyed Try.prog 3 := Maps.int_keyed Try.underlying3
theorem zeroAn (w : World) : (zeroValue 3).run Try.prog w = .ok (.int .i64 0) w := by kernel_rfl
theorem run_mkmapN (n : Int) (w : World) : (Instr.makeMap 79 (some (.int .i64 n))).run Try.prog w = .ok (.map (some w.heap.size)) (w.alloc (.map #[] 0)) := by
  first | kernel_rfl | rfl | (simp [Instr.makeMap, go_sem]; done) | (simp [Instr.makeMap]; done)
theorem MapN.made (w : World) : MapN (w.alloc (.map #[] 0)) w.heap.size 0 (fun _ => none) := ⟨.map [], World.ownsMap_made w _ _ _, fun x => ⟨fun z => rfl, rfl⟩⟩
theorem MapN.kept {w w' : World} {b n : Nat} {F : Int → Option Int} (h : MapN w b n F) {row : Option Nat} (hg : w.grownBy w' row) (hne : some b ≠ row) : MapN w' b n F := by
  obtain ⟨D, h1, h2⟩ := h
  exact ⟨D, h1.kept hg hne, h2⟩
theorem MapN.lt {w : World} {b n : Nat} {F : Int → Option Int} (h : MapN w b n F) : b < w.heap.size := by
  obtain ⟨D, h1, h2⟩ := h
  exact h1.lt
theorem MapN.below {w w' : World} {b n : Nat} {F : Int → Option Int} (h : MapN w b n F) (hb : Below w.heap.size w w') : MapN w' b n F :=
  h.kept (row := none) ⟨hb.os, hb.tape, hb.output, hb.size, fun k hk _ => hb.block k hk⟩ (by simp)
theorem MapN.congr {w : World} {b n : Nat} {F G : Int → Option Int} (h : MapN w b n F) (e : ∀ x, F x = G x) : MapN w b n G := by
  obtain ⟨D, h1, h2⟩ := h
  exact ⟨D, h1, fun x => by rw [← e x]; exact h2 x⟩
theorem held_injN {o : Option Int} {v : Value} {ps : List MemPlace} (h : R0n v = some (atN o (.held (.int .i64 0)), ps)) : v = .int .i64 (o.getD 0) := by
  unfold R0n at h
  simp only [Option.some.injEq, Prod.mk.injEq] at h
  cases o with
  | none => simp only [atN, DataW.held.injEq] at h; exact h.1
  | some M => simp only [atN, DataW.held.injEq] at h; exact h.1
theorem MapN.look {w : World} {b n : Nat} {F : Int → Option Int} (h : MapN w b n F) {x : Int} (hx : (Lit.int .i64 x).wf = true) : (Instr.lookup 79 (.map (some b)) (.int .i64 x) false).run Try.prog w = .ok (.int .i64 ((F x).getD 0)) w := by
  obtain ⟨D, h1, h2⟩ := h
  obtain ⟨v, ps, hrun, hv⟩ := h1.lookup (t := 79) (e := 3) lawKn Try.underlying79 (zeroAn w) (zd := .held (.int .i64 0)) (zp := []) rfl (Maps.keyOf_int_mk Try.underlying3 hx)
  rw [(h2 x).1] at hv
  rw [hrun, held_injN hv]
theorem lit_neN {x y : Int} (h : x ≠ y) : (Lit.int .i64 x) ≠ (Lit.int .i64 y) := fun e => h (by injection e)
theorem MapN.put {w : World} {b n : Nat} {F : Int → Option Int} (h : MapN w b n F) {x : Int} (hx : (Lit.int .i64 x).wf = true) (hn : n < maxLen) (M : Int) :
    ∃ w', (Instr.mapUpdate 79 (.map (some b)) (.int .i64 x) (.int .i64 M)).run Try.prog w = .ok () w' ∧ MapN w' b (n + 1) (fun y => if y = x then some M else F y) ∧ w.grownBy w' (some b) := by
  obtain ⟨D, h1, h2⟩ := h
  have hD := h1.isMap
  obtain ⟨w', hrun, ho, hg⟩ := h1.update (t := 79) (e := 3) lawKn Try.underlying79 hn (key := .int .i64 x) (val := .int .i64 M) (d := .held (.int .i64 M)) (ps := []) (Maps.keyOf_int_mk Try.underlying3 hx) rfl
  refine ⟨w', hrun, ⟨_, ho, fun y => ?_⟩, hg⟩
  by_cases e : y = x
  · subst e
    simp only [if_true]
    exact ⟨fun z => Maps.atKey_put_same hD (show WideAt.IsKeyLit (.int .i64 y) from trivial) _ _, Maps.has_put_same hD (show WideAt.IsKeyLit (.int .i64 y) from trivial) _⟩
  · simp only [if_neg e]
    exact ⟨fun z => (Maps.atKey_put_other (lit_neN e) _ _).trans ((h2 y).1 z), (Maps.has_put_other (lit_neN e) _).trans (h2 y).2⟩
theorem MapN.keys {w : World} {b n : Nat} {F : Int → Option Int} {L : List Int} (h : MapN w b n F) (hL : L.Pairwise (· < ·)) (hF : ∀ x, x ∈ L ↔ (F x).isSome = true) : ∃ D : DataW Value, w.ownsMap Try.prog 3 R0n b n D ∧ L.Perm (intKeys D) ∧ Maps.size D = L.length := by
  obtain ⟨D, h1, h2⟩ := h
  have hp : L.Perm (intKeys D) := CollectedI.perm (left := fun _ => false) ⟨List.Pairwise.imp (fun hab => Int.ne_of_lt hab) hL, fun x => by rw [hF x, (h2 x).2]; simp⟩ h1 lawKn Try.underlying3 (fun _ => rfl)
  refine ⟨D, h1, hp, ?_⟩
  have hl := hp.length_eq
  obtain ⟨es, hD, _⟩ := h1.keysOf
  subst hD
  simp [intKeys] at hl
  simp [Maps.size]
  omega
theorem sorted_asc {L : List Int} (h : L.Pairwise (· < ·)) {ss l : List Int} (hs : ss.Perm l) (hl : L.Perm l) : ss.mergeSort (fun x y => decide (x ≤ y)) = L := by
  have e1 := mergeSort_of_perm_i (hs.trans hl.symm)
  refine e1.trans ?_
  have tr : ∀ a b c : Int, leI a b = true → leI b c = true → leI a c = true := fun a b c h1 h2 => by simp only [leI, decide_eq_true_eq] at *; exact Int.le_trans h1 h2
  have to' : ∀ a b : Int, (leI a b || leI b a) = true := fun a b => by simp only [leI, Bool.or_eq_true, decide_eq_true_eq]; exact Int.le_total a b
  refine List.Perm.eq_of_pairwise (le := fun a b => leI a b = true) (fun a b _ _ h1 h2 => ?_) (List.pairwise_mergeSort tr to' _) (List.Pairwise.imp (fun {a b} hab => by simp only [leI, decide_eq_true_eq]; exact Int.le_of_lt hab) h) (List.mergeSort_perm _ leI)
  simp only [leI, decide_eq_true_eq] at h1 h2
  exact Int.le_antisymm h1 h2
/- What the map of changes holds behind i sources. -/
def Fm (f : Nat → Int × Int) (i : Nat) (x : Int) : Option Int := if x ∈ trn f (2 * i) then some (chg f i x) else none
theorem chg_zero {f : Nat → Int × Int} {x : Int} : ∀ {i : Nat}, x ∉ trn f (2 * i) → chg f i x = 0
  | 0, _ => rfl
  | i + 1, h => by
    have e : trn f (2 * (i + 1)) = ins (pl f (2 * i + 1)) (ins (pl f (2 * i)) (trn f (2 * i))) := rfl
    rw [e] at h
    simp only [ins_mem, not_or] at h
    have e1 : pl f (2 * i) = (f i).1 := by simp [pl]
    have e2 : pl f (2 * i + 1) = (f i).2 + 1 := by
      have q1 : (2 * i + 1) % 2 = 1 := by omega
      have q2 : (2 * i + 1) / 2 = i := by omega
      simp [pl, q1, q2]
    rw [e1, e2] at h
    simp only [chg, chg_zero h.2.2]
    rw [if_neg (fun q => h.2.1 q.symm), if_neg (fun q => h.1 q.symm)]
    rfl
theorem Fm_get (f : Nat → Int × Int) (i : Nat) (x : Int) : (Fm f i x).getD 0 = chg f i x := by
  unfold Fm
  split
  · rfl
  · next h => simp [chg_zero h]
theorem chg_in (f : Nat → Int × Int) (x : Int) : ∀ i : Nat, -(i : Int) ≤ chg f i x ∧ chg f i x ≤ (i : Int)
  | 0 => by simp [chg]
  | i + 1 => by
    have := chg_in f x i
    simp only [chg]
    split <;> split <;> omega
theorem Fm_step {f : Nat → Int × Int} {i : Nat} (ho : (f i).1 ≤ (f i).2) (y : Int) : (if y = (f i).2 + 1 then some (chg f i ((f i).2 + 1) - 1) else if y = (f i).1 then some (chg f i (f i).1 + 1) else Fm f i y) = Fm f (i + 1) y := by
  have e : trn f (2 * (i + 1)) = ins (pl f (2 * i + 1)) (ins (pl f (2 * i)) (trn f (2 * i))) := rfl
  have e1 : pl f (2 * i) = (f i).1 := by simp [pl]
  have e2 : pl f (2 * i + 1) = (f i).2 + 1 := by
    have q1 : (2 * i + 1) % 2 = 1 := by omega
    have q2 : (2 * i + 1) / 2 = i := by omega
    simp [pl, q1, q2]
  have hm : ∀ z, z ∈ trn f (2 * (i + 1)) ↔ z = (f i).2 + 1 ∨ z = (f i).1 ∨ z ∈ trn f (2 * i) := fun z => by rw [e, ins_mem, ins_mem, e1, e2]
  unfold Fm
  by_cases h1 : y = (f i).2 + 1
  · rw [if_pos h1, if_pos ((hm y).2 (.inl h1)), h1]
    simp only [chg]
    rw [if_neg (by omega)]
    simp
  · rw [if_neg h1]
    by_cases h2 : y = (f i).1
    · rw [if_pos h2, if_pos ((hm y).2 (.inr (.inl h2))), h2]
      simp only [chg]
      rw [if_neg (show ¬ (f i).2 + 1 = (f i).1 by omega)]
      simp
    · rw [if_neg h2]
      by_cases h3 : y ∈ trn f (2 * i)
      · rw [if_pos h3, if_pos ((hm y).2 (.inr (.inr h3)))]
        simp only [chg]
        rw [if_neg (fun q => h2 q.symm), if_neg (fun q => h1 q.symm)]
        simp
      · rw [if_neg h3, if_neg (fun q => by rcases (hm y).1 q with q | q | q; exact h1 q; exact h2 q; exact h3 q)]
theorem Fm_keys (f : Nat → Int × Int) (n : Nat) (x : Int) : x ∈ trn f (2 * n) ↔ (Fm f n x).isSome = true := by
  unfold Fm
  by_cases h : x ∈ trn f (2 * n)
  · simp [h]
  · simp [h]
theorem wf_in9 {x : Int} (h1 : -9223372036854775808 ≤ x) (h2 : x ≤ 9223372036854775807) : (Lit.int .i64 x).wf = true := by
  have h := wrap64_wf x
  have e : wrap64 x = x := by unfold wrap64; omega
  rwa [e] at h
/- What a round of a loop over the turns must keep: maps, and rows of numbers, that lie at B or beyond. -/
def kept9 (o : Obj) : Prop := o.isWalk = true ∨ ∃ cs, o = .cells cs 3 (0, 0)
def Kp9 (B : Nat) (W W' : World) : Prop := ∀ k o, B ≤ k → W.heap[k]? = some o → kept9 o → W'.heap[k]? = some o
theorem Kp9.trans {B : Nat} {X Y Z : World} (h : Kp9 B X Y) (k : Kp9 B Y Z) : Kp9 B X Z := fun i o hB hi ho => k i o hB (h i o hB hi ho) ho
theorem Kp9.refl (B : Nat) (X : World) : Kp9 B X X := fun _ _ _ h _ => h
theorem Kp9.put {B : Nat} {W : World} {l : Nat} {o : Obj} (o' : Obj) (h : W.heap[l]? = some o) (h1 : o.isCells = false) (h2 : o.isWalk = false) : Kp9 B W (W.putObj l o') := fun k q hB hk hq => by
  by_cases e : k = l
  · subst e
    rw [h] at hk; cases hk
    rcases hq with hq | ⟨cs, rfl⟩
    · rw [h2] at hq; cases hq
    · cases h1
  · exact (World.putObj_heap_other e).trans hk
theorem Kp9.grown {B : Nat} {W W' : World} {row : Option Nat} (hg : W.grownBy W' row) (hr : ∀ j o, row = some j → B ≤ j → W.heap[j]? = some o → ¬ kept9 o) : Kp9 B W W' := fun k o hB hk ho => by
  by_cases e : some k = row
  · exact absurd ho (hr k o e.symm hB hk)
  · exact (hg.block k (Array.getElem?_eq_some_iff.1 hk).1 e).trans hk
theorem Kp9.row {B base : Nat} {W W' : World} {v : Value} {n : Nat} {xs : List Value} (h : Kp9 B W W') (hb : B ≤ base) (hr : W.ownsRow base 3 1 v n xs) : W'.ownsRow base 3 1 v n xs := by
  refine ⟨hr.1, ?_⟩
  rcases hr.2 with h' | ⟨g, cap, cur, h1, h2, h3, h4⟩
  · exact .inl h'
  · exact .inr ⟨g, cap, cur, h1, h2, h g _ (by omega) h3 (.inr ⟨_, rfl⟩), h4⟩
theorem Kp9.map {B b n : Nat} {W W' : World} {F : Int → Option Int} (h : Kp9 B W W') (hb : B ≤ b) (hm : MapN W b n F) : MapN W' b n F := by
  obtain ⟨D, ⟨es, clock, h1, h2⟩, h3⟩ := hm
  exact ⟨D, ⟨es, clock, h b _ hb h1 (.inl rfl), h2⟩, h3⟩
end Go.Proofs.Ytaggohibfghnmaa
