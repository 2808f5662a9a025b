/- The functions that go with the words of ops (the program): a map literal. -/
import Derived.Maps.Own
import Derived.Maps.Keyed
import Derived.StringKeys
import Derived.Test.YtddjiamollfplaaGreatDoorMC0
import Derived.Test.YtddjiamollfplaaGreatDoorMC13
namespace Go.Proofs.YtddjiamollfplaaGreatDoor
open Go.RowKit
set_option linter.unusedVariables false
theorem dl {ops : Array Oper} {md : Region.Mode} {listed : Array Bool} {i : Nat} (h : i ∈ Region.ready md ops listed) (k : Nat) (hk : (ops[i]?.map fun o => o.after.any fun e => (e.on == k && Region.binds md e)) = some true) : listed.getD k true = true := by
 obtain ⟨_, o, ho, hall⟩ := mem_ready.1 h
 rw [ho, Option.map_some, Option.some.injEq, Array.any_eq_true'] at hk
 obtain ⟨e, he, h2⟩ := hk
 rw [Bool.and_eq_true] at h2
 have h3 := hall e he h2.2
 rw [eq_of_beq h2.1] at h3
 rcases Nat.lt_or_ge k listed.size with q | q
 ·simp [q] at h3 ⊢; exact h3
 ·simp [Array.getElem?_eq_none q] at h3
theorem ie {ops : Array Oper} {md : Region.Mode} {listed : Array Bool} {i : Nat} (hi : listed.getD i true = false) (good : Nat → Bool) (hg : ∀ k, good k = true → k < listed.size ∧ listed.getD k true = true)
 (hk : (ops[i]?.map fun o => o.after.all fun e => (!Region.binds md e || good e.on)) = some true) : i ∈ Region.ready md ops listed := by
 refine mem_ready.2 ⟨hi, ?_⟩
 cases ho : ops[i]? with
 | none => rw [ho] at hk; cases hk
 | some o =>
  rw [ho, Option.map_some, Option.some.injEq] at hk
  refine ⟨o, rfl, fun e he hb => ?_⟩
  have q := Array.all_eq_true'.1 hk e he
  rw [hb] at q
  obtain ⟨q1, q2⟩ := hg e.on (by simpa using q)
  simp [q1] at q2 ⊢
  exact q2
theorem eS {P : Program} {ops : Array Oper} {Q : Exit → Act → World → Prop} {md : Region.Mode} {S : World → Prop} (J : Nat → Array Bool → World → Prop) (a : Act) (last more : Nat) (hne : more ≠ last)
 (hstep : ∀ f listed w, J (f + 1) listed w → ∀ i ∈ Region.ready md ops listed, i ≠ last → wpOp P ops Q i (fun a' w' => S w' ∧ a' = a ∧ J f (listed.setIfInBounds i true) w') a w)
 (hlast : ∀ f g listed w, J f listed w → last ∈ Region.ready md ops listed → wpOp P ops Q last (fun a' w' => S w' ∧ wpAnyH P md ops Q S (g + 1) (listed.setIfInBounds last true) a' w') a w)
 (hmore : ∀ f listed w, J f listed w → listed.getD more true = false)
 (hdone : ∀ f listed w, J f listed w → Region.ready md ops listed ≠ []) :
 ∀ (fuel : Nat) (listed : Array Bool) (w : World), (∃ U : List Nat, U.length ≤ fuel ∧ ∀ i, listed.getD i true = false → i ∈ U) → J fuel listed w → wpAnyH P md ops Q S fuel listed a w
 | 0, listed, w, ⟨U, hU, hm⟩, hJ => by
  refine absurd ?_ (hdone 0 listed w hJ)
  have e : U = [] := List.length_eq_zero_iff.1 (Nat.le_zero.1 hU)
  refine List.eq_nil_iff_forall_not_mem.2 fun i hi => ?_
  have q := hm i (mem_ready.1 hi).1
  rw [e] at q
  cases q
 | fuel + 1, listed, w, ⟨U, hU, hm⟩, hJ => by
  refine ⟨fun h => absurd h (hdone _ listed w hJ), fun i hi => ?_⟩
  have hiU := hm i (mem_ready.1 hi).1
  by_cases e : i = last
  ·subst e
   have h1 := hm more (hmore _ listed w hJ)
   have h2 : more ∈ U.erase i := (List.mem_erase_of_ne hne).2 h1
   have h3 : (U.erase i).length ≤ fuel := by rw [List.length_erase_of_mem hiU]; omega
   have h4 := List.length_pos_of_mem h2
   obtain ⟨g, rfl⟩ : ∃ g, fuel = g + 1 := ⟨fuel - 1, by omega⟩
   exact hlast _ g listed w hJ hi
  ·refine wpOp_mono (fun a' w' h => ⟨h.1, ?_⟩) (hstep fuel listed w hJ i hi e)
   obtain ⟨_, ha, hj⟩ := h
   subst ha
   refine eS J a' last more hne hstep hlast hmore hdone fuel _ w' ⟨U.erase i, by rw [List.length_erase_of_mem hiU]; omega, fun k hk => ?_⟩ hj
   by_cases e2 : i = k
   ·subst e2
    exfalso
    rw [Array.getD_eq_getD_getElem?, Array.getElem?_setIfInBounds_self] at hk
    split at hk <;> simp at hk
   ·rw [getD_set_ne true e2] at hk
    exact (List.mem_erase_of_ne (fun h => e2 h.symm)).2 (hm k hk)
theorem iH {P : Program} {ops : Array Oper} {Q : Exit → Act → World → Prop} {md : Region.Mode} {S : World → Prop} {listed : Array Bool} (L0 : Array Bool) (hL : listed = L0) (J : Nat → Array Bool → World → Prop) {a : Act} (last more : Nat) (hne : more ≠ last) {fuel : Nat} {w : World}
 (hstep : ∀ f listed w, J (f + 1) listed w → ∀ i ∈ Region.ready md ops listed, i ≠ last → wpOp P ops Q i (fun a' w' => S w' ∧ a' = a ∧ J f (listed.setIfInBounds i true) w') a w)
 (hlast : ∀ f g listed w, J f listed w → last ∈ Region.ready md ops listed → wpOp P ops Q last (fun a' w' => S w' ∧ wpAnyH P md ops Q S (g + 1) (listed.setIfInBounds last true) a' w') a w)
 (hmore : ∀ f listed w, J f listed w → listed.getD more true = false)
 (hdone : ∀ f listed w, J f listed w → Region.ready md ops listed ≠ [])
 (U : List Nat) (hU : U.length ≤ fuel) (hm : ∀ i, L0.getD i true = false → i ∈ U) (hJ : J fuel L0 w) : wpAnyH P md ops Q S fuel listed a w := by
 subst hL
 exact eS J a last more hne hstep hlast hmore hdone fuel listed w ⟨U, hU, hm⟩ hJ
theorem j8 {listed L : Array Bool} (hs : listed.size = L.size) (h : ∀ i, i < L.size → listed.getD i true = L.getD i true) : listed = L := by
 refine Array.ext hs fun i h1 h2 => ?_
 have q := h i h2
 simpa [h1, h2] using q
theorem c8 {listed : Array Bool} {i k : Nat} (h : (listed.setIfInBounds i true).getD k true = false) : k ≠ i ∧ listed.getD k true = false := by
 by_cases e : i = k
 ·subst e
  exfalso
  rw [Array.getD_eq_getD_getElem?, Array.getElem?_setIfInBounds_self] at h
  split at h <;> simp at h
 ·exact ⟨fun q => e q.symm, by rw [getD_set_ne true e] at h; exact h⟩
def R0f (v : Value) : Option (DataW Value × List MemPlace) := some (.held v, [])
def atF (o : Option Value) (z : DataW Value) : DataW Value := match o with | some v => .held v | none => z
def ch (w : World) (b n : Nat) (F : ByteArray → Option Value) : Prop := ∃ D : DataW Value, w.ownsMap Tryz.prog 9 R0f b n D ∧ ∀ s : ByteArray, (∀ z, D.atKey (.string s.data.toList) z = atF (F s) z) ∧ Maps.has D (.string s.data.toList) = (F s).isSome
theorem kV : Maps.Keyed Tryz.prog 9 := Maps.string_keyed Tryz.underlying9
theorem lU (w : World) : (zeroValue 51).run Tryz.prog w = .ok .nilFunc w := by kernel_rfl
theorem ch.made (w : World) : ch (w.alloc (.map #[] 0)) w.heap.size 0 (fun _ => none) := ⟨.map [], World.ownsMap_made w _ _ _, fun x => ⟨fun z => rfl, rfl⟩⟩
theorem ch.kept {w w' : World} {b n : Nat} {F : ByteArray → Option Value} (h : ch w b n F) {row : Option Nat} (hg : w.grownBy w' row) (hne : some b ≠ row) : ch w' b n F := by
 obtain ⟨D, h1, h2⟩ := h
 exact ⟨D, h1.kept hg hne, h2⟩
theorem ch.lt {w : World} {b n : Nat} {F : ByteArray → Option Value} (h : ch w b n F) : b < w.heap.size := by
 obtain ⟨D, h1, h2⟩ := h
 exact h1.lt
theorem ch.below {w w' : World} {b n : Nat} {F : ByteArray → Option Value} (h : ch w b n F) (hb : Below w.heap.size w w') : ch w' b n F :=
 h.kept (row := none) ⟨hb.os, hb.tape, hb.output, hb.size, fun k hk _ => hb.block k hk⟩ (by simp)
theorem ch.look {w : World} {b n : Nat} {F : ByteArray → Option Value} (h : ch w b n F) {s : ByteArray} (hs : s.size ≤ maxLen) {v : Value} (hv : F s = some v) : (Instr.lookup 52 (.map (some b)) (.string s) false).run Tryz.prog w = .ok v w := by
 obtain ⟨D, h1, h2⟩ := h
 obtain ⟨u, ps, hrun, hu⟩ := h1.lookup (t := 52) (e := 51) kV Tryz.underlying52 (lU w) (zd := .held .nilFunc) (zp := []) rfl (WideMaps.keyOf_string_mk Tryz.underlying9 hs)
 rw [(h2 s).1, hv] at hu
 unfold R0f atF at hu
 simp only [Option.some.injEq, Prod.mk.injEq, DataW.held.injEq] at hu
 rw [hrun, hu.1]
theorem jA {x y : ByteArray} (h : x ≠ y) : (Lit.string x.data.toList) ≠ (Lit.string y.data.toList) := fun e => h (by injection e with e; exact ByteArray.ext (Array.ext' e))
theorem ch.put {w : World} {b n : Nat} {F : ByteArray → Option Value} (h : ch w b n F) {s : ByteArray} (hs : s.size ≤ maxLen) (hn : n < maxLen) (v : Value) :
 ∃ w', (Instr.mapUpdate 52 (.map (some b)) (.string s) v).run Tryz.prog w = .ok () w' ∧ ch w' b (n + 1) (fun y => if y = s then some v else F y) ∧ w.grownBy w' (some b) := by
 obtain ⟨D, h1, h2⟩ := h
 have hD := h1.isMap
 obtain ⟨w', hrun, ho, hg⟩ := h1.update (t := 52) (e := 51) kV Tryz.underlying52 hn (key := .string s) (val := v) (d := .held v) (ps := []) (WideMaps.keyOf_string_mk Tryz.underlying9 hs) rfl
 refine ⟨w', hrun, ⟨_, ho, fun y => ?_⟩, hg⟩
 by_cases e : y = s
 ·subst e
  simp only [if_true]
  exact ⟨fun z => Maps.atKey_put_same hD (show WideAt.IsKeyLit (.string y.data.toList) from trivial) _ _, Maps.has_put_same hD (show WideAt.IsKeyLit (.string y.data.toList) from trivial) _⟩
 ·simp only [if_neg e]
  exact ⟨fun z => (Maps.atKey_put_other (jA e) _ _).trans ((h2 y).1 z), (Maps.has_put_other (jA e) _).trans (h2 y).2⟩
def fnV (j : Nat) : Value := match j with
 | 1 => .func (.func 56) #[] #[]
 | 2 => .func (.func 57) #[] #[]
 | 3 => .func (.func 57) #[] #[]
 | 4 => .func (.func 58) #[] #[]
 | 5 => .func (.func 59) #[] #[]
 | 6 => .func (.func 57) #[] #[]
 | 7 => .func (.func 57) #[] #[]
 | 8 => .func (.func 57) #[] #[]
 | 9 => .func (.func 60) #[] #[]
 | 10 => .func (.func 61) #[] #[]
 | 11 => .func (.func 61) #[] #[]
 | 12 => .func (.func 61) #[] #[]
 | 13 => .func (.func 62) #[] #[]
 | 14 => .func (.func 63) #[] #[]
 | _ => .nilFunc
theorem k9 : ∀ i j : Nat, 1 ≤ i → i ≤ 14 → 1 ≤ j → j ≤ 14 → i ≠ j → nmK (i : Int) ≠ nmK (j : Int) := by
 intro i j h1 h2 h3 h4 h5
 have q : ∀ i j : Fin 15, i ≠ j → 1 ≤ i.val → 1 ≤ j.val → (nmK (i.val : Int)).data ≠ (nmK (j.val : Int)).data := by decide +kernel
 exact fun e => q ⟨i, by omega⟩ ⟨j, by omega⟩ (fun h => h5 (by injection h)) h1 h3 (congrArg ByteArray.data e)
def FbW (F : ByteArray → Option Value) : Prop := (∀ j : Nat, 1 ≤ j → j ≤ 14 → F (nmK (j : Int)) = some (fnV j)) ∧ ∀ s, (∀ j : Nat, 1 ≤ j → j ≤ 14 → s ≠ nmK (j : Int)) → F s = none
def InJ (w0 : World) (b : Nat) (f : Nat) (listed : Array Bool) (w : World) : Prop :=
 listed.size = 45 ∧ (∀ i, listed.getD i true = false → i = 43 ∨ i = 44 ∨ ∃ j : Nat, 1 ≤ j ∧ j ≤ 14 ∧ i = 3 * j) ∧ (listed.getD 43 true = false ∧ listed.getD 44 true = false) ∧
 ∃ F n, ch w b n F ∧ n + f ≤ 1000 ∧ (∀ j : Nat, 1 ≤ j → j ≤ 14 → listed.getD (3 * j) true = true → F (nmK (j : Int)) = some (fnV j)) ∧ (∀ s, (∀ j : Nat, 1 ≤ j → j ≤ 14 → s ≠ nmK (j : Int)) → F s = none) ∧ Below b w0 w
theorem InJ.put {w0 w' : World} {b f : Nat} {listed : Array Bool} {j n : Nat} {F : ByteArray → Option Value} (h1 : 1 ≤ j) (h2 : j ≤ 14) (hz : listed.size = 45) (hm : ∀ i, listed.getD i true = false → i = 43 ∨ i = 44 ∨ ∃ j : Nat, 1 ≤ j ∧ j ≤ 14 ∧ i = 3 * j) (h44 : listed.getD 43 true = false ∧ listed.getD 44 true = false)
 (hM : ch w' b (n + 1) (fun y => if y = nmK (j : Int) then some (fnV j) else F y)) (hn : n + (f + 1) ≤ 1000) (hF : ∀ j : Nat, 1 ≤ j → j ≤ 14 → listed.getD (3 * j) true = true → F (nmK (j : Int)) = some (fnV j)) (hN : ∀ s, (∀ j : Nat, 1 ≤ j → j ≤ 14 → s ≠ nmK (j : Int)) → F s = none) (hB : Below b w0 w') : InJ w0 b f (listed.setIfInBounds (3 * j) true) w' := by
 refine ⟨by rw [Array.size_setIfInBounds, hz], fun i hi => hm i (c8 hi).2, ⟨by rw [getD_set_ne true (by omega)]; exact h44.1, by rw [getD_set_ne true (by omega)]; exact h44.2⟩, _, n + 1, hM, by omega, fun k k1 k2 hk => ?_, fun s hs => ?_, hB⟩
 ·by_cases e : k = j
  ·subst e; exact if_pos rfl
  ·show (if nmK (k : Int) = nmK (j : Int) then some (fnV j) else F (nmK (k : Int))) = _
   rw [if_neg (k9 k j k1 k2 h1 h2 e)]
   rw [getD_set_ne true (by omega)] at hk
   exact hF k k1 k2 hk
 ·show (if s = nmK (j : Int) then some (fnV j) else F s) = none
  rw [if_neg (hs j h1 h2)]
  exact hN s hs
set_option maxRecDepth 100000 in
set_option maxHeartbeats 16000000 in
theorem cC (w : World) (E : OpW w) :
 Calls Tryz.prog 22 #[] w fun e w' => ∃ b n F, e = .returned (.map (some b)) ∧ ch w' b n F ∧ FbW F ∧ Below w.heap.size w w' := by
 have HS : Hid (∀ w', OpW w' → (fun w' => w'.cell? ⟨0, 1, none⟩ = some (.string (nmK 1)) ∧ w'.cell? ⟨0, 2, none⟩ = some (.string (nmK 2)) ∧ w'.cell? ⟨0, 3, none⟩ = some (.string (nmK 3)) ∧ w'.cell? ⟨0, 4, none⟩ = some (.string (nmK 4)) ∧ w'.cell? ⟨0, 5, none⟩ = some (.string (nmK 5)) ∧ w'.cell? ⟨0, 6, none⟩ = some (.string (nmK 6)) ∧ w'.cell? ⟨0, 7, none⟩ = some (.string (nmK 7)) ∧ w'.cell? ⟨0, 8, none⟩ = some (.string (nmK 8)) ∧ w'.cell? ⟨0, 9, none⟩ = some (.string (nmK 9)) ∧ w'.cell? ⟨0, 10, none⟩ = some (.string (nmK 10)) ∧ w'.cell? ⟨0, 11, none⟩ = some (.string (nmK 11)) ∧ w'.cell? ⟨0, 12, none⟩ = some (.string (nmK 12)) ∧ w'.cell? ⟨0, 13, none⟩ = some (.string (nmK 13)) ∧ w'.cell? ⟨0, 14, none⟩ = some (.string (nmK 14))) w') := fun w' h => ⟨h.1 1 (by decide), h.1 2 (by decide), h.1 3 (by decide), h.1 4 (by decide), h.1 5 (by decide), h.1 6 (by decide), h.1 7 (by decide), h.1 8 (by decide), h.1 9 (by decide), h.1 10 (by decide), h.1 11 (by decide), h.1 12 (by decide), h.1 13 (by decide), h.1 14 (by decide)⟩
 have HE : Hid (OpW w) := E
 clear E
 go_enter Tryz.func22, Tryz.ntmps22
 go_upto_region 1 with fail
 refine wp_region_held_drew (S := (fun w' => w'.cell? ⟨0, 1, none⟩ = some (.string (nmK 1)) ∧ w'.cell? ⟨0, 2, none⟩ = some (.string (nmK 2)) ∧ w'.cell? ⟨0, 3, none⟩ = some (.string (nmK 3)) ∧ w'.cell? ⟨0, 4, none⟩ = some (.string (nmK 4)) ∧ w'.cell? ⟨0, 5, none⟩ = some (.string (nmK 5)) ∧ w'.cell? ⟨0, 6, none⟩ = some (.string (nmK 6)) ∧ w'.cell? ⟨0, 7, none⟩ = some (.string (nmK 7)) ∧ w'.cell? ⟨0, 8, none⟩ = some (.string (nmK 8)) ∧ w'.cell? ⟨0, 9, none⟩ = some (.string (nmK 9)) ∧ w'.cell? ⟨0, 10, none⟩ = some (.string (nmK 10)) ∧ w'.cell? ⟨0, 11, none⟩ = some (.string (nmK 11)) ∧ w'.cell? ⟨0, 12, none⟩ = some (.string (nmK 12)) ∧ w'.cell? ⟨0, 13, none⟩ = some (.string (nmK 13)) ∧ w'.cell? ⟨0, 14, none⟩ = some (.string (nmK 14)))) (by kernel_rfl) ?_ (fun hHeld => ?_)
 ·exact HS.out _ (HE.out.below (Below.drew (Below.refl _ _)))
 have B : Below w.heap.size w w.drew := Below.drew (Below.refl _ _)
 have EV : Hid (OpW w.drew) := HE.out.below B
 have hz0 : w.heap.size = w.drew.heap.size := rfl
 generalize w.drew = v at *
 refine zT2 1 ?_
 refine zT2 4 ?_
 refine zT2 7 ?_
 refine zT2 10 ?_
 refine zT2 13 ?_
 refine zT2 16 ?_
 refine zT2 19 ?_
 refine zT2 22 ?_
 refine zT2 25 ?_
 refine zT2 28 ?_
 refine zT2 31 ?_
 refine zT2 34 ?_
 refine zT2 37 ?_
 refine zT2 40 ?_
 refine zQ 0 fun K hK => ?_
 go_simp
 have M0 := ch.made v
 have BN : Below v.heap.size v (v.alloc (.map #[] 0)) := Below.nw v _
 have EN : OpW (v.alloc (.map #[] 0)) := EV.out.below BN
 refine hK.out _ _ (HS.out _ EN) (fun hHeld => ?_)
 clear hK K
 (try simp only [zA])

 clear hHeld HE
 have HEV : Hid (∀ w', Below v.heap.size v w' → OpW w') := fun w' h => EV.out.below h
 have BV : Hid (∀ w', Below v.heap.size v w' → Below w.heap.size w w') := fun w' h => B.trans (h.mono (Nat.le_of_eq hz0))
 refine iH #[true, true, true, false, true, true, false, true, true, false, true, true, false, true, true, false, true, true, false, true, true, false, true, true, false, true, true, false, true, true, false, true, true, false, true, true, false, true, true, false, true, true, false, false, false] (by kernel_rfl) (InJ v v.heap.size) 43 44 (by decide) ?_ ?_ ?_ ?_ [3, 6, 9, 12, 15, 18, 21, 24, 27, 30, 33, 36, 39, 42, 43, 44] (by decide) ?_ ?_
 ·clear M0 BN EN
  intro f listed w1 hJ i hi hne
  obtain ⟨hz, hm, h44, F, n, HM, hn, hF, hN, hB⟩ := hJ
  have hsz : ∀ j : Int, (nmK j).size ≤ maxLen := fun j => Nat.le_trans (dA j) (by decide)
  rcases hm i (mem_ready.1 hi).1 with e | e | ⟨j, h1, h2, rfl⟩
  ·exact absurd e hne
  ·exfalso
   subst e
   rw [dl hi 43 (by kernel_rfl)] at h44
   exact absurd h44.1 (by decide)
  have PUT := fun (w2 : World) (hM : ch w2 v.heap.size (n + 1) (fun y => if y = nmK (j : Int) then some (fnV j) else F y)) (hb : Below v.heap.size v w2) => InJ.put (f := f) h1 h2 hz hm h44 hM (by omega) hF hN hb
  have HP : Hid (∀ (w2 : World), ch w2 v.heap.size (n + 1) (fun y => if y = nmK (j : Int) then some (fnV j) else F y) → Below v.heap.size v w2 → InJ v v.heap.size f (listed.setIfInBounds (3 * j) true) w2) := PUT
  obtain ⟨w2, hr, HM2, hg⟩ := HM.put (hsz (j : Int)) (show n < maxLen by unfold maxLen; omega) (fnV j)
  have hB2 : Below v.heap.size v w2 := ⟨hg.os.trans hB.os, hg.tape.trans hB.tape, hg.output.trans hB.output, Nat.le_trans hB.size hg.size, fun k hk => (hg.block k (Nat.lt_of_lt_of_le hk hB.size) (by simp; omega)).trans (hB.block k hk)⟩
  have hJ2 := HP.out w2 HM2 hB2
  have HJ2 : Hid (InJ v v.heap.size f (listed.setIfInBounds (3 * j) true) w2) := hJ2
  have HS2 := HS.out w2 (HEV.out w2 hB2)
  clear PUT HP hJ2 HM2 hg HM hF hN hm h44 hz hn hsz hi hne hB
  rcases (show j = 1 ∨ j = 2 ∨ j = 3 ∨ j = 4 ∨ j = 5 ∨ j = 6 ∨ j = 7 ∨ j = 8 ∨ j = 9 ∨ j = 10 ∨ j = 11 ∨ j = 12 ∨ j = 13 ∨ j = 14 by omega) with rfl | rfl | rfl | rfl | rfl | rfl | rfl | rfl | rfl | rfl | rfl | rfl | rfl | rfl
  all_goals (refine wpOp_step (by rw [List.getElem?_toArray]; rfl) (fun K hK => ?_); have HKK : Hid (∀ a w, _ → K a w) := hK; clear hK; go_simp; (first | rw [hr] | erw [hr]); go_simp; exact HKK.out _ _ ⟨HS2, rfl, HJ2.out⟩)
 ·clear M0 BN EN
  intro f g listed w1 hJ hi
  obtain ⟨hz, hm, h44, F, n, HM, hn, hF, hN, hB⟩ := hJ
  have hall : ∀ j : Nat, 1 ≤ j → j ≤ 14 → listed.getD (3 * j) true = true := by
   intro j h1 h2
   rcases (show j = 1 ∨ j = 2 ∨ j = 3 ∨ j = 4 ∨ j = 5 ∨ j = 6 ∨ j = 7 ∨ j = 8 ∨ j = 9 ∨ j = 10 ∨ j = 11 ∨ j = 12 ∨ j = 13 ∨ j = 14 by omega) with rfl | rfl | rfl | rfl | rfl | rfl | rfl | rfl | rfl | rfl | rfl | rfl | rfl | rfl
   all_goals exact dl hi _ (by kernel_rfl)
  have HFB : FbW F := ⟨fun j h1 h2 => hF j h1 h2 (hall j h1 h2), hN⟩
  have HS2 := HS.out w1 (HEV.out w1 hB)
  have B2 := BV.out w1 hB
  have HX : Hid (FbW F) := HFB
  have hL : listed.setIfInBounds 43 true = #[true, true, true, true, true, true, true, true, true, true, true, true, true, true, true, true, true, true, true, true, true, true, true, true, true, true, true, true, true, true, true, true, true, true, true, true, true, true, true, true, true, true, true, true, false] := by
   refine j8 (by rw [Array.size_setIfInBounds, hz]; rfl) fun i h => ?_
   have h' : i < 45 := h
   have q : ∀ i, i < 45 → i ≠ 44 → (#[true, true, true, true, true, true, true, true, true, true, true, true, true, true, true, true, true, true, true, true, true, true, true, true, true, true, true, true, true, true, true, true, true, true, true, true, true, true, true, true, true, true, true, true, false] : Array Bool).getD i true = true := by decide
   by_cases e : i = 44
   ·subst e
    rw [getD_set_ne true (by decide), h44.2]
    rfl
   ·rw [q i h' e]
    cases hx : (listed.setIfInBounds 43 true).getD i true
    ·exfalso
     obtain ⟨q1, q2⟩ := c8 hx
     rcases hm i q2 with e2 | e2 | ⟨j, h1, h2, rfl⟩
     ·exact q1 e2
     ·exact e e2
     ·rw [hall j h1 h2] at q2; cases q2
    ·rfl
  rw [hL]
  clear hL hall hF hN hm h44 hz hn hi HFB HS HEV BV hB
  refine wpOp_step (by rw [List.getElem?_toArray]; rfl) (fun K hK => ?_)
  have HKK : Hid (∀ a w, _ → K a w) := hK
  clear hK
  go_simp
  refine HKK.out _ _ ⟨HS2, ?_⟩
  clear HKK K
  refine zQ 44 fun K hK => ?_
  go_simp
  refine hK.out _ _ HS2 (fun hHeld => ?_)
  clear hK K
  (try simp only [List.setIfInBounds_toArray, List.set_cons_zero, List.set_cons_succ])
  refine wpAnyH_done (by kernel_rfl) ?_ _
  go_wp2_with fail
  go_ret
  exact ⟨_, rfl, _, _, HM, HX.out, by first | exact B2 | (rw [← hz0]; exact B2)⟩
 ·intro f listed w1 hJ
  exact hJ.2.2.1.2
 ·intro f listed w1 hJ
  obtain ⟨hz, hm, h44, F, n, HM, hn, hF, hN, hB⟩ := hJ
  by_cases hall : ∀ j : Nat, 1 ≤ j → j ≤ 14 → listed.getD (3 * j) true = true
  ·refine List.ne_nil_of_mem (a := 43) (ie h44.1 (fun k => decide (k < 43)) (fun k hk => ?_) (by kernel_rfl))
   have hk := of_decide_eq_true hk
   refine ⟨by omega, ?_⟩
   cases q : listed.getD k true
   ·rcases hm k q with e | e | ⟨j, h1, h2, rfl⟩
    ·omega
    ·omega
    ·rw [hall j h1 h2] at q; cases q
   ·rfl
  ·obtain ⟨j, hj⟩ := Classical.not_forall.1 hall
   obtain ⟨h1, hj⟩ := Classical.not_imp.1 hj
   obtain ⟨h2, hj⟩ := Classical.not_imp.1 hj
   have hj0 : listed.getD (3 * j) true = false := by cases q : listed.getD (3 * j) true; rfl; exact absurd q hj
   have hg : ∀ k, (decide (k < 43) && (decide (k % 3 ≠ 0) || decide (k = 0))) = true → k < listed.size ∧ listed.getD k true = true := by
    intro k hk
    rw [Bool.and_eq_true, Bool.or_eq_true] at hk
    have a1 := of_decide_eq_true hk.1
    refine ⟨by omega, ?_⟩
    cases q : listed.getD k true
    ·exfalso
     rcases hm k q with e | e | ⟨j, h1, h2, rfl⟩
     ·omega
     ·omega
     ·rcases hk.2 with a2 | a2
      ·have := of_decide_eq_true a2; omega
      ·have := of_decide_eq_true a2; omega
    ·rfl
   rcases (show j = 1 ∨ j = 2 ∨ j = 3 ∨ j = 4 ∨ j = 5 ∨ j = 6 ∨ j = 7 ∨ j = 8 ∨ j = 9 ∨ j = 10 ∨ j = 11 ∨ j = 12 ∨ j = 13 ∨ j = 14 by omega) with rfl | rfl | rfl | rfl | rfl | rfl | rfl | rfl | rfl | rfl | rfl | rfl | rfl | rfl
   all_goals exact List.ne_nil_of_mem (ie hj0 (fun k => (decide (k < 43) && (decide (k % 3 ≠ 0) || decide (k = 0)))) hg (by kernel_rfl))
 ·intro i hi
  by_cases h : i < 45
  ·have q : ∀ i, i < 45 → (#[true, true, true, false, true, true, false, true, true, false, true, true, false, true, true, false, true, true, false, true, true, false, true, true, false, true, true, false, true, true, false, true, true, false, true, true, false, true, true, false, true, true, false, false, false] : Array Bool).getD i true = false → i ∈ ([3, 6, 9, 12, 15, 18, 21, 24, 27, 30, 33, 36, 39, 42, 43, 44] : List Nat) := by decide
   exact q i h hi
  ·rw [Array.getD_eq_getD_getElem?, Array.getElem?_eq_none (by show 45 ≤ i; omega)] at hi
   cases hi
 ·refine ⟨rfl, fun i hi => ?_, ⟨rfl, rfl⟩, _, 0, M0, by decide, fun j h1 h2 hl => ?_, fun _ _ => rfl, BN⟩
  ·by_cases h : i < 45
   ·have q : ∀ i, i < 45 → (#[true, true, true, false, true, true, false, true, true, false, true, true, false, true, true, false, true, true, false, true, true, false, true, true, false, true, true, false, true, true, false, true, true, false, true, true, false, true, true, false, true, true, false, false, false] : Array Bool).getD i true = false → i = 43 ∨ i = 44 ∨ (i % 3 = 0 ∧ 0 < i ∧ i ≤ 42) := by decide
    rcases q i h hi with e | e | e
    ·exact .inl e
    ·exact .inr (.inl e)
    ·exact .inr (.inr ⟨i / 3, by omega, by omega, by omega⟩)
   ·rw [Array.getD_eq_getD_getElem?, Array.getElem?_eq_none (by show 45 ≤ i; omega)] at hi
    cases hi
  ·exfalso
   have q : ∀ j, j < 15 → 1 ≤ j → (#[true, true, true, false, true, true, false, true, true, false, true, true, false, true, true, false, true, true, false, true, true, false, true, true, false, true, true, false, true, true, false, true, true, false, true, true, false, true, true, false, true, true, false, false, false] : Array Bool).getD (3 * j) true = false := by decide
   rw [q j (by omega) h1] at hl
   cases hl
end Go.Proofs.YtddjiamollfplaaGreatDoor
