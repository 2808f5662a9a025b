/- A map of numbers, told by a function; what the map of changes holds. T -/
import Derived.Maps.OwnSet
import Derived.Lib.SlKeysI
import Derived.RangeFuncWrites
import Derived.Shelf.SlIterI.Nil
import Derived.Shelf.SortM.Plain
import Derived.Shelf.SortM.SortNone
import Derived.Test.YtikbjljkakabdaaGreatProg
import Derived.RangeFuncBox
import Derived.RangeFuncNested
import Derived.RangeFuncBound
import Derived.RangeFuncCalls
import Derived.RangeFuncLeaves
import Derived.Shelf.Abstract
import Derived.Shelf.RegionOpen
import Derived.OwnWalkIn
import Derived.TacticsInMore
import Derived.LoopNIn
import Derived.LoopIn
import Derived.Maps.OwnIn
import Derived.Test.YtikbjljkakabdaaGreatMB36
namespace Go.Proofs.YtikbjljkakabdaaGreat
open Go.RowKit
set_option linter.unusedVariables false
set_option maxRecDepth 100000
set_option maxHeartbeats 16000000
def R0n (v : Value) : Option (DataW Value × List MemPlace) := some (.held v, [])
def atN (o : Option Int) (z : DataW Value) : DataW Value := match o with | some M => .held (.int .i64 M) | none => z
def bU (w : World) (b n : Nat) (F : Int → Option Int) : Prop := ∃ D : DataW Value, w.ownsMap Tryz.prog 3 R0n b n D ∧ ∀ x, (∀ z, D.atKey (.int .i64 x) z = atN (F x) z) ∧ Maps.has D (.int .i64 x) = (F x).isSome
theorem qj : Maps.Keyed Tryz.prog 3 := Maps.int_keyed Tryz.underlying3
theorem sQ (w : World) : (zeroValue 3).run Tryz.prog w = .ok (.int .i64 0) w := by kernel_rfl
theorem mN (n : Int) (w : World) : (Instr.makeMap 274 (some (.int .i64 n))).run Tryz.prog w = .ok (.map (some w.heap.size)) (w.alloc (.map #[] 0)) := by
 first | kernel_rfl | rfl | (simp [Instr.makeMap, go_sem]; done) | (simp [Instr.makeMap]; done)
theorem bU.made (w : World) : bU (w.alloc (.map #[] 0)) w.heap.size 0 (fun _ => none) := ⟨.map [], World.ownsMap_made w _ _ _, fun x => ⟨fun z => rfl, rfl⟩⟩
theorem bU.kept {w w' : World} {b n : Nat} {F : Int → Option Int} (h : bU w b n F) {row : Option Nat} (hg : w.grownBy w' row) (hne : some b ≠ row) : bU w' b n F := by
 obtain ⟨D, h1, h2⟩ := h
 exact ⟨D, h1.kept hg hne, h2⟩
theorem bU.lt {w : World} {b n : Nat} {F : Int → Option Int} (h : bU w b n F) : b < w.heap.size := by
 obtain ⟨D, h1, h2⟩ := h
 exact h1.lt
theorem bU.below {w w' : World} {b n : Nat} {F : Int → Option Int} (h : bU w b n F) (hb : Below w.heap.size w w') : bU w' b n F :=
 h.kept (row := none) ⟨hb.os, hb.tape, hb.output, hb.size, fun k hk _ => hb.block k hk⟩ (by simp)
theorem bU.congr {w : World} {b n : Nat} {F G : Int → Option Int} (h : bU w b n F) (e : ∀ x, F x = G x) : bU w b n G := by
 obtain ⟨D, h1, h2⟩ := h
 exact ⟨D, h1, fun x => by rw [← e x]; exact h2 x⟩
theorem oJ {o : Option Int} {v : Value} {ps : List MemPlace} (h : R0n v = some (atN o (.held (.int .i64 0)), ps)) : v = .int .i64 (o.getD 0) := by
 unfold R0n at h
 simp only [Option.some.injEq, Prod.mk.injEq] at h
 cases o with
 | none => simp only [atN, DataW.held.injEq] at h; exact h.1
 | some M => simp only [atN, DataW.held.injEq] at h; exact h.1
theorem bU.look {w : World} {b n : Nat} {F : Int → Option Int} (h : bU w b n F) {x : Int} (hx : (Lit.int .i64 x).wf = true) : (Instr.lookup 274 (.map (some b)) (.int .i64 x) false).run Tryz.prog w = .ok (.int .i64 ((F x).getD 0)) w := by
 obtain ⟨D, h1, h2⟩ := h
 obtain ⟨v, ps, hrun, hv⟩ := h1.lookup (t := 274) (e := 3) qj Tryz.underlying274 (sQ w) (zd := .held (.int .i64 0)) (zp := []) rfl (Maps.keyOf_int_mk Tryz.underlying3 hx)
 rw [(h2 x).1] at hv
 rw [hrun, oJ hv]
theorem nX {x y : Int} (h : x ≠ y) : (Lit.int .i64 x) ≠ (Lit.int .i64 y) := fun e => h (by injection e)
theorem bU.put {w : World} {b n : Nat} {F : Int → Option Int} (h : bU w b n F) {x : Int} (hx : (Lit.int .i64 x).wf = true) (hn : n < maxLen) (M : Int) :
 ∃ w', (Instr.mapUpdate 274 (.map (some b)) (.int .i64 x) (.int .i64 M)).run Tryz.prog w = .ok () w' ∧ bU w' b (n + 1) (fun y => if y = x then some M else F y) ∧ w.grownBy w' (some b) := by
 obtain ⟨D, h1, h2⟩ := h
 have hD := h1.isMap
 obtain ⟨w', hrun, ho, hg⟩ := h1.update (t := 274) (e := 3) qj Tryz.underlying274 hn (key := .int .i64 x) (val := .int .i64 M) (d := .held (.int .i64 M)) (ps := []) (Maps.keyOf_int_mk Tryz.underlying3 hx) rfl
 refine ⟨w', hrun, ⟨_, ho, fun y => ?_⟩, hg⟩
 by_cases e : y = x
 ·subst e
  simp only [if_true]
  exact ⟨fun z => Maps.atKey_put_same hD (show WideAt.IsKeyLit (.int .i64 y) from trivial) _ _, Maps.has_put_same hD (show WideAt.IsKeyLit (.int .i64 y) from trivial) _⟩
 ·simp only [if_neg e]
  exact ⟨fun z => (Maps.atKey_put_other (nX e) _ _).trans ((h2 y).1 z), (Maps.has_put_other (nX e) _).trans (h2 y).2⟩
theorem bU.keys {w : World} {b n : Nat} {F : Int → Option Int} {L : List Int} (h : bU w b n F) (hL : L.Pairwise (· < ·)) (hF : ∀ x, x ∈ L ↔ (F x).isSome = true) : ∃ D : DataW Value, w.ownsMap Tryz.prog 3 R0n b n D ∧ L.Perm (intKeys D) ∧ Maps.size D = L.length := by
 obtain ⟨D, h1, h2⟩ := h
 have hp : L.Perm (intKeys D) := CollectedI.perm (left := fun _ => false) ⟨List.Pairwise.imp (fun hab => Int.ne_of_lt hab) hL, fun x => by rw [hF x, (h2 x).2]; simp⟩ h1 qj Tryz.underlying3 (fun _ => rfl)
 refine ⟨D, h1, hp, ?_⟩
 have hl := hp.length_eq
 obtain ⟨es, hD, _⟩ := h1.keysOf
 subst hD
 simp [intKeys] at hl
 simp [Maps.size]
 omega
theorem mT {L : List Int} (h : L.Pairwise (· < ·)) {ss l : List Int} (hs : ss.Perm l) (hl : L.Perm l) : ss.mergeSort (fun x y => decide (x ≤ y)) = L := by
 have e1 := mergeSort_of_perm_i (hs.trans hl.symm)
 refine e1.trans ?_
 have tr : ∀ a b c : Int, leI a b = true → leI b c = true → leI a c = true := fun a b c h1 h2 => by simp only [leI, decide_eq_true_eq] at *; exact Int.le_trans h1 h2
 have tuu' : ∀ a b : Int, (leI a b || leI b a) = true := fun a b => by simp only [leI, Bool.or_eq_true, decide_eq_true_eq]; exact Int.le_total a b
 refine List.Perm.eq_of_pairwise (le := fun a b => leI a b = true) (fun a b _ _ h1 h2 => ?_) (List.pairwise_mergeSort tr tuu' _) (List.Pairwise.imp (fun {a b} hab => by simp only [leI, decide_eq_true_eq]; exact Int.le_of_lt hab) h) (List.mergeSort_perm _ leI)
 simp only [leI, decide_eq_true_eq] at h1 h2
 exact Int.le_antisymm h1 h2
def Fm (f : Nat → Int × Int) (i : Nat) (x : Int) : Option Int := if x ∈ trn f (2 * i) then some (chg f i x) else none
theorem j1 {f : Nat → Int × Int} {x : Int} : ∀ {i : Nat}, x ∉ trn f (2 * i) → chg f i x = 0
 | 0, _ => rfl
 | i + 1, h => by
  have e : trn f (2 * (i + 1)) = ins (pl f (2 * i + 1)) (ins (pl f (2 * i)) (trn f (2 * i))) := rfl
  rw [e] at h
  simp only [dB, not_or] at h
  have e1 : pl f (2 * i) = (f i).1 := by simp [pl]
  have e2 : pl f (2 * i + 1) = (f i).2 + 1 := by
   have q1 : (2 * i + 1) % 2 = 1 := by omega
   have q2 : (2 * i + 1) / 2 = i := by omega
   simp [pl, q1, q2]
  rw [e1, e2] at h
  simp only [chg, j1 h.2.2]
  rw [if_neg (fun q => h.2.1 q.symm), if_neg (fun q => h.1 q.symm)]
  rfl
theorem lZ (f : Nat → Int × Int) (i : Nat) (x : Int) : (Fm f i x).getD 0 = chg f i x := by
 unfold Fm
 split
 ·rfl
 ·next h => simp [j1 h]
theorem iL (f : Nat → Int × Int) (x : Int) : ∀ i : Nat, -(i : Int) ≤ chg f i x ∧ chg f i x ≤ (i : Int)
 | 0 => by simp [chg]
 | i + 1 => by
  have := iL f x i
  simp only [chg]
  split <;> split <;> omega
theorem qX {f : Nat → Int × Int} {i : Nat} (ho : (f i).1 ≤ (f i).2) (y : Int) : (if y = (f i).2 + 1 then some (chg f i ((f i).2 + 1) - 1) else if y = (f i).1 then some (chg f i (f i).1 + 1) else Fm f i y) = Fm f (i + 1) y := by
 have e : trn f (2 * (i + 1)) = ins (pl f (2 * i + 1)) (ins (pl f (2 * i)) (trn f (2 * i))) := rfl
 have e1 : pl f (2 * i) = (f i).1 := by simp [pl]
 have e2 : pl f (2 * i + 1) = (f i).2 + 1 := by
  have q1 : (2 * i + 1) % 2 = 1 := by omega
  have q2 : (2 * i + 1) / 2 = i := by omega
  simp [pl, q1, q2]
 have hm : ∀ z, z ∈ trn f (2 * (i + 1)) ↔ z = (f i).2 + 1 ∨ z = (f i).1 ∨ z ∈ trn f (2 * i) := fun z => by rw [e, dB, dB, e1, e2]
 unfold Fm
 by_cases h1 : y = (f i).2 + 1
 ·rw [if_pos h1, if_pos ((hm y).2 (.inl h1)), h1]
  simp only [chg]
  rw [if_neg (by omega)]
  simp
 ·rw [if_neg h1]
  by_cases h2 : y = (f i).1
  ·rw [if_pos h2, if_pos ((hm y).2 (.inr (.inl h2))), h2]
   simp only [chg]
   rw [if_neg (show ¬ (f i).2 + 1 = (f i).1 by omega)]
   simp
  ·rw [if_neg h2]
   by_cases h3 : y ∈ trn f (2 * i)
   ·rw [if_pos h3, if_pos ((hm y).2 (.inr (.inr h3)))]
    simp only [chg]
    rw [if_neg (fun q => h2 q.symm), if_neg (fun q => h1 q.symm)]
    simp
   ·rw [if_neg h3, if_neg (fun q => by rcases (hm y).1 q with q | q | q; exact h1 q; exact h2 q; exact h3 q)]
theorem qW (f : Nat → Int × Int) (n : Nat) (x : Int) : x ∈ trn f (2 * n) ↔ (Fm f n x).isSome = true := by
 unfold Fm
 by_cases h : x ∈ trn f (2 * n)
 ·simp [h]
 ·simp [h]
theorem gF {x : Int} (h1 : -9223372036854775808 ≤ x) (h2 : x ≤ 9223372036854775807) : (Lit.int .i64 x).wf = true := by
 have h := wrap64_wf x
 have e : wrap64 x = x := by unfold wrap64; omega
 rwa [e] at h
def rN (o : Obj) : Prop := o.isWalk = true ∨ ∃ cs, o = .cells cs 3 (0, 0)
def Kp9 (B : Nat) (W W' : World) : Prop := ∀ k o, B ≤ k → W.heap[k]? = some o → rN o → W'.heap[k]? = some o
theorem Kp9.trans {B : Nat} {X Y Z : World} (h : Kp9 B X Y) (k : Kp9 B Y Z) : Kp9 B X Z := fun i o hB hi ho => k i o hB (h i o hB hi ho) ho
theorem Kp9.refl (B : Nat) (X : World) : Kp9 B X X := fun _ _ _ h _ => h
theorem Kp9.put {B : Nat} {W : World} {l : Nat} {o : Obj} (o' : Obj) (h : W.heap[l]? = some o) (h1 : o.isCells = false) (h2 : o.isWalk = false) : Kp9 B W (W.putObj l o') := fun k q hB hk hq => by
 by_cases e : k = l
 ·subst e
  rw [h] at hk; cases hk
  rcases hq with hq | ⟨cs, rfl⟩
  ·rw [h2] at hq; cases hq
  ·cases h1
 ·exact (World.putObj_heap_other e).trans hk
theorem Kp9.grown {B : Nat} {W W' : World} {row : Option Nat} (hg : W.grownBy W' row) (hr : ∀ j o, row = some j → B ≤ j → W.heap[j]? = some o → ¬ rN o) : Kp9 B W W' := fun k o hB hk ho => by
 by_cases e : some k = row
 ·exact absurd ho (hr k o e.symm hB hk)
 ·exact (hg.block k (Array.getElem?_eq_some_iff.1 hk).1 e).trans hk
theorem Kp9.row {B base : Nat} {W W' : World} {v : Value} {n : Nat} {xs : List Value} (h : Kp9 B W W') (hb : B ≤ base) (hr : W.ownsRow base 3 1 v n xs) : W'.ownsRow base 3 1 v n xs := by
 refine ⟨hr.1, ?_⟩
 rcases hr.2 with h' | ⟨g, cap, cur, h1, h2, h3, h4⟩
 ·exact .inl h'
 ·exact .inr ⟨g, cap, cur, h1, h2, h g _ (by omega) h3 (.inr ⟨_, rfl⟩), h4⟩
theorem Kp9.map {B b n : Nat} {W W' : World} {F : Int → Option Int} (h : Kp9 B W W') (hb : B ≤ b) (hm : bU W b n F) : bU W' b n F := by
 obtain ⟨D, ⟨es, clock, h1, h2⟩, h3⟩ := hm
 exact ⟨D, ⟨es, clock, h b _ hb h1 (.inl rfl), h2⟩, h3⟩
end Go.Proofs.YtikbjljkakabdaaGreat
namespace Go.Proofs.YtikbjljkakabdaaGreat
open Go.Shelf
set_option linter.unusedVariables false
set_option maxRecDepth 100000
set_option maxHeartbeats 16000000
def iq : Go.Shelf.Ren := ⟨fun | 7 => 239 | 10 => 247 | n => n, fun | 23 => 274 | 26 => 3 | 3 => 3 | 28 => 253 | 0 => 0 | 27 => 252 | 33 => 141 | 4 => 4 | n => n, fun | n => n⟩
theorem rO : Go.Proofs.SlLaysZI.n7 Tryz.prog iq := {
 mixed := by kernel_rfl
 f7 := ⟨Tryz.f239.name, by decide, Tryz.func239.trans (congrArg some (by kernel_rfl))⟩
 f10 := ⟨Tryz.f247.name, by decide, Tryz.func247.trans (congrArg some (by kernel_rfl))⟩
 t0 := Tryz.underlying0
 a0 := Tryz.isAgg0
 z0 := Tryz.sizeOf0
 v0 := Tryz.zeroValue0
 t4 := Tryz.underlying4
 a4 := Tryz.isAgg4
 z4 := Tryz.sizeOf4
 v4 := Tryz.zeroValue4
 t23 := Tryz.underlying274
 a23 := Tryz.isAgg274
 z23 := Tryz.sizeOf274
 v23 := Tryz.zeroValue274
 t26 := Tryz.underlying3
 a26 := Tryz.isAgg3
 z26 := Tryz.sizeOf3
 v26 := Tryz.zeroValue3
 t27 := Tryz.underlying252
 a27 := Tryz.isAgg252
 z27 := Tryz.sizeOf252
 v27 := Tryz.zeroValue252
 t28 := Tryz.underlying253
 a28 := Tryz.isAgg253
 z28 := Tryz.sizeOf253
 v28 := Tryz.zeroValue253
 t33 := Tryz.underlying141
 a33 := Tryz.isAgg141
 z33 := Tryz.sizeOf141
 v33 := Tryz.zeroValue141 }
def eV : Go.Shelf.Ren := ⟨fun | 6 => 212 | 8 => 230 | 9 => 231 | 11 => 245 | 13 => 208 | 12 => 246 | 23 => 228 | 24 => 229 | 14 => 249 | 15 => 250 | 16 => 251 | 17 => 252 | 18 => 253 | 19 => 254 | 20 => 255 | 21 => 256 | 22 => 257 | 25 => 258 | 26 => 241 | 27 => 242 | 28 => 259 | 29 => 260 | 30 => 209 | 31 => 261 | n => n, fun | 26 => 3 | 28 => 253 | 24 => 125 | 0 => 0 | 3 => 3 | 37 => 250 | 48 => 268 | 50 => 270 | 4 => 4 | 40 => 262 | 39 => 261 | 45 => 189 | 5 => 5 | 9 => 9 | 51 => 276 | 55 => 280 | 57 => 285 | 58 => 246 | 33 => 141 | n => n, fun | n => n⟩
theorem rp : Go.Proofs.SlLaysZI.n6 Tryz.prog eV := {
 mixed := by kernel_rfl
 f6 := ⟨Tryz.f212.name, by decide, Tryz.func212.trans (congrArg some (by kernel_rfl))⟩
 f8 := ⟨Tryz.f230.name, by decide, Tryz.func230.trans (congrArg some (by kernel_rfl))⟩
 f11 := ⟨Tryz.f245.name, by decide, Tryz.func245.trans (congrArg some (by kernel_rfl))⟩
 t0 := Tryz.underlying0
 a0 := Tryz.isAgg0
 z0 := Tryz.sizeOf0
 v0 := Tryz.zeroValue0
 t24 := Tryz.underlying125
 a24 := Tryz.isAgg125
 z24 := Tryz.sizeOf125
 v24 := Tryz.zeroValue125
 t26 := Tryz.underlying3
 a26 := Tryz.isAgg3
 z26 := Tryz.sizeOf3
 v26 := Tryz.zeroValue3
 t28 := Tryz.underlying253
 a28 := Tryz.isAgg253
 z28 := Tryz.sizeOf253
 v28 := Tryz.zeroValue253
 i26 := by kernel_rfl }
def pb : Go.Shelf.Ren := ⟨fun | 5 => 231 | 8 => 208 | 7 => 246 | 19 => 228 | 20 => 229 | 10 => 249 | 11 => 250 | 12 => 251 | 13 => 252 | 14 => 253 | 15 => 254 | 16 => 255 | 17 => 256 | 18 => 257 | 30 => 258 | 31 => 241 | 32 => 242 | 33 => 259 | 34 => 260 | 35 => 209 | 40 => 261 | n => n, fun | 23 => 125 | 25 => 3 | 3 => 3 | 32 => 250 | 22 => 125 | 0 => 0 | 44 => 268 | 46 => 270 | 4 => 4 | 36 => 262 | 35 => 261 | 41 => 189 | 5 => 5 | 9 => 9 | 53 => 276 | 57 => 280 | 63 => 285 | 64 => 246 | n => n, fun | n => n⟩
theorem rU : Go.Proofs.SlLaysM.n5 Tryz.prog pb := {
 mixed := by kernel_rfl
 f5 := ⟨Tryz.f231.name, by decide, Tryz.func231.trans (congrArg some (by kernel_rfl))⟩
 f7 := ⟨Tryz.f246.name, by decide, Tryz.func246.trans (congrArg some (by kernel_rfl))⟩
 f8 := Tryz.func208.trans (congrArg some (by kernel_rfl))
 f10 := ⟨Tryz.f249.name, by decide, Tryz.func249.trans (congrArg some (by kernel_rfl))⟩
 f11 := ⟨Tryz.f250.name, by decide, Tryz.func250.trans (congrArg some (by kernel_rfl))⟩
 f12 := ⟨Tryz.f251.name, by decide, Tryz.func251.trans (congrArg some (by kernel_rfl))⟩
 f13 := ⟨Tryz.f252.name, by decide, Tryz.func252.trans (congrArg some (by kernel_rfl))⟩
 f14 := ⟨Tryz.f253.name, by decide, Tryz.func253.trans (congrArg some (by kernel_rfl))⟩
 f15 := ⟨Tryz.f254.name, by decide, Tryz.func254.trans (congrArg some (by kernel_rfl))⟩
 f16 := ⟨Tryz.f255.name, by decide, Tryz.func255.trans (congrArg some (by kernel_rfl))⟩
 f17 := ⟨Tryz.f256.name, by decide, Tryz.func256.trans (congrArg some (by kernel_rfl))⟩
 f18 := ⟨Tryz.f257.name, by decide, Tryz.func257.trans (congrArg some (by kernel_rfl))⟩
 f19 := Tryz.func228.trans (congrArg some (by kernel_rfl))
 f20 := Tryz.func229.trans (congrArg some (by kernel_rfl))
 f30 := ⟨Tryz.f258.name, by decide, Tryz.func258.trans (congrArg some (by kernel_rfl))⟩
 f31 := Tryz.func241.trans (congrArg some (by kernel_rfl))
 f32 := Tryz.func242.trans (congrArg some (by kernel_rfl))
 f33 := ⟨Tryz.f259.name, by decide, Tryz.func259.trans (congrArg some (by kernel_rfl))⟩
 f34 := ⟨Tryz.f260.name, by decide, Tryz.func260.trans (congrArg some (by kernel_rfl))⟩
 f35 := ⟨Tryz.f209.name, by decide, Tryz.func209.trans (congrArg some (by kernel_rfl))⟩
 f40 := ⟨Tryz.f261.name, by decide, Tryz.func261.trans (congrArg some (by kernel_rfl))⟩
 t0 := Tryz.underlying0
 a0 := Tryz.isAgg0
 z0 := Tryz.sizeOf0
 v0 := Tryz.zeroValue0
 t3 := Tryz.underlying3
 a3 := Tryz.isAgg3
 z3 := Tryz.sizeOf3
 v3 := Tryz.zeroValue3
 t4 := Tryz.underlying4
 a4 := Tryz.isAgg4
 z4 := Tryz.sizeOf4
 v4 := Tryz.zeroValue4
 t5 := Tryz.underlying5
 a5 := Tryz.isAgg5
 z5 := Tryz.sizeOf5
 v5 := Tryz.zeroValue5
 t9 := Tryz.underlying9
 a9 := Tryz.isAgg9
 z9 := Tryz.sizeOf9
 v9 := Tryz.zeroValue9
 t22 := Tryz.underlying125
 a22 := Tryz.isAgg125
 z22 := Tryz.sizeOf125
 v22 := Tryz.zeroValue125
 t23 := Tryz.underlying125
 a23 := Tryz.isAgg125
 z23 := Tryz.sizeOf125
 v23 := Tryz.zeroValue125
 t25 := Tryz.underlying3
 a25 := Tryz.isAgg3
 z25 := Tryz.sizeOf3
 v25 := Tryz.zeroValue3
 t32 := Tryz.underlying250
 a32 := Tryz.isAgg250
 z32 := Tryz.sizeOf250
 v32 := Tryz.zeroValue250
 t35 := Tryz.underlying261
 a35 := Tryz.isAgg261
 z35 := Tryz.sizeOf261
 v35 := Tryz.zeroValue261
 t36 := Tryz.underlying262
 a36 := Tryz.isAgg262
 z36 := Tryz.sizeOf262
 v36 := Tryz.zeroValue262
 t41 := Tryz.underlying189
 a41 := Tryz.isAgg189
 z41 := Tryz.sizeOf189
 v41 := Tryz.zeroValue189
 t44 := Tryz.underlying268
 a44 := Tryz.isAgg268
 z44 := Tryz.sizeOf268
 v44 := Tryz.zeroValue268
 t46 := Tryz.underlying270
 a46 := Tryz.isAgg270
 z46 := Tryz.sizeOf270
 v46 := Tryz.zeroValue270
 t53 := Tryz.underlying276
 a53 := Tryz.isAgg276
 z53 := Tryz.sizeOf276
 v53 := Tryz.zeroValue276
 t57 := Tryz.underlying280
 a57 := Tryz.isAgg280
 z57 := Tryz.sizeOf280
 v57 := Tryz.zeroValue280
 t63 := Tryz.underlying285
 a63 := Tryz.isAgg285
 z63 := Tryz.sizeOf285
 v63 := Tryz.zeroValue285
 t64 := Tryz.underlying246
 a64 := Tryz.isAgg246
 z64 := Tryz.sizeOf246
 v64 := Tryz.zeroValue246 }
end Go.Proofs.YtikbjljkakabdaaGreat
namespace Go.Proofs.YtikbjljkakabdaaGreat
open Go.RowKit
open Go.Maps Go.Sort Go.Shelf
set_option linter.unusedVariables false
set_option maxRecDepth 100000
set_option maxHeartbeats 16000000
attribute [local go_sem] Oper.semAt_some
theorem sE (m : Nat) : AnyZI.SortsIn Tryz.prog eV Fence.wide m :=
 ⟨fun blk off cap ss W hH hblk hsz => callsIn_wide.2 (AnyM.slices_Sort_int rU blk off cap ss W hH hblk hsz),
  fun p cap W => callsIn_wide.2 (AnyM.slices_Sort_int_none rU p cap W)⟩
abbrev TP := { p : Int × Int // (-1000000000000 ≤ p.1 ∧ p.1 ≤ 1000000000001) ∧ 0 ≤ p.2 ∧ p.2 ≤ 12 }
def bZ (xs : List TP) : List (Int × Int) := xs.map fun x => x.1
theorem qQ (pre : List TP) (x : TP) : bZ (pre ++ [x]) = bZ pre ++ [x.1] := by simp [bZ]
theorem gE (xs : List TP) : (bZ xs).length = xs.length := by simp [bZ]
theorem oV {w : World} {base : Nat} {T : TypeId} {s : Nat} {v : Value} {n : Nat} {xs : List Value} (h : w.ownsRow base T s v n xs) : ∃ a c, v = .slice a n c ∧ (0 < n → ∃ g, a = some ⟨g, 0, none⟩) := by
 rcases h.2 with ⟨rfl, rfl⟩ | ⟨g, cap, _, rfl, _⟩
 ·exact ⟨none, 0, rfl, fun h => absurd h (Nat.lt_irrefl _)⟩
 ·exact ⟨_, cap, rfl, fun _ => ⟨g, rfl⟩⟩
theorem qO (l Bn B0 : Nat) (a : Option Addr) (n c : Nat) (f : Nat → Int × Int) (xs : List TP) (J Jx : List TP → World → Prop) (W : World)
 (hn : n ≤ 12) (ho : be f n = true) (hxs : bZ xs = trs f n) (hJ : AbidesFrom W.heap.size J)
 (hY : ∀ pre x W1, J pre W1 → pre.length < xs.length → YieldAt Fence.wide 5 Tryz.prog l #[.int .i64 x.1.1, .int .i64 x.1.2] W1 fun e W' => (e = .returned (.bool true) ∧ J (pre ++ [x]) W' ∧ Kp9 B0 W1 W') ∨ (e = .returned (.bool false) ∧ Jx (pre ++ [x]) W'))
 (hB0 : B0 ≤ W.heap.size) (hBn : W.cell? ⟨Bn, 0, none⟩ = some (.slice a n c)) (hBl : Bn < W.heap.size) (hs : Src W a n f) (h0 : J [] W) :
 CallsIn Fence.wide 6 Tryz.prog 238 #[.func (.yield l) #[] #[], .pointer (some ⟨Bn, 0, none⟩)] W fun e W' => (∃ v, e = .returned v) ∧ ((∃ ys, ys = xs ∧ J ys W') ∨ (∃ pre, pre <+: xs ∧ Jx pre W')) := by
 have HS : Hid (Src W a n f) := hs
 have HO : Hid (∀ i, i < n → okI (f i).1 (f i).2 = true) := dV ho
 have HT : Hid (be f n = true) := ho
 have HX : Hid (bZ xs = trs f n) := hxs
 have HJ : Hid (AbidesFrom W.heap.size J) := hJ
 have HJ0 : Hid (J [] W) := h0
 have HY : Hid (∀ pre x W1, J pre W1 → pre.length < xs.length → YieldAt Fence.wide 5 Tryz.prog l #[.int .i64 x.1.1, .int .i64 x.1.2] W1 fun e W' => (e = .returned (.bool true) ∧ J (pre ++ [x]) W' ∧ Kp9 B0 W1 W') ∨ (e = .returned (.bool false) ∧ Jx (pre ++ [x]) W')) := hY
 have hmm := fun (W : World) => mN (2 * (n : Int)) W
 have M0 : bU (W.alloc (.map #[] 0)) W.heap.size (2 * 0) (Fm f 0) := (bU.made W).congr (fun x => by simp [Fm, trn])
 have BA := Below.al9 W (.map #[] 0)
 clear hs ho hxs hJ h0 hY
 refine callsIn_of_wp Tryz.func238 rfl trivial ?_ rfl
 simp only [Tryz.ntmps238, List.size_toArray, List.length_cons, List.length_nil, Nat.reduceAdd, Nat.reduceSub, Array.replicate_succ, Array.replicate_zero, List.push_toArray, List.append_toArray, List.nil_append, List.cons_append]
 gi_wp2
 clear hmm
 gi_loopw [15] (fun i wr => ∃ k : Nat, k ≤ n ∧ i = .int .i64 k ∧ bU wr W.heap.size (2 * k) (Fm f k) ∧ Below W.heap.size W wr) (fun i _ => n - (intOf i).toNat)
 case atStart => exact ⟨0, Nat.zero_le _, rfl, M0, BA⟩
 case round =>
  obtain ⟨k, hk, rfl, MP, B⟩ := hrel
  clear M0 BA
  by_cases hlt : k < n
  ·have hli : (k : Int) < (n : Int) := by omega
   rcases HS.out.below B with h0 | ⟨b, off, rfl, hp⟩
   ·omega
   have c0 : wr.cell? ⟨b, off + k * 2, none⟩ = some (.int .i64 (f k).1) := (hp.2 k hlt).1
   have c1 : wr.cell? ⟨b, off + k * 2 + 1, none⟩ = some (.int .i64 (f k).2) := (hp.2 k hlt).2
   obtain ⟨o1, o2, o3⟩ := bF (HO.out k hlt)
   have FS := qX (f := f) (i := k) o1
   have HFS : Hid (∀ y, (if y = (f k).2 + 1 then some (chg f k ((f k).2 + 1) - 1) else if y = (f k).1 then some (chg f k (f k).1 + 1) else Fm f k y) = Fm f (k + 1) y) := FS
   have g1 := lZ f k (f k).1
   have g2 := lZ f k ((f k).2 + 1)
   have i1 := iL f (f k).1 k
   have i2 := iL f ((f k).2 + 1) k
   clear hp FS
   generalize chg f k (f k).1 = y1 at *
   generalize chg f k ((f k).2 + 1) = y2 at *
   generalize (f k).1 = lo at *
   generalize (f k).2 = hi at *
   have A := Below.al9 wr (.cells #[.int .i64 lo, .int .i64 hi] 47)
   have M1 := MP.below A
   have B1 := B.trans (A.mono B.size)
   have hwb : W.heap.size < wr.heap.size := MP.lt
   have n0 : (wr.alloc (.cells #[.int .i64 lo, .int .i64 hi] 47)).cell? ⟨wr.heap.size, 0, none⟩ = some (.int .i64 lo) := by simp
   have n1 : (wr.alloc (.cells #[.int .i64 lo, .int .i64 hi] 47)).cell? ⟨wr.heap.size, 1, none⟩ = some (.int .i64 hi) := by simp
   have hsz1 : wr.heap.size < (wr.alloc (.cells #[.int .i64 lo, .int .i64 hi] 47)).heap.size := by simp
   have l1 := M1.look (x := lo) (gF (by omega) (by omega))
   rw [g1] at l1
   obtain ⟨w2, r2, M2, gr2⟩ := M1.put (x := lo) (gF (by omega) (by omega)) (by unfold maxLen; omega) (y1 + 1)
   have l2 := M2.look (x := hi + 1) (gF (by omega) (by omega))
   rw [if_neg (by omega), g2] at l2
   obtain ⟨w3, r3, M3, gr3⟩ := M2.put (x := hi + 1) (gF (by omega) (by omega)) (by unfold maxLen; omega) (y2 - 1)
   have m1 : w2.cell? ⟨wr.heap.size, 1, none⟩ = some (.int .i64 hi) := by
    have := gr2.block wr.heap.size hsz1 (by simp; omega)
    rw [← n1]; simp only [World.cell?, this]
   have B3 : Below W.heap.size W w3 := (B1.grown gr2 B1.size (fun j e => by cases e; exact Nat.le_refl _)).grown gr3 (Nat.le_trans B1.size gr2.size) (fun j e => by cases e; exact Nat.le_refl _)
   have M4 := M3.congr HFS.out
   clear M3 M2 M1 B1 B MP A HFS g1 g2 gr2 gr3
   gi_wp2
   go_roundw
   case rel => exact ⟨k + 1, by omega, by go_num, M4, B3⟩
   case measure => simp [intOf]; omega
  ·have hkn : k = n := by omega
   subst hkn
   have hli : ¬ (k : Int) < (k : Int) := by omega
   obtain ⟨D, hown, hperm, hszD⟩ := MP.keys (ej f (2 * k)) (qW f k)
   have hTl := dH f (2 * k)
   have HQ : Hid (∀ ss : List Int, ss.Perm (intKeys D) → ss.length = (trn f (2 * k)).length ∧ (ss.mergeSort (fun x y => decide (x ≤ y))).map encZ = itL (trn f (2 * k))) := fun ss hs => by
    refine ⟨(hs.trans hperm.symm).length_eq, ?_⟩
    rw [mT (ej f (2 * k)) hs hperm]
    rfl
   have HA : Hid (∀ j, j < (trn f (2 * k)).length → smC (chg f k) ((trn f (2 * k)).take (j + 1)) = (cov f k (iat (trn f (2 * k)) j) : Int)) := fun j hj => ry HT.out hj
   have HG : Hid (∀ x, (Fm f k x).getD 0 = chg f k x) := lZ f k
   have HC : Hid (∀ x, -(k : Int) ≤ chg f k x ∧ chg f k x ≤ (k : Int)) := fun x => iL f x k
   have HCL : Hid (∀ x, cov f k x ≤ k) := fun x => iM f x k
   have HI : Hid (∀ x, x ∈ trn f (2 * k) → -1000000000000 ≤ x ∧ x ≤ 1000000000001) := fun x hx => eL HT.out hx
   have HXV : Hid (bZ xs = (trn f (2 * k)).map fun p => (p, (cov f k p : Int))) := HX.out
   clear hperm HX HT HS HO
   generalize wr = V at *
   have hbl := hown.lt
   have hseq : SeqGives Fence.wide 2 Tryz.prog 247 #[.pointer (some ⟨V.heap.size, 0, none⟩)] encZ (fun ss => ss.Perm (intKeys D)) (Maps.size D) (V.alloc (.cells #[.map (some W.heap.size)] 274)) :=
    AnyZI.keys_gives (ρ := iq) { rO with } Fence.wide _ trivial rfl (by omega) V.heap.size W.heap.size (2 * k) D _ (by simp) (by simp) (by
     obtain ⟨es, clock, hb, Ft, hs, hD⟩ := hown
     exact ⟨es, clock, (Below.heap_alloc _ _ _ hbl).trans hb, Ft, hs, hD⟩)
   have cK : ∀ mb W, CallsIn Fence.wide 5 Tryz.prog 239 #[.map mb] W fun e w' => e = .returned (.func (.func 247) #[] #[.pointer (some ⟨W.heap.size, 0, none⟩)]) ∧ w' = W.alloc (.cells #[.map mb] 274) := fun mb W => AnyZI.keys_in rO Fence.wide 5 trivial rfl mb W
   have cS := AnyZI.sorted_in rp Fence.wide 5 trivial trivial trivial trivial rfl (by omega) (sE _) (enters_of Tryz.func231 (by kernel_rfl) rfl) 247 #[.pointer (some ⟨V.heap.size, 0, none⟩)] trivial (enters_of Tryz.func247 (by kernel_rfl) rfl) _ _ (by rw [hszD]; unfold maxLen; omega) (by rw [hszD]; omega) _ hseq
   change CallsIn _ _ Tryz.prog 212 _ _ _ at cS
   have hfK : Fence.wide.fn 239 := trivial
   have hfS : Fence.wide.fn 212 := trivial
   have HMP : Hid (bU V W.heap.size (2 * k) (Fm f k)) := MP
   have AV := Below.al9 V (.cells #[.map (some W.heap.size)] 274)
   have hsV : V.heap.size < (V.alloc (.cells #[.map (some W.heap.size)] 274)).heap.size := by simp
   clear hown hseq hszD MP
   generalize hT : trn f (2 * k) = T at *
   gi_wp2_with (first
    | (gi_at_call 239; refine (cK _ _).mono ?_; rintro e w' ⟨rfl, rfl⟩)
    | (gi_at_call 212; refine cS.mono ?_; rintro e w9 ⟨v, ss, rfl, hS, hrow, hnil, hb9⟩; obtain ⟨e1, e2⟩ := HQ.out ss hS; (rw [e1, e2] at hrow); (have hr9 := ownsRow_base_a hrow (show V.heap.size ≤ _ by simp)); (have B9 := B.trans (AV.mono B.size)); (have B9' := B9.trans (hb9.mono B9.size)); (have M9 := (HMP.out.below AV).below hb9); obtain ⟨aV, cV, rfl, hgV⟩ := oV hr9; clear hrow hnil e1 e2 hS hb9 B9))
   have J9 : J [] w9 := HJ.out [] W w9 none HJ0.out ⟨B9'.os, B9'.tape, B9'.output, B9'.size, fun q hq _ => B9'.block q hq⟩ (fun r e => by cases e)
   have hBV : B0 ≤ V.heap.size := by omega
   have hB0w : B0 ≤ W.heap.size := hB0
   have hJ9' : J (xs.take 0) w9 := by simpa using J9
   clear J9 cK cS B9' AV HMP hsV HJ HJ0 B
   have hvl : xs.length = T.length := by have := congrArg List.length HXV.out; rw [gE] at this; simpa using this
   gi_loopw [6, 35] (fun s i wr => ∃ j : Nat, j ≤ T.length ∧ s = .int .i64 (smC (chg f k) (T.take j)) ∧ i = .int .i64 j ∧ wr.ownsRow V.heap.size 3 1 (.slice aV T.length cV) T.length (itL T) ∧ bU wr W.heap.size (2 * k) (Fm f k) ∧ J (xs.take j) wr) (fun _ i _ => T.length - (intOf i).toNat)
   case atStart => exact ⟨0, Nat.zero_le _, rfl, rfl, hr9, M9, hJ9'⟩
   case round =>
    obtain ⟨j, hj, rfl, rfl, OR, MR, hJr⟩ := hrel
    clear hr9 M9 hJ9'
    by_cases hlt : j < T.length
    ·obtain ⟨g, rfl⟩ := hgV (by omega)
     have hli2 : (j : Int) < (T.length : Int) := by omega
     have c0 := aL OR (i := j) hlt
     have hxl : j < xs.length := by omega
     have hmem : iat T j ∈ T := by unfold iat; rw [List.getD_eq_getElem?_getD, List.getElem?_eq_getElem hlt]; exact List.getElem_mem hlt
     have hin := HI.out _ hmem
     have hl1 := MR.look (x := iat T j) (gF (by omega) (by omega))
     rw [HG.out] at hl1
     have hsum := HA.out j hlt
     have hsum2 : smC (chg f k) (T.take (j + 1)) = smC (chg f k) (T.take j) + chg f k (iat T j) := by
      rw [cR T hlt 0]; simp [smC, iat]
     have hcl := HCL.out (iat T j)
     have hci := HC.out (iat T j)
     have ex : (xs[j]).1 = (iat T j, (cov f k (iat T j) : Int)) := by
      have h2 : (bZ xs)[j]? = some (xs[j]).1 := by simp [bZ, hxl]
      rw [HXV.out] at h2
      simp [hlt] at h2
      rw [← h2]; simp [iat, hlt]
     have etk : xs.take (j + 1) = xs.take j ++ [xs[j]] := by rw [List.take_add_one, List.getElem?_eq_getElem hxl]; rfl
     obtain ⟨fn, tmps, assign, body, hy, hR⟩ := HY.out (xs.take j) xs[j] wr hJr (by simp; omega)
     rw [ex] at hy
     dsimp only at hy
     rw [← etk] at hR
     have hpre : xs.take (j + 1) <+: xs := List.take_prefix _ _
     have E1 : smC (chg f k) (T.take j) + chg f k (iat T j) = (cov f k (iat T j) : Int) := by rw [← hsum2]; exact hsum
     have E2 : Hid (smC (chg f k) (T.take (j + 1)) = (cov f k (iat T j) : Int)) := hsum
     clear hsum hsum2 ex etk hmem
     generalize smC (chg f k) (T.take j) = s0 at *
     generalize chg f k (iat T j) = y0 at *
     generalize (cov f k (iat T j)) = cv at *
     generalize hp0 : iat T j = p0 at *
     clear hp0
     have hs0 : s0 = (cv : Int) - y0 := by omega
     clear E1
     subst hs0
     have E3 : (cv : Int) - y0 + y0 = (cv : Int) := by omega
     gi_wp2
     refine hR.mono ?_
     rintro e W3 (⟨rfl, hJ3, hk3⟩ | ⟨rfl, hJx3⟩)
     ·have OR3 := hk3.row hBV OR
      have MR3 := hk3.map hB0w MR
      gi_wp2
      go_roundw
      case rel => exact ⟨j + 1, by omega, by rw [E2.out], by go_num, OR3, MR3, hJ3⟩
      case measure => simp [intOf]; omega
     ·gi_wp2
      refine bodyPost_ret (results_none rfl _ _ _) rfl ?_
      exact ⟨⟨_, rfl⟩, .inr ⟨_, hpre, hJx3⟩⟩
    ·have hli2 : ¬ (j : Int) < (T.length : Int) := by omega
     have hall : xs.take j = xs := List.take_of_length_le (by omega)
     rw [hall] at hJr
     gi_wp2
     go_end0
     exact ⟨⟨_, rfl⟩, .inl hJr⟩
theorem qP (a : Option Addr) (n c d : Nat) (w : World) :
 CallsIn Fence.wide d Tryz.prog 219 #[.slice a n c] w fun e w' => e = .returned (.func (.func 238) #[] #[.pointer (some ⟨w.heap.size, 0, none⟩)]) ∧ w' = w.alloc (.cells #[.slice a n c] 124) := by
 refine callsIn_of_wp Tryz.func219 rfl trivial ?_ rfl
 simp only [Tryz.ntmps219, List.size_toArray, List.length_cons, List.length_nil, Nat.reduceAdd, Nat.reduceSub, Array.replicate_succ, Array.replicate_zero, List.push_toArray, List.append_toArray, List.nil_append, List.cons_append]
 gi_wp2
 go_ret
 exact ⟨rfl, rfl⟩
theorem lW (Bn B0 : Nat) (a : Option Addr) (n c : Nat) (f : Nat → Int × Int) (xs : List TP) (w : World) (hn : n ≤ 12) (ho : be f n = true) (hxs : bZ xs = trs f n) (hB0 : B0 ≤ w.heap.size)
 (hBn : w.cell? ⟨Bn, 0, none⟩ = some (.slice a n c)) (hBl : Bn < w.heap.size) (hs : Src w a n f) :
 SeqStopsK Fence.wide 6 Tryz.prog 238 #[.pointer (some ⟨Bn, 0, none⟩)] (fun x : TP => #[Value.int .i64 x.1.1, Value.int .i64 x.1.2]) (Kp9 B0) (fun ys => ys = xs) (fun pre => pre <+: xs) xs.length w := fun l J Jx W hW hJ _ hY h0 =>
 qO l Bn B0 a n c f xs J Jx W hn ho hxs hJ hY (Nat.le_trans hB0 hW.size) ((hW.cell (p := ⟨Bn, 0, none⟩) hBl).trans hBn) (Nat.lt_of_lt_of_le hBl hW.size) (hs.below hW) h0
theorem nx {f : Nat → Int × Int} {n : Nat} (hn : n ≤ 12) (ho : be f n = true) : ∃ xs : List TP, bZ xs = trs f n := by
 have : ∀ L : List (Int × Int), (∀ x, x ∈ L → (-1000000000000 ≤ x.1 ∧ x.1 ≤ 1000000000001) ∧ 0 ≤ x.2 ∧ x.2 ≤ 12) → ∃ xs : List TP, bZ xs = L := by
  intro L
  induction L with
  | nil => intro _; exact ⟨[], rfl⟩
  | cons y l ih =>
   intro h
   obtain ⟨xs, hx⟩ := ih (fun x hx => h x (List.mem_cons_of_mem _ hx))
   exact ⟨⟨y, h y List.mem_cons_self⟩ :: xs, by simp [bZ] at hx ⊢; exact hx⟩
 refine this _ (fun x hx => ?_)
 obtain ⟨p, hp, rfl⟩ := List.mem_map.1 hx
 have := iM f p n
 exact ⟨eL ho hp, by simp only; omega, by simp only; omega⟩
end Go.Proofs.YtikbjljkakabdaaGreat
