/- Peers by their Ids: a map, told by a function of the Id; what a range  -/
import Derived.Maps.OwnSet
import Derived.Maps.RangeWalk
import Derived.Lib.SlKeysI
import Derived.Shelf.SlIterI.Nil
import Derived.Shelf.SortM.Plain
import Derived.Shelf.SortM.SortNone
import Derived.Test.YtikbjljkakabdaaGreatProg
import Derived.Shelf.SlSortCmp.SmallK
import Derived.Shelf.SlicesG.Cmp
import Derived.Shelf.Small.Bits
import Derived.Sort.OwnSorted
import Derived.Laws.MakeOwn
import Derived.Test.YtikbjljkakabdaaGreatMB11
namespace Go.Proofs.YtikbjljkakabdaaGreat
open Go.RowKit
set_option linter.unusedVariables false
set_option maxRecDepth 100000
set_option maxHeartbeats 16000000
def pv (M : PT) : Value := .agg #[.int .i64 M.1, .int .i64 M.2.1, .int .i64 M.2.2.1, .int .i64 M.2.2.2.1, .bool M.2.2.2.2]
open Classical in
noncomputable def R0p (v : Value) : Option (DataW Value × List MemPlace) := if ∃ M, v = pv M then some (.held v, []) else none
theorem pz (M : PT) : R0p (pv M) = some (.held (pv M), []) := if_pos ⟨M, rfl⟩
theorem iI {v : Value} {d : DataW Value} {ps : List MemPlace} (h : R0p v = some (d, ps)) : (∃ M, v = pv M) ∧ .held v = d := by
 unfold R0p at h
 split at h
 ·next hM => simp only [Option.some.injEq, Prod.mk.injEq] at h; exact ⟨hM, h.1⟩
 ·cases h
def atP (o : Option PT) (z : DataW Value) : DataW Value := match o with | some M => .held (pv M) | none => z
def bq (w : World) (b n : Nat) (F : Int → Option PT) : Prop := ∃ D : DataW Value, w.ownsMap Tryz.prog 3 R0p b n D ∧ ∀ x, (∀ z, D.atKey (.int .i64 x) z = atP (F x) z) ∧ Maps.has D (.int .i64 x) = (F x).isSome
theorem kT : Maps.Keyed Tryz.prog 3 := Maps.int_keyed Tryz.underlying3
theorem sR (w : World) : (zeroValue 154).run Tryz.prog w = .ok (pv zP) w := by kernel_rfl
theorem mO (n : Nat) (w : World) : (Instr.makeMap 210 (some (.int .i64 (n : Int)))).run Tryz.prog w = .ok (.map (some w.heap.size)) (w.alloc (.map #[] 0)) := by
 first | kernel_rfl | rfl | (simp [Instr.makeMap, go_sem]; done) | (simp [Instr.makeMap]; done)
theorem bq.made (w : World) : bq (w.alloc (.map #[] 0)) w.heap.size 0 (fun _ => none) := ⟨.map [], World.ownsMap_made w _ _ _, fun x => ⟨fun z => rfl, rfl⟩⟩
theorem bq.kept {w w' : World} {b n : Nat} {F : Int → Option PT} (h : bq w b n F) {row : Option Nat} (hg : w.grownBy w' row) (hne : some b ≠ row) : bq w' b n F := by
 obtain ⟨D, h1, h2⟩ := h
 exact ⟨D, h1.kept hg hne, h2⟩
theorem bq.lt {w : World} {b n : Nat} {F : Int → Option PT} (h : bq w b n F) : b < w.heap.size := by
 obtain ⟨D, h1, h2⟩ := h
 exact h1.lt
theorem bq.below {w w' : World} {b n : Nat} {F : Int → Option PT} (h : bq w b n F) (hb : Below w.heap.size w w') : bq w' b n F :=
 h.kept (row := none) ⟨hb.os, hb.tape, hb.output, hb.size, fun k hk _ => hb.block k hk⟩ (by simp)
theorem bq.setCell {w : World} {b n : Nat} {F : Int → Option PT} (h : bq w b n F) {a : Addr} (ha : b ≠ a.block) (u : Value) : bq (w.setCell a u) b n F := by
 obtain ⟨D, h1, h2⟩ := h
 exact ⟨D, h1.setCell ha u, h2⟩
theorem bq.congr {w : World} {b n : Nat} {F G : Int → Option PT} (h : bq w b n F) (e : ∀ x, F x = G x) : bq w b n G := by
 obtain ⟨D, h1, h2⟩ := h
 exact ⟨D, h1, fun x => by rw [← e x]; exact h2 x⟩
theorem oK {o : Option PT} {v : Value} {ps : List MemPlace} (h : R0p v = some (atP o (.held (pv zP)), ps)) : v = pv (o.getD zP) := by
 have h1 := (iI h).2
 cases o with
 | none => simp only [atP, DataW.held.injEq] at h1; exact h1
 | some M => simp only [atP, DataW.held.injEq] at h1; exact h1
theorem bq.look {w : World} {b n : Nat} {F : Int → Option PT} (h : bq w b n F) {x : Int} (hx : (Lit.int .i64 x).wf = true) : (Instr.lookup 210 (.map (some b)) (.int .i64 x) false).run Tryz.prog w = .ok (pv ((F x).getD zP)) w := by
 obtain ⟨D, h1, h2⟩ := h
 obtain ⟨v, ps, hrun, hv⟩ := h1.lookup (t := 210) (e := 154) kT Tryz.underlying210 (sR w) (zd := .held (pv zP)) (zp := []) (pz zP) (Maps.keyOf_int_mk Tryz.underlying3 hx)
 rw [(h2 x).1] at hv
 rw [hrun, oK hv]
theorem nY {x y : Int} (h : x ≠ y) : (Lit.int .i64 x) ≠ (Lit.int .i64 y) := fun e => h (by injection e)
theorem bq.put {w : World} {b n : Nat} {F : Int → Option PT} (h : bq w b n F) {x : Int} (hx : (Lit.int .i64 x).wf = true) (hn : n < maxLen) (M : PT) :
 ∃ w', (Instr.mapUpdate 210 (.map (some b)) (.int .i64 x) (pv M)).run Tryz.prog w = .ok () w' ∧ bq w' b (n + 1) (fun y => if y = x then some M else F y) ∧ w.grownBy w' (some b) := by
 obtain ⟨D, h1, h2⟩ := h
 have hD := h1.isMap
 obtain ⟨w', hrun, ho, hg⟩ := h1.update (t := 210) (e := 154) kT Tryz.underlying210 hn (key := .int .i64 x) (val := pv M) (d := .held (pv M)) (ps := []) (Maps.keyOf_int_mk Tryz.underlying3 hx) (pz M)
 refine ⟨w', hrun, ⟨_, ho, fun y => ?_⟩, hg⟩
 by_cases e : y = x
 ·subst e
  simp only [if_true]
  exact ⟨fun z => Maps.atKey_put_same hD (show WideAt.IsKeyLit (.int .i64 y) from trivial) _ _, Maps.has_put_same hD (show WideAt.IsKeyLit (.int .i64 y) from trivial) _⟩
 ·simp only [if_neg e]
  exact ⟨fun z => (Maps.atKey_put_other (nY e) _ _).trans ((h2 y).1 z), (Maps.has_put_other (nY e) _).trans (h2 y).2⟩
theorem bq.but {w w' : World} {b n q : Nat} {F : Int → Option PT} (h : bq w b n F) (hb : But q w w') (hq : b ≠ q) : bq w' b n F := h.kept hb.grK (by simpa using hq)
theorem bq.drew {w : World} {b n : Nat} {F : Int → Option PT} (h : bq w b n F) : bq w.drew b n F := h
def FLP (F : Int → Option PT) (L : List PT) : Prop := L.Pairwise (fun a b => a.1 < b.1) ∧ ∀ x q, F x = some q ↔ (q ∈ L ∧ q.1 = x)
theorem FLP.ofLst {M : Nat → PT} {n : Nat} (h : oks M n = true) : FLP (lkP M n) (cP M n) := by
 refine ⟨?_, fun x q => ⟨fun hx => ?_, fun ⟨h1, h2⟩ => ?_⟩⟩
 ·rw [cP, List.pairwise_map]
  exact List.Pairwise.imp_of_mem (fun {a b} ha hb hab => fu h hab (List.mem_range.1 hb)) List.pairwise_lt_range
 ·obtain ⟨j, h1, h2, h3⟩ := kU hx
  exact ⟨nZ.2 ⟨j, h1, h2⟩, h3⟩
 ·obtain ⟨j, hj, rfl⟩ := nZ.1 h1
  rw [← h2]
  exact mA (fun i j h1 h2 => fu h h1 h2) hj
theorem FLP.len {M : Nat → PT} {n : Nat} : (cP M n).length = n := d6 M n
theorem FLP.nodup {F : Int → Option PT} {L : List PT} (h : FLP F L) : L.Nodup := by
 refine List.Pairwise.imp (fun {a b} hab e => ?_) h.1
 rw [e] at hab
 exact absurd hab (Int.lt_irrefl _)
theorem FLP.sorted {F : Int → Option PT} {L : List PT} (h : FLP F L) {acc : List PT} (hp : acc.Perm L) (hs : acc.Pairwise (fun a b => ¬ b.1 < a.1)) : acc = L := by
 refine List.Perm.eq_of_pairwise (le := fun a b : PT => a.1 ≤ b.1) (fun a b ha hb h1 h2 => ?_) (List.Pairwise.imp (fun {a b} hab => by omega) hs) (List.Pairwise.imp (fun {a b} hab => by omega) h.1) hp
 have ha' := hp.mem_iff.1 ha
 have e : a.1 = b.1 := Int.le_antisymm h1 h2
 have q1 := (h.2 a.1 a).2 ⟨ha', rfl⟩
 have q2 := (h.2 b.1 b).2 ⟨by first | exact hb | exact hp.mem_iff.1 hb, rfl⟩
 rw [e] at q1
 exact Option.some.inj (q1.symm.trans q2)
def Met (F : Int → Option PT) (left : Lit → Bool) (acc : List PT) : Prop := acc.Nodup ∧ ∀ q, q ∈ acc ↔ (F q.1 = some q ∧ left (.int .i64 q.1) = false)
theorem Met.step {F : Int → Option PT} {left : Lit → Bool} {acc : List PT} (h : Met F left acc) {q : PT} (hq : F q.1 = some q) (hl : left (.int .i64 q.1) = true) : Met F (fun z => left z && !z.sameKey (.int .i64 q.1)) (acc ++ [q]) := by
 have hn : q ∉ acc := fun hm => by have := ((h.2 q).1 hm).2; rw [hl] at this; cases this
 refine ⟨?_, fun r => ?_⟩
 ·rw [List.nodup_append]
  refine ⟨h.1, by simp, fun a ha b hb e => ?_⟩
  simp at hb
  subst hb
  subst e
  exact hn ha
 ·rw [List.mem_append, h.2 r, List.mem_singleton]
  by_cases e : r.1 = q.1
  ·constructor
   ·rintro (⟨h1, h2⟩ | rfl)
    ·rw [e] at h2; rw [hl] at h2; cases h2
    ·exact ⟨hq, by simp [Lit.sameKey]⟩
   ·rintro ⟨h1, h2⟩
    rw [e, hq] at h1
    exact .inr (Option.some.inj h1).symm
  ·have hk : (Lit.int .i64 r.1).sameKey (.int .i64 q.1) = false := by simp [Lit.sameKey, e]
   constructor
   ·rintro (⟨h1, h2⟩ | rfl)
    ·exact ⟨h1, by simp [h2]⟩
    ·exact absurd rfl e
   ·rintro ⟨h1, h2⟩
    refine .inl ⟨h1, ?_⟩
    have h3 : (left (.int .i64 r.1) && !(Lit.int .i64 r.1).sameKey (.int .i64 q.1)) = false := h2
    rw [hk] at h3
    simpa using h3
theorem Met.perm {F : Int → Option PT} {L acc : List PT} {left : Lit → Bool} (hF : FLP F L) (h : Met F left acc) (hl : ∀ kl, left kl = false) : acc.Perm L := by
 refine (List.perm_ext_iff_of_nodup h.1 hF.nodup).2 fun q => ?_
 rw [h.2 q, hF.2 q.1 q]
 constructor
 ·rintro ⟨⟨h1, _⟩, _⟩; exact h1
 ·intro h1; exact ⟨⟨h1, rfl⟩, hl _⟩
theorem bq.sized {w : World} {b n : Nat} {F : Int → Option PT} {L : List PT} (h : bq w b n F) (hF : FLP F L) : ∃ D : DataW Value, w.ownsMap Tryz.prog 3 R0p b n D ∧ (∀ x, (∀ z, D.atKey (.int .i64 x) z = atP (F x) z) ∧ Maps.has D (.int .i64 x) = (F x).isSome) ∧ Maps.size D = L.length := by
 obtain ⟨D, h1, h2⟩ := h
 have hm : ∀ x, x ∈ L.map (fun p => p.1) ↔ (F x).isSome = true := fun x => by
  rw [List.mem_map]
  constructor
  ·rintro ⟨q, hq, rfl⟩
   rw [(hF.2 q.1 q).2 ⟨hq, rfl⟩]; rfl
  ·intro hx
   obtain ⟨q, hq⟩ := Option.isSome_iff_exists.1 hx
   exact ⟨q, (hF.2 x q).1 hq⟩
 have hp : (L.map fun p => p.1).Perm (intKeys D) := CollectedI.perm (left := fun _ => false) ⟨by
  rw [List.Nodup, List.pairwise_map]
  exact List.Pairwise.imp (fun hab => Int.ne_of_lt hab) hF.1, fun x => by rw [hm x, (h2 x).2]; simp⟩ h1 kT Tryz.underlying3 (fun _ => rfl)
 refine ⟨D, h1, h2, ?_⟩
 have hl := hp.length_eq
 obtain ⟨es, hD, _⟩ := h1.keysOf
 subst hD
 simp [intKeys] at hl
 simp [Maps.size]
 omega
theorem bq.len {w : World} {b n : Nat} {F : Int → Option PT} {L : List PT} (h : bq w b n F) (hF : FLP F L) (ty : TypeId) : (Builtin.len_ #[210] ty #[.map (some b)]).run Tryz.prog w = .ok (.int .i64 (L.length : Int)) w := by
 obtain ⟨D, h1, _, h3⟩ := h.sized hF
 have := h1.len (t := 210) (e := 154) Tryz.underlying210 ty
 rw [h3] at this
 exact this
end Go.Proofs.YtikbjljkakabdaaGreat
namespace Go.Proofs.YtikbjljkakabdaaGreat
open Go.Shelf
set_option linter.unusedVariables false
set_option maxRecDepth 100000
set_option maxHeartbeats 16000000
def pd : Go.Shelf.Ren := ⟨fun | 6 => 185 | 15 => 208 | 14 => 207 | 28 => 228 | 29 => 229 | 20 => 220 | 21 => 221 | 22 => 222 | 23 => 223 | 24 => 224 | 25 => 225 | 26 => 226 | 27 => 227 | 46 => 240 | 47 => 241 | 48 => 242 | 49 => 243 | 50 => 244 | 57 => 248 | n => n, fun | 22 => 53 | 24 => 154 | 25 => 238 | 3 => 3 | 39 => 250 | 0 => 0 | 53 => 268 | 55 => 270 | 4 => 4 | 46 => 262 | 45 => 261 | 50 => 189 | 5 => 5 | 9 => 9 | 66 => 276 | 70 => 280 | 76 => 285 | 77 => 246 | n => n, fun | n => n⟩
theorem sortF : Go.Proofs.SlLaysF0.n6 Tryz.prog pd := {
 mixed := by kernel_rfl
 f6 := ⟨Tryz.f185.name, by decide, Tryz.func185.trans (congrArg some (by kernel_rfl))⟩
 f14 := ⟨Tryz.f207.name, by decide, Tryz.func207.trans (congrArg some (by kernel_rfl))⟩
 f15 := Tryz.func208.trans (congrArg some (by kernel_rfl))
 f20 := ⟨Tryz.f220.name, by decide, Tryz.func220.trans (congrArg some (by kernel_rfl))⟩
 f21 := ⟨Tryz.f221.name, by decide, Tryz.func221.trans (congrArg some (by kernel_rfl))⟩
 f22 := ⟨Tryz.f222.name, by decide, Tryz.func222.trans (congrArg some (by kernel_rfl))⟩
 f23 := ⟨Tryz.f223.name, by decide, Tryz.func223.trans (congrArg some (by kernel_rfl))⟩
 f24 := ⟨Tryz.f224.name, by decide, Tryz.func224.trans (congrArg some (by kernel_rfl))⟩
 f25 := ⟨Tryz.f225.name, by decide, Tryz.func225.trans (congrArg some (by kernel_rfl))⟩
 f26 := ⟨Tryz.f226.name, by decide, Tryz.func226.trans (congrArg some (by kernel_rfl))⟩
 f27 := ⟨Tryz.f227.name, by decide, Tryz.func227.trans (congrArg some (by kernel_rfl))⟩
 f28 := Tryz.func228.trans (congrArg some (by kernel_rfl))
 f29 := Tryz.func229.trans (congrArg some (by kernel_rfl))
 f46 := ⟨Tryz.f240.name, by decide, Tryz.func240.trans (congrArg some (by kernel_rfl))⟩
 f47 := Tryz.func241.trans (congrArg some (by kernel_rfl))
 f48 := Tryz.func242.trans (congrArg some (by kernel_rfl))
 f49 := ⟨Tryz.f243.name, by decide, Tryz.func243.trans (congrArg some (by kernel_rfl))⟩
 f50 := ⟨Tryz.f244.name, by decide, Tryz.func244.trans (congrArg some (by kernel_rfl))⟩
 f57 := ⟨Tryz.f248.name, by decide, Tryz.func248.trans (congrArg some (by kernel_rfl))⟩
 t0 := Tryz.underlying0
 a0 := Tryz.isAgg0
 z0 := Tryz.sizeOf0
 v0 := Tryz.zeroValue0
 t3 := Tryz.underlying3
 a3 := Tryz.isAgg3
 z3 := Tryz.sizeOf3
 v3 := Tryz.zeroValue3
 t4 := Tryz.underlying4
 a4 := Tryz.isAgg4
 z4 := Tryz.sizeOf4
 v4 := Tryz.zeroValue4
 t5 := Tryz.underlying5
 a5 := Tryz.isAgg5
 z5 := Tryz.sizeOf5
 v5 := Tryz.zeroValue5
 t9 := Tryz.underlying9
 a9 := Tryz.isAgg9
 z9 := Tryz.sizeOf9
 v9 := Tryz.zeroValue9
 t22 := Tryz.underlying53
 a22 := Tryz.isAgg53
 z22 := Tryz.sizeOf53
 v22 := Tryz.zeroValue53
 t25 := Tryz.underlying238
 a25 := Tryz.isAgg238
 z25 := Tryz.sizeOf238
 v25 := Tryz.zeroValue238
 t39 := Tryz.underlying250
 a39 := Tryz.isAgg250
 z39 := Tryz.sizeOf250
 v39 := Tryz.zeroValue250
 t45 := Tryz.underlying261
 a45 := Tryz.isAgg261
 z45 := Tryz.sizeOf261
 v45 := Tryz.zeroValue261
 t46 := Tryz.underlying262
 a46 := Tryz.isAgg262
 z46 := Tryz.sizeOf262
 v46 := Tryz.zeroValue262
 t50 := Tryz.underlying189
 a50 := Tryz.isAgg189
 z50 := Tryz.sizeOf189
 v50 := Tryz.zeroValue189
 t53 := Tryz.underlying268
 a53 := Tryz.isAgg268
 z53 := Tryz.sizeOf268
 v53 := Tryz.zeroValue268
 t55 := Tryz.underlying270
 a55 := Tryz.isAgg270
 z55 := Tryz.sizeOf270
 v55 := Tryz.zeroValue270
 t66 := Tryz.underlying276
 a66 := Tryz.isAgg276
 z66 := Tryz.sizeOf276
 v66 := Tryz.zeroValue276
 t70 := Tryz.underlying280
 a70 := Tryz.isAgg280
 z70 := Tryz.sizeOf280
 v70 := Tryz.zeroValue280
 t76 := Tryz.underlying285
 a76 := Tryz.isAgg285
 z76 := Tryz.sizeOf285
 v76 := Tryz.zeroValue285
 t77 := Tryz.underlying246
 a77 := Tryz.isAgg246
 z77 := Tryz.sizeOf246
 v77 := Tryz.zeroValue246 }
def pM : Go.Shelf.Ren := ⟨fun | 5 => 187 | 7 => 209 | n => n, fun | 22 => 3 | 3 => 3 | 4 => 4 | n => n, fun | n => n⟩
theorem cmpI : Go.Proofs.SlLaysC2.n5 Tryz.prog pM := {
 mixed := by kernel_rfl
 f5 := ⟨Tryz.f187.name, by decide, Tryz.func187.trans (congrArg some (by kernel_rfl))⟩
 f7 := ⟨Tryz.f209.name, by decide, Tryz.func209.trans (congrArg some (by kernel_rfl))⟩
 t3 := Tryz.underlying3
 a3 := Tryz.isAgg3
 z3 := Tryz.sizeOf3
 v3 := Tryz.zeroValue3
 t4 := Tryz.underlying4
 a4 := Tryz.isAgg4
 z4 := Tryz.sizeOf4
 v4 := Tryz.zeroValue4
 t22 := Tryz.underlying3
 a22 := Tryz.isAgg3
 z22 := Tryz.sizeOf3
 v22 := Tryz.zeroValue3 }
end Go.Proofs.YtikbjljkakabdaaGreat
namespace Go.Proofs.YtikbjljkakabdaaGreat
open Go.RowKit
set_option linter.unusedVariables false
set_option maxRecDepth 100000
set_option maxHeartbeats 16000000
theorem jm (a : Option Addr) (n c : Nat) (M : Nat → PT) (w : World) (hm : n ≤ maxLen) (hs : az w a (n * 5) (am M)) (h1 : oks M n = false) :
 Calls Tryz.prog 149 #[.slice a n c] w fun e w' => e = .returned (.tuple #[.map none, .bool false]) ∧ Below w.heap.size w w' := by
 have C1 := bG a n c M w hm hs
 clear hs
 go_enter Tryz.func149, Tryz.ntmps149
 go_wp2_with fail
 refine C1.mono ?_
 rintro e w1 ⟨rfl, hb⟩
 rw [h1]
 go_wp2_with fail
 exact bodyPost_ret (v := (.tuple #[.map none, .bool false])) (by simp (maxDischargeDepth := 6) [results, Tryz.results149, go_sem, *]) rfl ⟨rfl, hb⟩
theorem lz (a : Option Addr) (n c : Nat) (M : Nat → PT) (w : World) (hm : n ≤ maxLen) (hs : az w a (n * 5) (am M)) (h1 : oks M n = true) :
 Calls Tryz.prog 149 #[.slice a n c] w fun e w' => ∃ b, e = .returned (.tuple #[.map (some b), .bool true]) ∧ w.heap.size ≤ b ∧ bq w' b n (lkP M n) ∧ Below w.heap.size w w' := by
 have C1 := bG a n c M w hm hs
 have HS : Hid (az w a (n * 5) (am M)) := hs
 have HOK : Hid (oks M n = true) := h1
 have hn8 := dh h1
 clear hs
 go_enter Tryz.func149, Tryz.ntmps149
 go_wp2_with fail
 refine C1.mono ?_
 rintro e w1 ⟨rfl, B1⟩
 rw [h1]
 clear C1 h1
 have hmk := mO n w1
 have R0 := bq.made w1
 have B2 := B1.trans ((Below.nw w1 (.map #[] 0)).mono B1.size)
 have hb0 : w.heap.size ≤ w1.heap.size := B1.size
 go_upto_region 4 with fail
 clear hmk
 generalize hbm : w1.heap.size = bm at *
 generalize w1.alloc (.map #[] 0) = w2 at *
 go_wp2_with fail
 go_loopw [15] (fun i wr => ∃ k : Nat, k ≤ n ∧ i = .int .i64 k ∧ bq wr bm k (lkP M k) ∧ Below w.heap.size w wr) (fun i _ => n - (intOf i).toNat)
 case atStart => exact ⟨0, Nat.zero_le _, rfl, R0.congr (fun _ => rfl), B2⟩
 case round =>
  obtain ⟨k, hk, rfl, MP, hB⟩ := hrel
  by_cases hlt : k < n
  ·obtain ⟨b, off, rfl, hf⟩ := HS.out.some (by omega)
   obtain ⟨x0, x1, x2, x3, x4, hM⟩ := bu M k
   obtain ⟨c0, c1, c2, c3, c4⟩ := (hf.below hB hf.1).elPeer hlt hM
   have hid := gp (ob HOK.out hlt).1
   rw [hM] at hid
   have hwf : (Lit.int .i64 x0).wf = true := by
    have h1 : 0 ≤ x0 := hid.1
    have h2 : x0 ≤ 7 := hid.2
    simp only [Lit.wf, Bool.and_eq_true, decide_eq_true_eq]
    exact ⟨by show (-9223372036854775808 : Int) ≤ x0; omega, by show x0 ≤ (9223372036854775807 : Int); omega⟩
   have hli : (k : Int) < (n : Int) := by omega
   have hbr : b < wr.heap.size := Nat.lt_of_lt_of_le hf.1 hB.size
   have A1 := Below.nw wr (.cells #[.int .i64 x0, .int .i64 x1, .int .i64 x2, .int .i64 x3, .bool x4] 154)
   have KB := Bx5.new wr (.int .i64 x0) (.int .i64 x1) (.int .i64 x2) (.int .i64 x3) (.bool x4) 154
   have HLK : Hid (∀ y, lkP M (k + 1) y = if y = x0 then some (x0, x1, x2, x3, x4) else lkP M k y) := fun y => by rw [ql (x0 := x0) (by rw [hM]), hM]
   clear hM hid hf
   go_upto_region 7 with fail
   clear c0 c1 c2 c3 c4
   replace hB := hB.trans (A1.mono hB.size)
   replace MP := MP.below A1
   have hBs := hB.size
   clear hbr A1
   generalize hbk : wr.heap.size = bk at *
   generalize wr.alloc (.cells #[.int .i64 x0, .int .i64 x1, .int .i64 x2, .int .i64 x3, .bool x4] 154) = w1b at *
   have k9 : _ ∧ _ := KB
   obtain ⟨w9, hrun, MP9, hg9⟩ := MP.put hwf (by unfold maxLen; omega) (x0, x1, x2, x3, x4)
   have HMP : Hid (bq w9 bm (k + 1) (lkP M (k + 1))) := MP9.congr (fun y => (HLK.out y).symm)
   have B9 := hB.trans ((But.ofGrownK hg9).below hb0 hBs)
   simp only [pv] at hrun
   clear MP MP9 hg9
   go_wp2_with fail
   clear hrun
   go_roundw
   case rel => exact ⟨k + 1, by omega, by go_num, HMP.out, B9⟩
   case measure => simp [intOf]; omega
  ·have hkn : k = n := by omega
   subst hkn
   have hli : ¬ (k : Int) < (k : Int) := by omega
   go_wp2_with fail
   exact bodyPost_ret (v := (.tuple #[.map (some bm), .bool true])) (by simp (maxDischargeDepth := 6) [results, Tryz.results149, go_sem, *]) rfl ⟨bm, rfl, hb0, MP, hB⟩
def lenR : Go.Shelf.Ren := ⟨fun | 125 => 208 | 128 => 228 | 129 => 229 | n => n, fun | 3 => 3 | 4 => 4 | 5 => 5 | 9 => 9 | 46 => 250 | 51 => 268 | 53 => 270 | n => n, fun | n => n⟩
theorem lenL : Go.Proofs.Lays.n125 Tryz.prog lenR := {
 mixed := by kernel_rfl
 f125 := Tryz.func208.trans (congrArg some (by kernel_rfl))
 f128 := Tryz.func228.trans (congrArg some (by kernel_rfl))
 f129 := Tryz.func229.trans (congrArg some (by kernel_rfl))
 t3 := Tryz.underlying3
 a3 := fun w => by kernel_rfl
 z3 := fun w => by kernel_rfl
 v3 := fun w => by kernel_rfl
 t4 := Tryz.underlying4
 a4 := fun w => by kernel_rfl
 z4 := fun w => by kernel_rfl
 v4 := fun w => by kernel_rfl
 t5 := Tryz.underlying5
 a5 := fun w => by kernel_rfl
 z5 := fun w => by kernel_rfl
 v5 := fun w => by kernel_rfl
 t9 := Tryz.underlying9
 a9 := fun w => by kernel_rfl
 z9 := fun w => by kernel_rfl
 v9 := fun w => by kernel_rfl
 t46 := Tryz.underlying250
 a46 := fun w => by kernel_rfl
 z46 := fun w => by kernel_rfl
 v46 := fun w => by kernel_rfl
 t51 := Tryz.underlying268
 a51 := fun w => by kernel_rfl
 z51 := fun w => by kernel_rfl
 v51 := fun w => by kernel_rfl
 t53 := Tryz.underlying270
 a53 := fun w => by kernel_rfl
 z53 := fun w => by kernel_rfl
 v53 := fun w => by kernel_rfl }
theorem oD (n : Nat) (W : World) (h : n ≤ 12) : Calls Tryz.prog 208 #[.int .u64 n] W fun e w' => (∃ l : Int, e = .returned (.int .i64 l)) ∧ w' = W :=
 (Go.Proofs.Any.bits_Len lenL n W (by omega) (by omega)).mono fun _ _ ⟨he, hw⟩ => ⟨⟨_, he⟩, hw⟩
def kf (x : PT) : List Value := [.int .i64 x.1, .int .i64 x.2.1, .int .i64 x.2.2.1, .int .i64 x.2.2.2.1, .bool x.2.2.2.2]
def l9 (x y : PT) : Int := Go.Lib.compareInt x.1 y.1
theorem rW (x y : PT) (W : World) : Calls Tryz.prog 186 #[.agg (kf x).toArray, .agg (kf y).toArray] W fun e w' => e = .returned (.int .i64 (l9 x y)) ∧ ∃ q os', w' = Go.Sort.grow (W.drewN q) os' := by
 have hcon := fun W' => Go.Proofs.AnyG.cmp_Compare_int cmpI x.1 y.1 W'
 change ∀ W', Calls Tryz.prog 187 _ _ _ at hcon
 unfold l9 kf
 generalize Go.Lib.compareInt x.1 y.1 = r at hcon ⊢
 go_enter Tryz.func186, Tryz.ntmps186
 go_wp2_with (go_at_call 187; refine (hcon _).mono ?_; rintro e w' ⟨rfl, rfl⟩)
 go_ret
 exact ⟨rfl, 0, _, by rw [Go.Sort.alloc_eq_grow, Go.Sort.alloc_eq_grow, Go.Sort.grow_grow]; rfl⟩
def pt1 (x : Int) (L : List PT) : List PT := L.filter fun q => decide (q.1 < x)
def pt2 (x : Int) (L : List PT) : List PT := L.filter fun q => decide (x < q.1)
def pinL (L : List PT) (p : PT) : List PT := pt1 p.1 L ++ [p] ++ pt2 p.1 L
theorem FLP.put {F : Int → Option PT} {L : List PT} (h : FLP F L) (p : PT) : FLP (fun y => if y = p.1 then some p else F y) (pinL L p) := by
 refine ⟨?_, fun y q => ?_⟩
 ·rw [pinL, List.append_assoc, List.pairwise_append]
  refine ⟨h.1.filter _, ?_, fun a ha b hb => ?_⟩
  ·rw [List.singleton_append, List.pairwise_cons]
   refine ⟨fun a ha => ?_, h.1.filter _⟩
   simp [pt2] at ha
   exact ha.2
  ·simp [pt1] at ha
   simp [pt2] at hb
   rcases hb with rfl | hb
   ·exact ha.2
   ·omega
 ·show (if y = p.1 then some p else F y) = some q ↔ _
  simp only [pinL, pt1, pt2, List.mem_append, List.mem_filter, List.mem_singleton, decide_eq_true_eq]
  by_cases e : y = p.1
  ·rw [if_pos e]
   constructor
   ·intro hh
    injection hh with hh
    subst hh
    exact ⟨.inl (.inr rfl), e.symm⟩
   ·rintro ⟨(⟨_, h2⟩ | rfl) | ⟨_, h2⟩, h3⟩
    ·omega
    ·rfl
    ·omega
  ·rw [if_neg e, h.2 y q]
   constructor
   ·rintro ⟨h1, h2⟩
    rcases Int.lt_trichotomy q.1 p.1 with q1 | q1 | q1
    ·exact ⟨.inl (.inl ⟨h1, q1⟩), h2⟩
    ·exact absurd (h2.symm.trans q1) e
    ·exact ⟨.inr ⟨h1, q1⟩, h2⟩
   ·rintro ⟨(⟨h1, _⟩ | rfl) | ⟨h1, _⟩, h3⟩
    ·exact ⟨h1, h3⟩
    ·exact absurd h3.symm e
    ·exact ⟨h1, h3⟩
end Go.Proofs.YtikbjljkakabdaaGreat
