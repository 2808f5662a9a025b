/- Ops drawn beside the cursor. -/
import Derived.Test.YtddjiamollfplaaGreatDoorMC0
import Derived.Test.YtddjiamollfplaaGreatDoorMC28
import Derived.Test.YtddjiamollfplaaGreatDoorMC33
namespace Go.Proofs.YtddjiamollfplaaGreatDoor
open Go.RowKit
set_option linter.unusedVariables false

def aW (base p : Nat) (w w' : World) : Prop := w'.os = w.os ∧ w'.tape = w.tape ∧ w'.output = w.output ∧ w.heap.size ≤ w'.heap.size ∧ ∀ k, k < base → k ≠ p → w'.heap[k]? = w.heap[k]?
theorem aW.refl (base p : Nat) (w : World) : aW base p w w := ⟨rfl, rfl, rfl, Nat.le_refl _, fun _ _ _ => rfl⟩
theorem aW.trans {base p : Nat} {a b c : World} (h : aW base p a b) (k : aW base p b c) : aW base p a c :=
 ⟨k.1.trans h.1, k.2.1.trans h.2.1, k.2.2.1.trans h.2.2.1, Nat.le_trans h.2.2.2.1 k.2.2.2.1, fun q hq hp => (k.2.2.2.2 q hq hp).trans (h.2.2.2.2 q hq hp)⟩
theorem But.belP {base p : Nat} {a b : World} (h : But p a b) (hb : base ≤ a.heap.size) : aW base p a b := ⟨h.1, h.2.1, h.2.2.1, h.2.2.2.1, fun q hq hp => h.2.2.2.2 q (Nat.lt_of_lt_of_le hq hb) hp⟩
theorem au {base p B : Nat} {a b : World} (h : Below B a b) (hb : base ≤ B) : aW base p a b := ⟨h.os, h.tape, h.output, h.size, fun q hq _ => h.block q (Nat.lt_of_lt_of_le hq hb)⟩
theorem aW.but {p : Nat} {a b : World} (h : aW a.heap.size p a b) : But p a b := h
theorem aW.low {base base' p : Nat} {a b : World} (h : aW base p a b) (hb : base' ≤ base) : aW base' p a b := ⟨h.1, h.2.1, h.2.2.1, h.2.2.2.1, fun q hq hp => h.2.2.2.2 q (Nat.lt_of_lt_of_le hq hb) hp⟩
def KpS (ow : Option Nat) (p : Nat) (w0 w : World) : Prop := ∀ k, k < w0.heap.size → k ≠ p → some k ≠ ow → w.heap[k]? = w0.heap[k]?
def OwS (ow : Option Nat) (p ob rb : Nat) (w0 w : World) (v : Value) : Prop := (∀ q, v.ownBlock = some q → q ≠ ob ∧ q ≠ rb) ∧ KpS ow p w0 w ∧ (∀ q, v.ownBlock = some q → some q = ow ∨ w0.heap.size ≤ q) ∧ w0.heap.size ≤ ob ∧ w0.heap.size ≤ rb ∧ w0.heap.size ≤ w.heap.size
def DrS (base B p ob rb : Nat) (ow : Option Nat) (w0 w : World) (A Z : Array Value) (v : Value) (L : List Int) : Prop := Bo w ob A ∧ Bo w rb Z ∧ w.ownsRow base 3 1 v L.length (aG L) ∧ aq w B p ∧ aW base p w0 w ∧ OwS ow p ob rb w0 w v ∧ base ≤ ob ∧ base ≤ rb ∧ ob ≠ rb ∧ p < base ∧ B ≤ p ∧ base ≤ w.heap.size
section
variable {base B p ob rb : Nat} {ow : Option Nat} {w0 w w' : World} {A Z : Array Value} {v v' : Value} {L L' : List Int}
theorem DrS.call (h : DrS base B p ob rb ow w0 w A Z v L) (hc : aq w' B p) (hb : But p w w') : DrS base B p ob rb ow w0 w' A Z v L := by
 obtain ⟨h1, h2, h3, h4, h5, h6, h7, h8, h9, h10, h11, h12⟩ := h
 obtain ⟨m1, m2, m3, m4, m5, m6⟩ := h6
 have hsz := hb.2.2.2.1
 exact ⟨h1.but hb (by omega), h2.but hb (by omega), br h3 hb h10, hc, h5.trans (hb.belP h12), ⟨m1, fun k hk hp ho => (hb.2.2.2.2 k (by omega) hp).trans (m2 k hk hp ho), m3, m4, m5, by omega⟩, h7, h8, h9, h10, h11, Nat.le_trans h12 hb.2.2.2.1⟩
theorem DrS.below (h : DrS base B p ob rb ow w0 w A Z v L) (hb : Below w.heap.size w w') : DrS base B p ob rb ow w0 w' A Z v L := by
 obtain ⟨h1, h2, h3, h4, h5, h6, h7, h8, h9, h10, h11, h12⟩ := h
 obtain ⟨m1, m2, m3, m4, m5, m6⟩ := h6
 have hsz := hb.size
 exact ⟨h1.below hb, h2.below hb, ax h3 hb, h4.below hb, h5.trans (au hb h12), ⟨m1, fun k hk hp ho => (hb.block k (by omega)).trans (m2 k hk hp ho), m3, m4, m5, by omega⟩, h7, h8, h9, h10, h11, Nat.le_trans h12 hb.size⟩
theorem DrS.drew (h : DrS base B p ob rb ow w0 w A Z v L) : DrS base B p ob rb ow w0 w.drew A Z v L := h
theorem DrS.grow (h : DrS base B p ob rb ow w0 w A Z v L) (hg : w.grownBy w' v.ownBlock) (ho : w'.ownsRow base 3 1 v' L'.length (aG L')) (hf : ∀ q, v'.ownBlock = some q → v.ownBlock = some q ∨ w.heap.size ≤ q) : DrS base B p ob rb ow w0 w' A Z v' L' := by
 obtain ⟨h1, h2, h3, h4, h5, h6, h7, h8, h9, h10, h11, h12⟩ := h
 have G := aT h3 hg h12
 obtain ⟨m1, m2, m3, m4, m5, m6⟩ := h6
 have hsz := hg.size
 refine ⟨h1.kept hg (fun e => (m1 ob e.symm).1 rfl), h2.kept hg (fun e => (m1 rb e.symm).2 rfl), ho, h4.belowB G h10, h5.trans (au G (Nat.le_refl _)), ⟨fun q hq => ?_, fun k hk hp hn => ?_, fun q hq => ?_, m4, m5, by omega⟩, h7, h8, h9, h10, h11, Nat.le_trans h12 hg.size⟩
 ·rcases hf q hq with e | e
  ·exact m1 q e
  ·have q1 := h1.1; have q2 := h2.1; exact ⟨by omega, by omega⟩
 ·refine (hg.block k (by omega) (fun e => ?_)).trans (m2 k hk hp hn)
  rcases m3 k e.symm with q | q
  ·exact hn q
  ·omega
 ·rcases hf q hq with e | e
  ·exact m3 q e
  ·exact .inr (by omega)
theorem DrS.set (h : DrS base B p ob rb ow w0 w A Z v L) (o : Nat) (u : Value) : DrS base B p ob rb ow w0 (w.setCell ⟨ob, o, none⟩ u) (A.setIfInBounds o u) Z v L := by
 obtain ⟨h1, h2, h3, h4, h5, h6, h7, h8, h9, h10, h11, h12⟩ := h
 have hb : But ob w (w.setCell ⟨ob, o, none⟩ u) := (But.refl ob w).setCell o u
 obtain ⟨m1, m2, m3, m4, m5, m6⟩ := h6
 have hsz := hb.2.2.2.1
 exact ⟨h1.set o u, h2.but hb (fun e => h9 e.symm), ay h3 hb (fun g hg => (m1 g hg).1), h4.setOther (by omega) (by omega) _ _, h5.trans ⟨hb.1, hb.2.1, hb.2.2.1, hb.2.2.2.1, fun q hq hp => hb.2.2.2.2 q (Nat.lt_of_lt_of_le hq h12) (by omega)⟩, ⟨m1, fun k hk hp ho => (hb.2.2.2.2 k (by omega) (by omega)).trans (m2 k hk hp ho), m3, m4, m5, by omega⟩, h7, h8, h9, h10, h11, Nat.le_trans h12 hb.2.2.2.1⟩
theorem DrS.result (h : DrS base B p ob rb ow w0 w A Z v L) (us : List Value) (hu : us.toArray.size = Z.size) : Bo (ac w rb 0 us) rb us.toArray ∧ (ac w rb 0 us).ownsRow base 3 1 v L.length (aG L) ∧ aq (ac w rb 0 us) B p ∧ aW base p w0 (ac w rb 0 us) ∧ KpS ow p w0 (ac w rb 0 us) ∧ ∀ q, v.ownBlock = some q → some q = ow ∨ w0.heap.size ≤ q := by
 obtain ⟨h1, h2, h3, h4, h5, h6, h7, h8, h9, h10, h11, h12⟩ := h
 have hb : But rb w (ac w rb 0 us) := ak us w w 0 (But.refl rb w)
 obtain ⟨m1, m2, m3, m4, m5, m6⟩ := h6
 have hc : ∀ (us : List Value) (u : World) (o : Nat), aq u B p → aq (ac u rb o us) B p := by
  intro us
  induction us with
  | nil => exact fun u o hc => hc
  | cons x us ih => exact fun u o hc => ih _ _ (hc.setOther (by omega) (by omega) _ _)
 exact ⟨h2.putW (U := us.toArray) hu, ay h3 hb (fun g hg => (m1 g hg).2), hc us w 0 h4, h5.trans ⟨hb.1, hb.2.1, hb.2.2.1, hb.2.2.2.1, fun q hq hp => hb.2.2.2.2 q (Nat.lt_of_lt_of_le hq h12) (by omega)⟩, fun k hk hp ho => (hb.2.2.2.2 k (by omega) (by omega)).trans (m2 k hk hp ho), m3⟩
end
def eU (base B p m : Nat) (ow : Option Nat) (w : World) (e : Ending) (w' : World) : Prop := ∃ (k nd tt a b : Int) (tx : ByteArray) (P : Option Addr) (L : List Int) (c : Nat), e = .returned (.agg #[.int .i64 k, .int .i64 nd, .int .i64 tt, .int .i64 a, .int .i64 b, .string tx, .slice P L.length c]) ∧ tx.size ≤ 100 ∧ L.length ≤ m ∧ w'.ownsRow base 3 1 (.slice P L.length c) L.length (aG L) ∧ aq w' B p ∧ aW base p w w' ∧ KpS ow p w w' ∧ ∀ q, (Value.slice P L.length c).ownBlock = some q → some q = ow ∨ w.heap.size ≤ q
theorem aC {base B p m n : Nat} {ow : Option Nat} {w w' : World} {e : Ending} (k nd tt a b : Int) (tx : ByteArray) (P : Option Addr) (L : List Int) (c : Nat) (hn : L.length = n) (he : e = .returned (.agg #[.int .i64 k, .int .i64 nd, .int .i64 tt, .int .i64 a, .int .i64 b, .string tx, .slice P n c])) (hx : tx.size ≤ 100) (hm : n ≤ m) (ho : w'.ownsRow base 3 1 (.slice P n c) L.length (aG L)) (hc : aq w' B p) (hb : aW base p w w' ∧ KpS ow p w w' ∧ ∀ q, (Value.slice P n c).ownBlock = some q → some q = ow ∨ w.heap.size ≤ q) : eU base B p m ow w e w' := by
 subst hn
 exact ⟨k, nd, tt, a, b, tx, P, L, c, he, hx, hm, ho, hc, hb.1, hb.2.1, hb.2.2⟩
theorem aH {P : Program} {w : World} {o : Oper} {a : Act} {K : Act → World → Prop} {Q : Exit → Act → World → Prop} (s x : Operand) (t : TypeId)
 (ho : o.op = .call { callee := .builtin .append, args := #[s, x], argTypes := #[t, t] })
 (base : Nat) (e : TypeId) (i : TypeInfo) (z : Value) (size bytes : Nat) (ht : P.underlying t = some (.slice e)) (hi : P.info? e = some i) (hz : i.zero = some z)
 (hsize : i.size = size) (hby : i.bytes = bytes) (hzs : z.cells.size = size) (hsz : 0 < size)
 (v : Value) (n : Nat) (xs : List Value) (hs : a.eval s = v) (hown : w.ownsRow base e size v n xs)
 (ad : Addr) (m c : Nat) (news : List Value) (hx : a.eval x = .slice (some ad) m c) (hl : news.length = m * size) (hnews : ∀ j u, news[j]? = some u → w.cell? (ad.add j) = some u) (h1 : ∀ u ∈ news, u.oneCell' = true)
 (h63 : n + m ≤ maxLen) (hbytes : (n + m) * bytes ≤ 140737488355328) (hbase : base ≤ w.heap.size)
 (h : ∀ v' w', w'.ownsRow base e size v' (n + m) (xs ++ news) → w.grownBy w' v.ownBlock → (∀ g, v'.ownBlock = some g → v.ownBlock = some g ∨ w.heap.size ≤ g) → K (a.put o.dst v') w') : o.wp P a w K Q := by
 obtain ⟨v', w', hr, h2, h3, h4⟩ := cS (P := P) w base t o.type e i z size bytes ht hi hz hsize hby hzs hsz v n xs hown ad m c news hl hnews h1 h63 hbytes hbase
 unfold Oper.wp execOp
 simp only [ho, resolve, invoke, builtin, Sem.run_bind, Sem.run_pure, Result.andThen_ok, List.map_toArray, List.map_cons, List.map_nil, hs, hx, hr]
 exact h v' w' h2 h3 h4
theorem bT {w : World} {base n s : Nat} {T : TypeId} {v : Value} {xs : List Value} (h : w.ownsRow base T s v n xs) : ∃ a c, v = .slice a n c := by
 rcases h.2 with ⟨e, h0⟩ | ⟨g, cap, cur, e, _⟩
 ·exact ⟨none, 0, by rw [h0]; exact e⟩
 ·exact ⟨_, cap, e⟩
theorem bE (w : World) (L : List Int) (T : TypeId) : ∀ j, j < L.length → ∃ v : Int, (w.alloc (.cells (L.map (Value.int .i64)).toArray T)).cell? ⟨w.heap.size, 0 + j, none⟩ = some (.int .i64 v) := fun j hj =>
 ⟨L[j], (Bo.new w (L.map (Value.int .i64)).toArray T).cell (by simp [hj])⟩
attribute [-go_sem] loadCells storeCells in
set_option maxRecDepth 100000 in
set_option maxHeartbeats 16000000 in
theorem aU (B p base : Nat) (k nd tt a b : Int) (tx : ByteArray) (P : Option Addr) (L : List Int) (c : Nat) (w : World) (hcur : aq w B p) (hpb : p < base) (hbw : base ≤ w.heap.size) (hx : tx.size ≤ 100) (hL7 : L.length ≤ 7) (hO : w.ownsRow base 3 1 (.slice P L.length c) L.length (aG L)) (ow : Option Nat) (hO0 : ow = (Value.slice P L.length c).ownBlock) :
 Calls Tryz.prog 52 #[.pointer (some ⟨p, 0, none⟩), .agg #[.int .i64 k, .int .i64 nd, .int .i64 tt, .int .i64 a, .int .i64 b, .string tx, .slice P L.length c]] w (eU base B p 8 ow w) := by
 have A1 := Below.nw w (.cells #[.int .i64 k, .int .i64 nd, .int .i64 tt, .int .i64 a, .int .i64 b, .string tx, .slice P L.length c] 26)
 have Q := Bo.new w #[.int .i64 k, .int .i64 nd, .int .i64 tt, .int .i64 a, .int .i64 b, .string tx, .slice P L.length c] 26
 have cc1 := hcur.below A1
 have O1 := ax hO A1
 go_enter Tryz.func52, Tryz.ntmps52
 obtain ⟨i0, hi, hz0, hz1, hz2⟩ := info_parts dv
 have hwb : (w.alloc (.cells #[.int .i64 k, .int .i64 nd, .int .i64 tt, .int .i64 a, .int .i64 b, .string tx, .slice P L.length c] 26)).heap.size = w.heap.size + 1 := by simp
 have A2 := Below.nw (w.alloc (.cells #[.int .i64 k, .int .i64 nd, .int .i64 tt, .int .i64 a, .int .i64 b, .string tx, .slice P L.length c] 26)) (.cells #[.int .i64 0, .int .i64 0, .int .i64 0, .int .i64 0, .int .i64 0, .string ⟨#[]⟩, .slice none 0 0] 26)
 have R := Bo.new (w.alloc (.cells #[.int .i64 k, .int .i64 nd, .int .i64 tt, .int .i64 a, .int .i64 b, .string tx, .slice P L.length c] 26)) #[.int .i64 0, .int .i64 0, .int .i64 0, .int .i64 0, .int .i64 0, .string ⟨#[]⟩, .slice none 0 0] 26
 rw [hwb] at R
 have hol : ∀ q, (Value.slice P L.length c).ownBlock = some q → q < w.heap.size := fun q hq => (World.ownsRow.lt hO q hq).2
 have hpB := hcur.lt.2
 have T : DrS base B p w.heap.size (w.heap.size + 1) ow w ((w.alloc (.cells #[.int .i64 k, .int .i64 nd, .int .i64 tt, .int .i64 a, .int .i64 b, .string tx, .slice P L.length c] 26)).alloc (.cells #[.int .i64 0, .int .i64 0, .int .i64 0, .int .i64 0, .int .i64 0, .string ⟨#[]⟩, .slice none 0 0] 26)) #[.int .i64 k, .int .i64 nd, .int .i64 tt, .int .i64 a, .int .i64 b, .string tx, .slice P L.length c] #[.int .i64 0, .int .i64 0, .int .i64 0, .int .i64 0, .int .i64 0, .string ⟨#[]⟩, .slice none 0 0] (.slice P L.length c) L := ⟨Q.below A2, R, ax O1 A2, cc1.below A2, (au A1 hbw).trans (au A2 (by omega)), ⟨fun q hq => by have := hol q hq; exact ⟨by omega, by omega⟩, fun k hk hp _ => (A2.block k (by omega)).trans (A1.block k hk), fun q hq => .inl (by rw [hO0]; exact hq.symm), Nat.le_refl _, by omega, by simp; omega⟩, hbw, by omega, by omega, hpb, hpB, by simp; omega⟩
 clear A1 Q cc1 O1 A2 R hol hcur hO hwb hO0
 go_upto_region 1 with fail
 generalize (w.alloc (.cells #[.int .i64 k, .int .i64 nd, .int .i64 tt, .int .i64 a, .int .i64 b, .string tx, .slice P L.length c] 26)).alloc (.cells #[.int .i64 0, .int .i64 0, .int .i64 0, .int .i64 0, .int .i64 0, .string ⟨#[]⟩, .slice none 0 0] 26) = v1 at *
 go_wp2_with fail
 refine (af B p 25 v1 T.2.2.2.1).mono ?_
 rintro e v2 ⟨y, rfl, y0, -, yp, -, cc, bb⟩
 have y25 := yp (by decide)
 replace T := T.call cc bb
 clear yp cc bb
 by_cases hy : y < 7
 ·rcases (show y = 0 ∨ y = 1 ∨ y = 2 ∨ y = 3 ∨ y = 4 ∨ y = 5 ∨ y = 6 by omega) with rfl | rfl | rfl | rfl | rfl | rfl | rfl
  ·have A6 := Below.nw v2 (.cells #[.int .i64 0, .int .i64 15, .int .i64 1, .int .i64 9] 3)
   have HP : ∀ j, j < 4 → ∃ v : Int, (v2.alloc (.cells #[.int .i64 0, .int .i64 15, .int .i64 1, .int .i64 9] 3)).cell? ⟨v2.heap.size, 0 + j, none⟩ = some (.int .i64 v) := bE v2 [0, 15, 1, 9] 3
   have T6 := T.below A6
   have hjl : v2.heap.size < (v2.alloc (.cells #[.int .i64 0, .int .i64 15, .int .i64 1, .int .i64 9] 3)).heap.size := by simp
   have hjp : v2.heap.size ≠ p := by have := T.2.2.2.2.2.2.2.2.2; omega
   have q1 : v2.cell? ⟨w.heap.size, 1, none⟩ = some (.int .i64 nd) := T.1.cell (i := 1) rfl
   have CP := aI B p v2.heap.size 0 4 4 (v2.alloc (.cells #[.int .i64 0, .int .i64 15, .int .i64 1, .int .i64 9] 3)) T6.2.2.2.1 (by decide) (by decide) hjl hjp HP
   clear HP T A6 hjl hjp
   go_wp2_with fail
   refine CP.mono ?_
   rintro e v3 ⟨j3, xv, -, -, rfl, cc, bb⟩
   have T := T6.call cc bb
   clear CP T6 cc bb q1
   have g0 := T.1.1
   have qf : v3.cell? ⟨w.heap.size, 0, none⟩ = some (.int .i64 k) := T.1.cell (i := 0) rfl
   have ff : v3.frozen? ⟨w.heap.size, 0, none⟩ = false := T.1.2.2 0 (by simp)
   have hst1 := aw (P := Tryz.prog) (v := .int .i64 xv) qf ff rfl
   have T5 := T.set 0 (.int .i64 xv)
   clear T qf ff g0
   go_wp2_with (rw [hst1])
   (try go_simp)
   clear hst1
   have T : DrS base B p w.heap.size (w.heap.size + 1) ow w (v3.setCell ⟨w.heap.size, 0, none⟩ (.int .i64 xv)) #[.int .i64 xv, .int .i64 nd, .int .i64 tt, .int .i64 a, .int .i64 b, .string tx, .slice P L.length c] #[.int .i64 0, .int .i64 0, .int .i64 0, .int .i64 0, .int .i64 0, .string ⟨#[]⟩, .slice none 0 0] (.slice P L.length c) L := T5
   clear T5
   generalize v3.setCell ⟨w.heap.size, 0, none⟩ (.int .i64 xv) = v5 at *
   have hL := T.1.load (P := Tryz.prog) (n := 7) rfl
   have hst := Bo.store (P := Tryz.prog) (b := 0) [.int .i64 xv, .int .i64 nd, .int .i64 tt, .int .i64 a, .int .i64 b, .string tx, .slice P L.length c] 0 0 T.2.1 rfl (by simp) (by intro u hu; simp only [List.mem_cons, List.not_mem_nil, or_false] at hu; rcases hu with h | h | h | h | h | h | h <;> (subst h; rfl))
   have RS := T.result [.int .i64 xv, .int .i64 nd, .int .i64 tt, .int .i64 a, .int .i64 b, .string tx, .slice P L.length c] rfl
   have HW : Hid (_ ∧ _) := RS
   clear RS T
   go_wp2_with (first | rw [hL] | rw [hst])
   (try go_simp)
   (try go_wp2_with fail)
   clear hL hst
   generalize ac v5 (w.heap.size + 1) 0 [.int .i64 xv, .int .i64 nd, .int .i64 tt, .int .i64 a, .int .i64 b, .string tx, .slice P L.length c] = vz at *
   have hL := HW.out.1.load (P := Tryz.prog) (n := 7) rfl
   (try simp only [Exit.inBlock, Exit.then])
   exact bodyPost_ret (v := .agg #[.int .i64 xv, .int .i64 nd, .int .i64 tt, .int .i64 a, .int .i64 b, .string tx, .slice P L.length c]) (by simp [results, Tryz.results52, go_sem]; rw [hL]; rfl) rfl (by unfold eU; exact ⟨xv, nd, tt, a, b, tx, P, L, c, rfl, hx, Nat.le_trans hL7 (by decide), HW.out.2.1, HW.out.2.2.1, HW.out.2.2.2⟩)
  ·have A6 := Below.nw v2 (.cells #[.int .i64 (-1), .int .i64 8, .int .i64 7, .int .i64 1] 3)
   have HP : ∀ j, j < 4 → ∃ v : Int, (v2.alloc (.cells #[.int .i64 (-1), .int .i64 8, .int .i64 7, .int .i64 1] 3)).cell? ⟨v2.heap.size, 0 + j, none⟩ = some (.int .i64 v) := bE v2 [(-1), 8, 7, 1] 3
   have T6 := T.below A6
   have hjl : v2.heap.size < (v2.alloc (.cells #[.int .i64 (-1), .int .i64 8, .int .i64 7, .int .i64 1] 3)).heap.size := by simp
   have hjp : v2.heap.size ≠ p := by have := T.2.2.2.2.2.2.2.2.2; omega
   have q1 : v2.cell? ⟨w.heap.size, 1, none⟩ = some (.int .i64 nd) := T.1.cell (i := 1) rfl
   have CP := aI B p v2.heap.size 0 4 4 (v2.alloc (.cells #[.int .i64 (-1), .int .i64 8, .int .i64 7, .int .i64 1] 3)) T6.2.2.2.1 (by decide) (by decide) hjl hjp HP
   clear HP T A6 hjl hjp
   go_wp2_with fail
   refine CP.mono ?_
   rintro e v3 ⟨j3, xv, -, -, rfl, cc, bb⟩
   have T := T6.call cc bb
   clear CP T6 cc bb q1
   have g0 := T.1.1
   have qf : v3.cell? ⟨w.heap.size, 1, none⟩ = some (.int .i64 nd) := T.1.cell (i := 1) rfl
   have ff : v3.frozen? ⟨w.heap.size, 1, none⟩ = false := T.1.2.2 1 (by simp)
   have hst1 := aw (P := Tryz.prog) (v := .int .i64 xv) qf ff rfl
   have T5 := T.set 1 (.int .i64 xv)
   clear T qf ff g0
   go_wp2_with (rw [hst1])
   (try go_simp)
   clear hst1
   have T : DrS base B p w.heap.size (w.heap.size + 1) ow w (v3.setCell ⟨w.heap.size, 1, none⟩ (.int .i64 xv)) #[.int .i64 k, .int .i64 xv, .int .i64 tt, .int .i64 a, .int .i64 b, .string tx, .slice P L.length c] #[.int .i64 0, .int .i64 0, .int .i64 0, .int .i64 0, .int .i64 0, .string ⟨#[]⟩, .slice none 0 0] (.slice P L.length c) L := T5
   clear T5
   generalize v3.setCell ⟨w.heap.size, 1, none⟩ (.int .i64 xv) = v5 at *
   have hL := T.1.load (P := Tryz.prog) (n := 7) rfl
   have hst := Bo.store (P := Tryz.prog) (b := 0) [.int .i64 k, .int .i64 xv, .int .i64 tt, .int .i64 a, .int .i64 b, .string tx, .slice P L.length c] 0 0 T.2.1 rfl (by simp) (by intro u hu; simp only [List.mem_cons, List.not_mem_nil, or_false] at hu; rcases hu with h | h | h | h | h | h | h <;> (subst h; rfl))
   have RS := T.result [.int .i64 k, .int .i64 xv, .int .i64 tt, .int .i64 a, .int .i64 b, .string tx, .slice P L.length c] rfl
   have HW : Hid (_ ∧ _) := RS
   clear RS T
   go_wp2_with (first | rw [hL] | rw [hst])
   (try go_simp)
   (try go_wp2_with fail)
   clear hL hst
   generalize ac v5 (w.heap.size + 1) 0 [.int .i64 k, .int .i64 xv, .int .i64 tt, .int .i64 a, .int .i64 b, .string tx, .slice P L.length c] = vz at *
   have hL := HW.out.1.load (P := Tryz.prog) (n := 7) rfl
   (try simp only [Exit.inBlock, Exit.then])
   exact bodyPost_ret (v := .agg #[.int .i64 k, .int .i64 xv, .int .i64 tt, .int .i64 a, .int .i64 b, .string tx, .slice P L.length c]) (by simp [results, Tryz.results52, go_sem]; rw [hL]; rfl) rfl (by unfold eU; exact ⟨k, xv, tt, a, b, tx, P, L, c, rfl, hx, Nat.le_trans hL7 (by decide), HW.out.2.1, HW.out.2.2.1, HW.out.2.2.2⟩)
  ·have A6 := Below.nw v2 (.cells #[.int .i64 (-1), .int .i64 8, .int .i64 7, .int .i64 nd] 3)
   have HP : ∀ j, j < 4 → ∃ v : Int, (v2.alloc (.cells #[.int .i64 (-1), .int .i64 8, .int .i64 7, .int .i64 nd] 3)).cell? ⟨v2.heap.size, 0 + j, none⟩ = some (.int .i64 v) := bE v2 [(-1), 8, 7, nd] 3
   have T6 := T.below A6
   have hjl : v2.heap.size < (v2.alloc (.cells #[.int .i64 (-1), .int .i64 8, .int .i64 7, .int .i64 nd] 3)).heap.size := by simp
   have hjp : v2.heap.size ≠ p := by have := T.2.2.2.2.2.2.2.2.2; omega
   have q1 : v2.cell? ⟨w.heap.size, 1, none⟩ = some (.int .i64 nd) := T.1.cell (i := 1) rfl
   have CP := aI B p v2.heap.size 0 4 4 (v2.alloc (.cells #[.int .i64 (-1), .int .i64 8, .int .i64 7, .int .i64 nd] 3)) T6.2.2.2.1 (by decide) (by decide) hjl hjp HP
   clear HP T A6 hjl hjp
   go_wp2_with fail
   refine CP.mono ?_
   rintro e v3 ⟨j3, xv, -, -, rfl, cc, bb⟩
   have T := T6.call cc bb
   clear CP T6 cc bb q1
   have g0 := T.1.1
   have qf : v3.cell? ⟨w.heap.size, 2, none⟩ = some (.int .i64 tt) := T.1.cell (i := 2) rfl
   have ff : v3.frozen? ⟨w.heap.size, 2, none⟩ = false := T.1.2.2 2 (by simp)
   have hst1 := aw (P := Tryz.prog) (v := .int .i64 xv) qf ff rfl
   have T5 := T.set 2 (.int .i64 xv)
   clear T qf ff g0
   go_wp2_with (rw [hst1])
   (try go_simp)
   clear hst1
   have T : DrS base B p w.heap.size (w.heap.size + 1) ow w (v3.setCell ⟨w.heap.size, 2, none⟩ (.int .i64 xv)) #[.int .i64 k, .int .i64 nd, .int .i64 xv, .int .i64 a, .int .i64 b, .string tx, .slice P L.length c] #[.int .i64 0, .int .i64 0, .int .i64 0, .int .i64 0, .int .i64 0, .string ⟨#[]⟩, .slice none 0 0] (.slice P L.length c) L := T5
   clear T5
   generalize v3.setCell ⟨w.heap.size, 2, none⟩ (.int .i64 xv) = v5 at *
   have hL := T.1.load (P := Tryz.prog) (n := 7) rfl
   have hst := Bo.store (P := Tryz.prog) (b := 0) [.int .i64 k, .int .i64 nd, .int .i64 xv, .int .i64 a, .int .i64 b, .string tx, .slice P L.length c] 0 0 T.2.1 rfl (by simp) (by intro u hu; simp only [List.mem_cons, List.not_mem_nil, or_false] at hu; rcases hu with h | h | h | h | h | h | h <;> (subst h; rfl))
   have RS := T.result [.int .i64 k, .int .i64 nd, .int .i64 xv, .int .i64 a, .int .i64 b, .string tx, .slice P L.length c] rfl
   have HW : Hid (_ ∧ _) := RS
   clear RS T
   go_wp2_with (first | rw [hL] | rw [hst])
   (try go_simp)
   (try go_wp2_with fail)
   clear hL hst
   generalize ac v5 (w.heap.size + 1) 0 [.int .i64 k, .int .i64 nd, .int .i64 xv, .int .i64 a, .int .i64 b, .string tx, .slice P L.length c] = vz at *
   have hL := HW.out.1.load (P := Tryz.prog) (n := 7) rfl
   (try simp only [Exit.inBlock, Exit.then])
   exact bodyPost_ret (v := .agg #[.int .i64 k, .int .i64 nd, .int .i64 xv, .int .i64 a, .int .i64 b, .string tx, .slice P L.length c]) (by simp [results, Tryz.results52, go_sem]; rw [hL]; rfl) rfl (by unfold eU; exact ⟨k, nd, xv, a, b, tx, P, L, c, rfl, hx, Nat.le_trans hL7 (by decide), HW.out.2.1, HW.out.2.2.1, HW.out.2.2.2⟩)
  ·have A6 := Below.nw v2 (.cells #[.int .i64 (-1), .int .i64 1000000, .int .i64 1000001, .int .i64 39, .int .i64 40] 3)
   have HP : ∀ j, j < 5 → ∃ v : Int, (v2.alloc (.cells #[.int .i64 (-1), .int .i64 1000000, .int .i64 1000001, .int .i64 39, .int .i64 40] 3)).cell? ⟨v2.heap.size, 0 + j, none⟩ = some (.int .i64 v) := bE v2 [(-1), 1000000, 1000001, 39, 40] 3
   have T6 := T.below A6
   have hjl : v2.heap.size < (v2.alloc (.cells #[.int .i64 (-1), .int .i64 1000000, .int .i64 1000001, .int .i64 39, .int .i64 40] 3)).heap.size := by simp
   have hjp : v2.heap.size ≠ p := by have := T.2.2.2.2.2.2.2.2.2; omega
   have q1 : v2.cell? ⟨w.heap.size, 1, none⟩ = some (.int .i64 nd) := T.1.cell (i := 1) rfl
   have CP := aI B p v2.heap.size 0 5 5 (v2.alloc (.cells #[.int .i64 (-1), .int .i64 1000000, .int .i64 1000001, .int .i64 39, .int .i64 40] 3)) T6.2.2.2.1 (by decide) (by decide) hjl hjp HP
   clear HP T A6 hjl hjp
   go_wp2_with fail
   refine CP.mono ?_
   rintro e v3 ⟨j3, xv, -, -, rfl, cc, bb⟩
   have T := T6.call cc bb
   clear CP T6 cc bb q1
   have g0 := T.1.1
   have qf : v3.cell? ⟨w.heap.size, 3, none⟩ = some (.int .i64 a) := T.1.cell (i := 3) rfl
   have ff : v3.frozen? ⟨w.heap.size, 3, none⟩ = false := T.1.2.2 3 (by simp)
   have hst1 := aw (P := Tryz.prog) (v := .int .i64 xv) qf ff rfl
   have T5 := T.set 3 (.int .i64 xv)
   clear T qf ff g0
   go_wp2_with (rw [hst1])
   (try go_simp)
   clear hst1
   have T : DrS base B p w.heap.size (w.heap.size + 1) ow w (v3.setCell ⟨w.heap.size, 3, none⟩ (.int .i64 xv)) #[.int .i64 k, .int .i64 nd, .int .i64 tt, .int .i64 xv, .int .i64 b, .string tx, .slice P L.length c] #[.int .i64 0, .int .i64 0, .int .i64 0, .int .i64 0, .int .i64 0, .string ⟨#[]⟩, .slice none 0 0] (.slice P L.length c) L := T5
   clear T5
   generalize v3.setCell ⟨w.heap.size, 3, none⟩ (.int .i64 xv) = v5 at *
   have hL := T.1.load (P := Tryz.prog) (n := 7) rfl
   have hst := Bo.store (P := Tryz.prog) (b := 0) [.int .i64 k, .int .i64 nd, .int .i64 tt, .int .i64 xv, .int .i64 b, .string tx, .slice P L.length c] 0 0 T.2.1 rfl (by simp) (by intro u hu; simp only [List.mem_cons, List.not_mem_nil, or_false] at hu; rcases hu with h | h | h | h | h | h | h <;> (subst h; rfl))
   have RS := T.result [.int .i64 k, .int .i64 nd, .int .i64 tt, .int .i64 xv, .int .i64 b, .string tx, .slice P L.length c] rfl
   have HW : Hid (_ ∧ _) := RS
   clear RS T
   go_wp2_with (first | rw [hL] | rw [hst])
   (try go_simp)
   (try go_wp2_with fail)
   clear hL hst
   generalize ac v5 (w.heap.size + 1) 0 [.int .i64 k, .int .i64 nd, .int .i64 tt, .int .i64 xv, .int .i64 b, .string tx, .slice P L.length c] = vz at *
   have hL := HW.out.1.load (P := Tryz.prog) (n := 7) rfl
   (try simp only [Exit.inBlock, Exit.then])
   exact bodyPost_ret (v := .agg #[.int .i64 k, .int .i64 nd, .int .i64 tt, .int .i64 xv, .int .i64 b, .string tx, .slice P L.length c]) (by simp [results, Tryz.results52, go_sem]; rw [hL]; rfl) rfl (by unfold eU; exact ⟨k, nd, tt, xv, b, tx, P, L, c, rfl, hx, Nat.le_trans hL7 (by decide), HW.out.2.1, HW.out.2.2.1, HW.out.2.2.2⟩)
  ·have A6 := Below.nw v2 (.cells #[.int .i64 (-1), .int .i64 1000000, .int .i64 1000001, .int .i64 1] 3)
   have HP : ∀ j, j < 4 → ∃ v : Int, (v2.alloc (.cells #[.int .i64 (-1), .int .i64 1000000, .int .i64 1000001, .int .i64 1] 3)).cell? ⟨v2.heap.size, 0 + j, none⟩ = some (.int .i64 v) := bE v2 [(-1), 1000000, 1000001, 1] 3
   have T6 := T.below A6
   have hjl : v2.heap.size < (v2.alloc (.cells #[.int .i64 (-1), .int .i64 1000000, .int .i64 1000001, .int .i64 1] 3)).heap.size := by simp
   have hjp : v2.heap.size ≠ p := by have := T.2.2.2.2.2.2.2.2.2; omega
   have q1 : v2.cell? ⟨w.heap.size, 1, none⟩ = some (.int .i64 nd) := T.1.cell (i := 1) rfl
   have CP := aI B p v2.heap.size 0 4 4 (v2.alloc (.cells #[.int .i64 (-1), .int .i64 1000000, .int .i64 1000001, .int .i64 1] 3)) T6.2.2.2.1 (by decide) (by decide) hjl hjp HP
   clear HP T A6 hjl hjp
   go_wp2_with fail
   refine CP.mono ?_
   rintro e v3 ⟨j3, xv, -, -, rfl, cc, bb⟩
   have T := T6.call cc bb
   clear CP T6 cc bb q1
   have g0 := T.1.1
   have qf : v3.cell? ⟨w.heap.size, 4, none⟩ = some (.int .i64 b) := T.1.cell (i := 4) rfl
   have ff : v3.frozen? ⟨w.heap.size, 4, none⟩ = false := T.1.2.2 4 (by simp)
   have hst1 := aw (P := Tryz.prog) (v := .int .i64 xv) qf ff rfl
   have T5 := T.set 4 (.int .i64 xv)
   clear T qf ff g0
   go_wp2_with (rw [hst1])
   (try go_simp)
   clear hst1
   have T : DrS base B p w.heap.size (w.heap.size + 1) ow w (v3.setCell ⟨w.heap.size, 4, none⟩ (.int .i64 xv)) #[.int .i64 k, .int .i64 nd, .int .i64 tt, .int .i64 a, .int .i64 xv, .string tx, .slice P L.length c] #[.int .i64 0, .int .i64 0, .int .i64 0, .int .i64 0, .int .i64 0, .string ⟨#[]⟩, .slice none 0 0] (.slice P L.length c) L := T5
   clear T5
   generalize v3.setCell ⟨w.heap.size, 4, none⟩ (.int .i64 xv) = v5 at *
   have hL := T.1.load (P := Tryz.prog) (n := 7) rfl
   have hst := Bo.store (P := Tryz.prog) (b := 0) [.int .i64 k, .int .i64 nd, .int .i64 tt, .int .i64 a, .int .i64 xv, .string tx, .slice P L.length c] 0 0 T.2.1 rfl (by simp) (by intro u hu; simp only [List.mem_cons, List.not_mem_nil, or_false] at hu; rcases hu with h | h | h | h | h | h | h <;> (subst h; rfl))
   have RS := T.result [.int .i64 k, .int .i64 nd, .int .i64 tt, .int .i64 a, .int .i64 xv, .string tx, .slice P L.length c] rfl
   have HW : Hid (_ ∧ _) := RS
   clear RS T
   go_wp2_with (first | rw [hL] | rw [hst])
   (try go_simp)
   (try go_wp2_with fail)
   clear hL hst
   generalize ac v5 (w.heap.size + 1) 0 [.int .i64 k, .int .i64 nd, .int .i64 tt, .int .i64 a, .int .i64 xv, .string tx, .slice P L.length c] = vz at *
   have hL := HW.out.1.load (P := Tryz.prog) (n := 7) rfl
   (try simp only [Exit.inBlock, Exit.then])
   exact bodyPost_ret (v := .agg #[.int .i64 k, .int .i64 nd, .int .i64 tt, .int .i64 a, .int .i64 xv, .string tx, .slice P L.length c]) (by simp [results, Tryz.results52, go_sem]; rw [hL]; rfl) rfl (by unfold eU; exact ⟨k, nd, tt, a, xv, tx, P, L, c, rfl, hx, Nat.le_trans hL7 (by decide), HW.out.2.1, HW.out.2.2.1, HW.out.2.2.2⟩)
  ·go_wp2_with fail
   refine (ev B p v2 T.2.2.2.1).mono ?_
   rintro e v3 ⟨xt, rfl, hxt, cc, bb⟩
   replace T := T.call cc bb
   clear cc bb
   have g0 := T.1.1
   have qf : v3.cell? ⟨w.heap.size, 5, none⟩ = some (.string tx) := T.1.cell (i := 5) rfl
   have ff : v3.frozen? ⟨w.heap.size, 5, none⟩ = false := T.1.2.2 5 (by simp)
   have hst1 := aw (P := Tryz.prog) (v := .string xt) qf ff rfl
   have T5 := T.set 5 (.string xt)
   clear T qf ff g0
   go_wp2_with (rw [hst1])
   (try go_simp)
   clear hst1
   have T : DrS base B p w.heap.size (w.heap.size + 1) ow w (v3.setCell ⟨w.heap.size, 5, none⟩ (.string xt)) #[.int .i64 k, .int .i64 nd, .int .i64 tt, .int .i64 a, .int .i64 b, .string xt, .slice P L.length c] #[.int .i64 0, .int .i64 0, .int .i64 0, .int .i64 0, .int .i64 0, .string ⟨#[]⟩, .slice none 0 0] (.slice P L.length c) L := T5
   clear T5
   generalize v3.setCell ⟨w.heap.size, 5, none⟩ (.string xt) = v5 at *
   have hL := T.1.load (P := Tryz.prog) (n := 7) rfl
   have hst := Bo.store (P := Tryz.prog) (b := 0) [.int .i64 k, .int .i64 nd, .int .i64 tt, .int .i64 a, .int .i64 b, .string xt, .slice P L.length c] 0 0 T.2.1 rfl (by simp) (by intro u hu; simp only [List.mem_cons, List.not_mem_nil, or_false] at hu; rcases hu with h | h | h | h | h | h | h <;> (subst h; rfl))
   have RS := T.result [.int .i64 k, .int .i64 nd, .int .i64 tt, .int .i64 a, .int .i64 b, .string xt, .slice P L.length c] rfl
   have HW : Hid (_ ∧ _) := RS
   clear RS T
   go_wp2_with (first | rw [hL] | rw [hst])
   (try go_simp)
   (try go_wp2_with fail)
   clear hL hst
   generalize ac v5 (w.heap.size + 1) 0 [.int .i64 k, .int .i64 nd, .int .i64 tt, .int .i64 a, .int .i64 b, .string xt, .slice P L.length c] = vz at *
   have hL := HW.out.1.load (P := Tryz.prog) (n := 7) rfl
   (try simp only [Exit.inBlock, Exit.then])
   exact bodyPost_ret (v := .agg #[.int .i64 k, .int .i64 nd, .int .i64 tt, .int .i64 a, .int .i64 b, .string xt, .slice P L.length c]) (by simp [results, Tryz.results52, go_sem]; rw [hL]; rfl) rfl (by unfold eU; exact ⟨k, nd, tt, a, b, xt, P, L, c, rfl, hxt, Nat.le_trans hL7 (by decide), HW.out.2.1, HW.out.2.2.1, HW.out.2.2.2⟩)
  ·go_upto_region 15 with fail
   refine wp_region_held_drew (S := (fun _ => True)) (by kernel_rfl) ?_ (fun hHeld => ?_)
   ·trivial
   replace T := T.drew
   generalize v2.drew = vx at *
   have q6 := T.1.cell (i := 6) rfl
   refine zTk 0 ?_
   refine zTk 2 ?_
   refine wpAnyH_ready (rs := [1, 3]) (by kernel_rfl) (by simp) ?_
   refine (zC (fun K hK => ?_) (zR fun K hK => ?_))
   ·go_simp
    refine hK.out _ _ ?_ (fun hHeld => ?_)
    ·trivial
    clear hK K
    (try simp only [zA])
    refine zQ 3 fun K hK => ?_
    go_simp
    (clear q6); (have A6 := Below.nw vx (.cells #[.int .i64 1000000, .int .i64 1000001, .int .i64 (-1000001), .int .i64 0] 3)); (have HP : Hid (∀ j, j < 4 → ∃ v : Int, (vx.alloc (.cells #[.int .i64 1000000, .int .i64 1000001, .int .i64 (-1000001), .int .i64 0] 3)).cell? ⟨vx.heap.size, 0 + j, none⟩ = some (.int .i64 v)) := bE vx [1000000, 1000001, -1000001, 0] 3); (have HJ : Hid (vx.heap.size < (vx.alloc (.cells #[.int .i64 1000000, .int .i64 1000001, .int .i64 (-1000001), .int .i64 0] 3)).heap.size ∧ vx.heap.size ≠ p) := ⟨by simp, by have := T.2.2.2.2.2.2.2.2.2; omega⟩); (replace T := T.below A6); (clear A6); (generalize vx.alloc (.cells #[.int .i64 1000000, .int .i64 1000001, .int .i64 (-1000001), .int .i64 0] 3) = vx3 at *); (generalize vx.heap.size = j4 at *); (have q6 := T.1.cell (i := 6) rfl)
    refine hK.out _ _ ?_ (fun hHeld => ?_)
    ·trivial
    clear hK K
    (try simp only [zA])
    refine zQ 4 fun K hK => ?_
    go_simp
    (clear q6); refine (aI B p j4 0 4 4 vx3 T.2.2.2.1 (by decide) (by decide) HJ.out.1 HJ.out.2 HP.out).mono ?_; rintro e vx4 ⟨j3, xv, -, -, rfl, cc, bb⟩; (replace T := T.call cc bb); (clear cc bb HP HJ); (have q6 := T.1.cell (i := 6) rfl)
    (try go_wp2_with fail)
    refine hK.out _ _ ?_ (fun hHeld => ?_)
    ·trivial
    clear hK K
    (try simp only [zA])
    refine zQ 5 fun K hK => ?_
    go_simp
    (clear q6); (have A6 := Below.nw vx4 (.cells #[.int .i64 xv] 3)); (have HN : Hid (∀ j u, [Value.int .i64 xv][j]? = some u → (vx4.alloc (.cells #[.int .i64 xv] 3)).cell? ((⟨vx4.heap.size, 0, none⟩ : Addr).add j) = some u) := bR vx4 xv 3); (replace T := T.below A6); (clear A6); (generalize vx4.alloc (.cells #[.int .i64 xv] 3) = vx5 at *); (generalize vx4.heap.size = jb at *); (have q6 := T.1.cell (i := 6) rfl)
    refine hK.out _ _ ?_ (fun hHeld => ?_)
    ·trivial
    clear hK K
    (try simp only [zA])
    refine zQ 6 fun K hK => ?_
    rw [if_pos (by rfl)]; (clear q6); refine aH _ _ 24 rfl base 3 i0 (.int .i64 0) 1 8 Tryz.underlying24 hi hz0 hz1 hz2 rfl (by decide) _ _ _ rfl T.2.2.1 ⟨jb, 0, none⟩ 1 1 [.int .i64 xv] rfl rfl HN.out (by intro u hu; simp at hu; subst hu; rfl) (by unfold maxLen; omega) (by omega) T.2.2.2.2.2.2.2.2.2.2.2 ?_; intro v' wn hown' hgrow hfr; (obtain ⟨P', c', rfl⟩ := bT hown'); (have R9 : wn.ownsRow base 3 1 (.slice P' (L.length + 1) c') (L ++ [xv]).length (aG (L ++ [xv])) := by rw [bd, List.length_append]; exact hown'); (have T9 := T.grow hgrow R9 hfr); (clear hown' hgrow hfr HN T R9); (have T := T9); (clear T9); (have g0 := T.1.1); (have q6 := T.1.cell (i := 6) rfl); (have f6 := T.1.2.2 6 (by simp)); (have hst6 := aw (P := Tryz.prog) (v := .slice P' (L.length + 1) c') q6 f6 rfl); (have T5 := T.set 6 (.slice P' (L.length + 1) c')); (have HT5 : Hid _ := T5); (clear T T5 q6 f6 g0)
    refine hK.out _ _ ?_ (fun hHeld => ?_)
    ·trivial
    clear hK K
    (try simp only [zA])
    refine zTk 7 ?_
    refine zQ 8 fun K hK => ?_
    go_simp
    (try rw [hst6]); (try go_simp)
    refine hK.out _ _ ?_ (fun hHeld => ?_)
    ·trivial
    clear hK K
    (try simp only [zA])
    refine wpAnyH_done (by kernel_rfl) ?_ _
    clear hst6
    have T : DrS base B p w.heap.size (w.heap.size + 1) ow w (wn.setCell ⟨w.heap.size, 6, none⟩ (.slice P' (L.length + 1) c')) #[.int .i64 k, .int .i64 nd, .int .i64 tt, .int .i64 a, .int .i64 b, .string tx, .slice P' (L.length + 1) c'] #[.int .i64 0, .int .i64 0, .int .i64 0, .int .i64 0, .int .i64 0, .string ⟨#[]⟩, .slice none 0 0] (.slice P' (L.length + 1) c') (L ++ [xv]) := HT5.out
    clear HT5
    generalize wn.setCell ⟨w.heap.size, 6, none⟩ (.slice P' (L.length + 1) c') = v5 at *
    have hL := T.1.load (P := Tryz.prog) (n := 7) rfl
    have hst := Bo.store (P := Tryz.prog) (b := 0) [.int .i64 k, .int .i64 nd, .int .i64 tt, .int .i64 a, .int .i64 b, .string tx, .slice P' (L.length + 1) c'] 0 0 T.2.1 rfl (by simp) (by intro u hu; simp only [List.mem_cons, List.not_mem_nil, or_false] at hu; rcases hu with h | h | h | h | h | h | h <;> (subst h; rfl))
    have RS := T.result [.int .i64 k, .int .i64 nd, .int .i64 tt, .int .i64 a, .int .i64 b, .string tx, .slice P' (L.length + 1) c'] rfl
    have HW : Hid (_ ∧ _) := RS
    clear RS T
    go_wp2_with (first | rw [hL] | rw [hst])
    (try go_simp)
    (try go_wp2_with fail)
    clear hL hst
    generalize ac v5 (w.heap.size + 1) 0 [.int .i64 k, .int .i64 nd, .int .i64 tt, .int .i64 a, .int .i64 b, .string tx, .slice P' (L.length + 1) c'] = vz at *
    have hL := HW.out.1.load (P := Tryz.prog) (n := 7) rfl
    (try simp only [Exit.inBlock, Exit.then])
    exact bodyPost_ret (v := .agg #[.int .i64 k, .int .i64 nd, .int .i64 tt, .int .i64 a, .int .i64 b, .string tx, .slice P' (L.length + 1) c']) (by simp [results, Tryz.results52, go_sem]; rw [hL]; rfl) rfl (aC k nd tt a b tx P' (L ++ [xv]) c' (by rw [List.length_append]; rfl : (L ++ [xv]).length = L.length + 1) rfl hx (by omega) HW.out.2.1 HW.out.2.2.1 HW.out.2.2.2)
   ·go_simp
    (clear q6); (have A6 := Below.nw vx (.cells #[.int .i64 1000000, .int .i64 1000001, .int .i64 (-1000001), .int .i64 0] 3)); (have HP : Hid (∀ j, j < 4 → ∃ v : Int, (vx.alloc (.cells #[.int .i64 1000000, .int .i64 1000001, .int .i64 (-1000001), .int .i64 0] 3)).cell? ⟨vx.heap.size, 0 + j, none⟩ = some (.int .i64 v)) := bE vx [1000000, 1000001, -1000001, 0] 3); (have HJ : Hid (vx.heap.size < (vx.alloc (.cells #[.int .i64 1000000, .int .i64 1000001, .int .i64 (-1000001), .int .i64 0] 3)).heap.size ∧ vx.heap.size ≠ p) := ⟨by simp, by have := T.2.2.2.2.2.2.2.2.2; omega⟩); (replace T := T.below A6); (clear A6); (generalize vx.alloc (.cells #[.int .i64 1000000, .int .i64 1000001, .int .i64 (-1000001), .int .i64 0] 3) = vx3 at *); (generalize vx.heap.size = j4 at *); (have q6 := T.1.cell (i := 6) rfl)
    refine hK.out _ _ ?_ (fun hHeld => ?_)
    ·trivial
    clear hK K
    (try simp only [zA])
    refine wpAnyH_ready (rs := [1, 4]) (by kernel_rfl) (by simp) ?_
    refine (zC (fun K hK => ?_) (zR fun K hK => ?_))
    ·go_simp
     refine hK.out _ _ ?_ (fun hHeld => ?_)
     ·trivial
     clear hK K
     (try simp only [zA])
     refine zQ 4 fun K hK => ?_
     go_simp
     (clear q6); refine (aI B p j4 0 4 4 vx3 T.2.2.2.1 (by decide) (by decide) HJ.out.1 HJ.out.2 HP.out).mono ?_; rintro e vx4 ⟨j3, xv, -, -, rfl, cc, bb⟩; (replace T := T.call cc bb); (clear cc bb HP HJ); (have q6 := T.1.cell (i := 6) rfl)
     (try go_wp2_with fail)
     refine hK.out _ _ ?_ (fun hHeld => ?_)
     ·trivial
     clear hK K
     (try simp only [zA])
     refine zQ 5 fun K hK => ?_
     go_simp
     (clear q6); (have A6 := Below.nw vx4 (.cells #[.int .i64 xv] 3)); (have HN : Hid (∀ j u, [Value.int .i64 xv][j]? = some u → (vx4.alloc (.cells #[.int .i64 xv] 3)).cell? ((⟨vx4.heap.size, 0, none⟩ : Addr).add j) = some u) := bR vx4 xv 3); (replace T := T.below A6); (clear A6); (generalize vx4.alloc (.cells #[.int .i64 xv] 3) = vx5 at *); (generalize vx4.heap.size = jb at *); (have q6 := T.1.cell (i := 6) rfl)
     refine hK.out _ _ ?_ (fun hHeld => ?_)
     ·trivial
     clear hK K
     (try simp only [zA])
     refine zQ 6 fun K hK => ?_
     rw [if_pos (by rfl)]; (clear q6); refine aH _ _ 24 rfl base 3 i0 (.int .i64 0) 1 8 Tryz.underlying24 hi hz0 hz1 hz2 rfl (by decide) _ _ _ rfl T.2.2.1 ⟨jb, 0, none⟩ 1 1 [.int .i64 xv] rfl rfl HN.out (by intro u hu; simp at hu; subst hu; rfl) (by unfold maxLen; omega) (by omega) T.2.2.2.2.2.2.2.2.2.2.2 ?_; intro v' wn hown' hgrow hfr; (obtain ⟨P', c', rfl⟩ := bT hown'); (have R9 : wn.ownsRow base 3 1 (.slice P' (L.length + 1) c') (L ++ [xv]).length (aG (L ++ [xv])) := by rw [bd, List.length_append]; exact hown'); (have T9 := T.grow hgrow R9 hfr); (clear hown' hgrow hfr HN T R9); (have T := T9); (clear T9); (have g0 := T.1.1); (have q6 := T.1.cell (i := 6) rfl); (have f6 := T.1.2.2 6 (by simp)); (have hst6 := aw (P := Tryz.prog) (v := .slice P' (L.length + 1) c') q6 f6 rfl); (have T5 := T.set 6 (.slice P' (L.length + 1) c')); (have HT5 : Hid _ := T5); (clear T T5 q6 f6 g0)
     refine hK.out _ _ ?_ (fun hHeld => ?_)
     ·trivial
     clear hK K
     (try simp only [zA])
     refine zTk 7 ?_
     refine zQ 8 fun K hK => ?_
     go_simp
     (try rw [hst6]); (try go_simp)
     refine hK.out _ _ ?_ (fun hHeld => ?_)
     ·trivial
     clear hK K
     (try simp only [zA])
     refine wpAnyH_done (by kernel_rfl) ?_ _
     clear hst6
     have T : DrS base B p w.heap.size (w.heap.size + 1) ow w (wn.setCell ⟨w.heap.size, 6, none⟩ (.slice P' (L.length + 1) c')) #[.int .i64 k, .int .i64 nd, .int .i64 tt, .int .i64 a, .int .i64 b, .string tx, .slice P' (L.length + 1) c'] #[.int .i64 0, .int .i64 0, .int .i64 0, .int .i64 0, .int .i64 0, .string ⟨#[]⟩, .slice none 0 0] (.slice P' (L.length + 1) c') (L ++ [xv]) := HT5.out
     clear HT5
     generalize wn.setCell ⟨w.heap.size, 6, none⟩ (.slice P' (L.length + 1) c') = v5 at *
     have hL := T.1.load (P := Tryz.prog) (n := 7) rfl
     have hst := Bo.store (P := Tryz.prog) (b := 0) [.int .i64 k, .int .i64 nd, .int .i64 tt, .int .i64 a, .int .i64 b, .string tx, .slice P' (L.length + 1) c'] 0 0 T.2.1 rfl (by simp) (by intro u hu; simp only [List.mem_cons, List.not_mem_nil, or_false] at hu; rcases hu with h | h | h | h | h | h | h <;> (subst h; rfl))
     have RS := T.result [.int .i64 k, .int .i64 nd, .int .i64 tt, .int .i64 a, .int .i64 b, .string tx, .slice P' (L.length + 1) c'] rfl
     have HW : Hid (_ ∧ _) := RS
     clear RS T
     go_wp2_with (first | rw [hL] | rw [hst])
     (try go_simp)
     (try go_wp2_with fail)
     clear hL hst
     generalize ac v5 (w.heap.size + 1) 0 [.int .i64 k, .int .i64 nd, .int .i64 tt, .int .i64 a, .int .i64 b, .string tx, .slice P' (L.length + 1) c'] = vz at *
     have hL := HW.out.1.load (P := Tryz.prog) (n := 7) rfl
     (try simp only [Exit.inBlock, Exit.then])
     exact bodyPost_ret (v := .agg #[.int .i64 k, .int .i64 nd, .int .i64 tt, .int .i64 a, .int .i64 b, .string tx, .slice P' (L.length + 1) c']) (by simp [results, Tryz.results52, go_sem]; rw [hL]; rfl) rfl (aC k nd tt a b tx P' (L ++ [xv]) c' (by rw [List.length_append]; rfl : (L ++ [xv]).length = L.length + 1) rfl hx (by omega) HW.out.2.1 HW.out.2.2.1 HW.out.2.2.2)
    ·go_simp
     (clear q6); refine (aI B p j4 0 4 4 vx3 T.2.2.2.1 (by decide) (by decide) HJ.out.1 HJ.out.2 HP.out).mono ?_; rintro e vx4 ⟨j3, xv, -, -, rfl, cc, bb⟩; (replace T := T.call cc bb); (clear cc bb HP HJ); (have q6 := T.1.cell (i := 6) rfl)
     (try go_wp2_with fail)
     refine hK.out _ _ ?_ (fun hHeld => ?_)
     ·trivial
     clear hK K
     (try simp only [zA])
     refine wpAnyH_ready (rs := [1, 5]) (by kernel_rfl) (by simp) ?_
     refine (zC (fun K hK => ?_) (zR fun K hK => ?_))
     ·go_simp
      refine hK.out _ _ ?_ (fun hHeld => ?_)
      ·trivial
      clear hK K
      (try simp only [zA])
      refine zQ 5 fun K hK => ?_
      go_simp
      (clear q6); (have A6 := Below.nw vx4 (.cells #[.int .i64 xv] 3)); (have HN : Hid (∀ j u, [Value.int .i64 xv][j]? = some u → (vx4.alloc (.cells #[.int .i64 xv] 3)).cell? ((⟨vx4.heap.size, 0, none⟩ : Addr).add j) = some u) := bR vx4 xv 3); (replace T := T.below A6); (clear A6); (generalize vx4.alloc (.cells #[.int .i64 xv] 3) = vx5 at *); (generalize vx4.heap.size = jb at *); (have q6 := T.1.cell (i := 6) rfl)
      refine hK.out _ _ ?_ (fun hHeld => ?_)
      ·trivial
      clear hK K
      (try simp only [zA])
      refine zQ 6 fun K hK => ?_
      rw [if_pos (by rfl)]; (clear q6); refine aH _ _ 24 rfl base 3 i0 (.int .i64 0) 1 8 Tryz.underlying24 hi hz0 hz1 hz2 rfl (by decide) _ _ _ rfl T.2.2.1 ⟨jb, 0, none⟩ 1 1 [.int .i64 xv] rfl rfl HN.out (by intro u hu; simp at hu; subst hu; rfl) (by unfold maxLen; omega) (by omega) T.2.2.2.2.2.2.2.2.2.2.2 ?_; intro v' wn hown' hgrow hfr; (obtain ⟨P', c', rfl⟩ := bT hown'); (have R9 : wn.ownsRow base 3 1 (.slice P' (L.length + 1) c') (L ++ [xv]).length (aG (L ++ [xv])) := by rw [bd, List.length_append]; exact hown'); (have T9 := T.grow hgrow R9 hfr); (clear hown' hgrow hfr HN T R9); (have T := T9); (clear T9); (have g0 := T.1.1); (have q6 := T.1.cell (i := 6) rfl); (have f6 := T.1.2.2 6 (by simp)); (have hst6 := aw (P := Tryz.prog) (v := .slice P' (L.length + 1) c') q6 f6 rfl); (have T5 := T.set 6 (.slice P' (L.length + 1) c')); (have HT5 : Hid _ := T5); (clear T T5 q6 f6 g0)
      refine hK.out _ _ ?_ (fun hHeld => ?_)
      ·trivial
      clear hK K
      (try simp only [zA])
      refine zTk 7 ?_
      refine zQ 8 fun K hK => ?_
      go_simp
      (try rw [hst6]); (try go_simp)
      refine hK.out _ _ ?_ (fun hHeld => ?_)
      ·trivial
      clear hK K
      (try simp only [zA])
      refine wpAnyH_done (by kernel_rfl) ?_ _
      clear hst6
      have T : DrS base B p w.heap.size (w.heap.size + 1) ow w (wn.setCell ⟨w.heap.size, 6, none⟩ (.slice P' (L.length + 1) c')) #[.int .i64 k, .int .i64 nd, .int .i64 tt, .int .i64 a, .int .i64 b, .string tx, .slice P' (L.length + 1) c'] #[.int .i64 0, .int .i64 0, .int .i64 0, .int .i64 0, .int .i64 0, .string ⟨#[]⟩, .slice none 0 0] (.slice P' (L.length + 1) c') (L ++ [xv]) := HT5.out
      clear HT5
      generalize wn.setCell ⟨w.heap.size, 6, none⟩ (.slice P' (L.length + 1) c') = v5 at *
      have hL := T.1.load (P := Tryz.prog) (n := 7) rfl
      have hst := Bo.store (P := Tryz.prog) (b := 0) [.int .i64 k, .int .i64 nd, .int .i64 tt, .int .i64 a, .int .i64 b, .string tx, .slice P' (L.length + 1) c'] 0 0 T.2.1 rfl (by simp) (by intro u hu; simp only [List.mem_cons, List.not_mem_nil, or_false] at hu; rcases hu with h | h | h | h | h | h | h <;> (subst h; rfl))
      have RS := T.result [.int .i64 k, .int .i64 nd, .int .i64 tt, .int .i64 a, .int .i64 b, .string tx, .slice P' (L.length + 1) c'] rfl
      have HW : Hid (_ ∧ _) := RS
      clear RS T
      go_wp2_with (first | rw [hL] | rw [hst])
      (try go_simp)
      (try go_wp2_with fail)
      clear hL hst
      generalize ac v5 (w.heap.size + 1) 0 [.int .i64 k, .int .i64 nd, .int .i64 tt, .int .i64 a, .int .i64 b, .string tx, .slice P' (L.length + 1) c'] = vz at *
      have hL := HW.out.1.load (P := Tryz.prog) (n := 7) rfl
      (try simp only [Exit.inBlock, Exit.then])
      exact bodyPost_ret (v := .agg #[.int .i64 k, .int .i64 nd, .int .i64 tt, .int .i64 a, .int .i64 b, .string tx, .slice P' (L.length + 1) c']) (by simp [results, Tryz.results52, go_sem]; rw [hL]; rfl) rfl (aC k nd tt a b tx P' (L ++ [xv]) c' (by rw [List.length_append]; rfl : (L ++ [xv]).length = L.length + 1) rfl hx (by omega) HW.out.2.1 HW.out.2.2.1 HW.out.2.2.2)
     ·go_simp
      (clear q6); (have A6 := Below.nw vx4 (.cells #[.int .i64 xv] 3)); (have HN : Hid (∀ j u, [Value.int .i64 xv][j]? = some u → (vx4.alloc (.cells #[.int .i64 xv] 3)).cell? ((⟨vx4.heap.size, 0, none⟩ : Addr).add j) = some u) := bR vx4 xv 3); (replace T := T.below A6); (clear A6); (generalize vx4.alloc (.cells #[.int .i64 xv] 3) = vx5 at *); (generalize vx4.heap.size = jb at *); (have q6 := T.1.cell (i := 6) rfl)
      refine hK.out _ _ ?_ (fun hHeld => ?_)
      ·trivial
      clear hK K
      (try simp only [zA])
      refine zQ 1 fun K hK => ?_
      go_simp
      refine hK.out _ _ ?_ (fun hHeld => ?_)
      ·trivial
      clear hK K
      (try simp only [zA])
      refine zQ 6 fun K hK => ?_
      rw [if_pos (by rfl)]; (clear q6); refine aH _ _ 24 rfl base 3 i0 (.int .i64 0) 1 8 Tryz.underlying24 hi hz0 hz1 hz2 rfl (by decide) _ _ _ rfl T.2.2.1 ⟨jb, 0, none⟩ 1 1 [.int .i64 xv] rfl rfl HN.out (by intro u hu; simp at hu; subst hu; rfl) (by unfold maxLen; omega) (by omega) T.2.2.2.2.2.2.2.2.2.2.2 ?_; intro v' wn hown' hgrow hfr; (obtain ⟨P', c', rfl⟩ := bT hown'); (have R9 : wn.ownsRow base 3 1 (.slice P' (L.length + 1) c') (L ++ [xv]).length (aG (L ++ [xv])) := by rw [bd, List.length_append]; exact hown'); (have T9 := T.grow hgrow R9 hfr); (clear hown' hgrow hfr HN T R9); (have T := T9); (clear T9); (have g0 := T.1.1); (have q6 := T.1.cell (i := 6) rfl); (have f6 := T.1.2.2 6 (by simp)); (have hst6 := aw (P := Tryz.prog) (v := .slice P' (L.length + 1) c') q6 f6 rfl); (have T5 := T.set 6 (.slice P' (L.length + 1) c')); (have HT5 : Hid _ := T5); (clear T T5 q6 f6 g0)
      refine hK.out _ _ ?_ (fun hHeld => ?_)
      ·trivial
      clear hK K
      (try simp only [zA])
      refine zTk 7 ?_
      refine zQ 8 fun K hK => ?_
      go_simp
      (try rw [hst6]); (try go_simp)
      refine hK.out _ _ ?_ (fun hHeld => ?_)
      ·trivial
      clear hK K
      (try simp only [zA])
      refine wpAnyH_done (by kernel_rfl) ?_ _
      clear hst6
      have T : DrS base B p w.heap.size (w.heap.size + 1) ow w (wn.setCell ⟨w.heap.size, 6, none⟩ (.slice P' (L.length + 1) c')) #[.int .i64 k, .int .i64 nd, .int .i64 tt, .int .i64 a, .int .i64 b, .string tx, .slice P' (L.length + 1) c'] #[.int .i64 0, .int .i64 0, .int .i64 0, .int .i64 0, .int .i64 0, .string ⟨#[]⟩, .slice none 0 0] (.slice P' (L.length + 1) c') (L ++ [xv]) := HT5.out
      clear HT5
      generalize wn.setCell ⟨w.heap.size, 6, none⟩ (.slice P' (L.length + 1) c') = v5 at *
      have hL := T.1.load (P := Tryz.prog) (n := 7) rfl
      have hst := Bo.store (P := Tryz.prog) (b := 0) [.int .i64 k, .int .i64 nd, .int .i64 tt, .int .i64 a, .int .i64 b, .string tx, .slice P' (L.length + 1) c'] 0 0 T.2.1 rfl (by simp) (by intro u hu; simp only [List.mem_cons, List.not_mem_nil, or_false] at hu; rcases hu with h | h | h | h | h | h | h <;> (subst h; rfl))
      have RS := T.result [.int .i64 k, .int .i64 nd, .int .i64 tt, .int .i64 a, .int .i64 b, .string tx, .slice P' (L.length + 1) c'] rfl
      have HW : Hid (_ ∧ _) := RS
      clear RS T
      go_wp2_with (first | rw [hL] | rw [hst])
      (try go_simp)
      (try go_wp2_with fail)
      clear hL hst
      generalize ac v5 (w.heap.size + 1) 0 [.int .i64 k, .int .i64 nd, .int .i64 tt, .int .i64 a, .int .i64 b, .string tx, .slice P' (L.length + 1) c'] = vz at *
      have hL := HW.out.1.load (P := Tryz.prog) (n := 7) rfl
      (try simp only [Exit.inBlock, Exit.then])
      exact bodyPost_ret (v := .agg #[.int .i64 k, .int .i64 nd, .int .i64 tt, .int .i64 a, .int .i64 b, .string tx, .slice P' (L.length + 1) c']) (by simp [results, Tryz.results52, go_sem]; rw [hL]; rfl) rfl (aC k nd tt a b tx P' (L ++ [xv]) c' (by rw [List.length_append]; rfl : (L ++ [xv]).length = L.length + 1) rfl hx (by omega) HW.out.2.1 HW.out.2.2.1 HW.out.2.2.2)
 ·have h0 : (y == 0) = false := by simp; omega
  have h1 : (y == 1) = false := by simp; omega
  have h2 : (y == 2) = false := by simp; omega
  have h3 : (y == 3) = false := by simp; omega
  have h4 : (y == 4) = false := by simp; omega
  have h5 : (y == 5) = false := by simp; omega
  have h6 : (y == 6) = false := by simp; omega
  clear hy y0 y25
  have hL := T.1.load (P := Tryz.prog) (n := 7) rfl
  have hst := Bo.store (P := Tryz.prog) (b := 0) [.int .i64 k, .int .i64 nd, .int .i64 tt, .int .i64 a, .int .i64 b, .string tx, .slice P L.length c] 0 0 T.2.1 rfl (by simp) (by intro u hu; simp only [List.mem_cons, List.not_mem_nil, or_false] at hu; rcases hu with h | h | h | h | h | h | h <;> (subst h; rfl))
  have RS := T.result [.int .i64 k, .int .i64 nd, .int .i64 tt, .int .i64 a, .int .i64 b, .string tx, .slice P L.length c] rfl
  have HW : Hid (_ ∧ _) := RS
  clear RS T
  go_wp2_with (first | rw [hL] | rw [hst])
  (try go_simp)
  (try go_wp2_with fail)
  clear hL hst
  generalize ac v2 (w.heap.size + 1) 0 [.int .i64 k, .int .i64 nd, .int .i64 tt, .int .i64 a, .int .i64 b, .string tx, .slice P L.length c] = vz at *
  have hL := HW.out.1.load (P := Tryz.prog) (n := 7) rfl
  (try simp only [Exit.inBlock, Exit.then])
  exact bodyPost_ret (v := .agg #[.int .i64 k, .int .i64 nd, .int .i64 tt, .int .i64 a, .int .i64 b, .string tx, .slice P L.length c]) (by simp [results, Tryz.results52, go_sem]; rw [hL]; rfl) rfl (by unfold eU; exact ⟨k, nd, tt, a, b, tx, P, L, c, rfl, hx, Nat.le_trans hL7 (by decide), HW.out.2.1, HW.out.2.2.1, HW.out.2.2.2⟩)

end Go.Proofs.YtddjiamollfplaaGreatDoor
