/- An append of one element to a row of ones own. Rows of what was heard: -/
import Derived.Test.YtikbjljkakabdaaGreatMB0
import Derived.Test.YtikbjljkakabdaaGreatMB7
import Derived.Test.YtikbjljkakabdaaGreatMB10
namespace Go.Proofs.YtikbjljkakabdaaGreat
open Go.RowKit
set_option linter.unusedVariables false
set_option maxRecDepth 100000
set_option maxHeartbeats 16000000
theorem gu {P : Program} (w : World) (base : Nat) (t ty e : TypeId) (i : TypeInfo) (z : Value) (size bytes : Nat) (ht : P.underlying t = some (.slice e)) (hi : P.info? e = some i) (hz : i.zero = some z)
 (hsize : i.size = size) (hby : i.bytes = bytes) (hzs : z.cells.size = size) (hsz : 0 < size)
 (v : Value) (n : Nat) (xs : List Value) (hown : w.ownsRow base e size v n xs)
 (a : Addr) (m c : Nat) (news : List Value) (hl : news.length = m * size) (hnews : ∀ j u, news[j]? = some u → w.cell? (a.add j) = some u) (h1 : ∀ u ∈ news, u.oneCell' = true)
 (h63 : n + m ≤ maxLen) (hbytes : (n + m) * bytes ≤ 140737488355328) (hbase : base ≤ w.heap.size) :
 ∃ v' w', (Builtin.append_ #[t, t] ty #[v, .slice (some a) m c]).run P w = .ok v' w' ∧ w'.ownsRow base e size v' (n + m) (xs ++ news) ∧ w.grownBy w' v.ownBlock ∧ (∀ g, v'.ownBlock = some g → v.ownBlock = some g ∨ w.heap.size ≤ g) := by
 obtain ⟨v', w', hr, h2, h3, _⟩ := run_append_own (P := P) w base t ty e i z size bytes ht hi hz hsize hby hzs hsz v n xs hown a m c news hl hnews h1 h63 hbytes hbase
 refine ⟨v', w', hr, h2, h3, ?_⟩
 subst hsize
 subst hby
 intro g0 hg0
 have hsmall : n + m ≤ 9223372036854775807 := by simp only [maxLen] at h63; omega
 rcases hown.2 with ⟨rfl, rfl⟩ | ⟨g, cap, cur, rfl, hbg, hg, hnc, hcm, hcs, htake⟩
 ·by_cases hm : m = 0
  ·subst hm
   obtain ⟨v2, w2, hr2, _, _, h4⟩ := run_append_own (P := P) w base t ty e i z i.size i.bytes ht hi hz rfl rfl hzs hsz _ 0 xs hown a 0 c news hl hnews h1 h63 hbytes hbase
   rw [hr] at hr2
   injection hr2 with e1 _
   rw [e1, h4.2 ⟨rfl, rfl⟩] at hg0
   simp [Value.ownBlock] at hg0
  ·have hr2 := run_append_nil (P := P) w t ty e i z ht hi hz a m c news hl hnews (by omega) (by omega) (by have hb := hbytes; simp only [Nat.zero_add] at hb; omega)
   rw [hr] at hr2
   injection hr2 with e1 _
   rw [e1] at hg0
   simp [Value.ownBlock] at hg0
   exact .inr (by omega)
 ·by_cases hroom : n + m ≤ cap
  ·have hfit : n * i.size + news.length ≤ cur.size := by rw [hl, hcs, ← Nat.add_mul]; exact Nat.mul_le_mul_right _ hroom
   have hr2 := run_append_room (P := P) w t ty e i ht hi g n cap cur hg a m c news hl hnews h1 hroom hfit
   rw [hr] at hr2
   injection hr2 with e1 _
   rw [e1] at hg0
   exact .inl hg0
  ·have holds : ∀ j u, xs[j]? = some u → w.cell? ((⟨g, 0, none⟩ : Addr).add j) = some u := hown.cells (g := g) rfl
   have hr2 := run_append_grow (P := P) w t ty e i z ht hi hz ⟨g, 0, none⟩ n cap xs hown.1 holds a m c news hl hnews (by omega) (by omega) (growslice_fits (by omega) hbytes)
   rw [hr] at hr2
   injection hr2 with e1 _
   rw [e1] at hg0
   simp [Value.ownBlock] at hg0
   exact .inr (by omega)
theorem bc {P : Program} {w : World} {ops : Array Oper} {rest : List Oper} {o : Oper} {a : Act} {Q : Exit → Act → World → Prop} (hgd : o.guard = none) (s x : Operand) (t : TypeId)
 (ho : o.op = .call { callee := .builtin .append, args := #[s, x], argTypes := #[t, t] })
 (base : Nat) (e : TypeId) (i : TypeInfo) (z : Value) (size bytes : Nat) (ht : P.underlying t = some (.slice e)) (hi : P.info? e = some i) (hz : i.zero = some z)
 (hsize : i.size = size) (hby : i.bytes = bytes) (hzs : z.cells.size = size) (hsz : 0 < size)
 (v : Value) (n : Nat) (xs : List Value) (hs : a.eval s = v) (hown : w.ownsRow base e size v n xs)
 (ad : Addr) (m c : Nat) (news : List Value) (hx : a.eval x = .slice (some ad) m c) (hl : news.length = m * size) (hnews : ∀ j u, news[j]? = some u → w.cell? (ad.add j) = some u) (h1 : ∀ u ∈ news, u.oneCell' = true)
 (h63 : n + m ≤ maxLen) (hbytes : (n + m) * bytes ≤ 140737488355328) (hbase : base ≤ w.heap.size)
 (h : ∀ v' w', w'.ownsRow base e size v' (n + m) (xs ++ news) → w.grownBy w' v.ownBlock → (∀ g, v'.ownBlock = some g → v.ownBlock = some g ∨ w.heap.size ≤ g) → wpList P ops Q rest (a.put o.dst v') w') : wpList P ops Q (o :: rest) a w := by
 refine wpList_plain hgd fun _ hK => ?_
 obtain ⟨v', w', hr, h2, h3, h4⟩ := gu (P := P) w base t o.type e i z size bytes ht hi hz hsize hby hzs hsz v n xs hown ad m c news hl hnews h1 h63 hbytes hbase
 unfold Oper.wp execOp
 simp only [ho, resolve, invoke, builtin, Sem.run_bind, Sem.run_pure, Result.andThen_ok, List.map_toArray, List.map_cons, List.map_nil, hs, hx, hr]
 exact hK _ _ (h v' w' h2 h3 h4)
theorem qd : (Tryz.prog.info? 3).map (fun i => (i.zero, i.size, i.bytes)) = some (some (.int .i64 0), 1, 8) := by kernel_rfl
theorem sm (w : World) (p : Int) (T : TypeId) : ∀ j u, [.int .i64 p][j]? = some u → (w.alloc (.cells #[.int .i64 p] T)).cell? ((⟨w.heap.size, 0, none⟩ : Addr).add j) = some u := by
 intro j u h
 match j, h with
 | 0, h => simp at h; subst h; simp [Addr.add]
theorem cW {w : World} {ops : Array Oper} {rest : List Oper} {o : Oper} {a : Act} {Q : Exit → Act → World → Prop} {p : Int} (hgd : o.guard = none) (s x : Operand)
 (ho : o.op = .call { callee := .builtin .append, args := #[s, x], argTypes := #[125, 125] }) (base : Nat) (L : List Int) (v : Value) (hs : a.eval s = v) (hown : w.ownsRow base 3 1 v L.length (bx L))
 (hx : a.eval x = .slice (some ⟨w.heap.size, 0, none⟩) 1 1) (hL : L.length ≤ 64) (hbase : base ≤ w.heap.size)
 (h : ∀ v' w', w'.ownsRow base 3 1 v' (L ++ [p]).length (bx (L ++ [p])) → w.grownBy w' v.ownBlock → (∀ g, v'.ownBlock = some g → v.ownBlock = some g ∨ w.heap.size ≤ g) → wpList Tryz.prog ops Q rest (a.put o.dst v') w') :
 wpList Tryz.prog ops Q (o :: rest) a (w.alloc (.cells #[.int .i64 p] 3)) := by
 obtain ⟨i0, hi, hz0, hz1, hz2⟩ := info_parts qd
 refine bc hgd s x 125 ho base 3 i0 (.int .i64 0) 1 8 Tryz.underlying125 hi hz0 hz1 hz2 rfl (by decide) v L.length (bx L) hs (World.ownsRow.alloc hown _) ⟨w.heap.size, 0, none⟩ 1 1 [.int .i64 p] hx rfl (sm w p 3) (by intro u hu; simp at hu; subst hu; rfl) (by unfold maxLen; omega) (by omega) (by simp; omega) ?_
 intro v' w' h1 h2 h3
 refine h v' w' (by rw [oQ, List.length_append]; exact h1) ?_ (fun g hg => ?_)
 ·exact ⟨h2.os, h2.tape, h2.output, Nat.le_trans (by simp) h2.size, fun k hk hne => (h2.block k (by simp; omega) hne).trans ((World.grownBy_alloc w _ none).block k hk (by simp))⟩
 ·rcases h3 g hg with q | q
  ·exact .inl q
  ·exact .inr (by simp at q; omega)
theorem kV (w : World) : (w.alloc (.cells #[] 3)).ownsRow w.heap.size 3 1 (.slice (some ⟨w.heap.size, 0, none⟩) 0 0) ([] : List Int).length (bx []) := World.ownsRow_made w #[] 0 (Nat.le_refl _) (by simp [maxLen]) (by simp)
theorem d8 (w : World) (B : Nat) : w.ownsRow B 3 1 (.slice none 0 0) ([] : List Int).length (bx []) := World.ownsRow_nil w B 3 1
theorem oN : (Tryz.prog.info? 47).map (fun i => (i.zero, i.size, i.bytes)) = some (some (.agg #[.int .i64 0, .int .i64 0]), 2, 16) := by kernel_rfl
theorem rb (w : World) (p : VT) (T : TypeId) : ∀ j u, [.int .i64 p.1, .int .i64 p.2][j]? = some u → (w.alloc (.cells #[.int .i64 p.1, .int .i64 p.2] T)).cell? ((⟨w.heap.size, 0, none⟩ : Addr).add j) = some u := by
 intro j u h
 match j, h with
 | 0, h => simp at h; subst h; simp [Addr.add]
 | 1, h => simp at h; subst h; simp [Addr.add]
theorem jV {w : World} {ops : Array Oper} {rest : List Oper} {o : Oper} {a : Act} {Q : Exit → Act → World → Prop} {p0 : Int} {p1 : Int} (hgd : o.guard = none) (s x : Operand)
 (ho : o.op = .call { callee := .builtin .append, args := #[s, x], argTypes := #[124, 124] }) (base : Nat) (L : List VT) (v : Value) (hs : a.eval s = v) (hown : w.ownsRow base 47 2 v L.length (cF L))
 (hx : a.eval x = .slice (some ⟨w.heap.size, 0, none⟩) 1 1) (hL : L.length ≤ 64) (hbase : base ≤ w.heap.size)
 (h : ∀ v' w', w'.ownsRow base 47 2 v' (L ++ [(p0, p1)]).length (cF (L ++ [(p0, p1)])) → w.grownBy w' v.ownBlock → (∀ g, v'.ownBlock = some g → v.ownBlock = some g ∨ w.heap.size ≤ g) → wpList Tryz.prog ops Q rest (a.put o.dst v') w') :
 wpList Tryz.prog ops Q (o :: rest) a (w.alloc (.cells #[.int .i64 p0, .int .i64 p1] 47)) := by
 obtain ⟨i0, hi, hz0, hz1, hz2⟩ := info_parts oN
 refine bc hgd s x 124 ho base 47 i0 (.agg #[.int .i64 0, .int .i64 0]) 2 16 Tryz.underlying124 hi hz0 hz1 hz2 rfl (by decide) v L.length (cF L) hs (World.ownsRow.alloc hown _) ⟨w.heap.size, 0, none⟩ 1 1 [.int .i64 p0, .int .i64 p1] hx rfl (rb w (p0, p1) 47) (by intro u hu; simp at hu; rcases hu with rfl | rfl <;> rfl) (by unfold maxLen; omega) (by omega) (by simp; omega) ?_
 intro v' w' h1 h2 h3
 refine h v' w' (by rw [px, List.length_append]; exact h1) ?_ (fun g hg => ?_)
 ·exact ⟨h2.os, h2.tape, h2.output, Nat.le_trans (by simp) h2.size, fun k hk hne => (h2.block k (by simp; omega) hne).trans ((World.grownBy_alloc w _ none).block k hk (by simp))⟩
 ·rcases h3 g hg with q | q
  ·exact .inl q
  ·exact .inr (by simp at q; omega)
theorem oU (w : World) : (w.alloc (.cells #[] 47)).ownsRow w.heap.size 47 2 (.slice (some ⟨w.heap.size, 0, none⟩) 0 0) ([] : List VT).length (cF []) := World.ownsRow_made w #[] 0 (Nat.le_refl _) (by simp [maxLen]) (by simp)
theorem qt (w : World) (B : Nat) : w.ownsRow B 47 2 (.slice none 0 0) ([] : List VT).length (cF []) := World.ownsRow_nil w B 47 2
theorem oO : (Tryz.prog.info? 154).map (fun i => (i.zero, i.size, i.bytes)) = some (some (.agg #[.int .i64 0, .int .i64 0, .int .i64 0, .int .i64 0, .bool false]), 5, 40) := by kernel_rfl
theorem rl (w : World) (p : PT) (T : TypeId) : ∀ j u, [.int .i64 p.1, .int .i64 p.2.1, .int .i64 p.2.2.1, .int .i64 p.2.2.2.1, .bool p.2.2.2.2][j]? = some u → (w.alloc (.cells #[.int .i64 p.1, .int .i64 p.2.1, .int .i64 p.2.2.1, .int .i64 p.2.2.2.1, .bool p.2.2.2.2] T)).cell? ((⟨w.heap.size, 0, none⟩ : Addr).add j) = some u := by
 intro j u h
 match j, h with
 | 0, h => simp at h; subst h; simp [Addr.add]
 | 1, h => simp at h; subst h; simp [Addr.add]
 | 2, h => simp at h; subst h; simp [Addr.add]
 | 3, h => simp at h; subst h; simp [Addr.add]
 | 4, h => simp at h; subst h; simp [Addr.add]
theorem jW {w : World} {ops : Array Oper} {rest : List Oper} {o : Oper} {a : Act} {Q : Exit → Act → World → Prop} {p0 : Int} {p1 : Int} {p2 : Int} {p3 : Int} {p4 : Bool} (hgd : o.guard = none) (s x : Operand)
 (ho : o.op = .call { callee := .builtin .append, args := #[s, x], argTypes := #[53, 53] }) (base : Nat) (L : List PT) (v : Value) (hs : a.eval s = v) (hown : w.ownsRow base 154 5 v L.length (bP L))
 (hx : a.eval x = .slice (some ⟨w.heap.size, 0, none⟩) 1 1) (hL : L.length ≤ 64) (hbase : base ≤ w.heap.size)
 (h : ∀ v' w', w'.ownsRow base 154 5 v' (L ++ [(p0, p1, p2, p3, p4)]).length (bP (L ++ [(p0, p1, p2, p3, p4)])) → w.grownBy w' v.ownBlock → (∀ g, v'.ownBlock = some g → v.ownBlock = some g ∨ w.heap.size ≤ g) → wpList Tryz.prog ops Q rest (a.put o.dst v') w') :
 wpList Tryz.prog ops Q (o :: rest) a (w.alloc (.cells #[.int .i64 p0, .int .i64 p1, .int .i64 p2, .int .i64 p3, .bool p4] 154)) := by
 obtain ⟨i0, hi, hz0, hz1, hz2⟩ := info_parts oO
 refine bc hgd s x 53 ho base 154 i0 (.agg #[.int .i64 0, .int .i64 0, .int .i64 0, .int .i64 0, .bool false]) 5 40 Tryz.underlying53 hi hz0 hz1 hz2 rfl (by decide) v L.length (bP L) hs (World.ownsRow.alloc hown _) ⟨w.heap.size, 0, none⟩ 1 1 [.int .i64 p0, .int .i64 p1, .int .i64 p2, .int .i64 p3, .bool p4] hx rfl (rl w (p0, p1, p2, p3, p4) 154) (by intro u hu; simp at hu; rcases hu with rfl | rfl | rfl | rfl | rfl <;> rfl) (by unfold maxLen; omega) (by omega) (by simp; omega) ?_
 intro v' w' h1 h2 h3
 refine h v' w' (by rw [oW, List.length_append]; exact h1) ?_ (fun g hg => ?_)
 ·exact ⟨h2.os, h2.tape, h2.output, Nat.le_trans (by simp) h2.size, fun k hk hne => (h2.block k (by simp; omega) hne).trans ((World.grownBy_alloc w _ none).block k hk (by simp))⟩
 ·rcases h3 g hg with q | q
  ·exact .inl q
  ·exact .inr (by simp at q; omega)
theorem eB (w : World) : (w.alloc (.cells #[] 154)).ownsRow w.heap.size 154 5 (.slice (some ⟨w.heap.size, 0, none⟩) 0 0) ([] : List PT).length (bP []) := World.ownsRow_made w #[] 0 (Nat.le_refl _) (by simp [maxLen]) (by simp)
theorem lc (w : World) (B : Nat) : w.ownsRow B 154 5 (.slice none 0 0) ([] : List PT).length (bP []) := World.ownsRow_nil w B 154 5
theorem lQ (x0 x1 : Int) (w : World) :
 Calls Tryz.prog 84 #[.agg #[.int .i64 x0, .int .i64 x1]] w fun e w' => e = .returned (.agg #[.int .i64 x0, .int .i64 x1]) ∧ Below w.heap.size w w' := by
 go_enter Tryz.func84, Tryz.ntmps84
 go_wp2_with fail
 exact bodyPost_ret (v := .agg #[.int .i64 x0, .int .i64 x1]) (by simp (maxDischargeDepth := 6) [results, Tryz.results84, go_sem, *]) rfl ⟨rfl, zB⟩
theorem iQ (x0 x1 : Int) (w : World) :
 Calls Tryz.prog 96 #[.agg #[.int .i64 x0, .int .i64 x1], .agg #[.int .i64 x0, .int .i64 x1]] w fun e w' => e = .returned (.bool true) ∧ Below w.heap.size w w' := by
 go_enter Tryz.func96, Tryz.ntmps96
 go_wp2_with fail
 go_ret
 exact ⟨rfl, zB⟩
theorem jE (a : Option Addr) (n c : Nat) (L : Int) (w : World) (hm : n ≤ maxLen) (L0 : 0 ≤ L) (L1 : L ≤ 1048576) :
 Calls Tryz.prog 24 #[.slice a n c, .int .i64 L] w fun e w' => e = .returned (.int .i64 (if (n : Int) ≤ L then L - (n : Int) else -1)) ∧ w = w' := by
 unfold maxLen at hm
 by_cases h : (n : Int) ≤ L
 ·rw [if_pos h]
  have hd : decide (L - (n : Int) < 0) = false := by simp; omega
  go_enter Tryz.func24, Tryz.ntmps24
  go_wp2_with fail
  go_ret
  exact ⟨rfl, rfl⟩
 ·rw [if_neg h]
  have hd : decide (L - (n : Int) < 0) = true := by simp; omega
  go_enter Tryz.func24, Tryz.ntmps24
  go_wp2_with fail
  go_ret
  exact ⟨rfl, rfl⟩
def eU (n : Nat) : Obj := .cells (madeCells #[.int .i64 0, .int .i64 0] (n * 2)) 159
theorem oM : (Tryz.prog.info? 159).map (fun i => (i.zero, i.size, i.bytes)) = some (some (.agg #[.int .i64 0, .int .i64 0]), 2, 16) := by kernel_rfl
theorem eS (n : Nat) (h : n ≤ 1048576) (w : World) : (Instr.makeSlice 55 (.int .i64 (n : Int)) (.int .i64 (n : Int))).run Tryz.prog w = .ok (.slice (some ⟨w.heap.size, 0, none⟩) n n) (w.alloc (eU n)) := by
 obtain ⟨i, hi, hz⟩ := Option.map_eq_some_iff.1 oM
 simp only [Prod.mk.injEq] at hz
 obtain ⟨h1, h2, h3⟩ := hz
 have hr := run_make (P := Tryz.prog) w 55 159 i _ Tryz.underlying55 hi h1 .i64 .i64 n n (by omega) (Int.le_refl _) (by rw [h3]; omega) (by omega)
 simp only [Int.toNat_natCast, h2] at hr
 exact hr
theorem dw (w : World) (n : Nat) (F : Nat → Value) : ax (w.alloc (eU n)) w.heap.size 159 (n * 2) 0 F := by
 have h := World.rowIs_alloc w (madeCells #[.int .i64 0, .int .i64 0] (n * 2)) 159 (fun i => (madeCells #[.int .i64 0, .int .i64 0] (n * 2)).getD i undef) (fun i hi => by
  rw [Array.getElem?_eq_getElem hi]; exact congrArg some (by rw [Array.getD_eq_getD_getElem?, Array.getElem?_eq_getElem hi]; rfl))
 rw [size_madeCells] at h
 exact ⟨_, h, fun j hj => absurd hj (Nat.not_lt_zero _)⟩
theorem ic (b off n c : Nat) (M : Nat → VT) (w : World) (hn : n ≤ 1048576) (hf : Cs w b off (n * 2) (au M)) :
 Calls Tryz.prog 39 #[.slice (some ⟨b, off, none⟩) n c] w fun e w' => e = .returned (.slice (some ⟨w.heap.size, 0, none⟩) n n) ∧ ax w' w.heap.size 159 (n * 2) (n * 2) (au M) ∧ Below w.heap.size w w' := by
 have hmk := eS n hn
 go_enter Tryz.func39, Tryz.ntmps39
 go_wp2_with fail
 clear hmk
 go_loopw [4] (fun i wr => ∃ k : Nat, k ≤ n ∧ i = .int .i64 k ∧ ax wr w.heap.size 159 (n * 2) (k * 2) (au M) ∧ Below w.heap.size w wr) (fun i _ => n - (intOf i).toNat)
 case atStart => exact ⟨0, Nat.zero_le _, rfl, (dw w n _).eqm (by omega), (Below.refl _ _).alloc (Nat.le_refl _) _⟩
 case round =>
  obtain ⟨k, hk, rfl, hrow, hB⟩ := hrel
  by_cases hlt : k < n
  ·obtain ⟨x0, x1, hM⟩ := dm M k
   obtain ⟨c0, c1⟩ := (hf.below hB hf.1).elIval hlt hM
   obtain ⟨q0, q1⟩ := eN hM
   have hli : (k : Int) < (n : Int) := by omega
   have hlr := hrow.lt
   clear hM
   go_wp2_with fail
   refine (lQ x0 x1 _).mono ?_
   rintro e w' ⟨rfl, hb⟩
   have row := ax.below hb hlr hrow
   have hB2 := hB.trans (hb.mono hB.size)
   clear c0 c1 hrow hB hb
   have hlr2 := row.lt
   obtain ⟨⟨v0, e0⟩, f0⟩ := row.facts (k * 2) (by omega)
   obtain ⟨⟨v1, e1⟩, f1⟩ := row.facts (k * 2 + 1) (by omega)
   go_wp2_with fail
   go_roundw
   case rel => exact ⟨k + 1, by omega, by go_num, ((row.put (k * 2 + 1) (by omega) q0).put ((k + 1) * 2) (by omega) q1), ((hB2.setCell (Nat.le_refl _) _).setCell (Nat.le_refl _) _)⟩
   case measure => simp [intOf]; omega
  ·have hkn : k = n := by omega
   subst hkn
   have hli : ¬ (k : Int) < (k : Int) := by omega
   go_wp2_with fail
   go_ret
   exact ⟨rfl, hrow, hB⟩
theorem gA (a : Option Addr) (c : Nat) (F : Nat → Value) (w : World) :
 Calls Tryz.prog 39 #[.slice a 0 c] w fun e w' => e = .returned (.slice (some ⟨w.heap.size, 0, none⟩) 0 0) ∧ ax w' w.heap.size 159 (0 * 2) (0 * 2) F ∧ Below w.heap.size w w' := by
 have hmk := eS 0 (by omega)
 simp only [Int.ofNat_zero] at hmk
 go_enter Tryz.func39, Tryz.ntmps39
 go_wp2_with fail
 clear hmk
 go_loopw [4] (fun i wr => i = .int .i64 0 ∧ ax wr w.heap.size 159 (0 * 2) 0 F ∧ Below w.heap.size w wr) (fun i _ => 0)
 case atStart => exact ⟨rfl, dw w 0 F, (Below.refl _ _).alloc (Nat.le_refl _) _⟩
 case round =>
  obtain ⟨rfl, hrow, hB⟩ := hrel
  go_wp2_with fail
  go_ret
  exact ⟨rfl, hrow.eqm (by omega), hB⟩
theorem jG (a : Option Addr) (n c : Nat) (M : Nat → VT) (w : World) (hn : n ≤ 1048576) (h : az w a (n * 2) (au M)) :
 Calls Tryz.prog 39 #[.slice a n c] w fun e w' => e = .returned (.slice (some ⟨w.heap.size, 0, none⟩) n n) ∧ ax w' w.heap.size 159 (n * 2) (n * 2) (au M) ∧ Below w.heap.size w w' := by
 rcases h with h0 | ⟨b, off, rfl, h2⟩
 ·have hn0 : n = 0 := by omega
  subst hn0
  exact gA a c _ w
 ·exact ic b off n c M w hn h2
theorem gG (b off b' off' n c c' : Nat) (M : Nat → VT) (w : World) (hn : n ≤ maxLen) (hf : Cs w b off (n * 2) (au M)) (hg : Cs w b' off' (n * 2) (au M)) :
 Calls Tryz.prog 49 #[.slice (some ⟨b, off, none⟩) n c, .slice (some ⟨b', off', none⟩) n c'] w fun e w' => e = .returned (.bool true) ∧ Below w.heap.size w w' := by
 unfold maxLen at hn
 go_enter Tryz.func49, Tryz.ntmps49
 go_wp2_with fail
 go_loopw [5] (fun i wr => ∃ k : Nat, k ≤ n ∧ i = .int .i64 k ∧ Below w.heap.size w wr) (fun i _ => n - (intOf i).toNat)
 case atStart => exact ⟨0, Nat.zero_le _, rfl, Below.refl _ _⟩
 case round =>
  obtain ⟨k, hk, rfl, hB⟩ := hrel
  by_cases hlt : k < n
  ·obtain ⟨x0, x1, hM⟩ := dm M k
   obtain ⟨c0, c1⟩ := (hf.below hB hf.1).elIval hlt hM
   obtain ⟨d0, d1⟩ := (hg.below hB hg.1).elIval hlt hM
   have hb1 : b < wr.drew.heap.size := Nat.lt_of_lt_of_le hf.1 hB.size
   have hb2 : b' < wr.drew.heap.size := Nat.lt_of_lt_of_le hg.1 hB.size
   have hsz : w.heap.size ≤ wr.drew.heap.size := hB.size
   have hli : (k : Int) < (n : Int) := by omega
   clear hM
   go_wp2_with fail
   refine wp_region_held_drew (S := (fun w' => w'.cell? ⟨b, off + k * 2, none⟩ = some (.int .i64 x0) ∧ w'.cell? ⟨b, off + k * 2 + 1, none⟩ = some (.int .i64 x1) ∧ w'.cell? ⟨b', off' + k * 2, none⟩ = some (.int .i64 x0) ∧ w'.cell? ⟨b', off' + k * 2 + 1, none⟩ = some (.int .i64 x1))) (by kernel_rfl) ?_ (fun hHeld => ?_)
   ·first | exact ⟨c0, c1, d0, d1⟩ | (simp (maxDischargeDepth := 6) [go_sem, *]; done)
   refine zT8 0 ?_
   refine zQ 8 fun K hK => ?_
   go_simp
   refine (iQ _ _ _).mono ?_; rintro e w' ⟨rfl, hb⟩; (replace c0 := (hb.cell (p := ⟨b, off + k * 2, none⟩) hb1).trans c0); (replace c1 := (hb.cell (p := ⟨b, off + k * 2 + 1, none⟩) hb1).trans c1); (replace d0 := (hb.cell (p := ⟨b', off' + k * 2, none⟩) hb2).trans d0); (replace d1 := (hb.cell (p := ⟨b', off' + k * 2 + 1, none⟩) hb2).trans d1)
   (try go_wp2_with fail)
   refine hK.out _ _ ?_ (fun hHeld => ?_)
   ·first | exact ⟨c0, c1, d0, d1⟩ | (simp (maxDischargeDepth := 6) [go_sem, *]; done)
   clear hK K
   (try simp only [zA])
   refine zTk 9 ?_
   refine wpAnyH_done (by kernel_rfl) ?_ _
   go_wp2_with fail
   go_roundw
   case rel => exact ⟨k + 1, by omega, by go_num, (Below.drew hB).trans (hb.mono hsz)⟩
   case measure => simp [intOf]; omega
  ·go_wp2_with fail
   go_ret
   exact ⟨rfl, hB⟩
theorem gH (a a' : Option Addr) (c c' : Nat) (w : World) :
 Calls Tryz.prog 49 #[.slice a 0 c, .slice a' 0 c'] w fun e w' => e = .returned (.bool true) ∧ Below w.heap.size w w' := by
 go_enter Tryz.func49, Tryz.ntmps49
 go_wp2_with fail
 go_loopw [5] (fun i wr => i = .int .i64 0 ∧ w = wr) (fun i _ => 0)
 case atStart => exact ⟨rfl, rfl⟩
 case round =>
  obtain ⟨rfl, rfl⟩ := hrel
  go_wp2_with fail
  go_ret
  exact ⟨rfl, Below.refl _ _⟩
theorem iP (a a' : Option Addr) (n c c' : Nat) (M : Nat → VT) (w : World) (hn : n ≤ maxLen) (h : az w a (n * 2) (au M)) (h' : az w a' (n * 2) (au M)) :
 Calls Tryz.prog 49 #[.slice a n c, .slice a' n c'] w fun e w' => e = .returned (.bool true) ∧ Below w.heap.size w w' := by
 by_cases h0 : n = 0
 ·subst h0; exact gH a a' c c' w
 ·rcases h with h | ⟨b, off, rfl, hp⟩
  ·omega
  ·rcases h' with h | ⟨b', off', rfl, hp'⟩
   ·omega
   ·exact gG b off b' off' n c c' M w hn hp hp'
theorem gd (b N n c : Nat) (q0 : Int) (w : World) (hn : n ≤ 1048576) (hq : 0 < q0) (hq1 : q0 ≤ 1073741824) (hN : n * 2 ≤ N) (h : ax w b 159 N 0 (bW q0)) :
 Calls Tryz.prog 56 #[.slice (some ⟨b, 0, none⟩) n c, .int .i64 q0] w fun e w' => e = .returned (.int .i64 (q0 + (n : Int) * 2)) ∧ ax w' b 159 N (n * 2) (bW q0) ∧ But b w w' := by
 go_enter Tryz.func56, Tryz.ntmps56
 go_wp2_with fail
 go_loopw [1, 5] (fun q i wr => ∃ (k : Nat) (Q : Int), k ≤ n ∧ i = .int .i64 k ∧ q = .int .i64 Q ∧ Q = q0 + (k : Int) * 2 ∧ ax wr b 159 N (k * 2) (bW q0) ∧ But b w wr) (fun _ i _ => n - (intOf i).toNat)
 case atStart => exact ⟨0, q0, Nat.zero_le _, rfl, rfl, by omega, h.eqm (by omega), But.refl _ _⟩
 case round =>
  obtain ⟨k, Q, hk, rfl, rfl, hQ, row, hB⟩ := hrel
  clear h
  have HQ : Hid (Q = q0 + (k : Int) * 2) := hQ
  by_cases hlt : k < n
  ·have hli : (k : Int) < (n : Int) := by omega
   have Q0 : 0 < Q := by omega
   have Q1 : Q ≤ 1073741824 + 1048576 * 2 := by omega
   clear hQ
   have hlr := row.lt
   obtain ⟨⟨v0, e0⟩, f0⟩ := row.facts (k * 2) (by omega)
   obtain ⟨⟨v1, e1⟩, f1⟩ := row.facts (k * 2 + 1) (by omega)
   go_wp2_with fail
   go_roundw
   case rel => exact ⟨k + 1, _, by omega, by go_num, rfl, by have := HQ.out; omega, (ax.put (ax.put row (k * 2 + 1) (by omega) (d7 (k := k) (j := 0) (by have := HQ.out; omega))) ((k + 1) * 2) (by omega) (d7 (k := k) (j := 1) (by have := HQ.out; omega))), ((hB.setCell _ _).setCell _ _)⟩
   case measure => simp [intOf]; omega
  ·have hkn : k = n := by omega
   subst hkn
   have hli : ¬ (k : Int) < (k : Int) := by omega
   subst hQ
   go_wp2_with fail
   go_ret
   exact ⟨rfl, row, hB⟩
theorem fd (a : Option Addr) (c : Nat) (q0 : Int) (w : World) :
 Calls Tryz.prog 56 #[.slice a 0 c, .int .i64 q0] w fun e w' => e = .returned (.int .i64 q0) ∧ w = w' := by
 go_enter Tryz.func56, Tryz.ntmps56
 go_wp2_with fail
 go_loopw [1, 5] (fun q i wr => i = .int .i64 0 ∧ q = .int .i64 q0 ∧ w = wr) (fun _ i _ => 0)
 case atStart => exact ⟨rfl, rfl, by first | rfl | trivial⟩
 case round =>
  obtain ⟨rfl, rfl, rfl⟩ := hrel
  go_wp2_with fail
  go_ret
  exact ⟨rfl, rfl⟩
theorem eY (b off n c : Nat) (q0 : Int) (w : World) (hn : n ≤ 1048576) (hq : 0 < q0) (hq1 : q0 ≤ 1073741824) (h : Cs w b off (n * 2) (bW q0)) :
 Calls Tryz.prog 60 #[.slice (some ⟨b, off, none⟩) n c, .int .i64 q0] w fun e w' => e = .returned (.int .i64 (q0 + (n : Int) * 2)) ∧ w = w' := by
 have HP : Hid (Cs w b off (n * 2) (bW q0)) := h
 clear h
 go_enter Tryz.func60, Tryz.ntmps60
 go_wp2_with fail
 go_loopw [1, 5] (fun q i wr => ∃ (k : Nat) (Q : Int), k ≤ n ∧ i = .int .i64 k ∧ q = .int .i64 Q ∧ Q = q0 + (k : Int) * 2 ∧ w = wr) (fun _ i _ => n - (intOf i).toNat)
 case atStart => exact ⟨0, q0, Nat.zero_le _, rfl, rfl, by omega, by first | rfl | trivial⟩
 case round =>
  obtain ⟨k, Q, hk, rfl, rfl, hQ, rfl⟩ := hrel
  have HQ : Hid (Q = q0 + (k : Int) * 2) := hQ
  by_cases hlt : k < n
  ·have hli : (k : Int) < (n : Int) := by omega
   have Q0 : 0 < Q := by omega
   have Q1 : Q ≤ 1073741824 + 1048576 * 2 := by omega
   have hP := HP.out
   clear hQ
   have c0 : w.cell? ⟨b, off + k * 2, none⟩ = some (.int .i64 (Q)) := by have q := hP.2 (k * 2) (by omega); rw [show bW q0 (k * 2) = .int .i64 (Q) from d7 (k := k) (j := 0) (x := Q) (by have := HQ.out; omega)] at q; exact q
   have c1 : w.cell? ⟨b, off + k * 2 + 1, none⟩ = some (.int .i64 (Q + 1)) := by have q := hP.2 (k * 2 + 1) (by omega); rw [show bW q0 (k * 2 + 1) = .int .i64 (Q + 1) from d7 (k := k) (j := 1) (x := Q + 1) (by have := HQ.out; omega)] at q; exact q
   have hbl := hP.1
   clear hP
   go_wp2_with fail
   go_roundw
   case rel => exact ⟨k + 1, _, by omega, by go_num, rfl, by have := HQ.out; omega, by first | rfl | trivial⟩
   case measure => simp [intOf]; omega
  ·have hkn : k = n := by omega
   subst hkn
   have hli : ¬ (k : Int) < (k : Int) := by omega
   subst hQ
   go_wp2_with fail
   go_ret
   exact ⟨rfl, rfl⟩
theorem eZ (a : Option Addr) (c : Nat) (q0 : Int) (w : World) :
 Calls Tryz.prog 60 #[.slice a 0 c, .int .i64 q0] w fun e w' => e = .returned (.int .i64 q0) ∧ w = w' := by
 go_enter Tryz.func60, Tryz.ntmps60
 go_wp2_with fail
 go_loopw [1, 5] (fun q i wr => i = .int .i64 0 ∧ q = .int .i64 q0 ∧ w = wr) (fun _ i _ => 0)
 case atStart => exact ⟨rfl, rfl, by first | rfl | trivial⟩
 case round =>
  obtain ⟨rfl, rfl, rfl⟩ := hrel
  go_wp2_with fail
  go_ret
  exact ⟨rfl, rfl⟩
theorem fM (a : Option Addr) (n c : Nat) (q0 : Int) (w : World) (hn : n ≤ 1048576) (hq : 0 < q0) (hq1 : q0 ≤ 1073741824) (h : az w a (n * 2) (bW q0)) :
 Calls Tryz.prog 60 #[.slice a n c, .int .i64 q0] w fun e w' => e = .returned (.int .i64 (q0 + (n : Int) * 2)) ∧ w = w' := by
 rcases h with h0 | ⟨b, off, rfl, hp⟩
 ·have hn0 : n = 0 := by omega
  subst hn0
  exact (eZ a c q0 w).mono fun e w' ⟨h1, h2⟩ => ⟨by rw [h1]; simp, h2⟩
 ·exact eY b off n c q0 w hn hq hq1 hp
theorem fZ (a : Option Addr) (n c base : Nat) (q0 : Int) (xs : List Value) (w : World) (hn : n ≤ 1048576) (hq : 0 < q0) (hq1 : q0 ≤ 1073741824) (h : w.ownsRow base 159 2 (.slice a n c) n xs) :
 Calls Tryz.prog 56 #[.slice a n c, .int .i64 q0] w fun e w' => e = .returned (.int .i64 (q0 + (n : Int) * 2)) ∧ az w' a (n * 2) (bW q0) ∧ w.grownBy w' (Value.slice a n c).ownBlock := by
 rcases h.2 with ⟨he, h0⟩ | ⟨g, cap, cur, he, _⟩
 ·simp at he
  obtain ⟨rfl, rfl, rfl⟩ := he
  exact (fd none 0 q0 w).mono fun e w' ⟨h1, h2⟩ => ⟨by rw [h1]; simp, .inl (by omega), h2 ▸ il (Below.refl _ _)⟩
 ·simp at he
  obtain ⟨rfl, rfl⟩ := he
  obtain ⟨h1, h2, _, h3⟩ := d9 (bW q0) h
  exact (gd g (c * 2) n c q0 w hn hq hq1 (Nat.mul_le_mul_right _ h2) h3).mono fun e w' ⟨r1, r2, r3⟩ => ⟨r1, .inr ⟨g, 0, rfl, r2.cs (Nat.mul_le_mul_right _ h2)⟩, r3.grK⟩
theorem mv : (Tryz.prog.info? 159).map (fun i => (i.zero, i.size, i.bytes)) = some (some (.agg #[.int .i64 0, .int .i64 0]), 2, 16) := by kernel_rfl
theorem fW (w : World) : (w.alloc (.cells #[] 159)).ownsRow w.heap.size 159 2 (.slice (some ⟨w.heap.size, 0, none⟩) 0 0) ([] : List VT).length (cF []) := World.ownsRow_made w #[] 0 (Nat.le_refl _) (by simp [maxLen]) (by simp)
theorem pZ (M : Nat → VT) (n : Nat) : ∀ u ∈ (List.range (n * 2)).map (au M), u.oneCell' = true := by
 intro u hu
 rw [List.mem_map] at hu
 obtain ⟨j, _, rfl⟩ := hu
 have h : j % 2 = 0 ∨ j % 2 = 1 := by omega
 unfold au
 rcases h with h | h <;> rw [h] <;> rfl
theorem dN (b off j : Nat) : (⟨b, off, none⟩ : Addr).add j = ⟨b, off + j, none⟩ := by
 unfold Addr.add
 split
 ·next h => subst h; rfl
 ·rfl
theorem eQ {w : World} {ops : Array Oper} {rest : List Oper} {o : Oper} {a : Act} {Q : Exit → Act → World → Prop} (hgd : o.guard = none) (s x : Operand)
 (ho : o.op = .call { callee := .builtin .append, args := #[s, x], argTypes := #[55, 55] }) (base : Nat) (M : Nat → VT) (v : Value) (hs : a.eval s = v) (hown : w.ownsRow base 159 2 v ([] : List VT).length (cF []))
 (A : Option Addr) (n c : Nat) (hx : a.eval x = .slice A n c) (hA : (A = none ∧ n = 0 ∧ c = 0) ∨ ∃ b off, A = some ⟨b, off, none⟩ ∧ (n = 0 ∨ Cs w b off (n * 2) (au M))) (hL : n ≤ 4096) (hbase : base ≤ w.heap.size)
 (h : ∀ v' w', w'.ownsRow base 159 2 v' n ((List.range (n * 2)).map (au M)) → w.grownBy w' v.ownBlock → wpList Tryz.prog ops Q rest (a.put o.dst v') w') :
 wpList Tryz.prog ops Q (o :: rest) a w := by
 obtain ⟨i0, hi, hz0, hz1, hz2⟩ := info_parts mv
 rcases hA with ⟨rfl, rfl, rfl⟩ | ⟨b, off, rfl, hC⟩
 ·have hr := run_append_owned_none (P := Tryz.prog) (w := w) base 55 o.type 159 i0 2 Tryz.underlying55 hi v 0 (cF []) hown
  refine wpList_plain hgd fun _ hK => ?_
  unfold Oper.wp execOp
  simp only [ho, resolve, invoke, builtin, Sem.run_bind, Sem.run_pure, Result.andThen_ok, List.map_toArray, List.map_cons, List.map_nil, hs, hx, hr]
  exact hK _ _ (h v w hown ⟨rfl, rfl, rfl, Nat.le_refl _, fun _ _ _ => rfl⟩)
 ·have hcells : ∀ j u, ((List.range (n * 2)).map (au M))[j]? = some u → w.cell? ((⟨b, off, none⟩ : Addr).add j) = some u := by
   intro j u hu
   rw [List.getElem?_map] at hu
   by_cases hj : j < n * 2
   ·rw [List.getElem?_range hj] at hu
    simp at hu
    subst hu
    rcases hC with rfl | hC
    ·omega
    ·rw [dN]; exact hC.2 j hj
   ·rw [List.getElem?_eq_none (by rw [List.length_range]; omega)] at hu
    simp at hu
  refine bc hgd s x 55 ho base 159 i0 (.agg #[.int .i64 0, .int .i64 0]) 2 16 Tryz.underlying55 hi hz0 hz1 hz2 rfl (by decide) v 0 (cF []) hs hown ⟨b, off, none⟩ n c ((List.range (n * 2)).map (au M)) hx (by simp) hcells (pZ M n) (by unfold maxLen; omega) (by omega) hbase ?_
  intro v' w' h1 h2 _
  refine h v' w' ?_ h2
  rw [Nat.zero_add] at h1
  exact h1
theorem az.some {w : World} {a : Option Addr} {N : Nat} {F : Nat → Value} (h : az w a N F) (hN : 0 < N) : ∃ b off, a = some ⟨b, off, none⟩ ∧ Cs w b off N F := by
 rcases h with h | h
 ·omega
 ·exact h
def cP (M : Nat → PT) (n : Nat) : List PT := (List.range n).map M
theorem oS (M : Nat → PT) (k : Nat) : cP M (k + 1) = cP M k ++ [M k] := by simp [cP, List.range_succ]
theorem nZ {M : Nat → PT} {n : Nat} {q : PT} : q ∈ cP M n ↔ ∃ j, j < n ∧ M j = q := by simp [cP]
theorem d6 (M : Nat → PT) (n : Nat) : (cP M n).length = n := by simp [cP]
def frB (x y : Int) (p : PT) : Bool := decide (0 ≤ x - p.2.2.2.1 ∧ x - p.2.2.2.1 ≤ y)
def frs (M : Nat → PT) (x y : Int) : Nat → List Int
 | 0 => []
 | k + 1 => if frB x y (M k) then frs M x y k ++ [(k : Int)] else frs M x y k
theorem nS {M : Nat → PT} {x y : Int} {k : Nat} (h : frB x y (M k) = true) : frs M x y (k + 1) = frs M x y k ++ [(k : Int)] := by simp [frs, h]
theorem pT {M : Nat → PT} {x y : Int} {k : Nat} (h : frB x y (M k) = false) : frs M x y (k + 1) = frs M x y k := by simp [frs, h]
theorem fp (M : Nat → PT) (x y : Int) : ∀ k, (frs M x y k).length ≤ k
 | 0 => Nat.le_refl _
 | k + 1 => by have := fp M x y k; simp only [frs]; split <;> simp <;> omega
def frL (M : Nat → PT) (n : Nat) (x y : Int) : List Int := if (oks M n && okT x && okT y) = true then frs M x y n else []
theorem rJ {M : Nat → PT} {n : Nat} {x y : Int} (h1 : oks M n = true) (h2 : okT x = true) (h3 : okT y = true) : frL M n x y = frs M x y n := if_pos (by rw [h1, h2, h3]; rfl)
theorem rF {M : Nat → PT} {n : Nat} {x y : Int} (h1 : oks M n = false) : frL M n x y = [] := if_neg (by rw [h1]; simp)
theorem rG {M : Nat → PT} {n : Nat} {x y : Int} (h1 : okT x = false) : frL M n x y = [] := if_neg (by rw [h1]; simp)
theorem rI {M : Nat → PT} {n : Nat} {x y : Int} (h1 : okT y = false) : frL M n x y = [] := if_neg (by rw [h1]; simp)
theorem cA (M : Nat → PT) (n : Nat) (x y : Int) : (frL M n x y).length ≤ 9 := by
 unfold frL
 split
 ·next h => simp only [Bool.and_eq_true] at h; have := dh h.1.1; have := fp M x y n; omega
 ·simp
def lkP (M : Nat → PT) : Nat → Int → Option PT
 | 0, _ => none
 | k + 1, x => if (M k).1 = x then some (M k) else lkP M k x
theorem mA {M : Nat → PT} : ∀ {n : Nat}, (∀ i j, i < j → j < n → (M i).1 < (M j).1) → ∀ {j : Nat}, j < n → lkP M n (M j).1 = some (M j)
 | 0, _, j, h => absurd h (Nat.not_lt_zero _)
 | n + 1, ha, j, h => by
  rw [lkP]
  by_cases e : j = n
  ·subst e; rw [if_pos rfl]
  ·rw [if_neg (by have := ha j n (by omega) (by omega); omega)]
   exact mA (fun a b h1 h2 => ha a b h1 (by omega)) (by omega)
theorem kU {M : Nat → PT} {x : Int} {q : PT} : ∀ {k : Nat}, lkP M k x = some q → ∃ j, j < k ∧ M j = q ∧ q.1 = x
 | 0, h => by cases h
 | k + 1, h => by
  rw [lkP] at h
  by_cases e : (M k).1 = x
  ·rw [if_pos e] at h
   injection h with h
   exact ⟨k, by omega, h, by rw [← h]; exact e⟩
  ·rw [if_neg e] at h
   obtain ⟨j, h1, h2, h3⟩ := kU h
   exact ⟨j, by omega, h2, h3⟩
theorem ql {M : Nat → PT} {k : Nat} {x0 : Int} (e : (M k).1 = x0) (y : Int) : lkP M (k + 1) y = if y = x0 then some (M k) else lkP M k y := by
 rw [lkP]
 by_cases h : y = x0
 ·rw [if_pos h, if_pos (e.trans h.symm)]
 ·rw [if_neg h, if_neg (fun q => h (q.symm.trans e))]
theorem dS (a : Option Addr) (n c : Nat) (M : Nat → PT) (x y : Int) (w : World) (hm : n ≤ maxLen) (hs : az w a (n * 5) (am M)) :
 Calls Tryz.prog 101 #[.slice a n c, .int .i64 x, .int .i64 y] w fun e w' => ∃ v, e = .returned v ∧ w'.ownsRow w.heap.size 3 1 v (frL M n x y).length (bx (frL M n x y)) ∧ Below w.heap.size w w' := by
 have HS : Hid (az w a (n * 5) (am M)) := hs
 have B0 := Below.nw w (.cells #[] 3)
 have O0 := kV w
 have C1 := fun (v : World) (hb : Below w.heap.size w v) => cu a n c M v hm (HS.out.below hb)
 clear hs
 cases h1 : oks M n
 ·have e0 : frL M n x y = [] := rF h1
  rw [e0]
  clear e0
  go_enter Tryz.func101, Tryz.ntmps101
  go_upto_region 2 with fail
  generalize hw0 : w.alloc (.cells #[] 3) = w0 at *
  clear hw0
  go_wp2_with fail
  refine (C1 _ B0).mono ?_
  rintro e w1 ⟨rfl, hb⟩
  rw [h1]
  replace B0 := B0.trans (hb.mono B0.size)
  replace O0 := aG O0 hb
  clear hb
  go_wp2_with fail
  go_ret
  exact ⟨_, rfl, O0, B0⟩
 cases h2 : okT x
 ·have e0 : frL M n x y = [] := rG h2
  rw [e0]
  clear e0
  go_enter Tryz.func101, Tryz.ntmps101
  go_upto_region 2 with fail
  generalize hw0 : w.alloc (.cells #[] 3) = w0 at *
  clear hw0
  go_wp2_with fail
  refine (C1 _ B0).mono ?_
  rintro e w1 ⟨rfl, hb⟩
  rw [h1]
  replace B0 := B0.trans (hb.mono B0.size)
  replace O0 := aG O0 hb
  clear hb
  go_wp2_with fail
  refine (aw _ _).mono ?_
  rintro e w' ⟨rfl, rfl⟩
  rw [h2]
  go_wp2_with fail
  go_ret
  exact ⟨_, rfl, O0, B0⟩
 cases h3 : okT y
 ·have e0 : frL M n x y = [] := rI h3
  rw [e0]
  clear e0
  go_enter Tryz.func101, Tryz.ntmps101
  go_upto_region 2 with fail
  generalize hw0 : w.alloc (.cells #[] 3) = w0 at *
  clear hw0
  go_wp2_with fail
  refine (C1 _ B0).mono ?_
  rintro e w1 ⟨rfl, hb⟩
  rw [h1]
  replace B0 := B0.trans (hb.mono B0.size)
  replace O0 := aG O0 hb
  clear hb
  go_wp2_with fail
  refine (aw _ _).mono ?_
  rintro e w' ⟨rfl, rfl⟩
  rw [h2]
  go_wp2_with fail
  refine (aw _ _).mono ?_
  rintro e w' ⟨rfl, rfl⟩
  rw [h3]
  go_wp2_with fail
  go_ret
  exact ⟨_, rfl, O0, B0⟩
 rw [rJ h1 h2 h3]
 have HOK : Hid (oks M n = true) := h1
 have hn8 := dh h1
 have ⟨hx0, hx1⟩ := cD h2
 have ⟨hy0, hy1⟩ := cD h3
 go_enter Tryz.func101, Tryz.ntmps101
 go_upto_region 2 with fail
 generalize hw0 : w.alloc (.cells #[] 3) = w0 at *
 clear hw0
 go_wp2_with fail
 refine (C1 _ B0).mono ?_
 rintro e w1 ⟨rfl, hb⟩
 rw [h1]
 replace B0 := B0.trans (hb.mono B0.size)
 replace O0 := aG O0 hb
 clear hb
 go_wp2_with fail
 refine (aw _ _).mono ?_
 rintro e w' ⟨rfl, rfl⟩
 rw [h2]
 go_wp2_with fail
 refine (aw _ _).mono ?_
 rintro e w' ⟨rfl, rfl⟩
 rw [h3]
 clear C1 h1 h2 h3
 go_wp2_with fail
 go_loopw [7, 8] (fun v i wr => ∃ k : Nat, k ≤ n ∧ i = .int .i64 k ∧ wr.ownsRow w.heap.size 3 1 v (frs M x y k).length (bx (frs M x y k)) ∧ Below w.heap.size w wr) (fun _ i _ => n - (intOf i).toNat)
 case atStart => exact ⟨0, Nat.zero_le _, rfl, O0, B0⟩
 case round =>
  obtain ⟨k, hk, rfl, OW, hB⟩ := hrel
  by_cases hlt : k < n
  ·obtain ⟨b, off, rfl, hf⟩ := HS.out.some (by omega)
   obtain ⟨x0, x1, x2, x3, x4, hM⟩ := bu M k
   obtain ⟨c0, c1, c2, c3, c4⟩ := (hf.below hB hf.1).elPeer hlt hM
   have hat := cD (ob HOK.out hlt).2.2
   rw [hM] at hat
   have hat0 : 0 ≤ x3 := hat.1
   have hat1 : x3 ≤ 1000000000000 := hat.2
   have HFB : Hid (frB x y (M k) = decide (0 ≤ x - x3 ∧ x - x3 ≤ y)) := by rw [Hid, hM]; rfl
   have hli : (k : Int) < (n : Int) := by omega
   have hbr : b < wr.heap.size := Nat.lt_of_lt_of_le hf.1 hB.size
   have hln := fp M x y k
   have HY : Hid (frB x y (M k) = true → frs M x y (k + 1) = frs M x y k ++ [(k : Int)]) := nS
   have HNn : Hid (frB x y (M k) = false → frs M x y (k + 1) = frs M x y k) := pT
   clear hM hat hf
   have hBs := hB.size
   generalize frs M x y k = L at *
   cases h4 : decide (0 ≤ x - x3 ∧ x - x3 ≤ y)
   ·have HT := HNn.out (by rw [HFB.out, h4])
    have HT' : Hid (frs M x y (k + 1) = L) := HT
    clear HT
    go_wp2_with fail
    refine (aC _ _ _ _).mono ?_
    rintro e w' ⟨rfl, rfl⟩
    rw [h4]
    go_wp2_with fail
    go_roundw
    case rel => exact ⟨k + 1, by omega, by go_num, by rw [HT'.out]; exact OW, hB⟩
    case measure => simp [intOf]; omega
   ·have HT := HY.out (by rw [HFB.out, h4])
    have HT' : Hid (frs M x y (k + 1) = L ++ [(k : Int)]) := HT
    clear HT
    go_wp2_with fail
    refine (aC _ _ _ _).mono ?_
    rintro e w' ⟨rfl, rfl⟩
    rw [h4]
    clear c0 c1 c2 c3 c4
    go_wp2_with (at_builtin; refine cW rfl _ _ rfl w.heap.size L _ rfl OW rfl (by omega) (by omega) ?_; intro v' w9 O9 hg9 hn9)
    have HO9 : Hid (w9.ownsRow w.heap.size 3 1 v' (L ++ [(k : Int)]).length (bx (L ++ [(k : Int)]))) := O9
    have B9 := hB.trans (aJ OW hg9 hBs)
    clear O9 OW hg9 hn9 hB
    go_wp2_with fail
    go_roundw
    case rel => exact ⟨k + 1, by omega, by go_num, by rw [HT'.out]; exact HO9.out, B9⟩
    case measure => simp [intOf]; omega
  ·have hkn : k = n := by omega
   subst hkn
   have hli : ¬ (k : Int) < (k : Int) := by omega
   obtain ⟨av, cv, rfl, _, _, _⟩ := aT OW
   go_wp2_with fail
   go_ret
   exact ⟨_, rfl, OW, hB⟩
theorem eu (a : Option Addr) (n c : Nat) (M : Nat → PT) (x y : Int) (w : World) (hm : n ≤ maxLen) (hs : az w a (n * 5) (am M)) :
 Calls Tryz.prog 144 #[.slice a n c, .int .i64 x, .int .i64 y] w fun e w' => ∃ v, e = .returned v ∧ w'.ownsRow w.heap.size 3 1 v (frL M n x y).length (bx (frL M n x y)) ∧ Below w.heap.size w w' := by
 have HS : Hid (az w a (n * 5) (am M)) := hs
 have B0 := Below.refl w.heap.size w
 have C1 := fun (v : World) (hb : Below w.heap.size w v) => bG a n c M v hm (HS.out.below hb)
 clear hs
 cases h1 : oks M n
 ·have e0 : frL M n x y = [] := rF h1
  rw [e0]
  clear e0
  go_enter Tryz.func144, Tryz.ntmps144
  go_wp2_with fail
  refine (C1 _ B0).mono ?_
  rintro e w1 ⟨rfl, hb⟩
  rw [h1]
  replace B0 := B0.trans (hb.mono B0.size)
  clear hb
  go_wp2_with fail
  go_ret
  exact ⟨_, rfl, (d8 _ _), B0⟩
 cases h2 : okT x
 ·have e0 : frL M n x y = [] := rG h2
  rw [e0]
  clear e0
  go_enter Tryz.func144, Tryz.ntmps144
  go_wp2_with fail
  refine (C1 _ B0).mono ?_
  rintro e w1 ⟨rfl, hb⟩
  rw [h1]
  replace B0 := B0.trans (hb.mono B0.size)
  clear hb
  go_wp2_with fail
  refine (aD _ _).mono ?_
  rintro e w' ⟨rfl, rfl⟩
  rw [h2]
  go_wp2_with fail
  go_ret
  exact ⟨_, rfl, (d8 _ _), B0⟩
 cases h3 : okT y
 ·have e0 : frL M n x y = [] := rI h3
  rw [e0]
  clear e0
  go_enter Tryz.func144, Tryz.ntmps144
  go_wp2_with fail
  refine (C1 _ B0).mono ?_
  rintro e w1 ⟨rfl, hb⟩
  rw [h1]
  replace B0 := B0.trans (hb.mono B0.size)
  clear hb
  go_wp2_with fail
  refine (aD _ _).mono ?_
  rintro e w' ⟨rfl, rfl⟩
  rw [h2]
  go_wp2_with fail
  refine (aD _ _).mono ?_
  rintro e w' ⟨rfl, rfl⟩
  rw [h3]
  go_wp2_with fail
  go_ret
  exact ⟨_, rfl, (d8 _ _), B0⟩
 rw [rJ h1 h2 h3]
 have HOK : Hid (oks M n = true) := h1
 have hn8 := dh h1
 have ⟨hx0, hx1⟩ := cD h2
 have ⟨hy0, hy1⟩ := cD h3
 go_enter Tryz.func144, Tryz.ntmps144
 go_wp2_with fail
 refine (C1 _ B0).mono ?_
 rintro e w1 ⟨rfl, hb⟩
 rw [h1]
 replace B0 := B0.trans (hb.mono B0.size)
 clear hb
 go_wp2_with fail
 refine (aD _ _).mono ?_
 rintro e w' ⟨rfl, rfl⟩
 rw [h2]
 go_wp2_with fail
 refine (aD _ _).mono ?_
 rintro e w' ⟨rfl, rfl⟩
 rw [h3]
 clear C1 h1 h2 h3
 go_wp2_with fail
 go_loopw [7, 26] (fun v i wr => ∃ k : Nat, k ≤ n ∧ i = .int .i64 k ∧ wr.ownsRow w.heap.size 3 1 v (frs M x y k).length (bx (frs M x y k)) ∧ Below w.heap.size w wr) (fun _ i _ => n - (intOf i).toNat)
 case atStart => exact ⟨0, Nat.zero_le _, rfl, (d8 _ _), B0⟩
 case round =>
  obtain ⟨k, hk, rfl, OW, hB⟩ := hrel
  by_cases hlt : k < n
  ·obtain ⟨b, off, rfl, hf⟩ := HS.out.some (by omega)
   obtain ⟨x0, x1, x2, x3, x4, hM⟩ := bu M k
   obtain ⟨c0, c1, c2, c3, c4⟩ := (hf.below hB hf.1).elPeer hlt hM
   have hat := cD (ob HOK.out hlt).2.2
   rw [hM] at hat
   have hat0 : 0 ≤ x3 := hat.1
   have hat1 : x3 ≤ 1000000000000 := hat.2
   have HFB : Hid (frB x y (M k) = decide (0 ≤ x - x3 ∧ x - x3 ≤ y)) := by rw [Hid, hM]; rfl
   have hli : (k : Int) < (n : Int) := by omega
   have hbr : b < wr.heap.size := Nat.lt_of_lt_of_le hf.1 hB.size
   have hln := fp M x y k
   have HY : Hid (frB x y (M k) = true → frs M x y (k + 1) = frs M x y k ++ [(k : Int)]) := nS
   have HNn : Hid (frB x y (M k) = false → frs M x y (k + 1) = frs M x y k) := pT
   clear hM hat hf
   have hBs := hB.size
   generalize frs M x y k = L at *
   have A1 := Below.nw wr (.cells #[.int .i64 x0, .int .i64 x1, .int .i64 x2, .int .i64 x3, .bool x4] 154)
   have KB := Bx5.new wr (.int .i64 x0) (.int .i64 x1) (.int .i64 x2) (.int .i64 x3) (.bool x4) 154
   go_upto_region 7 with fail
   clear c0 c1 c2 c3 c4
   replace hB := hB.trans (A1.mono hB.size)
   replace OW := aG OW A1
   replace hBs := hB.size
   clear hbr A1
   generalize hbk : wr.heap.size = bk at *
   generalize wr.alloc (.cells #[.int .i64 x0, .int .i64 x1, .int .i64 x2, .int .i64 x3, .bool x4] 154) = w1b at *
   have k9 : _ ∧ _ := KB
   by_cases h4 : 0 ≤ x - x3
   ·by_cases h5 : x - x3 ≤ y
    ·have HT' : Hid (frs M x y (k + 1) = L ++ [(k : Int)]) := HY.out (by rw [HFB.out]; exact decide_eq_true ⟨h4, h5⟩)
     clear HY HNn HFB
     go_wp2_with (at_builtin; refine cW rfl _ _ rfl w.heap.size L _ rfl OW rfl (by omega) (by omega) ?_; intro v' w9 O9 hg9 hn9)
     have HO9 : Hid (w9.ownsRow w.heap.size 3 1 v' (L ++ [(k : Int)]).length (bx (L ++ [(k : Int)]))) := O9
     have B9 := hB.trans (aJ OW hg9 hBs)
     clear O9 OW hg9 hn9 hB k9 KB
     go_wp2_with fail
     go_roundw
     case rel => exact ⟨k + 1, by omega, by go_num, by rw [HT'.out]; exact HO9.out, B9⟩
     case measure => simp [intOf]; omega
    ·have HT' : Hid (frs M x y (k + 1) = L) := HNn.out (by rw [HFB.out]; exact decide_eq_false (fun h => h5 h.2))
     clear HY HNn HFB
     go_wp2_with fail
     go_roundw
     case rel => exact ⟨k + 1, by omega, by go_num, by rw [HT'.out]; exact OW, hB⟩
     case measure => simp [intOf]; omega
   ·have HT' : Hid (frs M x y (k + 1) = L) := HNn.out (by rw [HFB.out]; exact decide_eq_false (fun h => h4 h.1))
    clear HY HNn HFB
    go_wp2_with fail
    go_roundw
    case rel => exact ⟨k + 1, by omega, by go_num, by rw [HT'.out]; exact OW, hB⟩
    case measure => simp [intOf]; omega
  ·have hkn : k = n := by omega
   subst hkn
   have hli : ¬ (k : Int) < (k : Int) := by omega
   obtain ⟨av, cv, rfl, _, _, _⟩ := aT OW
   go_wp2_with fail
   go_ret
   exact ⟨_, rfl, OW, hB⟩
end Go.Proofs.YtikbjljkakabdaaGreat
