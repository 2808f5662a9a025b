/- An append of one element to a row of ones own. Rows of what was heard: what the laws make of them; an append of one. Hear in the specification. A node, copied (the specification). -/
import Derived.Laws.OwnMore
import Derived.Test.YtddijpjgkifngaaGreatM0
import Derived.Test.YtddijpjgkifngaaGreatM10
namespace Go.Proofs.YtddijpjgkifngaaGreat
open Go.RowKit
set_option linter.unusedVariables false
theorem run_append_new {P : Program} (w : World) (base : Nat) (t ty e : TypeId) (i : TypeInfo) (z : Value) (size bytes : Nat) (ht : P.underlying t = some (.slice e)) (hi : P.info? e = some i) (hz : i.zero = some z)
 (hsize : i.size = size) (hby : i.bytes = bytes) (hzs : z.cells.size = size) (hsz : 0 < size)
 (v : Value) (n : Nat) (xs : List Value) (hown : w.ownsRow base e size v n xs)
 (a : Addr) (m c : Nat) (news : List Value) (hl : news.length = m * size) (hnews : ∀ j u, news[j]? = some u → w.cell? (a.add j) = some u) (h1 : ∀ u ∈ news, u.oneCell' = true)
 (h63 : n + m ≤ maxLen) (hbytes : (n + m) * bytes ≤ 140737488355328) (hbase : base ≤ w.heap.size) :
 ∃ v' w', (Builtin.append_ #[t, t] ty #[v, .slice (some a) m c]).run P w = .ok v' w' ∧ w'.ownsRow base e size v' (n + m) (xs ++ news) ∧ w.grownBy w' v.ownBlock ∧ (∀ g, v'.ownBlock = some g → v.ownBlock = some g ∨ w.heap.size ≤ g) := by
 obtain ⟨v', w', hr, h2, h3, _⟩ := run_append_own (P := P) w base t ty e i z size bytes ht hi hz hsize hby hzs hsz v n xs hown a m c news hl hnews h1 h63 hbytes hbase
 refine ⟨v', w', hr, h2, h3, ?_⟩
 subst hsize
 subst hby
 intro g0 hg0
 have hsmall : n + m ≤ 9223372036854775807 := by simp only [maxLen] at h63; omega
 rcases hown.2 with ⟨rfl, rfl⟩ | ⟨g, cap, cur, rfl, hbg, hg, hnc, hcm, hcs, htake⟩
 ·by_cases hm : m = 0
  ·subst hm
   obtain ⟨v2, w2, hr2, _, _, h4⟩ := run_append_own (P := P) w base t ty e i z i.size i.bytes ht hi hz rfl rfl hzs hsz _ 0 xs hown a 0 c news hl hnews h1 h63 hbytes hbase
   rw [hr] at hr2
   injection hr2 with e1 _
   rw [e1, h4.2 ⟨rfl, rfl⟩] at hg0
   simp [Value.ownBlock] at hg0
  ·have hr2 := run_append_nil (P := P) w t ty e i z ht hi hz a m c news hl hnews (by omega) (by omega) (by have hb := hbytes; simp only [Nat.zero_add] at hb; omega)
   rw [hr] at hr2
   injection hr2 with e1 _
   rw [e1] at hg0
   simp [Value.ownBlock] at hg0
   exact .inr (by omega)
 ·by_cases hroom : n + m ≤ cap
  ·have hfit : n * i.size + news.length ≤ cur.size := by rw [hl, hcs, ← Nat.add_mul]; exact Nat.mul_le_mul_right _ hroom
   have hr2 := run_append_room (P := P) w t ty e i ht hi g n cap cur hg a m c news hl hnews h1 hroom hfit
   rw [hr] at hr2
   injection hr2 with e1 _
   rw [e1] at hg0
   exact .inl hg0
  ·have holds : ∀ j u, xs[j]? = some u → w.cell? ((⟨g, 0, none⟩ : Addr).add j) = some u := hown.cells (g := g) rfl
   have hr2 := run_append_grow (P := P) w t ty e i z ht hi hz ⟨g, 0, none⟩ n cap xs hown.1 holds a m c news hl hnews (by omega) (by omega) (growslice_fits (by omega) hbytes)
   rw [hr] at hr2
   injection hr2 with e1 _
   rw [e1] at hg0
   simp [Value.ownBlock] at hg0
   exact .inr (by omega)
theorem wpList_append_new {P : Program} {w : World} {ops : Array Oper} {rest : List Oper} {o : Oper} {a : Act} {Q : Exit → Act → World → Prop} (hgd : o.guard = none) (s x : Operand) (t : TypeId)
 (ho : o.op = .call { callee := .builtin .append, args := #[s, x], argTypes := #[t, t] })
 (base : Nat) (e : TypeId) (i : TypeInfo) (z : Value) (size bytes : Nat) (ht : P.underlying t = some (.slice e)) (hi : P.info? e = some i) (hz : i.zero = some z)
 (hsize : i.size = size) (hby : i.bytes = bytes) (hzs : z.cells.size = size) (hsz : 0 < size)
 (v : Value) (n : Nat) (xs : List Value) (hs : a.eval s = v) (hown : w.ownsRow base e size v n xs)
 (ad : Addr) (m c : Nat) (news : List Value) (hx : a.eval x = .slice (some ad) m c) (hl : news.length = m * size) (hnews : ∀ j u, news[j]? = some u → w.cell? (ad.add j) = some u) (h1 : ∀ u ∈ news, u.oneCell' = true)
 (h63 : n + m ≤ maxLen) (hbytes : (n + m) * bytes ≤ 140737488355328) (hbase : base ≤ w.heap.size)
 (h : ∀ v' w', w'.ownsRow base e size v' (n + m) (xs ++ news) → w.grownBy w' v.ownBlock → (∀ g, v'.ownBlock = some g → v.ownBlock = some g ∨ w.heap.size ≤ g) → wpList P ops Q rest (a.put o.dst v') w') : wpList P ops Q (o :: rest) a w := by
 refine wpList_plain hgd fun _ hK => ?_
 obtain ⟨v', w', hr, h2, h3, h4⟩ := run_append_new (P := P) w base t o.type e i z size bytes ht hi hz hsize hby hzs hsz v n xs hown ad m c news hl hnews h1 h63 hbytes hbase
 unfold Oper.wp execOp
 simp only [ho, resolve, invoke, builtin, Sem.run_bind, Sem.run_pure, Result.andThen_ok, List.map_toArray, List.map_cons, List.map_nil, hs, hx, hr]
 exact hK _ _ (h v' w' h2 h3 h4)
theorem info_int : (Tryz.prog.info? 3).map (fun i => (i.zero, i.size, i.bytes)) = some (some (.int .i64 0), 1, 8) := by kernel_rfl
theorem int_at (w : World) (p : Int) (T : TypeId) : ∀ j u, [.int .i64 p][j]? = some u → (w.alloc (.cells #[.int .i64 p] T)).cell? ((⟨w.heap.size, 0, none⟩ : Addr).add j) = some u := by
 intro j u h
 match j, h with
 | 0, h => simp at h; subst h; simp [Addr.add]
theorem add_int {w : World} {ops : Array Oper} {rest : List Oper} {o : Oper} {a : Act} {Q : Exit → Act → World → Prop} {p : Int} (hgd : o.guard = none) (s x : Operand)
 (ho : o.op = .call { callee := .builtin .append, args := #[s, x], argTypes := #[30, 30] }) (base : Nat) (L : List Int) (v : Value) (hs : a.eval s = v) (hown : w.ownsRow base 3 1 v L.length (irow L))
 (hx : a.eval x = .slice (some ⟨w.heap.size, 0, none⟩) 1 1) (hL : L.length ≤ 64) (hbase : base ≤ w.heap.size)
 (h : ∀ v' w', w'.ownsRow base 3 1 v' (L ++ [p]).length (irow (L ++ [p])) → w.grownBy w' v.ownBlock → (∀ g, v'.ownBlock = some g → v.ownBlock = some g ∨ w.heap.size ≤ g) → wpList Tryz.prog ops Q rest (a.put o.dst v') w') :
 wpList Tryz.prog ops Q (o :: rest) a (w.alloc (.cells #[.int .i64 p] 3)) := by
 obtain ⟨i0, hi, hz0, hz1, hz2⟩ := info_parts info_int
 refine wpList_append_new hgd s x 30 ho base 3 i0 (.int .i64 0) 1 8 Tryz.underlying30 hi hz0 hz1 hz2 rfl (by decide) v L.length (irow L) hs (World.ownsRow.alloc hown _) ⟨w.heap.size, 0, none⟩ 1 1 [.int .i64 p] hx rfl (int_at w p 3) (by intro u hu; simp at hu; subst hu; rfl) (by unfold maxLen; omega) (by omega) (by simp; omega) ?_
 intro v' w' h1 h2 h3
 refine h v' w' (by rw [irow_snoc, List.length_append]; exact h1) ?_ (fun g hg => ?_)
 ·exact ⟨h2.os, h2.tape, h2.output, Nat.le_trans (by simp) h2.size, fun k hk hne => (h2.block k (by simp; omega) hne).trans ((World.grownBy_alloc w _ none).block k hk (by simp))⟩
 ·rcases h3 g hg with q | q
  ·exact .inl q
  ·exact .inr (by simp at q; omega)
end Go.Proofs.YtddijpjgkifngaaGreat
namespace Go.Proofs.YtddijpjgkifngaaGreat
open Go.RowKit
set_option linter.unusedVariables false
set_option maxHeartbeats 2000000 in
theorem toHeard_any (x0 x1 : Int) (w : World) :
 Calls Tryz.prog 175 #[.agg #[.int .i64 x0, .int .i64 x1]] w fun e w' => e = .returned (.agg #[.int .i64 x0, .int .i64 x1]) ∧ Below w.heap.size w w' := by
 go_enter Tryz.func175, Tryz.ntmps175
 go_wp2_with fail
 exact bodyPost_ret (v := .agg #[.int .i64 x0, .int .i64 x1]) (by simp (maxDischargeDepth := 6) [results, Tryz.results175, go_sem, *]) rfl ⟨rfl, by repeat (first | exact Below.refl _ _ | refine Below.drew ?_ | refine Below.alloc ?_ (by first | (simp; done) | (simp; omega) | omega) _ | refine Below.setCell ?_ (by first | (simp; done) | (simp; omega) | omega) _ | refine Below.trans ?_ (Below.mono (by assumption) (by first | (simp; done) | (simp; omega) | omega)))⟩
set_option maxHeartbeats 2000000 in
theorem eqHeard_same (x0 x1 : Int) (w : World) :
 Calls Tryz.prog 188 #[.agg #[.int .i64 x0, .int .i64 x1], .agg #[.int .i64 x0, .int .i64 x1]] w fun e w' => e = .returned (.bool true) ∧ Below w.heap.size w w' := by
 go_enter Tryz.func188, Tryz.ntmps188
 go_wp2_with fail
 go_ret
 exact ⟨rfl, by repeat (first | exact Below.refl _ _ | refine Below.drew ?_ | refine Below.alloc ?_ (by first | (simp; done) | (simp; omega) | omega) _ | refine Below.setCell ?_ (by first | (simp; done) | (simp; omega) | omega) _ | refine Below.trans ?_ (Below.mono (by assumption) (by first | (simp; done) | (simp; omega) | omega)))⟩
set_option maxHeartbeats 1000000 in
theorem szHeardS_any (a : Option Addr) (n c : Nat) (L : Int) (w : World) (hm : n ≤ maxLen) (L0 : 0 ≤ L) (L1 : L ≤ 1048576) :
 Calls Tryz.prog 135 #[.slice a n c, .int .i64 L] w fun e w' => e = .returned (.int .i64 (if (n : Int) ≤ L then L - (n : Int) else -1)) ∧ w = w' := by
 unfold maxLen at hm
 by_cases h : (n : Int) ≤ L
 ·rw [if_pos h]
  have hd : decide (L - (n : Int) < 0) = false := by simp; omega
  go_enter Tryz.func135, Tryz.ntmps135
  go_wp2_with fail
  go_ret
  exact ⟨rfl, rfl⟩
 ·rw [if_neg h]
  have hd : decide (L - (n : Int) < 0) = true := by simp; omega
  go_enter Tryz.func135, Tryz.ntmps135
  go_wp2_with fail
  go_ret
  exact ⟨rfl, rfl⟩
def rowObjHeard (n : Nat) : Obj := .cells (madeCells #[.int .i64 0, .int .i64 0] (n * 2)) 162
theorem infoHeard : (Tryz.prog.info? 162).map (fun i => (i.zero, i.size, i.bytes)) = some (some (.agg #[.int .i64 0, .int .i64 0]), 2, 16) := by kernel_rfl
theorem mk_rowHeard (n : Nat) (h : n ≤ 1048576) (w : World) : (Instr.makeSlice 96 (.int .i64 (n : Int)) (.int .i64 (n : Int))).run Tryz.prog w = .ok (.slice (some ⟨w.heap.size, 0, none⟩) n n) (w.alloc (rowObjHeard n)) := by
 obtain ⟨i, hi, hz⟩ := Option.map_eq_some_iff.1 infoHeard
 simp only [Prod.mk.injEq] at hz
 obtain ⟨h1, h2, h3⟩ := hz
 have hr := run_make (P := Tryz.prog) w 96 162 i _ Tryz.underlying96 hi h1 .i64 .i64 n n (by omega) (Int.le_refl _) (by rw [h3]; omega) (by omega)
 simp only [Int.toNat_natCast, h2] at hr
 exact hr
theorem rowObjHeard_is (w : World) (n : Nat) (F : Nat → Value) : RowF (w.alloc (rowObjHeard n)) w.heap.size 162 (n * 2) 0 F := by
 have h := World.rowIs_alloc w (madeCells #[.int .i64 0, .int .i64 0] (n * 2)) 162 (fun i => (madeCells #[.int .i64 0, .int .i64 0] (n * 2)).getD i undef) (fun i hi => by
  rw [Array.getElem?_eq_getElem hi]; exact congrArg some (by rw [Array.getD_eq_getD_getElem?, Array.getElem?_eq_getElem hi]; rfl))
 rw [size_madeCells] at h
 exact ⟨_, h, fun j hj => absurd hj (Nat.not_lt_zero _)⟩
set_option maxHeartbeats 4000000 in
theorem toHeardS_some (b off n c : Nat) (M : Nat → VT) (w : World) (hn : n ≤ 1048576) (hf : Cs w b off (n * 2) (MFIval M)) :
 Calls Tryz.prog 144 #[.slice (some ⟨b, off, none⟩) n c] w fun e w' => e = .returned (.slice (some ⟨w.heap.size, 0, none⟩) n n) ∧ RowF w' w.heap.size 162 (n * 2) (n * 2) (MFIval M) ∧ Below w.heap.size w w' := by
 have hmk := mk_rowHeard n hn
 go_enter Tryz.func144, Tryz.ntmps144
 go_wp2_with fail
 clear hmk
 go_loopw [4] (fun i wr => ∃ k : Nat, k ≤ n ∧ i = .int .i64 k ∧ RowF wr w.heap.size 162 (n * 2) (k * 2) (MFIval M) ∧ Below w.heap.size w wr) (fun i _ => n - (intOf i).toNat)
 case atStart => exact ⟨0, Nat.zero_le _, rfl, (rowObjHeard_is w n _).eqm (by omega), (Below.refl _ _).alloc (Nat.le_refl _) _⟩
 case round =>
  obtain ⟨k, hk, rfl, hrow, hB⟩ := hrel
  by_cases hlt : k < n
  ·obtain ⟨x0, x1, hM⟩ := tupIval M k
   obtain ⟨c0, c1⟩ := (hf.below hB hf.1).elIval hlt hM
   obtain ⟨q0, q1⟩ := MFIval_vals hM
   have hli : (k : Int) < (n : Int) := by omega
   have hlr := hrow.lt
   clear hM
   go_wp2_with fail
   refine (toHeard_any x0 x1 _).mono ?_
   rintro e w' ⟨rfl, hb⟩
   have row := RowF.below hb hlr hrow
   have hB2 := hB.trans (hb.mono hB.size)
   clear c0 c1 hrow hB hb
   have hlr2 := row.lt
   obtain ⟨⟨v0, e0⟩, f0⟩ := row.facts (k * 2) (by omega)
   obtain ⟨⟨v1, e1⟩, f1⟩ := row.facts (k * 2 + 1) (by omega)
   go_wp2_with fail
   go_roundw
   case rel => exact ⟨k + 1, by omega, by go_num, ((row.put (k * 2 + 1) (by omega) q0).put ((k + 1) * 2) (by omega) q1), ((hB2.setCell (Nat.le_refl _) _).setCell (Nat.le_refl _) _)⟩
   case measure => simp [intOf]; omega
  ·have hkn : k = n := by omega
   subst hkn
   have hli : ¬ (k : Int) < (k : Int) := by omega
   go_wp2_with fail
   go_ret
   exact ⟨rfl, hrow, hB⟩
set_option maxHeartbeats 1000000 in
theorem toHeardS_empty (a : Option Addr) (c : Nat) (F : Nat → Value) (w : World) :
 Calls Tryz.prog 144 #[.slice a 0 c] w fun e w' => e = .returned (.slice (some ⟨w.heap.size, 0, none⟩) 0 0) ∧ RowF w' w.heap.size 162 (0 * 2) (0 * 2) F ∧ Below w.heap.size w w' := by
 have hmk := mk_rowHeard 0 (by omega)
 simp only [Int.ofNat_zero] at hmk
 go_enter Tryz.func144, Tryz.ntmps144
 go_wp2_with fail
 clear hmk
 go_loopw [4] (fun i wr => i = .int .i64 0 ∧ RowF wr w.heap.size 162 (0 * 2) 0 F ∧ Below w.heap.size w wr) (fun i _ => 0)
 case atStart => exact ⟨rfl, rowObjHeard_is w 0 F, (Below.refl _ _).alloc (Nat.le_refl _) _⟩
 case round =>
  obtain ⟨rfl, hrow, hB⟩ := hrel
  go_wp2_with fail
  go_ret
  exact ⟨rfl, hrow.eqm (by omega), hB⟩
theorem toHeardS_any (a : Option Addr) (n c : Nat) (M : Nat → VT) (w : World) (hn : n ≤ 1048576) (h : SrcC w a (n * 2) (MFIval M)) :
 Calls Tryz.prog 144 #[.slice a n c] w fun e w' => e = .returned (.slice (some ⟨w.heap.size, 0, none⟩) n n) ∧ RowF w' w.heap.size 162 (n * 2) (n * 2) (MFIval M) ∧ Below w.heap.size w w' := by
 rcases h with h0 | ⟨b, off, rfl, h2⟩
 ·have hn0 : n = 0 := by omega
  subst hn0
  exact toHeardS_empty a c _ w
 ·exact toHeardS_some b off n c M w hn h2
set_option maxHeartbeats 8000000 in
theorem eqHeardS_some (b off b' off' n c c' : Nat) (M : Nat → VT) (w : World) (hn : n ≤ maxLen) (hf : Cs w b off (n * 2) (MFIval M)) (hg : Cs w b' off' (n * 2) (MFIval M)) :
 Calls Tryz.prog 158 #[.slice (some ⟨b, off, none⟩) n c, .slice (some ⟨b', off', none⟩) n c'] w fun e w' => e = .returned (.bool true) ∧ Below w.heap.size w w' := by
 unfold maxLen at hn
 go_enter Tryz.func158, Tryz.ntmps158
 go_wp2_with fail
 go_loopw [5] (fun i wr => ∃ k : Nat, k ≤ n ∧ i = .int .i64 k ∧ Below w.heap.size w wr) (fun i _ => n - (intOf i).toNat)
 case atStart => exact ⟨0, Nat.zero_le _, rfl, Below.refl _ _⟩
 case round =>
  obtain ⟨k, hk, rfl, hB⟩ := hrel
  by_cases hlt : k < n
  ·obtain ⟨x0, x1, hM⟩ := tupIval M k
   obtain ⟨c0, c1⟩ := (hf.below hB hf.1).elIval hlt hM
   obtain ⟨d0, d1⟩ := (hg.below hB hg.1).elIval hlt hM
   have hb1 : b < wr.drew.heap.size := Nat.lt_of_lt_of_le hf.1 hB.size
   have hb2 : b' < wr.drew.heap.size := Nat.lt_of_lt_of_le hg.1 hB.size
   have hsz : w.heap.size ≤ wr.drew.heap.size := hB.size
   have hli : (k : Int) < (n : Int) := by omega
   clear hM
   go_wp2_with fail
   refine wp_region_held_drew (S := (fun w' => w'.cell? ⟨b, off + k * 2, none⟩ = some (.int .i64 x0) ∧ w'.cell? ⟨b, off + k * 2 + 1, none⟩ = some (.int .i64 x1) ∧ w'.cell? ⟨b', off' + k * 2, none⟩ = some (.int .i64 x0) ∧ w'.cell? ⟨b', off' + k * 2 + 1, none⟩ = some (.int .i64 x1))) (by kernel_rfl) ?_ (fun hHeld => ?_)
   ·first | exact ⟨c0, c1, d0, d1⟩ | (simp (maxDischargeDepth := 6) [go_sem, *]; done)
   refine zTk 0 ?_
   refine zTk 1 ?_
   refine zTk 2 ?_
   refine zTk 3 ?_
   refine zTk 4 ?_
   refine zTk 5 ?_
   refine zTk 6 ?_
   refine zTk 7 ?_
   refine wpAnyH_ready (rs := [8]) (by kernel_rfl) (by simp) ?_
   refine AllReadyH.cons (by rw [List.getElem?_toArray]; rfl) (fun K hK => ?_) AllReadyH.nil
   go_simp
   refine (eqHeard_same _ _ _).mono ?_; rintro e w' ⟨rfl, hb⟩; (replace c0 := (hb.cell (p := ⟨b, off + k * 2, none⟩) hb1).trans c0); (replace c1 := (hb.cell (p := ⟨b, off + k * 2 + 1, none⟩) hb1).trans c1); (replace d0 := (hb.cell (p := ⟨b', off' + k * 2, none⟩) hb2).trans d0); (replace d1 := (hb.cell (p := ⟨b', off' + k * 2 + 1, none⟩) hb2).trans d1)
   (try go_wp2_with fail)
   refine hK.out _ _ ?_ (fun hHeld => ?_)
   ·first | exact ⟨c0, c1, d0, d1⟩ | (simp (maxDischargeDepth := 6) [go_sem, *]; done)
   clear hK K
   (try simp only [Act.put, zSb, zS0, zS1])
   refine zTk 9 ?_
   refine wpAnyH_done (by kernel_rfl) ?_ _
   go_wp2_with fail
   go_roundw
   case rel => exact ⟨k + 1, by omega, by go_num, (Below.drew hB).trans (hb.mono hsz)⟩
   case measure => simp [intOf]; omega
  ·go_wp2_with fail
   go_ret
   exact ⟨rfl, hB⟩
set_option maxHeartbeats 400000 in
theorem eqHeardS_zero (a a' : Option Addr) (c c' : Nat) (w : World) :
 Calls Tryz.prog 158 #[.slice a 0 c, .slice a' 0 c'] w fun e w' => e = .returned (.bool true) ∧ Below w.heap.size w w' := by
 go_enter Tryz.func158, Tryz.ntmps158
 go_wp2_with fail
 go_loopw [5] (fun i wr => i = .int .i64 0 ∧ w = wr) (fun i _ => 0)
 case atStart => exact ⟨rfl, rfl⟩
 case round =>
  obtain ⟨rfl, rfl⟩ := hrel
  go_wp2_with fail
  go_ret
  exact ⟨rfl, Below.refl _ _⟩
theorem eqHeardS_src (a a' : Option Addr) (n c c' : Nat) (M : Nat → VT) (w : World) (hn : n ≤ maxLen) (h : SrcC w a (n * 2) (MFIval M)) (h' : SrcC w a' (n * 2) (MFIval M)) :
 Calls Tryz.prog 158 #[.slice a n c, .slice a' n c'] w fun e w' => e = .returned (.bool true) ∧ Below w.heap.size w w' := by
 by_cases h0 : n = 0
 ·subst h0; exact eqHeardS_zero a a' c c' w
 ·rcases h with h | ⟨b, off, rfl, hp⟩
  ·omega
  ·rcases h' with h | ⟨b', off', rfl, hp'⟩
   ·omega
   ·exact eqHeardS_some b off b' off' n c c' M w hn hp hp'
set_option maxHeartbeats 8000000 in
theorem markHeardS_row (b N n c : Nat) (q0 : Int) (w : World) (hn : n ≤ 1048576) (hq : 0 < q0) (hq1 : q0 ≤ 1073741824) (hN : n * 2 ≤ N) (h : RowF w b 162 N 0 (mkIval q0)) :
 Calls Tryz.prog 120 #[.slice (some ⟨b, 0, none⟩) n c, .int .i64 q0] w fun e w' => e = .returned (.int .i64 (q0 + (n : Int) * 2)) ∧ RowF w' b 162 N (n * 2) (mkIval q0) ∧ But b w w' := by
 go_enter Tryz.func120, Tryz.ntmps120
 go_wp2_with fail
 go_loopw [1, 5] (fun q i wr => ∃ (k : Nat) (Q : Int), k ≤ n ∧ i = .int .i64 k ∧ q = .int .i64 Q ∧ Q = q0 + (k : Int) * 2 ∧ RowF wr b 162 N (k * 2) (mkIval q0) ∧ But b w wr) (fun _ i _ => n - (intOf i).toNat)
 case atStart => exact ⟨0, q0, Nat.zero_le _, rfl, rfl, by omega, h.eqm (by omega), But.refl _ _⟩
 case round =>
  obtain ⟨k, Q, hk, rfl, rfl, hQ, row, hB⟩ := hrel
  clear h
  have HQ : Hid (Q = q0 + (k : Int) * 2) := hQ
  by_cases hlt : k < n
  ·have hli : (k : Int) < (n : Int) := by omega
   have Q0 : 0 < Q := by omega
   have Q1 : Q ≤ 1073741824 + 1048576 * 2 := by omega
   clear hQ
   have hlr := row.lt
   obtain ⟨⟨v0, e0⟩, f0⟩ := row.facts (k * 2) (by omega)
   obtain ⟨⟨v1, e1⟩, f1⟩ := row.facts (k * 2 + 1) (by omega)
   go_wp2_with fail
   go_roundw
   case rel => exact ⟨k + 1, _, by omega, by go_num, rfl, by have := HQ.out; omega, (RowF.put (RowF.put row (k * 2 + 1) (by omega) (mkIval_i (k := k) (j := 0) (by have := HQ.out; omega))) ((k + 1) * 2) (by omega) (mkIval_i (k := k) (j := 1) (by have := HQ.out; omega))), ((hB.setCell _ _).setCell _ _)⟩
   case measure => simp [intOf]; omega
  ·have hkn : k = n := by omega
   subst hkn
   have hli : ¬ (k : Int) < (k : Int) := by omega
   subst hQ
   go_wp2_with fail
   go_ret
   exact ⟨rfl, row, hB⟩
set_option maxHeartbeats 400000 in
theorem markHeardS_zero (a : Option Addr) (c : Nat) (q0 : Int) (w : World) :
 Calls Tryz.prog 120 #[.slice a 0 c, .int .i64 q0] w fun e w' => e = .returned (.int .i64 q0) ∧ w = w' := by
 go_enter Tryz.func120, Tryz.ntmps120
 go_wp2_with fail
 go_loopw [1, 5] (fun q i wr => i = .int .i64 0 ∧ q = .int .i64 q0 ∧ w = wr) (fun _ i _ => 0)
 case atStart => exact ⟨rfl, rfl, by first | rfl | trivial⟩
 case round =>
  obtain ⟨rfl, rfl, rfl⟩ := hrel
  go_wp2_with fail
  go_ret
  exact ⟨rfl, rfl⟩
theorem markHeardS_own (a : Option Addr) (n c base : Nat) (q0 : Int) (xs : List Value) (w : World) (hn : n ≤ 1048576) (hq : 0 < q0) (hq1 : q0 ≤ 1073741824) (h : w.ownsRow base 162 2 (.slice a n c) n xs) :
 Calls Tryz.prog 120 #[.slice a n c, .int .i64 q0] w fun e w' => e = .returned (.int .i64 (q0 + (n : Int) * 2)) ∧ SrcC w' a (n * 2) (mkIval q0) ∧ w.grownBy w' (Value.slice a n c).ownBlock := by
 rcases h.2 with ⟨he, h0⟩ | ⟨g, cap, cur, he, _⟩
 ·simp at he
  obtain ⟨rfl, rfl, rfl⟩ := he
  exact (markHeardS_zero none 0 q0 w).mono fun e w' ⟨h1, h2⟩ => ⟨by rw [h1]; simp, .inl (by omega), h2 ▸ bel_grown (Below.refl _ _)⟩
 ·simp at he
  obtain ⟨rfl, rfl⟩ := he
  obtain ⟨h1, h2, _, h3⟩ := ownF_row (mkIval q0) h
  exact (markHeardS_row g (c * 2) n c q0 w hn hq hq1 (Nat.mul_le_mul_right _ h2) h3).mono fun e w' ⟨r1, r2, r3⟩ => ⟨r1, .inr ⟨g, 0, rfl, r2.cs (Nat.mul_le_mul_right _ h2)⟩, r3.grK⟩
theorem info_heard : (Tryz.prog.info? 162).map (fun i => (i.zero, i.size, i.bytes)) = some (some (.agg #[.int .i64 0, .int .i64 0]), 2, 16) := by kernel_rfl
theorem made_heard (w : World) : (w.alloc (.cells #[] 162)).ownsRow w.heap.size 162 2 (.slice (some ⟨w.heap.size, 0, none⟩) 0 0) ([] : List VT).length (vrow []) := World.ownsRow_made w #[] 0 (Nat.le_refl _) (by simp [maxLen]) (by simp)
end Go.Proofs.YtddijpjgkifngaaGreat
namespace Go.Proofs.YtddijpjgkifngaaGreat
open Go.RowKit
set_option linter.unusedVariables false
theorem hrow_one (M : Nat → VT) (n : Nat) : ∀ u ∈ (List.range (n * 2)).map (MFIval M), u.oneCell' = true := by
 intro u hu
 rw [List.mem_map] at hu
 obtain ⟨j, _, rfl⟩ := hu
 have h : j % 2 = 0 ∨ j % 2 = 1 := by omega
 unfold MFIval
 rcases h with h | h <;> rw [h] <;> rfl
theorem addr_add16 (b off j : Nat) : (⟨b, off, none⟩ : Addr).add j = ⟨b, off + j, none⟩ := by
 unfold Addr.add
 split
 ·next h => subst h; rfl
 ·rfl
theorem copy_heards {w : World} {ops : Array Oper} {rest : List Oper} {o : Oper} {a : Act} {Q : Exit → Act → World → Prop} (hgd : o.guard = none) (s x : Operand)
 (ho : o.op = .call { callee := .builtin .append, args := #[s, x], argTypes := #[96, 96] }) (base : Nat) (M : Nat → VT) (v : Value) (hs : a.eval s = v) (hown : w.ownsRow base 162 2 v ([] : List VT).length (vrow []))
 (A : Option Addr) (n c : Nat) (hx : a.eval x = .slice A n c) (hA : (A = none ∧ n = 0 ∧ c = 0) ∨ ∃ b off, A = some ⟨b, off, none⟩ ∧ (n = 0 ∨ Cs w b off (n * 2) (MFIval M))) (hL : n ≤ 4096) (hbase : base ≤ w.heap.size)
 (h : ∀ v' w', w'.ownsRow base 162 2 v' n ((List.range (n * 2)).map (MFIval M)) → w.grownBy w' v.ownBlock → wpList Tryz.prog ops Q rest (a.put o.dst v') w') :
 wpList Tryz.prog ops Q (o :: rest) a w := by
 obtain ⟨i0, hi, hz0, hz1, hz2⟩ := info_parts info_heard
 rcases hA with ⟨rfl, rfl, rfl⟩ | ⟨b, off, rfl, hC⟩
 ·have hr := run_append_owned_none (P := Tryz.prog) (w := w) base 96 o.type 162 i0 2 Tryz.underlying96 hi v 0 (vrow []) hown
  refine wpList_plain hgd fun _ hK => ?_
  unfold Oper.wp execOp
  simp only [ho, resolve, invoke, builtin, Sem.run_bind, Sem.run_pure, Result.andThen_ok, List.map_toArray, List.map_cons, List.map_nil, hs, hx, hr]
  exact hK _ _ (h v w hown ⟨rfl, rfl, rfl, Nat.le_refl _, fun _ _ _ => rfl⟩)
 ·have hcells : ∀ j u, ((List.range (n * 2)).map (MFIval M))[j]? = some u → w.cell? ((⟨b, off, none⟩ : Addr).add j) = some u := by
   intro j u hu
   rw [List.getElem?_map] at hu
   by_cases hj : j < n * 2
   ·rw [List.getElem?_range hj] at hu
    simp at hu
    subst hu
    rcases hC with rfl | hC
    ·omega
    ·rw [addr_add16]; exact hC.2 j hj
   ·rw [List.getElem?_eq_none (by rw [List.length_range]; omega)] at hu
    simp at hu
  refine wpList_append_new hgd s x 96 ho base 162 i0 (.agg #[.int .i64 0, .int .i64 0]) 2 16 Tryz.underlying96 hi hz0 hz1 hz2 rfl (by decide) v 0 (vrow []) hs hown ⟨b, off, none⟩ n c ((List.range (n * 2)).map (MFIval M)) hx (by simp) hcells (hrow_one M n) (by unfold maxLen; omega) (by omega) hbase ?_
  intro v' w' h1 h2 _
  refine h v' w' ?_ h2
  rw [Nat.zero_add] at h1
  exact h1
end Go.Proofs.YtddijpjgkifngaaGreat
namespace Go.Proofs.YtddijpjgkifngaaGreat
open Go.RowKit
set_option linter.unusedVariables false
theorem info_peerZ : (Tryz.prog.info? 157).map (fun i => (i.zero, i.size, i.bytes)) = some (some (.agg #[.int .i64 0, .int .i64 0, .int .i64 0, .int .i64 0, .bool false]), 5, 40) := by kernel_rfl
theorem prow_one (M : Nat → PT) (n : Nat) : ∀ u ∈ (List.range (n * 5)).map (MFPeer M), u.oneCell' = true := by
 intro u hu
 rw [List.mem_map] at hu
 obtain ⟨j, _, rfl⟩ := hu
 have h : j % 5 = 0 ∨ j % 5 = 1 ∨ j % 5 = 2 ∨ j % 5 = 3 ∨ j % 5 = 4 := by omega
 unfold MFPeer
 rcases h with h | h | h | h | h <;> rw [h] <;> rfl
theorem copy_peers {w : World} {ops : Array Oper} {rest : List Oper} {o : Oper} {a : Act} {Q : Exit → Act → World → Prop} (hgd : o.guard = none) (s x : Operand)
 (ho : o.op = .call { callee := .builtin .append, args := #[s, x], argTypes := #[93, 93] }) (base : Nat) (M : Nat → PT) (v : Value) (hs : a.eval s = v) (hown : w.ownsRow base 157 5 v ([] : List PT).length (prow []))
 (A : Option Addr) (n c : Nat) (hx : a.eval x = .slice A n c) (hA : (A = none ∧ n = 0 ∧ c = 0) ∨ ∃ b off, A = some ⟨b, off, none⟩ ∧ (n = 0 ∨ Cs w b off (n * 5) (MFPeer M))) (hL : n ≤ 4096) (hbase : base ≤ w.heap.size)
 (h : ∀ v' w', w'.ownsRow base 157 5 v' n ((List.range (n * 5)).map (MFPeer M)) → w.grownBy w' v.ownBlock → wpList Tryz.prog ops Q rest (a.put o.dst v') w') :
 wpList Tryz.prog ops Q (o :: rest) a w := by
 obtain ⟨i0, hi, hz0, hz1, hz2⟩ := info_parts info_peerZ
 rcases hA with ⟨rfl, rfl, rfl⟩ | ⟨b, off, rfl, hC⟩
 ·have hr := run_append_owned_none (P := Tryz.prog) (w := w) base 93 o.type 157 i0 5 Tryz.underlying93 hi v 0 (prow []) hown
  refine wpList_plain hgd fun _ hK => ?_
  unfold Oper.wp execOp
  simp only [ho, resolve, invoke, builtin, Sem.run_bind, Sem.run_pure, Result.andThen_ok, List.map_toArray, List.map_cons, List.map_nil, hs, hx, hr]
  exact hK _ _ (h v w hown ⟨rfl, rfl, rfl, Nat.le_refl _, fun _ _ _ => rfl⟩)
 ·have hcells : ∀ j u, ((List.range (n * 5)).map (MFPeer M))[j]? = some u → w.cell? ((⟨b, off, none⟩ : Addr).add j) = some u := by
   intro j u hu
   rw [List.getElem?_map] at hu
   by_cases hj : j < n * 5
   ·rw [List.getElem?_range hj] at hu
    simp at hu
    subst hu
    rcases hC with rfl | hC
    ·omega
    ·rw [addr_add16]; exact hC.2 j hj
   ·rw [List.getElem?_eq_none (by rw [List.length_range]; omega)] at hu
    simp at hu
  refine wpList_append_new hgd s x 93 ho base 157 i0 (.agg #[.int .i64 0, .int .i64 0, .int .i64 0, .int .i64 0, .bool false]) 5 40 Tryz.underlying93 hi hz0 hz1 hz2 rfl (by decide) v 0 (prow []) hs hown ⟨b, off, none⟩ n c ((List.range (n * 5)).map (MFPeer M)) hx (by simp) hcells (prow_one M n) (by unfold maxLen; omega) (by omega) hbase ?_
  intro v' w' h1 h2 _
  refine h v' w' ?_ h2
  rw [Nat.zero_add] at h1
  exact h1
theorem made_peerZ (w : World) : (w.alloc (.cells #[] 157)).ownsRow w.heap.size 157 5 (.slice (some ⟨w.heap.size, 0, none⟩) 0 0) ([] : List PT).length (prow []) := World.ownsRow_made w #[] 0 (Nat.le_refl _) (by simp [maxLen]) (by simp)
end Go.Proofs.YtddijpjgkifngaaGreat
