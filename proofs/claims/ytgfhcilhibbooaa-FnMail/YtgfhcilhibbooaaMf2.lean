/- Flights by their Id: a map, told by a function of the Id. The contract of impl.mailOf. The contract of impl.mailOf, whole. The contract of impl.NetOk, and the walk of the exact law of NetOk. Contracts of NetOldest, and the walk of its exact law. Rows of numbers; contracts of NetFor. -/
import Derived.Test.YtgfhcilhibbooaaMf1
import Derived.Maps.OwnSet
import Derived.WalkKit
import Derived.WalkSpells
import Derived.WalkLawsBesides
import Derived.Deep.RegionHeld
import Derived.Deep.RegionHeld3
import Derived.Deep.DeepCutAuto
namespace Go.Proofs.Ytgfhcilhibbooaa
open Go.RowKit
set_option linter.unusedVariables false
def fv (M : FT) : Value := .agg #[.int .i64 M.1, .int .i64 M.2.1, .int .i64 M.2.2.1, .string M.2.2.2.1, .int .i64 M.2.2.2.2]
def R0 (v : Value) : Option (DataW Value × List MemPlace) := some (.held v, [])
def atF (o : Option FT) (z : DataW Value) : DataW Value := match o with | some M => .held (fv M) | none => z
def MapI (w : World) (b n : Nat) (F : Int → Option FT) : Prop := ∃ D : DataW Value, w.ownsMap Try.prog 3 R0 b n D ∧ ∀ x, (∀ z, D.atKey (.int .i64 x) z = atF (F x) z) ∧ Maps.has D (.int .i64 x) = (F x).isSome
theorem lawK : Maps.Keyed Try.prog 3 := Maps.int_keyed Try.underlying3
theorem zeroFl (w : World) : (zeroValue 30).run Try.prog w = .ok (fv zF) w := by kernel_rfl
set_option maxRecDepth 100000 in
theorem run_mkmap (n : Nat) (w : World) : (Instr.makeMap 50 (some (.int .i64 (n : Int)))).run Try.prog w = .ok (.map (some w.heap.size)) (w.alloc (.map #[] 0)) := by
  first | rfl | (simp [Instr.makeMap, go_sem]; done) | (simp [Instr.makeMap]; done)
theorem MapI.made (w : World) : MapI (w.alloc (.map #[] 0)) w.heap.size 0 (fun _ => none) := ⟨.map [], World.ownsMap_made w _ _ _, fun x => ⟨fun z => rfl, rfl⟩⟩
theorem MapI.kept {w w' : World} {b n : Nat} {F : Int → Option FT} (h : MapI w b n F) {row : Option Nat} (hg : w.grownBy w' row) (hne : some b ≠ row) : MapI w' b n F := by
  obtain ⟨D, h1, h2⟩ := h
  exact ⟨D, h1.kept hg hne, h2⟩
theorem MapI.lt {w : World} {b n : Nat} {F : Int → Option FT} (h : MapI w b n F) : b < w.heap.size := by
  obtain ⟨D, h1, h2⟩ := h
  exact h1.lt
theorem MapI.below {w w' : World} {b n : Nat} {F : Int → Option FT} (h : MapI w b n F) (hb : Below w.heap.size w w') : MapI w' b n F :=
  h.kept (row := none) ⟨hb.os, hb.tape, hb.output, hb.size, fun k hk _ => hb.block k hk⟩ (by simp)
theorem MapI.setCell {w : World} {b n : Nat} {F : Int → Option FT} (h : MapI w b n F) {a : Addr} (ha : b ≠ a.block) (u : Value) : MapI (w.setCell a u) b n F := by
  obtain ⟨D, h1, h2⟩ := h
  exact ⟨D, h1.setCell ha u, h2⟩
theorem MapI.congr {w : World} {b n : Nat} {F G : Int → Option FT} (h : MapI w b n F) (e : ∀ x, F x = G x) : MapI w b n G := by
  obtain ⟨D, h1, h2⟩ := h
  exact ⟨D, h1, fun x => by rw [← e x]; exact h2 x⟩
theorem held_inj {o : Option FT} {v : Value} {ps : List MemPlace} (h : R0 v = some (atF o (.held (fv zF)), ps)) : v = fv (o.getD zF) := by
  unfold R0 at h
  simp only [Option.some.injEq, Prod.mk.injEq] at h
  cases o with
  | none => simp only [atF, DataW.held.injEq] at h; exact h.1
  | some M => simp only [atF, DataW.held.injEq] at h; exact h.1
theorem MapI.look_ok {w : World} {b n : Nat} {F : Int → Option FT} (h : MapI w b n F) {x : Int} (hx : (Lit.int .i64 x).wf = true) : (Instr.lookup 50 (.map (some b)) (.int .i64 x) true).run Try.prog w = .ok (.tuple #[fv ((F x).getD zF), .bool (F x).isSome]) w := by
  obtain ⟨D, h1, h2⟩ := h
  obtain ⟨v, ps, hrun, hv⟩ := h1.look_ok (t := 50) (e := 30) lawK Try.underlying50 (zeroFl w) (zd := .held (fv zF)) (zp := []) rfl (Maps.keyOf_int_mk Try.underlying3 hx)
  rw [(h2 x).1] at hv
  rw [hrun, held_inj hv, (h2 x).2]
theorem MapI.look {w : World} {b n : Nat} {F : Int → Option FT} (h : MapI w b n F) {x : Int} (hx : (Lit.int .i64 x).wf = true) : (Instr.lookup 50 (.map (some b)) (.int .i64 x) false).run Try.prog w = .ok (fv ((F x).getD zF)) w := by
  obtain ⟨D, h1, h2⟩ := h
  obtain ⟨v, ps, hrun, hv⟩ := h1.lookup (t := 50) (e := 30) lawK Try.underlying50 (zeroFl w) (zd := .held (fv zF)) (zp := []) rfl (Maps.keyOf_int_mk Try.underlying3 hx)
  rw [(h2 x).1] at hv
  rw [hrun, held_inj hv]
theorem lit_ne {x y : Int} (h : x ≠ y) : (Lit.int .i64 x) ≠ (Lit.int .i64 y) := fun e => h (by injection e)
theorem MapI.put {w : World} {b n : Nat} {F : Int → Option FT} (h : MapI w b n F) {x : Int} (hx : (Lit.int .i64 x).wf = true) (hn : n < maxLen) (M : FT) :
    ∃ w', (Instr.mapUpdate 50 (.map (some b)) (.int .i64 x) (fv M)).run Try.prog w = .ok () w' ∧ MapI w' b (n + 1) (fun y => if y = x then some M else F y) ∧ w.grownBy w' (some b) := by
  obtain ⟨D, h1, h2⟩ := h
  have hD := h1.isMap
  obtain ⟨w', hrun, ho, hg⟩ := h1.update (t := 50) (e := 30) lawK Try.underlying50 hn (key := .int .i64 x) (val := fv M) (d := .held (fv M)) (ps := []) (Maps.keyOf_int_mk Try.underlying3 hx) rfl
  refine ⟨w', hrun, ⟨_, ho, fun y => ?_⟩, hg⟩
  by_cases e : y = x
  · subst e
    simp only [if_true]
    exact ⟨fun z => Maps.atKey_put_same hD (show WideAt.IsKeyLit (.int .i64 y) from trivial) _ _, Maps.has_put_same hD (show WideAt.IsKeyLit (.int .i64 y) from trivial) _⟩
  · simp only [if_neg e]
    exact ⟨fun z => (Maps.atKey_put_other (lit_ne e) _ _).trans ((h2 y).1 z), (Maps.has_put_other (lit_ne e) _).trans (h2 y).2⟩
theorem MapI.del {w : World} {b n : Nat} {F : Int → Option FT} (h : MapI w b n F) {x : Int} (hx : (Lit.int .i64 x).wf = true) (ty : TypeId) :
    ∃ w', (Builtin.delete_ #[50, 3] ty #[.map (some b), .int .i64 x]).run Try.prog w = .ok (.tuple #[]) w' ∧ MapI w' b n (fun y => if y = x then none else F y) ∧ w.grownBy w' (some b) := by
  obtain ⟨D, h1, h2⟩ := h
  obtain ⟨w', hrun, ho, hg⟩ := h1.drop (t := 50) (e := 30) lawK Try.underlying50 (Maps.keyOf_int_mk Try.underlying3 hx) ty
  refine ⟨w', hrun, ⟨_, ho, fun y => ?_⟩, hg.grown⟩
  by_cases e : y = x
  · subst e
    simp only [if_true]
    exact ⟨fun z => Maps.atKey_del_same z, Maps.has_del_same⟩
  · simp only [if_neg e]
    exact ⟨fun z => (Maps.atKey_del_other (lit_ne e) _).trans ((h2 y).1 z), (Maps.has_del_other (lit_ne e)).trans (h2 y).2⟩
end Go.Proofs.Ytgfhcilhibbooaa
namespace Go.Proofs.Ytgfhcilhibbooaa
open Go.RowKit
set_option linter.unusedVariables false
def NB (w : World) (j : Nat) (nx : Int) (a : Option Addr) (n c : Nat) : Prop := j < w.heap.size ∧ w.cell? ⟨j, 0, none⟩ = some (.int .i64 nx) ∧ w.cell? ⟨j, 1, none⟩ = some (.slice a n c)
def MB (w : World) (j : Nat) (u0 u1 u2 : Value) : Prop := j < w.heap.size ∧ w.cell? ⟨j, 0, none⟩ = some u0 ∧ w.cell? ⟨j, 1, none⟩ = some u1 ∧ w.cell? ⟨j, 2, none⟩ = some u2 ∧ w.frozen? ⟨j, 0, none⟩ = false ∧ w.frozen? ⟨j, 1, none⟩ = false ∧ w.frozen? ⟨j, 2, none⟩ = false
theorem NB.below {w w' : World} {j : Nat} {nx : Int} {a : Option Addr} {n c : Nat} (h : NB w j nx a n c) (hb : Below w.heap.size w w') : NB w' j nx a n c :=
  ⟨Nat.lt_of_lt_of_le h.1 hb.size, by rw [hb.cell (p := ⟨j, 0, none⟩) h.1]; exact h.2.1, by rw [hb.cell (p := ⟨j, 1, none⟩) h.1]; exact h.2.2⟩
theorem NB.but {w w' : World} {j q : Nat} {nx : Int} {a : Option Addr} {n c : Nat} (h : NB w j nx a n c) (hb : But q w w') (hq : j ≠ q) : NB w' j nx a n c :=
  ⟨Nat.lt_of_lt_of_le h.1 hb.2.2.2.1, by rw [hb.cell h.1 hq]; exact h.2.1, by rw [hb.cell h.1 hq]; exact h.2.2⟩
theorem NB.drew {w : World} {j : Nat} {nx : Int} {a : Option Addr} {n c : Nat} (h : NB w j nx a n c) : NB w.drew j nx a n c := h
theorem MB.below {w w' : World} {j : Nat} {u0 u1 u2 : Value} (h : MB w j u0 u1 u2) (hb : Below w.heap.size w w') : MB w' j u0 u1 u2 := by
  obtain ⟨h0, h1, h2, h3, h4, h5, h6⟩ := h
  exact ⟨Nat.lt_of_lt_of_le h0 hb.size, by rw [hb.cell (p := ⟨j, 0, none⟩) h0]; exact h1, by rw [hb.cell (p := ⟨j, 1, none⟩) h0]; exact h2, by rw [hb.cell (p := ⟨j, 2, none⟩) h0]; exact h3, by rw [hb.frozen (p := ⟨j, 0, none⟩) h0]; exact h4, by rw [hb.frozen (p := ⟨j, 1, none⟩) h0]; exact h5, by rw [hb.frozen (p := ⟨j, 2, none⟩) h0]; exact h6⟩
theorem MB.but {w w' : World} {j q : Nat} {u0 u1 u2 : Value} (h : MB w j u0 u1 u2) (hb : But q w w') (hq : j ≠ q) : MB w' j u0 u1 u2 := by
  obtain ⟨h0, h1, h2, h3, h4, h5, h6⟩ := h
  exact ⟨Nat.lt_of_lt_of_le h0 hb.2.2.2.1, by rw [hb.cell h0 hq]; exact h1, by rw [hb.cell h0 hq]; exact h2, by rw [hb.cell h0 hq]; exact h3, by rw [hb.frozen h0 hq]; exact h4, by rw [hb.frozen h0 hq]; exact h5, by rw [hb.frozen h0 hq]; exact h6⟩
theorem MB.drew {w : World} {j : Nat} {u0 u1 u2 : Value} (h : MB w j u0 u1 u2) : MB w.drew j u0 u1 u2 := h
theorem MB.new (w : World) (u0 u1 u2 : Value) (T : TypeId) : MB (w.alloc (.cells #[u0, u1, u2] T)) w.heap.size u0 u1 u2 := ⟨by simp, by simp, by simp, by simp, by simp, by simp, by simp⟩
theorem But.one (w : World) (q o : Nat) (u : Value) : But q w (w.setCell ⟨q, o, none⟩ u) := (But.refl q w).setCell o u
theorem NB.new (w : World) (nx : Int) (a : Option Addr) (n c : Nat) (T : TypeId) : NB (w.alloc (.cells #[.int .i64 nx, .slice a n c] T)) w.heap.size nx a n c := ⟨by simp, by simp, by simp⟩
theorem MB.set {w : World} {j : Nat} {u0 u1 u2 : Value} (h : MB w j u0 u1 u2) (a0 a1 a2 : Value) : MB (((w.setCell ⟨j, 0, none⟩ a0).setCell ⟨j, 1, none⟩ a1).setCell ⟨j, 2, none⟩ a2) j a0 a1 a2 := by
  obtain ⟨h0, h1, h2, h3, h4, h5, h6⟩ := h
  have e1 : (w.setCell ⟨j, 0, none⟩ a0).cell? ⟨j, 1, none⟩ = some u1 := (World.cell?_setCell_other _ _ _ _ (by simp)).trans h2
  have e2 : ((w.setCell ⟨j, 0, none⟩ a0).setCell ⟨j, 1, none⟩ a1).cell? ⟨j, 2, none⟩ = some u2 := (World.cell?_setCell_other _ _ _ _ (by simp)).trans ((World.cell?_setCell_other _ _ _ _ (by simp)).trans h3)
  refine ⟨by simpa using h0, ?_, ?_, World.cell?_setCell_same _ _ _ e2, by simpa using h4, by simpa using h5, by simpa using h6⟩
  · exact (World.cell?_setCell_other _ _ _ _ (by simp)).trans ((World.cell?_setCell_other _ _ _ _ (by simp)).trans (World.cell?_setCell_same _ _ _ h1))
  · exact (World.cell?_setCell_other _ _ _ _ (by simp)).trans (World.cell?_setCell_same _ _ _ e1)
theorem put3_but (w : World) (j : Nat) (a0 a1 a2 : Value) : But j w (((w.setCell ⟨j, 0, none⟩ a0).setCell ⟨j, 1, none⟩ a1).setCell ⟨j, 2, none⟩ a2) := (((But.refl j w).setCell 0 a0).setCell 1 a1).setCell 2 a2
theorem But.ofGrown {w w' : World} {q : Nat} (h : w.grownBy w' (some q)) : But q w w' := ⟨h.os, h.tape, h.output, h.size, fun k hk hq => h.block k hk (fun e => hq (by simpa using e))⟩
theorem But.gr {w w' : World} {q : Nat} (h : But q w w') : w.grownBy w' (some q) := ⟨h.1, h.2.1, h.2.2.1, h.2.2.2.1, fun k hk hp => h.2.2.2.2 k hk (fun e => hp (by rw [e]))⟩
theorem MapI.but {w w' : World} {b n q : Nat} {F : Int → Option FT} (h : MapI w b n F) (hb : But q w w') (hq : b ≠ q) : MapI w' b n F := h.kept hb.gr (by simpa using hq)
theorem MapI.drew {w : World} {b n : Nat} {F : Int → Option FT} (h : MapI w b n F) : MapI w.drew b n F := h
theorem RowF.but {w w' : World} {b N m q : Nat} {T : TypeId} {F : Nat → Value} (h : RowF w b T N m F) (hb : But q w w') (hq : b ≠ q) : RowF w' b T N m F := by
  obtain ⟨g, hr, hg⟩ := h
  exact ⟨g, hr.of_block (hb.2.2.2.2 b hr.lt hq), hg⟩
theorem Box5.but {w w' : World} {j q : Nat} {x0 x1 x2 : Int} {x3 : ByteArray} {x4 : Int} (h : Box5 w j x0 x1 x2 x3 x4) (hb : But q w w') (hq : j ≠ q) : Box5 w' j x0 x1 x2 x3 x4 := by
  obtain ⟨h0, h1, h2, h3, h4, h5⟩ := h
  exact ⟨Nat.lt_of_lt_of_le h0 hb.2.2.2.1, by rw [hb.cell h0 hq]; exact h1, by rw [hb.cell h0 hq]; exact h2, by rw [hb.cell h0 hq]; exact h3, by rw [hb.cell h0 hq]; exact h4, by rw [hb.cell h0 hq]; exact h5⟩
theorem infoI : (Try.prog.info? 3).map (fun i => (i.zero, i.size, i.bytes)) = some (some (.int .i64 0), 1, 8) := by kernel_rfl
def rowObjI (n : Nat) : Obj := .cells (madeCells #[.int .i64 0] n) 3
theorem mk_rowI (n : Nat) (h : n ≤ 1048576) (w : World) : (Instr.makeSlice 51 (.int .i64 (n : Int)) (.int .i64 (n : Int))).run Try.prog w = .ok (.slice (some ⟨w.heap.size, 0, none⟩) n n) (w.alloc (rowObjI n)) := by
  obtain ⟨i, hi, hz⟩ := Option.map_eq_some_iff.1 infoI
  simp only [Prod.mk.injEq] at hz
  obtain ⟨h1, h2, h3⟩ := hz
  have hr := run_make (P := Try.prog) w 51 3 i _ Try.underlying51 hi h1 .i64 .i64 n n (by omega) (Int.le_refl _) (by rw [h3]; omega) (by omega)
  simp only [Int.toNat_natCast, h2, Nat.mul_one] at hr
  exact hr
theorem rowObjI_is (w : World) (n : Nat) (F : Nat → Value) : RowF (w.alloc (rowObjI n)) w.heap.size 3 n 0 F := by
  have h := World.rowIs_alloc w (madeCells #[.int .i64 0] n) 3 (fun i => (madeCells #[.int .i64 0] n).getD i undef) (fun i hi => by
    rw [Array.getElem?_eq_getElem hi]; exact congrArg some (by rw [Array.getD_eq_getD_getElem?, Array.getElem?_eq_getElem hi]; rfl))
  rw [size_madeCells] at h
  exact ⟨_, h, fun j hj => absurd hj (Nat.not_lt_zero _)⟩
theorem lk_step {M : Nat → FT} {k : Nat} {x0 : Int} (e : (M k).1 = x0) (y : Int) : lk M (k + 1) y = if y = x0 then some (M k) else lk M k y := by
  rw [lk]
  by_cases h : y = x0
  · rw [if_pos h, if_pos (e.trans h.symm)]
  · rw [if_neg h, if_neg (fun q => h (q.symm.trans e))]
def zml : Value := .agg #[.int .i64 0, .map none, .slice none 0 0]
def idF (M : Nat → FT) (j : Nat) : Value := .int .i64 (M j).1
/- A mail in memory: its flights by Id, and the row of their Ids. -/
def Ml (w : World) (base bm br n : Nat) (M : Nat → FT) : Prop := base ≤ bm ∧ base ≤ br ∧ bm ≠ br ∧ MapI w bm n (lk M n) ∧ RowF w br 3 n n (idF M)
set_option maxHeartbeats 2000000 in
theorem mailOf_nx (nx : Int) (a : Option Addr) (n c : Nat) (M : Nat → FT) (w : World) (h : ¬ (0 ≤ nx ∧ nx ≤ 1000000)) :
    Calls Try.prog 23 #[.agg #[.int .i64 nx, .slice a n c]] w fun e w' => ∃ V : Value, e = .returned (.tuple #[V, .bool (netB nx M n)]) ∧ (netB nx M n = false → V = zml) ∧ (netB nx M n = true → ∃ bm br, V = .agg #[.int .i64 nx, .map (some bm), .slice (some ⟨br, 0, none⟩) n n] ∧ Ml w' w.heap.size bm br n M) ∧ Below w.heap.size w w' := by
  have HB : Hid (netB nx M n = false) := netB_nx h
  have z1 : (w.alloc (.cells #[.int .i64 nx, .slice a n c] 26)).heap.size = w.heap.size + 1 := by simp
  have N := (NB.new w nx a n c 26).below (Below.nw _ (.cells #[.int .i64 0, .map none, .slice none 0 0] 53))
  have R := MB.new (w.alloc (.cells #[.int .i64 nx, .slice a n c] 26)) (.int .i64 0) (.map none) (.slice none 0 0) 53
  rw [z1] at R
  have B := (Below.nw w (.cells #[.int .i64 nx, .slice a n c] 26)).trans ((Below.nw (w.alloc (.cells #[.int .i64 nx, .slice a n c] 26)) (.cells #[.int .i64 0, .map none, .slice none 0 0] 53)).mono (by simp))
  by_cases h1 : nx < 0
  · clear h z1
    go_enter Try.func23, Try.ntmps23
    go_upto_region 2 with fail
    generalize (w.alloc (.cells #[.int .i64 nx, .slice a n c] 26)).alloc (.cells #[.int .i64 0, .map none, .slice none 0 0] 53) = wz at *
    have RQ := R.set (.int .i64 0) (.map none) (.slice none 0 0)
    have BQ : Below w.heap.size w (((wz.setCell ⟨w.heap.size + 1, 0, none⟩ (.int .i64 0)).setCell ⟨w.heap.size + 1, 1, none⟩ (.map none)).setCell ⟨w.heap.size + 1, 2, none⟩ (.slice none 0 0)) := ((B.setCell (by simp) _).setCell (by simp) _).setCell (by simp) _
    obtain ⟨r0, r1, r2, r3, r4, r5, r6⟩ := R
    go_wp2_with fail
    generalize (((wz.setCell ⟨w.heap.size + 1, 0, none⟩ (.int .i64 0)).setCell ⟨w.heap.size + 1, 1, none⟩ (.map none)).setCell ⟨w.heap.size + 1, 2, none⟩ (.slice none 0 0)) = wq at *
    obtain ⟨q0, q1, q2, q3, q4, q5, q6⟩ := RQ
    exact bodyPost_ret (v := .tuple #[.agg #[.int .i64 0, .map none, .slice none 0 0], .bool false]) (by simp (maxDischargeDepth := 6) [results, Try.results23, go_sem, q1, q2, q3]) rfl ⟨.agg #[.int .i64 0, .map none, .slice none 0 0], by rw [HB.out], fun _ => rfl, fun h => (by rw [HB.out] at h; cases h), BQ⟩
  · have h2 : 1000000 < nx := by omega
    clear h z1
    go_enter Try.func23, Try.ntmps23
    go_upto_region 2 with fail
    generalize (w.alloc (.cells #[.int .i64 nx, .slice a n c] 26)).alloc (.cells #[.int .i64 0, .map none, .slice none 0 0] 53) = wz at *
    have RQ := R.set (.int .i64 0) (.map none) (.slice none 0 0)
    have BQ : Below w.heap.size w (((wz.setCell ⟨w.heap.size + 1, 0, none⟩ (.int .i64 0)).setCell ⟨w.heap.size + 1, 1, none⟩ (.map none)).setCell ⟨w.heap.size + 1, 2, none⟩ (.slice none 0 0)) := ((B.setCell (by simp) _).setCell (by simp) _).setCell (by simp) _
    obtain ⟨r0, r1, r2, r3, r4, r5, r6⟩ := R
    go_wp2_with fail
    generalize (((wz.setCell ⟨w.heap.size + 1, 0, none⟩ (.int .i64 0)).setCell ⟨w.heap.size + 1, 1, none⟩ (.map none)).setCell ⟨w.heap.size + 1, 2, none⟩ (.slice none 0 0)) = wq at *
    obtain ⟨q0, q1, q2, q3, q4, q5, q6⟩ := RQ
    exact bodyPost_ret (v := .tuple #[.agg #[.int .i64 0, .map none, .slice none 0 0], .bool false]) (by simp (maxDischargeDepth := 6) [results, Try.results23, go_sem, q1, q2, q3]) rfl ⟨.agg #[.int .i64 0, .map none, .slice none 0 0], by rw [HB.out], fun _ => rfl, fun h => (by rw [HB.out] at h; cases h), BQ⟩
set_option maxHeartbeats 2000000 in
theorem mailOf_long (nx : Int) (a : Option Addr) (n c : Nat) (M : Nat → FT) (w : World) (hm : n ≤ maxLen) (h : 0 ≤ nx ∧ nx ≤ 1000000) (hl : ¬ n ≤ 40) :
    Calls Try.prog 23 #[.agg #[.int .i64 nx, .slice a n c]] w fun e w' => ∃ V : Value, e = .returned (.tuple #[V, .bool (netB nx M n)]) ∧ (netB nx M n = false → V = zml) ∧ (netB nx M n = true → ∃ bm br, V = .agg #[.int .i64 nx, .map (some bm), .slice (some ⟨br, 0, none⟩) n n] ∧ Ml w' w.heap.size bm br n M) ∧ Below w.heap.size w w' := by
  have HB : Hid (netB nx M n = false) := netB_long hl
  have z1 : (w.alloc (.cells #[.int .i64 nx, .slice a n c] 26)).heap.size = w.heap.size + 1 := by simp
  have N := (NB.new w nx a n c 26).below (Below.nw _ (.cells #[.int .i64 0, .map none, .slice none 0 0] 53))
  have R := MB.new (w.alloc (.cells #[.int .i64 nx, .slice a n c] 26)) (.int .i64 0) (.map none) (.slice none 0 0) 53
  rw [z1] at R
  have B := (Below.nw w (.cells #[.int .i64 nx, .slice a n c] 26)).trans ((Below.nw (w.alloc (.cells #[.int .i64 nx, .slice a n c] 26)) (.cells #[.int .i64 0, .map none, .slice none 0 0] 53)).mono (by simp))
  unfold maxLen at hm
  have h1 : ¬ nx < 0 := by omega
  have h2 : ¬ 1000000 < nx := by omega
  have h3 : (40 : Int) < (n : Int) := by omega
  clear h z1
  go_enter Try.func23, Try.ntmps23
  go_upto_region 2 with fail
  generalize (w.alloc (.cells #[.int .i64 nx, .slice a n c] 26)).alloc (.cells #[.int .i64 0, .map none, .slice none 0 0] 53) = wz at *
  have RQ := R.set (.int .i64 0) (.map none) (.slice none 0 0)
  have BQ : Below w.heap.size w (((wz.setCell ⟨w.heap.size + 1, 0, none⟩ (.int .i64 0)).setCell ⟨w.heap.size + 1, 1, none⟩ (.map none)).setCell ⟨w.heap.size + 1, 2, none⟩ (.slice none 0 0)) := ((B.setCell (by simp) _).setCell (by simp) _).setCell (by simp) _
  obtain ⟨r0, r1, r2, r3, r4, r5, r6⟩ := R
  go_wp2_with fail
  generalize (((wz.setCell ⟨w.heap.size + 1, 0, none⟩ (.int .i64 0)).setCell ⟨w.heap.size + 1, 1, none⟩ (.map none)).setCell ⟨w.heap.size + 1, 2, none⟩ (.slice none 0 0)) = wq at *
  obtain ⟨q0, q1, q2, q3, q4, q5, q6⟩ := RQ
  exact bodyPost_ret (v := .tuple #[.agg #[.int .i64 0, .map none, .slice none 0 0], .bool false]) (by simp (maxDischargeDepth := 6) [results, Try.results23, go_sem, q1, q2, q3]) rfl ⟨.agg #[.int .i64 0, .map none, .slice none 0 0], by rw [HB.out], fun _ => rfl, fun h => (by rw [HB.out] at h; cases h), BQ⟩
set_option maxRecDepth 100000 in
set_option maxHeartbeats 8000000 in
theorem mailOf_zero (nx : Int) (a : Option Addr) (c : Nat) (M : Nat → FT) (w : World) (h : 0 ≤ nx ∧ nx ≤ 1000000) (n : Nat) (hn : Hid (n = 0)) :
    Calls Try.prog 23 #[.agg #[.int .i64 nx, .slice a n c]] w fun e w' => ∃ V : Value, e = .returned (.tuple #[V, .bool (netB nx M n)]) ∧ (netB nx M n = false → V = zml) ∧ (netB nx M n = true → ∃ bm br, V = .agg #[.int .i64 nx, .map (some bm), .slice (some ⟨br, 0, none⟩) n n] ∧ Ml w' w.heap.size bm br n M) ∧ Below w.heap.size w w' := by
  have z1 : (w.alloc (.cells #[.int .i64 nx, .slice a n c] 26)).heap.size = w.heap.size + 1 := by simp
  have N := (NB.new w nx a n c 26).below (Below.nw _ (.cells #[.int .i64 0, .map none, .slice none 0 0] 53))
  have R := MB.new (w.alloc (.cells #[.int .i64 nx, .slice a n c] 26)) (.int .i64 0) (.map none) (.slice none 0 0) 53
  rw [z1] at R
  have B := (Below.nw w (.cells #[.int .i64 nx, .slice a n c] 26)).trans ((Below.nw (w.alloc (.cells #[.int .i64 nx, .slice a n c] 26)) (.cells #[.int .i64 0, .map none, .slice none 0 0] 53)).mono (by simp))
  have h1 : ¬ nx < 0 := by omega
  have h2 : ¬ 1000000 < nx := by omega
  have hn40 : n ≤ 40 := by have := hn.out; omega
  have h3 : ¬ (40 : Int) < (n : Int) := by omega
  have hmm := run_mkmap n
  have hmr0 := mk_rowI n (by omega)
  have HNX : Hid (0 ≤ nx ∧ nx ≤ 1000000) := h
  clear h z1
  go_enter Try.func23, Try.ntmps23
  go_upto_region 3 with fail
  generalize (w.alloc (.cells #[.int .i64 nx, .slice a n c] 26)).alloc (.cells #[.int .i64 0, .map none, .slice none 0 0] 53) = wz at *
  obtain ⟨n0, n1, n2⟩ := id N
  go_cut [4] (fun s4 wx => ∃ bx bm br : Nat, s4 = .pointer (some ⟨bx, 0, none⟩) ∧ w.heap.size + 1 < bx ∧ w.heap.size + 1 < bm ∧ w.heap.size + 1 < br ∧ bx ≠ bm ∧ bx ≠ br ∧ bm ≠ br ∧ MB wx bx (.int .i64 nx) (.map (some bm)) (.slice (some ⟨br, 0, none⟩) n n) ∧ MapI wx bm 0 (fun _ => none) ∧ RowF wx br 3 n 0 (idF M) ∧ NB wx w.heap.size nx a n c ∧ MB wx (w.heap.size + 1) (.int .i64 0) (.map none) (.slice none 0 0) ∧ Below w.heap.size w wx)
  case first =>
    refine wp_region_held_drew (S := (fun w' => w'.cell? ⟨w.heap.size, 0, none⟩ = some (.int .i64 nx) ∧ w'.cell? ⟨w.heap.size, 1, none⟩ = some (.slice a n c))) (by kernel_rfl) ?_ (fun hHeld => ?_)
    · first | exact ⟨n1, n2⟩ | (simp (maxDischargeDepth := 6) [go_sem, *]; done)
    clear n0 n1 n2
    replace N := N.drew
    replace R := R.drew
    replace B := Below.drew B
    have hR0 : w.heap.size + 1 < wz.drew.heap.size := R.1
    generalize wz.drew = v0 at *
    obtain ⟨n0, n1, n2⟩ := id N
    refine wpAnyH_take (i := 0) (v := ?_) (by rw [List.getElem?_toArray]; rfl) (by kernel_rfl) (by kernel_rfl) (by kernel_rfl) (by intro _ _ _ h; exact h) (Or.inl ⟨by rfl, ?_⟩) (by assumption) ?_
    rotate_left
    · (intro w hSw; (try dsimp only at hSw); go_simp; all_goals with_reducible rfl)
    (try simp only [Act.put, List.setIfInBounds_toArray, List.set_cons_zero, List.set_cons_succ])
    refine wpAnyH_take (i := 1) (v := ?_) (by rw [List.getElem?_toArray]; rfl) (by kernel_rfl) (by kernel_rfl) (by kernel_rfl) (by intro _ _ _ h; exact h) (Or.inl ⟨by rfl, ?_⟩) (by assumption) ?_
    rotate_left
    · (intro w hSw; (try dsimp only at hSw); go_simp; all_goals with_reducible rfl)
    (try simp only [Act.put, List.setIfInBounds_toArray, List.set_cons_zero, List.set_cons_succ])
    refine wpAnyH_take (i := 2) (v := ?_) (by rw [List.getElem?_toArray]; rfl) (by kernel_rfl) (by kernel_rfl) (by kernel_rfl) (by intro _ _ _ h; exact h) (Or.inl ⟨by rfl, ?_⟩) (by assumption) ?_
    rotate_left
    · (intro w hSw; (try dsimp only at hSw); go_simp; all_goals with_reducible rfl)
    (try simp only [Act.put, List.setIfInBounds_toArray, List.set_cons_zero, List.set_cons_succ])
    refine wpAnyH_take (i := 3) (v := ?_) (by rw [List.getElem?_toArray]; rfl) (by kernel_rfl) (by kernel_rfl) (by kernel_rfl) (by intro _ _ _ h; exact h) (Or.inl ⟨by rfl, ?_⟩) (by assumption) ?_
    rotate_left
    · (intro w hSw; (try dsimp only at hSw); go_simp; all_goals with_reducible rfl)
    (try simp only [Act.put, List.setIfInBounds_toArray, List.set_cons_zero, List.set_cons_succ])
    refine wpAnyH_take (i := 4) (v := ?_) (by rw [List.getElem?_toArray]; rfl) (by kernel_rfl) (by kernel_rfl) (by kernel_rfl) (by intro _ _ _ h; exact h) (Or.inl ⟨by rfl, ?_⟩) (by assumption) ?_
    rotate_left
    · (intro w hSw; (try dsimp only at hSw); go_simp; all_goals with_reducible rfl)
    (try simp only [Act.put, List.setIfInBounds_toArray, List.set_cons_zero, List.set_cons_succ])
    refine wpAnyH_take (i := 6) (v := ?_) (by rw [List.getElem?_toArray]; rfl) (by kernel_rfl) (by kernel_rfl) (by kernel_rfl) (by intro _ _ _ h; exact h) (Or.inl ⟨by rfl, ?_⟩) (by assumption) ?_
    rotate_left
    · (intro w hSw; (try dsimp only at hSw); go_simp; all_goals with_reducible rfl)
    (try simp only [Act.put, List.setIfInBounds_toArray, List.set_cons_zero, List.set_cons_succ])
    refine wpAnyH_take (i := 7) (v := ?_) (by rw [List.getElem?_toArray]; rfl) (by kernel_rfl) (by kernel_rfl) (by kernel_rfl) (by intro _ _ _ h; exact h) (Or.inl ⟨by rfl, ?_⟩) (by assumption) ?_
    rotate_left
    · (intro w hSw; (try dsimp only at hSw); go_simp; all_goals with_reducible rfl)
    (try simp only [Act.put, List.setIfInBounds_toArray, List.set_cons_zero, List.set_cons_succ])
    refine wpAnyH_take (i := 8) (v := ?_) (by rw [List.getElem?_toArray]; rfl) (by kernel_rfl) (by kernel_rfl) (by kernel_rfl) (by intro _ _ _ h; exact h) (Or.inl ⟨by rfl, ?_⟩) (by assumption) ?_
    rotate_left
    · (intro w hSw; (try dsimp only at hSw); go_simp; all_goals with_reducible rfl)
    (try simp only [Act.put, List.setIfInBounds_toArray, List.set_cons_zero, List.set_cons_succ])
    refine wpAnyH_ready (rs := [5, 9, 11]) (by kernel_rfl) (by simp) ?_
    refine (AllReadyH.cons (by rw [List.getElem?_toArray]; rfl) (fun K hK => ?_) (AllReadyH.cons (by rw [List.getElem?_toArray]; rfl) (fun K hK => ?_) (AllReadyH.cons (by rw [List.getElem?_toArray]; rfl) (fun K hK => ?_) AllReadyH.nil)))
    · go_simp
      (have A := Below.nw v0 (.map #[] 0)); (have MP := MapI.made v0); (replace N := N.below A); (replace R := R.below A); (have hlt0 : v0.heap.size < (v0.alloc (.map #[] 0)).heap.size := by simp); (replace B := B.trans (A.mono B.size)); clear A n0 n1 n2; (generalize v0.alloc (.map #[] 0) = v1 at *); obtain ⟨n0, n1, n2⟩ := id N
      refine hK.out _ _ ?_ (fun hHeld => ?_)
      · first | exact ⟨n1, n2⟩ | (simp (maxDischargeDepth := 6) [go_sem, *]; done)
      clear hK K
      (try simp only [Act.put, List.setIfInBounds_toArray, List.set_cons_zero, List.set_cons_succ])
      refine wpAnyH_ready (rs := [9, 11]) (by kernel_rfl) (by simp) ?_
      refine (AllReadyH.cons (by rw [List.getElem?_toArray]; rfl) (fun K hK => ?_) (AllReadyH.cons (by rw [List.getElem?_toArray]; rfl) (fun K hK => ?_) AllReadyH.nil))
      · go_simp
        (have A := Below.nw v1 (rowObjI n)); (replace MP := MP.below A); (have RW := rowObjI_is v1 n (idF M)); (replace N := N.below A); (replace R := R.below A); (have hlt1 : v1.heap.size < (v1.alloc (rowObjI n)).heap.size := by simp); (replace B := B.trans (A.mono B.size)); clear A n0 n1 n2; (generalize v1.alloc (rowObjI n) = v2 at *); obtain ⟨n0, n1, n2⟩ := id N
        refine hK.out _ _ ?_ (fun hHeld => ?_)
        · first | exact ⟨n1, n2⟩ | (simp (maxDischargeDepth := 6) [go_sem, *]; done)
        clear hK K
        (try simp only [Act.put, List.setIfInBounds_toArray, List.set_cons_zero, List.set_cons_succ])
        refine wpAnyH_take (i := 10) (v := ?_) (by rw [List.getElem?_toArray]; rfl) (by kernel_rfl) (by kernel_rfl) (by kernel_rfl) (by intro _ _ _ h; exact h) (Or.inl ⟨by rfl, ?_⟩) (by assumption) ?_
        rotate_left
        · (intro w hSw; (try dsimp only at hSw); go_simp; all_goals with_reducible rfl)
        (try simp only [Act.put, List.setIfInBounds_toArray, List.set_cons_zero, List.set_cons_succ])
        refine wpAnyH_ready (rs := [11]) (by kernel_rfl) (by simp) ?_
        refine (AllReadyH.cons (by rw [List.getElem?_toArray]; rfl) (fun K hK => ?_) AllReadyH.nil)
        go_simp
        (have A := Below.nw v2 (.cells #[.int .i64 0, .map none, .slice none 0 0] 53)); (replace MP := MP.below A); (replace RW := RowF.below' A RW); (have X := MB.new v2 (.int .i64 0) (.map none) (.slice none 0 0) 53); (replace N := N.below A); (replace R := R.below A); (have hlt2 : v2.heap.size < (v2.alloc (.cells #[.int .i64 0, .map none, .slice none 0 0] 53)).heap.size := by simp); (replace B := B.trans (A.mono B.size)); clear A n0 n1 n2; (generalize v2.alloc (.cells #[.int .i64 0, .map none, .slice none 0 0] 53) = v3 at *); obtain ⟨n0, n1, n2⟩ := id N; obtain ⟨k0, k1, k2, k3, k4, k5, k6⟩ := id X
        refine hK.out _ _ ?_ (fun hHeld => ?_)
        · first | exact ⟨n1, n2⟩ | (simp (maxDischargeDepth := 6) [go_sem, *]; done)
        clear hK K
        (try simp only [Act.put, List.setIfInBounds_toArray, List.set_cons_zero, List.set_cons_succ])
        refine wpAnyH_ready (rs := [12]) (by kernel_rfl) (by simp) ?_
        refine (AllReadyH.cons (by rw [List.getElem?_toArray]; rfl) (fun K hK => ?_) AllReadyH.nil)
        go_simp
        refine hK.out _ _ ?_ (fun hHeld => ?_)
        · first | exact ⟨n1, n2⟩ | (simp (maxDischargeDepth := 6) [go_sem, *]; done)
        clear hK K
        (try simp only [Act.put, List.setIfInBounds_toArray, List.set_cons_zero, List.set_cons_succ])
        refine wpAnyH_done (by kernel_rfl) ?_ _
        go_wp2_with fail
        go_meet
        case rel =>
          have PB := put3_but v3 (v2.heap.size) (.int .i64 nx) (.map (some (v0.heap.size))) (.slice (some ⟨v1.heap.size, 0, none⟩) n n)
          have l0 := R.1
          exact ⟨v2.heap.size, v0.heap.size, v1.heap.size, rfl, by omega, by omega, by omega, by omega, by omega, by omega, X.set _ _ _, MP.but PB (by omega), RW.but PB (by omega), N.but PB (by omega), R.but PB (by omega), B.trans (PB.below (by omega) B.size)⟩
      · go_simp
        (have A := Below.nw v1 (.cells #[.int .i64 0, .map none, .slice none 0 0] 53)); (replace MP := MP.below A); (have X := MB.new v1 (.int .i64 0) (.map none) (.slice none 0 0) 53); (replace N := N.below A); (replace R := R.below A); (have hlt1 : v1.heap.size < (v1.alloc (.cells #[.int .i64 0, .map none, .slice none 0 0] 53)).heap.size := by simp); (replace B := B.trans (A.mono B.size)); clear A n0 n1 n2; (generalize v1.alloc (.cells #[.int .i64 0, .map none, .slice none 0 0] 53) = v2 at *); obtain ⟨n0, n1, n2⟩ := id N
        refine hK.out _ _ ?_ (fun hHeld => ?_)
        · first | exact ⟨n1, n2⟩ | (simp (maxDischargeDepth := 6) [go_sem, *]; done)
        clear hK K
        (try simp only [Act.put, List.setIfInBounds_toArray, List.set_cons_zero, List.set_cons_succ])
        refine wpAnyH_ready (rs := [9]) (by kernel_rfl) (by simp) ?_
        refine (AllReadyH.cons (by rw [List.getElem?_toArray]; rfl) (fun K hK => ?_) AllReadyH.nil)
        go_simp
        (have A := Below.nw v2 (rowObjI n)); (replace MP := MP.below A); (replace X := X.below A); (have RW := rowObjI_is v2 n (idF M)); (replace N := N.below A); (replace R := R.below A); (have hlt2 : v2.heap.size < (v2.alloc (rowObjI n)).heap.size := by simp); (replace B := B.trans (A.mono B.size)); clear A n0 n1 n2; (generalize v2.alloc (rowObjI n) = v3 at *); obtain ⟨n0, n1, n2⟩ := id N; obtain ⟨k0, k1, k2, k3, k4, k5, k6⟩ := id X
        refine hK.out _ _ ?_ (fun hHeld => ?_)
        · first | exact ⟨n1, n2⟩ | (simp (maxDischargeDepth := 6) [go_sem, *]; done)
        clear hK K
        (try simp only [Act.put, List.setIfInBounds_toArray, List.set_cons_zero, List.set_cons_succ])
        refine wpAnyH_take (i := 10) (v := ?_) (by rw [List.getElem?_toArray]; rfl) (by kernel_rfl) (by kernel_rfl) (by kernel_rfl) (by intro _ _ _ h; exact h) (Or.inl ⟨by rfl, ?_⟩) (by assumption) ?_
        rotate_left
        · (intro w hSw; (try dsimp only at hSw); go_simp; all_goals with_reducible rfl)
        (try simp only [Act.put, List.setIfInBounds_toArray, List.set_cons_zero, List.set_cons_succ])
        refine wpAnyH_ready (rs := [12]) (by kernel_rfl) (by simp) ?_
        refine (AllReadyH.cons (by rw [List.getElem?_toArray]; rfl) (fun K hK => ?_) AllReadyH.nil)
        go_simp
        refine hK.out _ _ ?_ (fun hHeld => ?_)
        · first | exact ⟨n1, n2⟩ | (simp (maxDischargeDepth := 6) [go_sem, *]; done)
        clear hK K
        (try simp only [Act.put, List.setIfInBounds_toArray, List.set_cons_zero, List.set_cons_succ])
        refine wpAnyH_done (by kernel_rfl) ?_ _
        go_wp2_with fail
        go_meet
        case rel =>
          have PB := put3_but v3 (v1.heap.size) (.int .i64 nx) (.map (some (v0.heap.size))) (.slice (some ⟨v2.heap.size, 0, none⟩) n n)
          have l0 := R.1
          exact ⟨v1.heap.size, v0.heap.size, v2.heap.size, rfl, by omega, by omega, by omega, by omega, by omega, by omega, X.set _ _ _, MP.but PB (by omega), RW.but PB (by omega), N.but PB (by omega), R.but PB (by omega), B.trans (PB.below (by omega) B.size)⟩
    · go_simp
      (have A := Below.nw v0 (rowObjI n)); (have RW := rowObjI_is v0 n (idF M)); (replace N := N.below A); (replace R := R.below A); (have hlt0 : v0.heap.size < (v0.alloc (rowObjI n)).heap.size := by simp); (replace B := B.trans (A.mono B.size)); clear A n0 n1 n2; (generalize v0.alloc (rowObjI n) = v1 at *); obtain ⟨n0, n1, n2⟩ := id N
      refine hK.out _ _ ?_ (fun hHeld => ?_)
      · first | exact ⟨n1, n2⟩ | (simp (maxDischargeDepth := 6) [go_sem, *]; done)
      clear hK K
      (try simp only [Act.put, List.setIfInBounds_toArray, List.set_cons_zero, List.set_cons_succ])
      refine wpAnyH_ready (rs := [5, 11]) (by kernel_rfl) (by simp) ?_
      refine (AllReadyH.cons (by rw [List.getElem?_toArray]; rfl) (fun K hK => ?_) (AllReadyH.cons (by rw [List.getElem?_toArray]; rfl) (fun K hK => ?_) AllReadyH.nil))
      · go_simp
        (have A := Below.nw v1 (.map #[] 0)); (replace RW := RowF.below' A RW); (have MP := MapI.made v1); (replace N := N.below A); (replace R := R.below A); (have hlt1 : v1.heap.size < (v1.alloc (.map #[] 0)).heap.size := by simp); (replace B := B.trans (A.mono B.size)); clear A n0 n1 n2; (generalize v1.alloc (.map #[] 0) = v2 at *); obtain ⟨n0, n1, n2⟩ := id N
        refine hK.out _ _ ?_ (fun hHeld => ?_)
        · first | exact ⟨n1, n2⟩ | (simp (maxDischargeDepth := 6) [go_sem, *]; done)
        clear hK K
        (try simp only [Act.put, List.setIfInBounds_toArray, List.set_cons_zero, List.set_cons_succ])
        refine wpAnyH_take (i := 10) (v := ?_) (by rw [List.getElem?_toArray]; rfl) (by kernel_rfl) (by kernel_rfl) (by kernel_rfl) (by intro _ _ _ h; exact h) (Or.inl ⟨by rfl, ?_⟩) (by assumption) ?_
        rotate_left
        · (intro w hSw; (try dsimp only at hSw); go_simp; all_goals with_reducible rfl)
        (try simp only [Act.put, List.setIfInBounds_toArray, List.set_cons_zero, List.set_cons_succ])
        refine wpAnyH_ready (rs := [11]) (by kernel_rfl) (by simp) ?_
        refine (AllReadyH.cons (by rw [List.getElem?_toArray]; rfl) (fun K hK => ?_) AllReadyH.nil)
        go_simp
        (have A := Below.nw v2 (.cells #[.int .i64 0, .map none, .slice none 0 0] 53)); (replace RW := RowF.below' A RW); (replace MP := MP.below A); (have X := MB.new v2 (.int .i64 0) (.map none) (.slice none 0 0) 53); (replace N := N.below A); (replace R := R.below A); (have hlt2 : v2.heap.size < (v2.alloc (.cells #[.int .i64 0, .map none, .slice none 0 0] 53)).heap.size := by simp); (replace B := B.trans (A.mono B.size)); clear A n0 n1 n2; (generalize v2.alloc (.cells #[.int .i64 0, .map none, .slice none 0 0] 53) = v3 at *); obtain ⟨n0, n1, n2⟩ := id N; obtain ⟨k0, k1, k2, k3, k4, k5, k6⟩ := id X
        refine hK.out _ _ ?_ (fun hHeld => ?_)
        · first | exact ⟨n1, n2⟩ | (simp (maxDischargeDepth := 6) [go_sem, *]; done)
        clear hK K
        (try simp only [Act.put, List.setIfInBounds_toArray, List.set_cons_zero, List.set_cons_succ])
        refine wpAnyH_ready (rs := [12]) (by kernel_rfl) (by simp) ?_
        refine (AllReadyH.cons (by rw [List.getElem?_toArray]; rfl) (fun K hK => ?_) AllReadyH.nil)
        go_simp
        refine hK.out _ _ ?_ (fun hHeld => ?_)
        · first | exact ⟨n1, n2⟩ | (simp (maxDischargeDepth := 6) [go_sem, *]; done)
        clear hK K
        (try simp only [Act.put, List.setIfInBounds_toArray, List.set_cons_zero, List.set_cons_succ])
        refine wpAnyH_done (by kernel_rfl) ?_ _
        go_wp2_with fail
        go_meet
        case rel =>
          have PB := put3_but v3 (v2.heap.size) (.int .i64 nx) (.map (some (v1.heap.size))) (.slice (some ⟨v0.heap.size, 0, none⟩) n n)
          have l0 := R.1
          exact ⟨v2.heap.size, v1.heap.size, v0.heap.size, rfl, by omega, by omega, by omega, by omega, by omega, by omega, X.set _ _ _, MP.but PB (by omega), RW.but PB (by omega), N.but PB (by omega), R.but PB (by omega), B.trans (PB.below (by omega) B.size)⟩
      · go_simp
        (have A := Below.nw v1 (.cells #[.int .i64 0, .map none, .slice none 0 0] 53)); (replace RW := RowF.below' A RW); (have X := MB.new v1 (.int .i64 0) (.map none) (.slice none 0 0) 53); (replace N := N.below A); (replace R := R.below A); (have hlt1 : v1.heap.size < (v1.alloc (.cells #[.int .i64 0, .map none, .slice none 0 0] 53)).heap.size := by simp); (replace B := B.trans (A.mono B.size)); clear A n0 n1 n2; (generalize v1.alloc (.cells #[.int .i64 0, .map none, .slice none 0 0] 53) = v2 at *); obtain ⟨n0, n1, n2⟩ := id N
        refine hK.out _ _ ?_ (fun hHeld => ?_)
        · first | exact ⟨n1, n2⟩ | (simp (maxDischargeDepth := 6) [go_sem, *]; done)
        clear hK K
        (try simp only [Act.put, List.setIfInBounds_toArray, List.set_cons_zero, List.set_cons_succ])
        refine wpAnyH_ready (rs := [5]) (by kernel_rfl) (by simp) ?_
        refine (AllReadyH.cons (by rw [List.getElem?_toArray]; rfl) (fun K hK => ?_) AllReadyH.nil)
        go_simp
        (have A := Below.nw v2 (.map #[] 0)); (replace RW := RowF.below' A RW); (replace X := X.below A); (have MP := MapI.made v2); (replace N := N.below A); (replace R := R.below A); (have hlt2 : v2.heap.size < (v2.alloc (.map #[] 0)).heap.size := by simp); (replace B := B.trans (A.mono B.size)); clear A n0 n1 n2; (generalize v2.alloc (.map #[] 0) = v3 at *); obtain ⟨n0, n1, n2⟩ := id N; obtain ⟨k0, k1, k2, k3, k4, k5, k6⟩ := id X
        refine hK.out _ _ ?_ (fun hHeld => ?_)
        · first | exact ⟨n1, n2⟩ | (simp (maxDischargeDepth := 6) [go_sem, *]; done)
        clear hK K
        (try simp only [Act.put, List.setIfInBounds_toArray, List.set_cons_zero, List.set_cons_succ])
        refine wpAnyH_take (i := 10) (v := ?_) (by rw [List.getElem?_toArray]; rfl) (by kernel_rfl) (by kernel_rfl) (by kernel_rfl) (by intro _ _ _ h; exact h) (Or.inl ⟨by rfl, ?_⟩) (by assumption) ?_
        rotate_left
        · (intro w hSw; (try dsimp only at hSw); go_simp; all_goals with_reducible rfl)
        (try simp only [Act.put, List.setIfInBounds_toArray, List.set_cons_zero, List.set_cons_succ])
        refine wpAnyH_ready (rs := [12]) (by kernel_rfl) (by simp) ?_
        refine (AllReadyH.cons (by rw [List.getElem?_toArray]; rfl) (fun K hK => ?_) AllReadyH.nil)
        go_simp
        refine hK.out _ _ ?_ (fun hHeld => ?_)
        · first | exact ⟨n1, n2⟩ | (simp (maxDischargeDepth := 6) [go_sem, *]; done)
        clear hK K
        (try simp only [Act.put, List.setIfInBounds_toArray, List.set_cons_zero, List.set_cons_succ])
        refine wpAnyH_done (by kernel_rfl) ?_ _
        go_wp2_with fail
        go_meet
        case rel =>
          have PB := put3_but v3 (v1.heap.size) (.int .i64 nx) (.map (some (v2.heap.size))) (.slice (some ⟨v0.heap.size, 0, none⟩) n n)
          have l0 := R.1
          exact ⟨v1.heap.size, v2.heap.size, v0.heap.size, rfl, by omega, by omega, by omega, by omega, by omega, by omega, X.set _ _ _, MP.but PB (by omega), RW.but PB (by omega), N.but PB (by omega), R.but PB (by omega), B.trans (PB.below (by omega) B.size)⟩
    · go_simp
      (have A := Below.nw v0 (.cells #[.int .i64 0, .map none, .slice none 0 0] 53)); (have X := MB.new v0 (.int .i64 0) (.map none) (.slice none 0 0) 53); (replace N := N.below A); (replace R := R.below A); (have hlt0 : v0.heap.size < (v0.alloc (.cells #[.int .i64 0, .map none, .slice none 0 0] 53)).heap.size := by simp); (replace B := B.trans (A.mono B.size)); clear A n0 n1 n2; (generalize v0.alloc (.cells #[.int .i64 0, .map none, .slice none 0 0] 53) = v1 at *); obtain ⟨n0, n1, n2⟩ := id N
      refine hK.out _ _ ?_ (fun hHeld => ?_)
      · first | exact ⟨n1, n2⟩ | (simp (maxDischargeDepth := 6) [go_sem, *]; done)
      clear hK K
      (try simp only [Act.put, List.setIfInBounds_toArray, List.set_cons_zero, List.set_cons_succ])
      refine wpAnyH_ready (rs := [5, 9]) (by kernel_rfl) (by simp) ?_
      refine (AllReadyH.cons (by rw [List.getElem?_toArray]; rfl) (fun K hK => ?_) (AllReadyH.cons (by rw [List.getElem?_toArray]; rfl) (fun K hK => ?_) AllReadyH.nil))
      · go_simp
        (have A := Below.nw v1 (.map #[] 0)); (replace X := X.below A); (have MP := MapI.made v1); (replace N := N.below A); (replace R := R.below A); (have hlt1 : v1.heap.size < (v1.alloc (.map #[] 0)).heap.size := by simp); (replace B := B.trans (A.mono B.size)); clear A n0 n1 n2; (generalize v1.alloc (.map #[] 0) = v2 at *); obtain ⟨n0, n1, n2⟩ := id N
        refine hK.out _ _ ?_ (fun hHeld => ?_)
        · first | exact ⟨n1, n2⟩ | (simp (maxDischargeDepth := 6) [go_sem, *]; done)
        clear hK K
        (try simp only [Act.put, List.setIfInBounds_toArray, List.set_cons_zero, List.set_cons_succ])
        refine wpAnyH_ready (rs := [9]) (by kernel_rfl) (by simp) ?_
        refine (AllReadyH.cons (by rw [List.getElem?_toArray]; rfl) (fun K hK => ?_) AllReadyH.nil)
        go_simp
        (have A := Below.nw v2 (rowObjI n)); (replace X := X.below A); (replace MP := MP.below A); (have RW := rowObjI_is v2 n (idF M)); (replace N := N.below A); (replace R := R.below A); (have hlt2 : v2.heap.size < (v2.alloc (rowObjI n)).heap.size := by simp); (replace B := B.trans (A.mono B.size)); clear A n0 n1 n2; (generalize v2.alloc (rowObjI n) = v3 at *); obtain ⟨n0, n1, n2⟩ := id N; obtain ⟨k0, k1, k2, k3, k4, k5, k6⟩ := id X
        refine hK.out _ _ ?_ (fun hHeld => ?_)
        · first | exact ⟨n1, n2⟩ | (simp (maxDischargeDepth := 6) [go_sem, *]; done)
        clear hK K
        (try simp only [Act.put, List.setIfInBounds_toArray, List.set_cons_zero, List.set_cons_succ])
        refine wpAnyH_take (i := 10) (v := ?_) (by rw [List.getElem?_toArray]; rfl) (by kernel_rfl) (by kernel_rfl) (by kernel_rfl) (by intro _ _ _ h; exact h) (Or.inl ⟨by rfl, ?_⟩) (by assumption) ?_
        rotate_left
        · (intro w hSw; (try dsimp only at hSw); go_simp; all_goals with_reducible rfl)
        (try simp only [Act.put, List.setIfInBounds_toArray, List.set_cons_zero, List.set_cons_succ])
        refine wpAnyH_ready (rs := [12]) (by kernel_rfl) (by simp) ?_
        refine (AllReadyH.cons (by rw [List.getElem?_toArray]; rfl) (fun K hK => ?_) AllReadyH.nil)
        go_simp
        refine hK.out _ _ ?_ (fun hHeld => ?_)
        · first | exact ⟨n1, n2⟩ | (simp (maxDischargeDepth := 6) [go_sem, *]; done)
        clear hK K
        (try simp only [Act.put, List.setIfInBounds_toArray, List.set_cons_zero, List.set_cons_succ])
        refine wpAnyH_done (by kernel_rfl) ?_ _
        go_wp2_with fail
        go_meet
        case rel =>
          have PB := put3_but v3 (v0.heap.size) (.int .i64 nx) (.map (some (v1.heap.size))) (.slice (some ⟨v2.heap.size, 0, none⟩) n n)
          have l0 := R.1
          exact ⟨v0.heap.size, v1.heap.size, v2.heap.size, rfl, by omega, by omega, by omega, by omega, by omega, by omega, X.set _ _ _, MP.but PB (by omega), RW.but PB (by omega), N.but PB (by omega), R.but PB (by omega), B.trans (PB.below (by omega) B.size)⟩
      · go_simp
        (have A := Below.nw v1 (rowObjI n)); (replace X := X.below A); (have RW := rowObjI_is v1 n (idF M)); (replace N := N.below A); (replace R := R.below A); (have hlt1 : v1.heap.size < (v1.alloc (rowObjI n)).heap.size := by simp); (replace B := B.trans (A.mono B.size)); clear A n0 n1 n2; (generalize v1.alloc (rowObjI n) = v2 at *); obtain ⟨n0, n1, n2⟩ := id N
        refine hK.out _ _ ?_ (fun hHeld => ?_)
        · first | exact ⟨n1, n2⟩ | (simp (maxDischargeDepth := 6) [go_sem, *]; done)
        clear hK K
        (try simp only [Act.put, List.setIfInBounds_toArray, List.set_cons_zero, List.set_cons_succ])
        refine wpAnyH_ready (rs := [5]) (by kernel_rfl) (by simp) ?_
        refine (AllReadyH.cons (by rw [List.getElem?_toArray]; rfl) (fun K hK => ?_) AllReadyH.nil)
        go_simp
        (have A := Below.nw v2 (.map #[] 0)); (replace X := X.below A); (replace RW := RowF.below' A RW); (have MP := MapI.made v2); (replace N := N.below A); (replace R := R.below A); (have hlt2 : v2.heap.size < (v2.alloc (.map #[] 0)).heap.size := by simp); (replace B := B.trans (A.mono B.size)); clear A n0 n1 n2; (generalize v2.alloc (.map #[] 0) = v3 at *); obtain ⟨n0, n1, n2⟩ := id N; obtain ⟨k0, k1, k2, k3, k4, k5, k6⟩ := id X
        refine hK.out _ _ ?_ (fun hHeld => ?_)
        · first | exact ⟨n1, n2⟩ | (simp (maxDischargeDepth := 6) [go_sem, *]; done)
        clear hK K
        (try simp only [Act.put, List.setIfInBounds_toArray, List.set_cons_zero, List.set_cons_succ])
        refine wpAnyH_take (i := 10) (v := ?_) (by rw [List.getElem?_toArray]; rfl) (by kernel_rfl) (by kernel_rfl) (by kernel_rfl) (by intro _ _ _ h; exact h) (Or.inl ⟨by rfl, ?_⟩) (by assumption) ?_
        rotate_left
        · (intro w hSw; (try dsimp only at hSw); go_simp; all_goals with_reducible rfl)
        (try simp only [Act.put, List.setIfInBounds_toArray, List.set_cons_zero, List.set_cons_succ])
        refine wpAnyH_ready (rs := [12]) (by kernel_rfl) (by simp) ?_
        refine (AllReadyH.cons (by rw [List.getElem?_toArray]; rfl) (fun K hK => ?_) AllReadyH.nil)
        go_simp
        refine hK.out _ _ ?_ (fun hHeld => ?_)
        · first | exact ⟨n1, n2⟩ | (simp (maxDischargeDepth := 6) [go_sem, *]; done)
        clear hK K
        (try simp only [Act.put, List.setIfInBounds_toArray, List.set_cons_zero, List.set_cons_succ])
        refine wpAnyH_done (by kernel_rfl) ?_ _
        go_wp2_with fail
        go_meet
        case rel =>
          have PB := put3_but v3 (v0.heap.size) (.int .i64 nx) (.map (some (v2.heap.size))) (.slice (some ⟨v1.heap.size, 0, none⟩) n n)
          have l0 := R.1
          exact ⟨v0.heap.size, v2.heap.size, v1.heap.size, rfl, by omega, by omega, by omega, by omega, by omega, by omega, X.set _ _ _, MP.but PB (by omega), RW.but PB (by omega), N.but PB (by omega), R.but PB (by omega), B.trans (PB.below (by omega) B.size)⟩
  case rest =>
    obtain ⟨bx, bm, br, rfl, hbx, hbm, hbr, hxm, hxr, hmr, X, MP, RW, N', R', B'⟩ := hcut
    clear N R B hmm hmr0
    have N := N'
    have R := R'
    have B := B'
    clear N' R' B'
    obtain rfl := hn.out
    have HG : Hid (netB nx M 0 = true) := netB_ok HNX.out (by omega) rfl
    obtain ⟨n0, n1, n2⟩ := id N
    go_wp2_with fail
    go_loopw [38] (fun i wr => i = .int .i64 0 ∧ wc = wr) (fun i _ => 0)
    case atStart => exact ⟨rfl, by first | rfl | trivial⟩
    case round =>
      obtain ⟨rfl, rfl⟩ := hrel
      replace MP : MapI wc bm 0 (lk M 0) := MP
      have RQ := R.set (.int .i64 nx) (.map (some bm)) (.slice (some ⟨br, 0, none⟩) 0 0)
      have PB := put3_but wc (w.heap.size + 1) (.int .i64 nx) (.map (some bm)) (.slice (some ⟨br, 0, none⟩) 0 0)
      have MQ : Ml (((wc.setCell ⟨w.heap.size + 1, 0, none⟩ (.int .i64 nx)).setCell ⟨w.heap.size + 1, 1, none⟩ (.map (some bm))).setCell ⟨w.heap.size + 1, 2, none⟩ (.slice (some ⟨br, 0, none⟩) 0 0)) w.heap.size bm br 0 M := ⟨by omega, by omega, hmr, MP.but PB (by omega), RW.but PB (by omega)⟩
      have BQ := B.trans (PB.below (B := w.heap.size) (by omega) B.size)
      obtain ⟨r0, r1, r2, r3, r4, r5, r6⟩ := R
      obtain ⟨y0, y1, y2, y3, -, -, -⟩ := X
      go_wp2_with fail
      clear MP RW
      generalize (((wc.setCell ⟨w.heap.size + 1, 0, none⟩ (.int .i64 nx)).setCell ⟨w.heap.size + 1, 1, none⟩ (.map (some bm))).setCell ⟨w.heap.size + 1, 2, none⟩ (.slice (some ⟨br, 0, none⟩) 0 0)) = wq at *
      obtain ⟨q0, q1, q2, q3, q4, q5, q6⟩ := RQ
      exact bodyPost_ret (v := .tuple #[.agg #[.int .i64 nx, .map (some bm), .slice (some ⟨br, 0, none⟩) 0 0], .bool true]) (by simp (maxDischargeDepth := 6) [results, Try.results23, go_sem, q1, q2, q3]) rfl ⟨.agg #[.int .i64 nx, .map (some bm), .slice (some ⟨br, 0, none⟩) 0 0], by rw [HG.out], fun h => (by rw [HG.out] at h; cases h), fun _ => ⟨bm, br, rfl, MQ⟩, BQ⟩
end Go.Proofs.Ytgfhcilhibbooaa
namespace Go.Proofs.Ytgfhcilhibbooaa
open Go.RowKit
set_option linter.unusedVariables false
set_option maxRecDepth 100000 in
set_option maxHeartbeats 16000000 in
theorem mailOf_some (nx : Int) (b off n c : Nat) (M : Nat → FT) (w : World) (h : 0 ≤ nx ∧ nx ≤ 1000000) (hn : n ≤ 40) (hf : Cs w b off (n * 5) (MFFlight M)) (hs : ∀ i, i < n → ((M i).2.2.2.1).size ≤ maxLen) (hw : ∀ i, i < n → (Lit.int .i64 (M i).1).wf = true) :
    Calls Try.prog 23 #[.agg #[.int .i64 nx, .slice (some ⟨b, off, none⟩) n c]] w fun e w' => ∃ V : Value, e = .returned (.tuple #[V, .bool (netB nx M n)]) ∧ (netB nx M n = false → V = zml) ∧ (netB nx M n = true → ∃ bm br, V = .agg #[.int .i64 nx, .map (some bm), .slice (some ⟨br, 0, none⟩) n n] ∧ Ml w' w.heap.size bm br n M) ∧ Below w.heap.size w w' := by
  have HF : Hid (Cs w b off (n * 5) (MFFlight M)) := hf
  have HS : Hid (∀ i, i < n → ((M i).2.2.2.1).size ≤ maxLen) := hs
  have HW : Hid (∀ i, i < n → (Lit.int .i64 (M i).1).wf = true) := hw
  have bw := hf.1
  clear hf hs hw
  have z1 : (w.alloc (.cells #[.int .i64 nx, .slice (some ⟨b, off, none⟩) n c] 26)).heap.size = w.heap.size + 1 := by simp
  have N := (NB.new w nx (some ⟨b, off, none⟩) n c 26).below (Below.nw _ (.cells #[.int .i64 0, .map none, .slice none 0 0] 53))
  have R := MB.new (w.alloc (.cells #[.int .i64 nx, .slice (some ⟨b, off, none⟩) n c] 26)) (.int .i64 0) (.map none) (.slice none 0 0) 53
  rw [z1] at R
  have B := (Below.nw w (.cells #[.int .i64 nx, .slice (some ⟨b, off, none⟩) n c] 26)).trans ((Below.nw (w.alloc (.cells #[.int .i64 nx, .slice (some ⟨b, off, none⟩) n c] 26)) (.cells #[.int .i64 0, .map none, .slice none 0 0] 53)).mono (by simp))
  have h1 : ¬ nx < 0 := by omega
  have h2 : ¬ 1000000 < nx := by omega
  have hn40 : n ≤ 40 := hn
  have h3 : ¬ (40 : Int) < (n : Int) := by omega
  have hmm := run_mkmap n
  have hmr0 := mk_rowI n (by omega)
  have HNX : Hid (0 ≤ nx ∧ nx ≤ 1000000) := h
  clear h z1
  go_enter Try.func23, Try.ntmps23
  go_upto_region 3 with fail
  generalize (w.alloc (.cells #[.int .i64 nx, .slice (some ⟨b, off, none⟩) n c] 26)).alloc (.cells #[.int .i64 0, .map none, .slice none 0 0] 53) = wz at *
  obtain ⟨n0, n1, n2⟩ := id N
  go_cut [4] (fun s4 wx => ∃ bx bm br : Nat, s4 = .pointer (some ⟨bx, 0, none⟩) ∧ w.heap.size + 1 < bx ∧ w.heap.size + 1 < bm ∧ w.heap.size + 1 < br ∧ bx ≠ bm ∧ bx ≠ br ∧ bm ≠ br ∧ MB wx bx (.int .i64 nx) (.map (some bm)) (.slice (some ⟨br, 0, none⟩) n n) ∧ MapI wx bm 0 (fun _ => none) ∧ RowF wx br 3 n 0 (idF M) ∧ NB wx w.heap.size nx (some ⟨b, off, none⟩) n c ∧ MB wx (w.heap.size + 1) (.int .i64 0) (.map none) (.slice none 0 0) ∧ Below w.heap.size w wx)
  case first =>
    refine wp_region_held_drew (S := (fun w' => w'.cell? ⟨w.heap.size, 0, none⟩ = some (.int .i64 nx) ∧ w'.cell? ⟨w.heap.size, 1, none⟩ = some (.slice (some ⟨b, off, none⟩) n c))) (by kernel_rfl) ?_ (fun hHeld => ?_)
    · first | exact ⟨n1, n2⟩ | (simp (maxDischargeDepth := 6) [go_sem, *]; done)
    clear n0 n1 n2
    replace N := N.drew
    replace R := R.drew
    replace B := Below.drew B
    have hR0 : w.heap.size + 1 < wz.drew.heap.size := R.1
    generalize wz.drew = v0 at *
    obtain ⟨n0, n1, n2⟩ := id N
    refine wpAnyH_take (i := 0) (v := ?_) (by rw [List.getElem?_toArray]; rfl) (by kernel_rfl) (by kernel_rfl) (by kernel_rfl) (by intro _ _ _ h; exact h) (Or.inl ⟨by rfl, ?_⟩) (by assumption) ?_
    rotate_left
    · (intro w hSw; (try dsimp only at hSw); go_simp; all_goals with_reducible rfl)
    (try simp only [Act.put, List.setIfInBounds_toArray, List.set_cons_zero, List.set_cons_succ])
    refine wpAnyH_take (i := 1) (v := ?_) (by rw [List.getElem?_toArray]; rfl) (by kernel_rfl) (by kernel_rfl) (by kernel_rfl) (by intro _ _ _ h; exact h) (Or.inl ⟨by rfl, ?_⟩) (by assumption) ?_
    rotate_left
    · (intro w hSw; (try dsimp only at hSw); go_simp; all_goals with_reducible rfl)
    (try simp only [Act.put, List.setIfInBounds_toArray, List.set_cons_zero, List.set_cons_succ])
    refine wpAnyH_take (i := 2) (v := ?_) (by rw [List.getElem?_toArray]; rfl) (by kernel_rfl) (by kernel_rfl) (by kernel_rfl) (by intro _ _ _ h; exact h) (Or.inl ⟨by rfl, ?_⟩) (by assumption) ?_
    rotate_left
    · (intro w hSw; (try dsimp only at hSw); go_simp; all_goals with_reducible rfl)
    (try simp only [Act.put, List.setIfInBounds_toArray, List.set_cons_zero, List.set_cons_succ])
    refine wpAnyH_take (i := 3) (v := ?_) (by rw [List.getElem?_toArray]; rfl) (by kernel_rfl) (by kernel_rfl) (by kernel_rfl) (by intro _ _ _ h; exact h) (Or.inl ⟨by rfl, ?_⟩) (by assumption) ?_
    rotate_left
    · (intro w hSw; (try dsimp only at hSw); go_simp; all_goals with_reducible rfl)
    (try simp only [Act.put, List.setIfInBounds_toArray, List.set_cons_zero, List.set_cons_succ])
    refine wpAnyH_take (i := 4) (v := ?_) (by rw [List.getElem?_toArray]; rfl) (by kernel_rfl) (by kernel_rfl) (by kernel_rfl) (by intro _ _ _ h; exact h) (Or.inl ⟨by rfl, ?_⟩) (by assumption) ?_
    rotate_left
    · (intro w hSw; (try dsimp only at hSw); go_simp; all_goals with_reducible rfl)
    (try simp only [Act.put, List.setIfInBounds_toArray, List.set_cons_zero, List.set_cons_succ])
    refine wpAnyH_take (i := 6) (v := ?_) (by rw [List.getElem?_toArray]; rfl) (by kernel_rfl) (by kernel_rfl) (by kernel_rfl) (by intro _ _ _ h; exact h) (Or.inl ⟨by rfl, ?_⟩) (by assumption) ?_
    rotate_left
    · (intro w hSw; (try dsimp only at hSw); go_simp; all_goals with_reducible rfl)
    (try simp only [Act.put, List.setIfInBounds_toArray, List.set_cons_zero, List.set_cons_succ])
    refine wpAnyH_take (i := 7) (v := ?_) (by rw [List.getElem?_toArray]; rfl) (by kernel_rfl) (by kernel_rfl) (by kernel_rfl) (by intro _ _ _ h; exact h) (Or.inl ⟨by rfl, ?_⟩) (by assumption) ?_
    rotate_left
    · (intro w hSw; (try dsimp only at hSw); go_simp; all_goals with_reducible rfl)
    (try simp only [Act.put, List.setIfInBounds_toArray, List.set_cons_zero, List.set_cons_succ])
    refine wpAnyH_take (i := 8) (v := ?_) (by rw [List.getElem?_toArray]; rfl) (by kernel_rfl) (by kernel_rfl) (by kernel_rfl) (by intro _ _ _ h; exact h) (Or.inl ⟨by rfl, ?_⟩) (by assumption) ?_
    rotate_left
    · (intro w hSw; (try dsimp only at hSw); go_simp; all_goals with_reducible rfl)
    (try simp only [Act.put, List.setIfInBounds_toArray, List.set_cons_zero, List.set_cons_succ])
    refine wpAnyH_ready (rs := [5, 9, 11]) (by kernel_rfl) (by simp) ?_
    refine (AllReadyH.cons (by rw [List.getElem?_toArray]; rfl) (fun K hK => ?_) (AllReadyH.cons (by rw [List.getElem?_toArray]; rfl) (fun K hK => ?_) (AllReadyH.cons (by rw [List.getElem?_toArray]; rfl) (fun K hK => ?_) AllReadyH.nil)))
    · go_simp
      (have A := Below.nw v0 (.map #[] 0)); (have MP := MapI.made v0); (replace N := N.below A); (replace R := R.below A); (have hlt0 : v0.heap.size < (v0.alloc (.map #[] 0)).heap.size := by simp); (replace B := B.trans (A.mono B.size)); clear A n0 n1 n2; (generalize v0.alloc (.map #[] 0) = v1 at *); obtain ⟨n0, n1, n2⟩ := id N
      refine hK.out _ _ ?_ (fun hHeld => ?_)
      · first | exact ⟨n1, n2⟩ | (simp (maxDischargeDepth := 6) [go_sem, *]; done)
      clear hK K
      (try simp only [Act.put, List.setIfInBounds_toArray, List.set_cons_zero, List.set_cons_succ])
      refine wpAnyH_ready (rs := [9, 11]) (by kernel_rfl) (by simp) ?_
      refine (AllReadyH.cons (by rw [List.getElem?_toArray]; rfl) (fun K hK => ?_) (AllReadyH.cons (by rw [List.getElem?_toArray]; rfl) (fun K hK => ?_) AllReadyH.nil))
      · go_simp
        (have A := Below.nw v1 (rowObjI n)); (replace MP := MP.below A); (have RW := rowObjI_is v1 n (idF M)); (replace N := N.below A); (replace R := R.below A); (have hlt1 : v1.heap.size < (v1.alloc (rowObjI n)).heap.size := by simp); (replace B := B.trans (A.mono B.size)); clear A n0 n1 n2; (generalize v1.alloc (rowObjI n) = v2 at *); obtain ⟨n0, n1, n2⟩ := id N
        refine hK.out _ _ ?_ (fun hHeld => ?_)
        · first | exact ⟨n1, n2⟩ | (simp (maxDischargeDepth := 6) [go_sem, *]; done)
        clear hK K
        (try simp only [Act.put, List.setIfInBounds_toArray, List.set_cons_zero, List.set_cons_succ])
        refine wpAnyH_take (i := 10) (v := ?_) (by rw [List.getElem?_toArray]; rfl) (by kernel_rfl) (by kernel_rfl) (by kernel_rfl) (by intro _ _ _ h; exact h) (Or.inl ⟨by rfl, ?_⟩) (by assumption) ?_
        rotate_left
        · (intro w hSw; (try dsimp only at hSw); go_simp; all_goals with_reducible rfl)
        (try simp only [Act.put, List.setIfInBounds_toArray, List.set_cons_zero, List.set_cons_succ])
        refine wpAnyH_ready (rs := [11]) (by kernel_rfl) (by simp) ?_
        refine (AllReadyH.cons (by rw [List.getElem?_toArray]; rfl) (fun K hK => ?_) AllReadyH.nil)
        go_simp
        (have A := Below.nw v2 (.cells #[.int .i64 0, .map none, .slice none 0 0] 53)); (replace MP := MP.below A); (replace RW := RowF.below' A RW); (have X := MB.new v2 (.int .i64 0) (.map none) (.slice none 0 0) 53); (replace N := N.below A); (replace R := R.below A); (have hlt2 : v2.heap.size < (v2.alloc (.cells #[.int .i64 0, .map none, .slice none 0 0] 53)).heap.size := by simp); (replace B := B.trans (A.mono B.size)); clear A n0 n1 n2; (generalize v2.alloc (.cells #[.int .i64 0, .map none, .slice none 0 0] 53) = v3 at *); obtain ⟨n0, n1, n2⟩ := id N; obtain ⟨k0, k1, k2, k3, k4, k5, k6⟩ := id X
        refine hK.out _ _ ?_ (fun hHeld => ?_)
        · first | exact ⟨n1, n2⟩ | (simp (maxDischargeDepth := 6) [go_sem, *]; done)
        clear hK K
        (try simp only [Act.put, List.setIfInBounds_toArray, List.set_cons_zero, List.set_cons_succ])
        refine wpAnyH_ready (rs := [12]) (by kernel_rfl) (by simp) ?_
        refine (AllReadyH.cons (by rw [List.getElem?_toArray]; rfl) (fun K hK => ?_) AllReadyH.nil)
        go_simp
        refine hK.out _ _ ?_ (fun hHeld => ?_)
        · first | exact ⟨n1, n2⟩ | (simp (maxDischargeDepth := 6) [go_sem, *]; done)
        clear hK K
        (try simp only [Act.put, List.setIfInBounds_toArray, List.set_cons_zero, List.set_cons_succ])
        refine wpAnyH_done (by kernel_rfl) ?_ _
        go_wp2_with fail
        go_meet
        case rel =>
          have PB := put3_but v3 (v2.heap.size) (.int .i64 nx) (.map (some (v0.heap.size))) (.slice (some ⟨v1.heap.size, 0, none⟩) n n)
          have l0 := R.1
          exact ⟨v2.heap.size, v0.heap.size, v1.heap.size, rfl, by omega, by omega, by omega, by omega, by omega, by omega, X.set _ _ _, MP.but PB (by omega), RW.but PB (by omega), N.but PB (by omega), R.but PB (by omega), B.trans (PB.below (by omega) B.size)⟩
      · go_simp
        (have A := Below.nw v1 (.cells #[.int .i64 0, .map none, .slice none 0 0] 53)); (replace MP := MP.below A); (have X := MB.new v1 (.int .i64 0) (.map none) (.slice none 0 0) 53); (replace N := N.below A); (replace R := R.below A); (have hlt1 : v1.heap.size < (v1.alloc (.cells #[.int .i64 0, .map none, .slice none 0 0] 53)).heap.size := by simp); (replace B := B.trans (A.mono B.size)); clear A n0 n1 n2; (generalize v1.alloc (.cells #[.int .i64 0, .map none, .slice none 0 0] 53) = v2 at *); obtain ⟨n0, n1, n2⟩ := id N
        refine hK.out _ _ ?_ (fun hHeld => ?_)
        · first | exact ⟨n1, n2⟩ | (simp (maxDischargeDepth := 6) [go_sem, *]; done)
        clear hK K
        (try simp only [Act.put, List.setIfInBounds_toArray, List.set_cons_zero, List.set_cons_succ])
        refine wpAnyH_ready (rs := [9]) (by kernel_rfl) (by simp) ?_
        refine (AllReadyH.cons (by rw [List.getElem?_toArray]; rfl) (fun K hK => ?_) AllReadyH.nil)
        go_simp
        (have A := Below.nw v2 (rowObjI n)); (replace MP := MP.below A); (replace X := X.below A); (have RW := rowObjI_is v2 n (idF M)); (replace N := N.below A); (replace R := R.below A); (have hlt2 : v2.heap.size < (v2.alloc (rowObjI n)).heap.size := by simp); (replace B := B.trans (A.mono B.size)); clear A n0 n1 n2; (generalize v2.alloc (rowObjI n) = v3 at *); obtain ⟨n0, n1, n2⟩ := id N; obtain ⟨k0, k1, k2, k3, k4, k5, k6⟩ := id X
        refine hK.out _ _ ?_ (fun hHeld => ?_)
        · first | exact ⟨n1, n2⟩ | (simp (maxDischargeDepth := 6) [go_sem, *]; done)
        clear hK K
        (try simp only [Act.put, List.setIfInBounds_toArray, List.set_cons_zero, List.set_cons_succ])
        refine wpAnyH_take (i := 10) (v := ?_) (by rw [List.getElem?_toArray]; rfl) (by kernel_rfl) (by kernel_rfl) (by kernel_rfl) (by intro _ _ _ h; exact h) (Or.inl ⟨by rfl, ?_⟩) (by assumption) ?_
        rotate_left
        · (intro w hSw; (try dsimp only at hSw); go_simp; all_goals with_reducible rfl)
        (try simp only [Act.put, List.setIfInBounds_toArray, List.set_cons_zero, List.set_cons_succ])
        refine wpAnyH_ready (rs := [12]) (by kernel_rfl) (by simp) ?_
        refine (AllReadyH.cons (by rw [List.getElem?_toArray]; rfl) (fun K hK => ?_) AllReadyH.nil)
        go_simp
        refine hK.out _ _ ?_ (fun hHeld => ?_)
        · first | exact ⟨n1, n2⟩ | (simp (maxDischargeDepth := 6) [go_sem, *]; done)
        clear hK K
        (try simp only [Act.put, List.setIfInBounds_toArray, List.set_cons_zero, List.set_cons_succ])
        refine wpAnyH_done (by kernel_rfl) ?_ _
        go_wp2_with fail
        go_meet
        case rel =>
          have PB := put3_but v3 (v1.heap.size) (.int .i64 nx) (.map (some (v0.heap.size))) (.slice (some ⟨v2.heap.size, 0, none⟩) n n)
          have l0 := R.1
          exact ⟨v1.heap.size, v0.heap.size, v2.heap.size, rfl, by omega, by omega, by omega, by omega, by omega, by omega, X.set _ _ _, MP.but PB (by omega), RW.but PB (by omega), N.but PB (by omega), R.but PB (by omega), B.trans (PB.below (by omega) B.size)⟩
    · go_simp
      (have A := Below.nw v0 (rowObjI n)); (have RW := rowObjI_is v0 n (idF M)); (replace N := N.below A); (replace R := R.below A); (have hlt0 : v0.heap.size < (v0.alloc (rowObjI n)).heap.size := by simp); (replace B := B.trans (A.mono B.size)); clear A n0 n1 n2; (generalize v0.alloc (rowObjI n) = v1 at *); obtain ⟨n0, n1, n2⟩ := id N
      refine hK.out _ _ ?_ (fun hHeld => ?_)
      · first | exact ⟨n1, n2⟩ | (simp (maxDischargeDepth := 6) [go_sem, *]; done)
      clear hK K
      (try simp only [Act.put, List.setIfInBounds_toArray, List.set_cons_zero, List.set_cons_succ])
      refine wpAnyH_ready (rs := [5, 11]) (by kernel_rfl) (by simp) ?_
      refine (AllReadyH.cons (by rw [List.getElem?_toArray]; rfl) (fun K hK => ?_) (AllReadyH.cons (by rw [List.getElem?_toArray]; rfl) (fun K hK => ?_) AllReadyH.nil))
      · go_simp
        (have A := Below.nw v1 (.map #[] 0)); (replace RW := RowF.below' A RW); (have MP := MapI.made v1); (replace N := N.below A); (replace R := R.below A); (have hlt1 : v1.heap.size < (v1.alloc (.map #[] 0)).heap.size := by simp); (replace B := B.trans (A.mono B.size)); clear A n0 n1 n2; (generalize v1.alloc (.map #[] 0) = v2 at *); obtain ⟨n0, n1, n2⟩ := id N
        refine hK.out _ _ ?_ (fun hHeld => ?_)
        · first | exact ⟨n1, n2⟩ | (simp (maxDischargeDepth := 6) [go_sem, *]; done)
        clear hK K
        (try simp only [Act.put, List.setIfInBounds_toArray, List.set_cons_zero, List.set_cons_succ])
        refine wpAnyH_take (i := 10) (v := ?_) (by rw [List.getElem?_toArray]; rfl) (by kernel_rfl) (by kernel_rfl) (by kernel_rfl) (by intro _ _ _ h; exact h) (Or.inl ⟨by rfl, ?_⟩) (by assumption) ?_
        rotate_left
        · (intro w hSw; (try dsimp only at hSw); go_simp; all_goals with_reducible rfl)
        (try simp only [Act.put, List.setIfInBounds_toArray, List.set_cons_zero, List.set_cons_succ])
        refine wpAnyH_ready (rs := [11]) (by kernel_rfl) (by simp) ?_
        refine (AllReadyH.cons (by rw [List.getElem?_toArray]; rfl) (fun K hK => ?_) AllReadyH.nil)
        go_simp
        (have A := Below.nw v2 (.cells #[.int .i64 0, .map none, .slice none 0 0] 53)); (replace RW := RowF.below' A RW); (replace MP := MP.below A); (have X := MB.new v2 (.int .i64 0) (.map none) (.slice none 0 0) 53); (replace N := N.below A); (replace R := R.below A); (have hlt2 : v2.heap.size < (v2.alloc (.cells #[.int .i64 0, .map none, .slice none 0 0] 53)).heap.size := by simp); (replace B := B.trans (A.mono B.size)); clear A n0 n1 n2; (generalize v2.alloc (.cells #[.int .i64 0, .map none, .slice none 0 0] 53) = v3 at *); obtain ⟨n0, n1, n2⟩ := id N; obtain ⟨k0, k1, k2, k3, k4, k5, k6⟩ := id X
        refine hK.out _ _ ?_ (fun hHeld => ?_)
        · first | exact ⟨n1, n2⟩ | (simp (maxDischargeDepth := 6) [go_sem, *]; done)
        clear hK K
        (try simp only [Act.put, List.setIfInBounds_toArray, List.set_cons_zero, List.set_cons_succ])
        refine wpAnyH_ready (rs := [12]) (by kernel_rfl) (by simp) ?_
        refine (AllReadyH.cons (by rw [List.getElem?_toArray]; rfl) (fun K hK => ?_) AllReadyH.nil)
        go_simp
        refine hK.out _ _ ?_ (fun hHeld => ?_)
        · first | exact ⟨n1, n2⟩ | (simp (maxDischargeDepth := 6) [go_sem, *]; done)
        clear hK K
        (try simp only [Act.put, List.setIfInBounds_toArray, List.set_cons_zero, List.set_cons_succ])
        refine wpAnyH_done (by kernel_rfl) ?_ _
        go_wp2_with fail
        go_meet
        case rel =>
          have PB := put3_but v3 (v2.heap.size) (.int .i64 nx) (.map (some (v1.heap.size))) (.slice (some ⟨v0.heap.size, 0, none⟩) n n)
          have l0 := R.1
          exact ⟨v2.heap.size, v1.heap.size, v0.heap.size, rfl, by omega, by omega, by omega, by omega, by omega, by omega, X.set _ _ _, MP.but PB (by omega), RW.but PB (by omega), N.but PB (by omega), R.but PB (by omega), B.trans (PB.below (by omega) B.size)⟩
      · go_simp
        (have A := Below.nw v1 (.cells #[.int .i64 0, .map none, .slice none 0 0] 53)); (replace RW := RowF.below' A RW); (have X := MB.new v1 (.int .i64 0) (.map none) (.slice none 0 0) 53); (replace N := N.below A); (replace R := R.below A); (have hlt1 : v1.heap.size < (v1.alloc (.cells #[.int .i64 0, .map none, .slice none 0 0] 53)).heap.size := by simp); (replace B := B.trans (A.mono B.size)); clear A n0 n1 n2; (generalize v1.alloc (.cells #[.int .i64 0, .map none, .slice none 0 0] 53) = v2 at *); obtain ⟨n0, n1, n2⟩ := id N
        refine hK.out _ _ ?_ (fun hHeld => ?_)
        · first | exact ⟨n1, n2⟩ | (simp (maxDischargeDepth := 6) [go_sem, *]; done)
        clear hK K
        (try simp only [Act.put, List.setIfInBounds_toArray, List.set_cons_zero, List.set_cons_succ])
        refine wpAnyH_ready (rs := [5]) (by kernel_rfl) (by simp) ?_
        refine (AllReadyH.cons (by rw [List.getElem?_toArray]; rfl) (fun K hK => ?_) AllReadyH.nil)
        go_simp
        (have A := Below.nw v2 (.map #[] 0)); (replace RW := RowF.below' A RW); (replace X := X.below A); (have MP := MapI.made v2); (replace N := N.below A); (replace R := R.below A); (have hlt2 : v2.heap.size < (v2.alloc (.map #[] 0)).heap.size := by simp); (replace B := B.trans (A.mono B.size)); clear A n0 n1 n2; (generalize v2.alloc (.map #[] 0) = v3 at *); obtain ⟨n0, n1, n2⟩ := id N; obtain ⟨k0, k1, k2, k3, k4, k5, k6⟩ := id X
        refine hK.out _ _ ?_ (fun hHeld => ?_)
        · first | exact ⟨n1, n2⟩ | (simp (maxDischargeDepth := 6) [go_sem, *]; done)
        clear hK K
        (try simp only [Act.put, List.setIfInBounds_toArray, List.set_cons_zero, List.set_cons_succ])
        refine wpAnyH_take (i := 10) (v := ?_) (by rw [List.getElem?_toArray]; rfl) (by kernel_rfl) (by kernel_rfl) (by kernel_rfl) (by intro _ _ _ h; exact h) (Or.inl ⟨by rfl, ?_⟩) (by assumption) ?_
        rotate_left
        · (intro w hSw; (try dsimp only at hSw); go_simp; all_goals with_reducible rfl)
        (try simp only [Act.put, List.setIfInBounds_toArray, List.set_cons_zero, List.set_cons_succ])
        refine wpAnyH_ready (rs := [12]) (by kernel_rfl) (by simp) ?_
        refine (AllReadyH.cons (by rw [List.getElem?_toArray]; rfl) (fun K hK => ?_) AllReadyH.nil)
        go_simp
        refine hK.out _ _ ?_ (fun hHeld => ?_)
        · first | exact ⟨n1, n2⟩ | (simp (maxDischargeDepth := 6) [go_sem, *]; done)
        clear hK K
        (try simp only [Act.put, List.setIfInBounds_toArray, List.set_cons_zero, List.set_cons_succ])
        refine wpAnyH_done (by kernel_rfl) ?_ _
        go_wp2_with fail
        go_meet
        case rel =>
          have PB := put3_but v3 (v1.heap.size) (.int .i64 nx) (.map (some (v2.heap.size))) (.slice (some ⟨v0.heap.size, 0, none⟩) n n)
          have l0 := R.1
          exact ⟨v1.heap.size, v2.heap.size, v0.heap.size, rfl, by omega, by omega, by omega, by omega, by omega, by omega, X.set _ _ _, MP.but PB (by omega), RW.but PB (by omega), N.but PB (by omega), R.but PB (by omega), B.trans (PB.below (by omega) B.size)⟩
    · go_simp
      (have A := Below.nw v0 (.cells #[.int .i64 0, .map none, .slice none 0 0] 53)); (have X := MB.new v0 (.int .i64 0) (.map none) (.slice none 0 0) 53); (replace N := N.below A); (replace R := R.below A); (have hlt0 : v0.heap.size < (v0.alloc (.cells #[.int .i64 0, .map none, .slice none 0 0] 53)).heap.size := by simp); (replace B := B.trans (A.mono B.size)); clear A n0 n1 n2; (generalize v0.alloc (.cells #[.int .i64 0, .map none, .slice none 0 0] 53) = v1 at *); obtain ⟨n0, n1, n2⟩ := id N
      refine hK.out _ _ ?_ (fun hHeld => ?_)
      · first | exact ⟨n1, n2⟩ | (simp (maxDischargeDepth := 6) [go_sem, *]; done)
      clear hK K
      (try simp only [Act.put, List.setIfInBounds_toArray, List.set_cons_zero, List.set_cons_succ])
      refine wpAnyH_ready (rs := [5, 9]) (by kernel_rfl) (by simp) ?_
      refine (AllReadyH.cons (by rw [List.getElem?_toArray]; rfl) (fun K hK => ?_) (AllReadyH.cons (by rw [List.getElem?_toArray]; rfl) (fun K hK => ?_) AllReadyH.nil))
      · go_simp
        (have A := Below.nw v1 (.map #[] 0)); (replace X := X.below A); (have MP := MapI.made v1); (replace N := N.below A); (replace R := R.below A); (have hlt1 : v1.heap.size < (v1.alloc (.map #[] 0)).heap.size := by simp); (replace B := B.trans (A.mono B.size)); clear A n0 n1 n2; (generalize v1.alloc (.map #[] 0) = v2 at *); obtain ⟨n0, n1, n2⟩ := id N
        refine hK.out _ _ ?_ (fun hHeld => ?_)
        · first | exact ⟨n1, n2⟩ | (simp (maxDischargeDepth := 6) [go_sem, *]; done)
        clear hK K
        (try simp only [Act.put, List.setIfInBounds_toArray, List.set_cons_zero, List.set_cons_succ])
        refine wpAnyH_ready (rs := [9]) (by kernel_rfl) (by simp) ?_
        refine (AllReadyH.cons (by rw [List.getElem?_toArray]; rfl) (fun K hK => ?_) AllReadyH.nil)
        go_simp
        (have A := Below.nw v2 (rowObjI n)); (replace X := X.below A); (replace MP := MP.below A); (have RW := rowObjI_is v2 n (idF M)); (replace N := N.below A); (replace R := R.below A); (have hlt2 : v2.heap.size < (v2.alloc (rowObjI n)).heap.size := by simp); (replace B := B.trans (A.mono B.size)); clear A n0 n1 n2; (generalize v2.alloc (rowObjI n) = v3 at *); obtain ⟨n0, n1, n2⟩ := id N; obtain ⟨k0, k1, k2, k3, k4, k5, k6⟩ := id X
        refine hK.out _ _ ?_ (fun hHeld => ?_)
        · first | exact ⟨n1, n2⟩ | (simp (maxDischargeDepth := 6) [go_sem, *]; done)
        clear hK K
        (try simp only [Act.put, List.setIfInBounds_toArray, List.set_cons_zero, List.set_cons_succ])
        refine wpAnyH_take (i := 10) (v := ?_) (by rw [List.getElem?_toArray]; rfl) (by kernel_rfl) (by kernel_rfl) (by kernel_rfl) (by intro _ _ _ h; exact h) (Or.inl ⟨by rfl, ?_⟩) (by assumption) ?_
        rotate_left
        · (intro w hSw; (try dsimp only at hSw); go_simp; all_goals with_reducible rfl)
        (try simp only [Act.put, List.setIfInBounds_toArray, List.set_cons_zero, List.set_cons_succ])
        refine wpAnyH_ready (rs := [12]) (by kernel_rfl) (by simp) ?_
        refine (AllReadyH.cons (by rw [List.getElem?_toArray]; rfl) (fun K hK => ?_) AllReadyH.nil)
        go_simp
        refine hK.out _ _ ?_ (fun hHeld => ?_)
        · first | exact ⟨n1, n2⟩ | (simp (maxDischargeDepth := 6) [go_sem, *]; done)
        clear hK K
        (try simp only [Act.put, List.setIfInBounds_toArray, List.set_cons_zero, List.set_cons_succ])
        refine wpAnyH_done (by kernel_rfl) ?_ _
        go_wp2_with fail
        go_meet
        case rel =>
          have PB := put3_but v3 (v0.heap.size) (.int .i64 nx) (.map (some (v1.heap.size))) (.slice (some ⟨v2.heap.size, 0, none⟩) n n)
          have l0 := R.1
          exact ⟨v0.heap.size, v1.heap.size, v2.heap.size, rfl, by omega, by omega, by omega, by omega, by omega, by omega, X.set _ _ _, MP.but PB (by omega), RW.but PB (by omega), N.but PB (by omega), R.but PB (by omega), B.trans (PB.below (by omega) B.size)⟩
      · go_simp
        (have A := Below.nw v1 (rowObjI n)); (replace X := X.below A); (have RW := rowObjI_is v1 n (idF M)); (replace N := N.below A); (replace R := R.below A); (have hlt1 : v1.heap.size < (v1.alloc (rowObjI n)).heap.size := by simp); (replace B := B.trans (A.mono B.size)); clear A n0 n1 n2; (generalize v1.alloc (rowObjI n) = v2 at *); obtain ⟨n0, n1, n2⟩ := id N
        refine hK.out _ _ ?_ (fun hHeld => ?_)
        · first | exact ⟨n1, n2⟩ | (simp (maxDischargeDepth := 6) [go_sem, *]; done)
        clear hK K
        (try simp only [Act.put, List.setIfInBounds_toArray, List.set_cons_zero, List.set_cons_succ])
        refine wpAnyH_ready (rs := [5]) (by kernel_rfl) (by simp) ?_
        refine (AllReadyH.cons (by rw [List.getElem?_toArray]; rfl) (fun K hK => ?_) AllReadyH.nil)
        go_simp
        (have A := Below.nw v2 (.map #[] 0)); (replace X := X.below A); (replace RW := RowF.below' A RW); (have MP := MapI.made v2); (replace N := N.below A); (replace R := R.below A); (have hlt2 : v2.heap.size < (v2.alloc (.map #[] 0)).heap.size := by simp); (replace B := B.trans (A.mono B.size)); clear A n0 n1 n2; (generalize v2.alloc (.map #[] 0) = v3 at *); obtain ⟨n0, n1, n2⟩ := id N; obtain ⟨k0, k1, k2, k3, k4, k5, k6⟩ := id X
        refine hK.out _ _ ?_ (fun hHeld => ?_)
        · first | exact ⟨n1, n2⟩ | (simp (maxDischargeDepth := 6) [go_sem, *]; done)
        clear hK K
        (try simp only [Act.put, List.setIfInBounds_toArray, List.set_cons_zero, List.set_cons_succ])
        refine wpAnyH_take (i := 10) (v := ?_) (by rw [List.getElem?_toArray]; rfl) (by kernel_rfl) (by kernel_rfl) (by kernel_rfl) (by intro _ _ _ h; exact h) (Or.inl ⟨by rfl, ?_⟩) (by assumption) ?_
        rotate_left
        · (intro w hSw; (try dsimp only at hSw); go_simp; all_goals with_reducible rfl)
        (try simp only [Act.put, List.setIfInBounds_toArray, List.set_cons_zero, List.set_cons_succ])
        refine wpAnyH_ready (rs := [12]) (by kernel_rfl) (by simp) ?_
        refine (AllReadyH.cons (by rw [List.getElem?_toArray]; rfl) (fun K hK => ?_) AllReadyH.nil)
        go_simp
        refine hK.out _ _ ?_ (fun hHeld => ?_)
        · first | exact ⟨n1, n2⟩ | (simp (maxDischargeDepth := 6) [go_sem, *]; done)
        clear hK K
        (try simp only [Act.put, List.setIfInBounds_toArray, List.set_cons_zero, List.set_cons_succ])
        refine wpAnyH_done (by kernel_rfl) ?_ _
        go_wp2_with fail
        go_meet
        case rel =>
          have PB := put3_but v3 (v0.heap.size) (.int .i64 nx) (.map (some (v2.heap.size))) (.slice (some ⟨v1.heap.size, 0, none⟩) n n)
          have l0 := R.1
          exact ⟨v0.heap.size, v2.heap.size, v1.heap.size, rfl, by omega, by omega, by omega, by omega, by omega, by omega, X.set _ _ _, MP.but PB (by omega), RW.but PB (by omega), N.but PB (by omega), R.but PB (by omega), B.trans (PB.below (by omega) B.size)⟩
  case rest =>
    obtain ⟨bx, bm, br, rfl, hbx, hbm, hbr, hxm, hxr, hmr, X', MP', RW', N', R', B'⟩ := hcut
    clear N R B hmm hmr0
    obtain ⟨n0, n1, n2⟩ := id N'
    go_wp2_with fail
    go_loopw [38] (fun i wr => ∃ k : Nat, k ≤ n ∧ i = .int .i64 k ∧ nOk nx M k = true ∧ MB wr bx (.int .i64 nx) (.map (some bm)) (.slice (some ⟨br, 0, none⟩) n n) ∧ MapI wr bm k (lk M k) ∧ RowF wr br 3 n k (idF M) ∧ NB wr w.heap.size nx (some ⟨b, off, none⟩) n c ∧ MB wr (w.heap.size + 1) (.int .i64 0) (.map none) (.slice none 0 0) ∧ Below w.heap.size w wr) (fun i _ => n - (intOf i).toNat)
    case atStart => exact ⟨0, Nat.zero_le _, rfl, rfl, X', MP', RW', N', R', B'⟩
    case round =>
      obtain ⟨k, hk, rfl, hok, X, MP, RW, N, R, B⟩ := hrel
      clear X' MP' RW' N' R' B' n0 n1 n2
      have HOK : Hid (nOk nx M k = true) := hok
      clear hok
      by_cases hlt : k < n
      · obtain ⟨x0, x1, x2, x3, x4, hM⟩ := tupFlight M k
        obtain ⟨c0, c1, c2, c3, c4⟩ := (HF.out.below B bw).elFlight hlt hM
        have hli : (k : Int) < (n : Int) := by omega
        have hsz : x3.size ≤ maxLen := by have := HS.out k hlt; rw [hM] at this; exact this
        have hwf : (Lit.int .i64 x0).wf = true := by have := HW.out k hlt; rw [hM] at this; exact this
        have HMK : Hid (M k = fT x0 x1 x2 x3 x4) := hM
        have HST : Hid (nOk nx M (k + 1) = (nOk nx M k && (flB x1 x2 x3 x4 && inB nx x0 && !(lk M k x0).isSome))) := by rw [Hid, nOk, hM]; rfl
        have HNO : Hid ((flB x1 x2 x3 x4 && inB nx x0 && !(lk M k x0).isSome) = false → nOk nx M n = false) := fun h => nOk_no (by rw [hM]; exact h) n hlt
        have HI1 : Hid ((M k).1 = x0) := by rw [hM]; rfl
        have HLK : Hid (∀ y, lk M (k + 1) y = if y = x0 then some (M k) else lk M k y) := lk_step HI1.out
        have bwr : b < wr.heap.size := Nat.lt_of_lt_of_le bw B.size
        clear hM
        have A1 := Below.nw wr (.cells #[.int .i64 x0, .int .i64 x1, .int .i64 x2, .string x3, .int .i64 x4] 30)
        have FB := Box5.new wr x0 x1 x2 x3 x4 30
        obtain ⟨y0, y1, y2, y3, y4, hy⟩ : ∃ (y0 y1 y2 : Int) (y3 : ByteArray) (y4 : Int), (lk M k x0).getD zF = fT y0 y1 y2 y3 y4 := ⟨_, _, _, _, _, rfl⟩
        have hlook := (MP.below A1).look_ok hwf
        rw [hy] at hlook
        simp only [fv, fT] at hlook
        have hl1 : wr.heap.size < (wr.alloc (.cells #[.int .i64 x0, .int .i64 x1, .int .i64 x2, .string x3, .int .i64 x4] 30)).heap.size := by simp
        have hxf := X.1
        have hmf := MP.lt
        have hrf := RW.lt
        have hfb := R.1
        obtain ⟨_, m0, m1, m2, -, -, -⟩ := id X
        go_upto_region 7 with fail
        clear c0 c1 c2 c3 c4 m0 m1 m2
        replace X := X.below A1
        replace MP := MP.below A1
        replace RW := RowF.below' A1 RW
        replace N := N.below A1
        replace R := R.below A1
        replace B := B.trans (A1.mono B.size)
        generalize hbf : wr.heap.size = bf at *
        generalize wr.alloc (.cells #[.int .i64 x0, .int .i64 x1, .int .i64 x2, .string x3, .int .i64 x4] 30) = w7 at *
        clear A1 hbf
        have A2 := Below.nw w7 (.cells #[.int .i64 y0, .int .i64 y1, .int .i64 y2, .string y3, .int .i64 y4] 30)
        obtain ⟨_, m0, m1, m2, -, -, -⟩ := id X
        obtain ⟨_, f0, f1, f2, f3, f4⟩ := id FB
        go_upto_region 8 with fail
        clear m0 m1 m2 f0 f1 f2 f3 f4 hlook hy
        replace X := X.below A2
        replace MP := MP.below A2
        replace RW := RowF.below' A2 RW
        replace N := N.below A2
        replace R := R.below A2
        replace B := B.trans (A2.mono B.size)
        replace FB := FB.below A2
        generalize w7.alloc (.cells #[.int .i64 y0, .int .i64 y1, .int .i64 y2, .string y3, .int .i64 y4] 30) = wz at *
        clear A2
        obtain ⟨n0, n1, n2⟩ := id N
        obtain ⟨f9, f0, f1, f2, f3, f4⟩ := id FB
        cases htw : (lk M k x0).isSome
        · by_cases hx0 : x0 < 0
          · have HB : Hid (netB nx M n = false) := netB_bad (HNO.out (by rw [inB, decide_eq_false (by omega)]; simp))
            go_upto_region 9 with fail
            clear n0 n1 n2 f0 f1 f2 f3 f4
            have RQ := R.set (.int .i64 0) (.map none) (.slice none 0 0)
            have BQ : Below w.heap.size w (((wz.setCell ⟨w.heap.size + 1, 0, none⟩ (.int .i64 0)).setCell ⟨w.heap.size + 1, 1, none⟩ (.map none)).setCell ⟨w.heap.size + 1, 2, none⟩ (.slice none 0 0)) := ((B.setCell (by simp) _).setCell (by simp) _).setCell (by simp) _
            obtain ⟨r0, r1, r2, r3, r4, r5, r6⟩ := R
            go_wp2_with fail
            generalize (((wz.setCell ⟨w.heap.size + 1, 0, none⟩ (.int .i64 0)).setCell ⟨w.heap.size + 1, 1, none⟩ (.map none)).setCell ⟨w.heap.size + 1, 2, none⟩ (.slice none 0 0)) = wq at *
            obtain ⟨q0, q1, q2, q3, q4, q5, q6⟩ := RQ
            exact bodyPost_ret (v := .tuple #[.agg #[.int .i64 0, .map none, .slice none 0 0], .bool false]) (by simp (maxDischargeDepth := 6) [results, Try.results23, go_sem, q1, q2, q3]) rfl ⟨.agg #[.int .i64 0, .map none, .slice none 0 0], by rw [HB.out], fun _ => rfl, fun h => (by rw [HB.out] at h; cases h), BQ⟩
          · by_cases hx1 : nx ≤ x0
            · have HB : Hid (netB nx M n = false) := netB_bad (HNO.out (by rw [inB, decide_eq_false (by omega)]; simp))
              go_upto_region 9 with fail
              clear n0 n1 n2 f0 f1 f2 f3 f4
              have RQ := R.set (.int .i64 0) (.map none) (.slice none 0 0)
              have BQ : Below w.heap.size w (((wz.setCell ⟨w.heap.size + 1, 0, none⟩ (.int .i64 0)).setCell ⟨w.heap.size + 1, 1, none⟩ (.map none)).setCell ⟨w.heap.size + 1, 2, none⟩ (.slice none 0 0)) := ((B.setCell (by simp) _).setCell (by simp) _).setCell (by simp) _
              obtain ⟨r0, r1, r2, r3, r4, r5, r6⟩ := R
              go_wp2_with fail
              generalize (((wz.setCell ⟨w.heap.size + 1, 0, none⟩ (.int .i64 0)).setCell ⟨w.heap.size + 1, 1, none⟩ (.map none)).setCell ⟨w.heap.size + 1, 2, none⟩ (.slice none 0 0)) = wq at *
              obtain ⟨q0, q1, q2, q3, q4, q5, q6⟩ := RQ
              exact bodyPost_ret (v := .tuple #[.agg #[.int .i64 0, .map none, .slice none 0 0], .bool false]) (by simp (maxDischargeDepth := 6) [results, Try.results23, go_sem, q1, q2, q3]) rfl ⟨.agg #[.int .i64 0, .map none, .slice none 0 0], by rw [HB.out], fun _ => rfl, fun h => (by rw [HB.out] at h; cases h), BQ⟩
            · go_wp2_with fail
              refine (flightOk_any x0 x1 x2 x3 x4 _ hsz).mono ?_
              rintro e w9 ⟨rfl, hb⟩
              clear n0 n1 n2 f9 f0 f1 f2 f3 f4
              replace X := X.below hb
              replace MP := MP.below hb
              replace RW := RowF.below' hb RW
              replace N := N.below hb
              replace R := R.below hb
              replace B := B.trans (hb.mono B.size)
              replace FB := FB.below hb
              clear hb
              cases hfl : flB x1 x2 x3 x4
              · have HB : Hid (netB nx M n = false) := netB_bad (HNO.out (by rw [hfl]; rfl))
                generalize w9 = wz at *
                go_upto_region 9 with fail
                have RQ := R.set (.int .i64 0) (.map none) (.slice none 0 0)
                have BQ : Below w.heap.size w (((wz.setCell ⟨w.heap.size + 1, 0, none⟩ (.int .i64 0)).setCell ⟨w.heap.size + 1, 1, none⟩ (.map none)).setCell ⟨w.heap.size + 1, 2, none⟩ (.slice none 0 0)) := ((B.setCell (by simp) _).setCell (by simp) _).setCell (by simp) _
                obtain ⟨r0, r1, r2, r3, r4, r5, r6⟩ := R
                go_wp2_with fail
                generalize (((wz.setCell ⟨w.heap.size + 1, 0, none⟩ (.int .i64 0)).setCell ⟨w.heap.size + 1, 1, none⟩ (.map none)).setCell ⟨w.heap.size + 1, 2, none⟩ (.slice none 0 0)) = wq at *
                obtain ⟨q0, q1, q2, q3, q4, q5, q6⟩ := RQ
                exact bodyPost_ret (v := .tuple #[.agg #[.int .i64 0, .map none, .slice none 0 0], .bool false]) (by simp (maxDischargeDepth := 6) [results, Try.results23, go_sem, q1, q2, q3]) rfl ⟨.agg #[.int .i64 0, .map none, .slice none 0 0], by rw [HB.out], fun _ => rfl, fun h => (by rw [HB.out] at h; cases h), BQ⟩
              · have HOK1 : Hid (nOk nx M (k + 1) = true) := by rw [Hid, HST.out, HOK.out, hfl, htw, inB, decide_eq_true (by omega)]; rfl
                go_upto_region 10 with fail
                obtain ⟨w10, hup, MP1, hg⟩ := MP.put hwf (by unfold maxLen; omega) (fT x0 x1 x2 x3 x4)
                simp only [fv, fT] at hup
                obtain ⟨_, m0, m1, m2, -, -, -⟩ := id X
                obtain ⟨f9, f0, f1, f2, f3, f4⟩ := id FB
                go_upto_region 11 with fail
                clear m0 m1 m2 f9 f0 f1 f2 f3 f4 hup MP
                have PB := But.ofGrown hg
                replace X := X.but PB hxm
                replace RW := RW.but PB (fun e => hmr e.symm)
                replace N := N.but PB (by omega)
                replace R := R.but PB (by omega)
                replace FB := FB.but PB (by omega)
                replace B := B.trans (PB.below (B := w.heap.size) (by omega) B.size)
                replace MP1 : MapI w10 bm (k + 1) (lk M (k + 1)) := MP1.congr (fun y => by rw [HLK.out y, HMK.out])
                clear hg PB
                obtain ⟨_, m0, m1, m2, -, -, -⟩ := id X
                obtain ⟨f9, f0, f1, f2, f3, f4⟩ := id FB
                obtain ⟨⟨v5, e5⟩, g5⟩ := RW.facts k hlt
                have r9 := RW.lt
                have P5 := But.one w10 br k (.int .i64 x0)
                go_wp2_with fail
                go_roundw
                case rel => exact ⟨k + 1, by omega, by go_num, HOK1.out, X.but P5 hxr, MP1.but P5 hmr, RW.put (k + 1) rfl (by rw [idF, HI1.out]), N.but P5 (by omega), R.but P5 (by omega), B.trans (P5.below (B := w.heap.size) (by omega) B.size)⟩
                case measure => simp [intOf]; omega
        · have HB : Hid (netB nx M n = false) := netB_bad (HNO.out (by rw [htw]; simp))
          go_upto_region 9 with fail
          clear n0 n1 n2 f0 f1 f2 f3 f4
          have RQ := R.set (.int .i64 0) (.map none) (.slice none 0 0)
          have BQ : Below w.heap.size w (((wz.setCell ⟨w.heap.size + 1, 0, none⟩ (.int .i64 0)).setCell ⟨w.heap.size + 1, 1, none⟩ (.map none)).setCell ⟨w.heap.size + 1, 2, none⟩ (.slice none 0 0)) := ((B.setCell (by simp) _).setCell (by simp) _).setCell (by simp) _
          obtain ⟨r0, r1, r2, r3, r4, r5, r6⟩ := R
          go_wp2_with fail
          generalize (((wz.setCell ⟨w.heap.size + 1, 0, none⟩ (.int .i64 0)).setCell ⟨w.heap.size + 1, 1, none⟩ (.map none)).setCell ⟨w.heap.size + 1, 2, none⟩ (.slice none 0 0)) = wq at *
          obtain ⟨q0, q1, q2, q3, q4, q5, q6⟩ := RQ
          exact bodyPost_ret (v := .tuple #[.agg #[.int .i64 0, .map none, .slice none 0 0], .bool false]) (by simp (maxDischargeDepth := 6) [results, Try.results23, go_sem, q1, q2, q3]) rfl ⟨.agg #[.int .i64 0, .map none, .slice none 0 0], by rw [HB.out], fun _ => rfl, fun h => (by rw [HB.out] at h; cases h), BQ⟩
      · have hkn : k = n := by omega
        subst hkn
        have hli : ¬ (k : Int) < (k : Int) := by omega
        have HG : Hid (netB nx M k = true) := netB_ok HNX.out hn HOK.out
        have RQ := R.set (.int .i64 nx) (.map (some bm)) (.slice (some ⟨br, 0, none⟩) k k)
        have PB := put3_but wr (w.heap.size + 1) (.int .i64 nx) (.map (some bm)) (.slice (some ⟨br, 0, none⟩) k k)
        have MQ : Ml (((wr.setCell ⟨w.heap.size + 1, 0, none⟩ (.int .i64 nx)).setCell ⟨w.heap.size + 1, 1, none⟩ (.map (some bm))).setCell ⟨w.heap.size + 1, 2, none⟩ (.slice (some ⟨br, 0, none⟩) k k)) w.heap.size bm br k M := ⟨by omega, by omega, hmr, MP.but PB (by omega), RW.but PB (by omega)⟩
        have BQ := B.trans (PB.below (B := w.heap.size) (by omega) B.size)
        obtain ⟨r0, r1, r2, r3, r4, r5, r6⟩ := R
        obtain ⟨y0, y1, y2, y3, -, -, -⟩ := X
        go_wp2_with fail
        clear MP RW
        generalize (((wr.setCell ⟨w.heap.size + 1, 0, none⟩ (.int .i64 nx)).setCell ⟨w.heap.size + 1, 1, none⟩ (.map (some bm))).setCell ⟨w.heap.size + 1, 2, none⟩ (.slice (some ⟨br, 0, none⟩) k k)) = wq at *
        obtain ⟨q0, q1, q2, q3, q4, q5, q6⟩ := RQ
        exact bodyPost_ret (v := .tuple #[.agg #[.int .i64 nx, .map (some bm), .slice (some ⟨br, 0, none⟩) k k], .bool true]) (by simp (maxDischargeDepth := 6) [results, Try.results23, go_sem, q1, q2, q3]) rfl ⟨.agg #[.int .i64 nx, .map (some bm), .slice (some ⟨br, 0, none⟩) k k], by rw [HG.out], fun h => (by rw [HG.out] at h; cases h), fun _ => ⟨bm, br, rfl, MQ⟩, BQ⟩
theorem mailOf_any (nx : Int) (a : Option Addr) (n c : Nat) (M : Nat → FT) (w : World) (hm : n ≤ maxLen) (hf : SrcC w a (n * 5) (MFFlight M)) (hs : ∀ i, i < n → ((M i).2.2.2.1).size ≤ maxLen) (hw : ∀ i, i < n → (Lit.int .i64 (M i).1).wf = true) :
    Calls Try.prog 23 #[.agg #[.int .i64 nx, .slice a n c]] w fun e w' => ∃ V : Value, e = .returned (.tuple #[V, .bool (netB nx M n)]) ∧ (netB nx M n = false → V = zml) ∧ (netB nx M n = true → ∃ bm br, V = .agg #[.int .i64 nx, .map (some bm), .slice (some ⟨br, 0, none⟩) n n] ∧ Ml w' w.heap.size bm br n M) ∧ Below w.heap.size w w' := by
  by_cases h : 0 ≤ nx ∧ nx ≤ 1000000
  · by_cases hl : n ≤ 40
    · rcases hf with h0 | ⟨b, off, rfl, hf⟩
      · exact mailOf_zero nx a c M w h n (show n = 0 by omega)
      · exact mailOf_some nx b off n c M w h hl hf hs hw
    · exact mailOf_long nx a n c M w hm h hl
  · exact mailOf_nx nx a n c M w h
end Go.Proofs.Ytgfhcilhibbooaa
namespace Go.Proofs.Ytgfhcilhibbooaa
open Go.RowKit
set_option linter.unusedVariables false
end Go.Proofs.Ytgfhcilhibbooaa
namespace Go.Proofs.Ytgfhcilhibbooaa
open Go.RowKit
set_option linter.unusedVariables false
def tmF (M : FT) : Int := M.2.2.2.2
def oldF (M : Nat → FT) : Nat → Int
  | 0 => -1
  | k + 1 => if oldF M k < 0 ∨ tmF (M k) < tmF (M (oldF M k).toNat) then (k : Int) else oldF M k
theorem oldF_bd (M : Nat → FT) : ∀ k, -1 ≤ oldF M k ∧ oldF M k < k
  | 0 => by simp [oldF]
  | k + 1 => by
    have := oldF_bd M k
    rw [oldF]
    split <;> omega
theorem oldF_go {M : Nat → FT} {k : Nat} (h : oldF M k < 0 ∨ tmF (M k) < tmF (M (oldF M k).toNat)) : oldF M (k + 1) = (k : Int) := by rw [oldF, if_pos h]
theorem oldF_stay {M : Nat → FT} {k : Nat} (h : ¬ (oldF M k < 0 ∨ tmF (M k) < tmF (M (oldF M k).toNat))) : oldF M (k + 1) = oldF M k := by rw [oldF, if_neg h]
def oldR (nx : Int) (M : Nat → FT) (n : Nat) : Int := if netB nx M n = true then oldF M n else -1
theorem oldR_no {nx : Int} {M : Nat → FT} {n : Nat} (h : netB nx M n = false) : oldR nx M n = -1 := by rw [oldR, h]; rfl
theorem oldR_ok {nx : Int} {M : Nat → FT} {n : Nat} (h : netB nx M n = true) : oldR nx M n = oldF M n := by rw [oldR, if_pos h]
theorem netB_40 {nx : Int} {M : Nat → FT} {n : Nat} (h : netB nx M n = true) : n ≤ 40 := by
  simp only [netB, Bool.and_eq_true, decide_eq_true_eq] at h
  exact h.1.2
end Go.Proofs.Ytgfhcilhibbooaa
namespace Go.Proofs.Ytgfhcilhibbooaa
open Go.RowKit
set_option linter.unusedVariables false
def itL (L : List Int) : List Value := L.map (Value.int .i64)
def itF (L : List Int) (j : Nat) : Value := .int .i64 (L.getD j 0)
def mkI (j : Nat) : Value := .int .i64 (1 + (j : Int))
theorem itL_len (L : List Int) : (itL L).length = L.length := by simp [itL]
theorem ownI_src {w : World} {base : Nat} {v : Value} {L : List Int} (h : w.ownsRow base 3 1 v L.length (itL L)) : ∃ a c, v = .slice a L.length c ∧ L.length ≤ c ∧ c ≤ maxLen ∧ SrcC w a L.length (itF L) := by
  rcases h.2 with ⟨rfl, h0⟩ | ⟨g, cap, cur, rfl, hb, hg, hc, hm, hs, ht⟩
  · exact ⟨none, 0, by rw [h0], by omega, by simp [maxLen], .inl h0⟩
  · refine ⟨_, cap, rfl, hc, hm, .inr ⟨g, 0, rfl, (Array.getElem?_eq_some_iff.1 hg).1, fun i hi => ?_⟩⟩
    have hu : (itL L)[i]? = some (itF L i) := by simp [itL, itF, hi]
    rw [← ht, List.getElem?_take, if_pos (by omega)] at hu
    simp [World.cell?, hg]
    simpa using hu
theorem itL_add (L : List Int) (z : Int) : itL (L ++ [z]) = itL L ++ [.int .i64 z] := by simp [itL]
theorem int_at (w : World) (z : Int) (T : TypeId) (j : Nat) (u : Value) (h : [Value.int .i64 z][j]? = some u) : (w.alloc (.cells #[.int .i64 z] T)).cell? ((⟨w.heap.size, 0, none⟩ : Addr).add j) = some u := by
  match j, h with
  | 0, h => simp at h; subst h; simp [Addr.add]
theorem ownI_nil (w : World) (base : Nat) : w.ownsRow base 3 1 (.slice none 0 0) ([] : List Int).length (itL []) := World.ownsRow_nil w base _ _
theorem ownI_new (w : World) (base : Nat) (hb : base ≤ w.heap.size) : (w.alloc (.cells #[] 3)).ownsRow base 3 1 (.slice (some ⟨w.heap.size, 0, none⟩) 0 0) ([] : List Int).length (itL []) := World.ownsRow_made w #[] 0 hb (by simp [maxLen]) (by simp)
theorem NB.belowB {w w' : World} {B j : Nat} {nx : Int} {a : Option Addr} {n c : Nat} (h : NB w j nx a n c) (hb : Below B w w') (hj : j < B) : NB w' j nx a n c :=
  ⟨Nat.lt_of_lt_of_le h.1 hb.size, by rw [hb.cell (p := ⟨j, 0, none⟩) hj]; exact h.2.1, by rw [hb.cell (p := ⟨j, 1, none⟩) hj]; exact h.2.2⟩
theorem ownB_le {w : World} {base base' : Nat} {e : TypeId} {size : Nat} {v : Value} {n : Nat} {xs : List Value} (h : w.ownsRow base e size v n xs) (hb : base' ≤ base) : w.ownsRow base' e size v n xs := by
  refine ⟨h.1, ?_⟩
  rcases h.2 with h | ⟨g, cap, cur, h1, h2, h3⟩
  · exact .inl h
  · exact .inr ⟨g, cap, cur, h1, by omega, h3⟩
def tuF (M : FT) : Int := M.2.2.1
def forL (M : Nat → FT) (tu : Int) : Nat → List Int
  | 0 => []
  | k + 1 => if tuF (M k) = tu then forL M tu k ++ [(k : Int)] else forL M tu k
theorem forL_len (M : Nat → FT) (tu : Int) : ∀ k, (forL M tu k).length ≤ k
  | 0 => by simp [forL]
  | k + 1 => by
    have := forL_len M tu k
    rw [forL]
    split
    · simp; omega
    · omega
def forR (nx : Int) (M : Nat → FT) (n : Nat) (tu : Int) : List Int := if netB nx M n = true then forL M tu n else []
theorem forR_no {nx : Int} {M : Nat → FT} {n : Nat} {tu : Int} (h : netB nx M n = false) : forR nx M n tu = [] := by rw [forR, h]; rfl
theorem forR_ok {nx : Int} {M : Nat → FT} {n : Nat} {tu : Int} (h : netB nx M n = true) : forR nx M n tu = forL M tu n := by rw [forR, if_pos h]
theorem forR_len (nx : Int) (M : Nat → FT) (n : Nat) (tu : Int) : (forR nx M n tu).length ≤ 40 := by
  cases h : netB nx M n
  · rw [forR_no h]; simp
  · rw [forR_ok h]
    have := forL_len M tu n
    have := netB_40 h
    omega
end Go.Proofs.Ytgfhcilhibbooaa
