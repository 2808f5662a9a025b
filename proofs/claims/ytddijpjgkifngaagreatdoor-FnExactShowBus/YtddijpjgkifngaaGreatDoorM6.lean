/- Flights: contracts of what asks whether one is right; what the laws make of one. Flights by their Id: a map, told by a function of the Id. -/
import Derived.Maps.OwnSet
import Derived.Test.YtddijpjgkifngaaGreatDoorM5
namespace Go.Proofs.YtddijpjgkifngaaGreatDoor
open Go.RowKit
set_option linter.unusedVariables false
def FT : Type := Int × Int × Int × ByteArray × Int
def zF : FT := (0, 0, 0, ⟨#[]⟩, 0)
def fT (x0 x1 x2 : Int) (x3 : ByteArray) (x4 : Int) : FT := (x0, x1, x2, x3, x4)
def tmB (t : Int) : Bool := decide (0 ≤ t ∧ t ≤ 1000000000000)
def flB (x1 x2 : Int) (x3 : ByteArray) (x4 : Int) : Bool := nodB x1 && nodB x2 && decide (x3.size ≤ 64) && tmB x4
def flT (M : FT) : Bool := flB M.2.1 M.2.2.1 M.2.2.2.1 M.2.2.2.2
set_option maxHeartbeats 400000 in
theorem isTime_any5 (n : Int) (w : World) :
 Calls Tryz.prog 63 #[.int .i64 n] w fun e w' => e = .returned (.bool (tmB n)) ∧ w = w' := by
 go_enter Tryz.func63, Tryz.ntmps63
 go_wp2
 all_goals go_ret
 all_goals exact ⟨ret_bool (by rw [Bool.eq_iff_iff]; simp [tmB]; try omega), rfl⟩
set_option maxHeartbeats 400000 in
theorem l2Time_any5 (n : Int) (w : World) :
 Calls Tryz.prog 51 #[.int .i64 n] w fun e w' => e = .returned (.bool (tmB n)) ∧ w = w' := by
 go_enter Tryz.func51, Tryz.ntmps51
 go_wp2_with (first | (go_at_call 50; refine (l1In_any _ _ _ _).mono ?_; rintro e w' ⟨rfl, rfl⟩))
 go_ret
 exact ⟨ret_bool (by simp [tmB]), rfl⟩
def Box5 (w : World) (j : Nat) (x0 x1 x2 : Int) (x3 : ByteArray) (x4 : Int) : Prop := j < w.heap.size ∧ w.cell? ⟨j, 0, none⟩ = some (.int .i64 x0) ∧ w.cell? ⟨j, 1, none⟩ = some (.int .i64 x1) ∧ w.cell? ⟨j, 2, none⟩ = some (.int .i64 x2) ∧ w.cell? ⟨j, 3, none⟩ = some (.string x3) ∧ w.cell? ⟨j, 4, none⟩ = some (.int .i64 x4)
theorem Box5.belowB {j B : Nat} {w w' : World} {x0 x1 x2 : Int} {x3 : ByteArray} {x4 : Int} (h : Box5 w j x0 x1 x2 x3 x4) (hw : Below B w w') (hk : j < B) : Box5 w' j x0 x1 x2 x3 x4 := by
 obtain ⟨h0, h1, h2, h3, h4, h5⟩ := h
 exact ⟨Nat.lt_of_lt_of_le h0 hw.size, by rw [hw.cell (p := ⟨j, 0, none⟩) hk]; exact h1, by rw [hw.cell (p := ⟨j, 1, none⟩) hk]; exact h2, by rw [hw.cell (p := ⟨j, 2, none⟩) hk]; exact h3, by rw [hw.cell (p := ⟨j, 3, none⟩) hk]; exact h4, by rw [hw.cell (p := ⟨j, 4, none⟩) hk]; exact h5⟩
theorem Box5.below {j : Nat} {w w' : World} {x0 x1 x2 : Int} {x3 : ByteArray} {x4 : Int} (h : Box5 w j x0 x1 x2 x3 x4) (hw : Below w.heap.size w w') : Box5 w' j x0 x1 x2 x3 x4 := h.belowB hw h.1
theorem Box5.new (w : World) (x0 x1 x2 : Int) (x3 : ByteArray) (x4 : Int) (T : TypeId) : Box5 (w.alloc (.cells #[.int .i64 x0, .int .i64 x1, .int .i64 x2, .string x3, .int .i64 x4] T)) w.heap.size x0 x1 x2 x3 x4 := ⟨by simp, by simp, by simp, by simp, by simp, by simp⟩
set_option maxHeartbeats 4000000 in
theorem l5Flight_any (x0 x1 x2 : Int) (x3 : ByteArray) (x4 : Int) (w : World) (hs : x3.size ≤ maxLen) :
 Calls Tryz.prog 88 #[.agg #[.int .i64 x0, .int .i64 x1, .int .i64 x2, .string x3, .int .i64 x4]] w fun e w' => e = .returned (.bool (flB x1 x2 x3 x4)) ∧ Below w.heap.size w w' := by
 unfold maxLen at hs
 have B0 := Below.nw w (.cells #[.int .i64 x0, .int .i64 x1, .int .i64 x2, .string x3, .int .i64 x4] 105)
 cases h1 : nodB x1
 ·go_enter Tryz.func88, Tryz.ntmps88
  go_wp2_with fail
  refine (l4Node_any _ _).mono ?_
  rintro e w' ⟨rfl, rfl⟩
  rw [h1]
  go_wp2_with fail
  go_ret
  exact ⟨ret_bool (by simp [flB, h1]), B0⟩
 ·cases h2 : nodB x2
  ·go_enter Tryz.func88, Tryz.ntmps88
   go_wp2_with fail
   refine (l4Node_any _ _).mono ?_
   rintro e w' ⟨rfl, rfl⟩
   rw [h1]
   go_wp2_with fail
   refine (l4Node_any _ _).mono ?_
   rintro e w' ⟨rfl, rfl⟩
   rw [h2]
   go_wp2_with fail
   go_ret
   exact ⟨ret_bool (by simp [flB, h2]), B0⟩
  ·by_cases h3 : (x3.size : Int) ≤ 64
   ·have h3n : x3.size ≤ 64 := by omega
    go_enter Tryz.func88, Tryz.ntmps88
    go_wp2_with fail
    refine (l4Node_any _ _).mono ?_
    rintro e w' ⟨rfl, rfl⟩
    rw [h1]
    go_wp2_with fail
    refine (l4Node_any _ _).mono ?_
    rintro e w' ⟨rfl, rfl⟩
    rw [h2]
    go_wp2_with fail
    refine (l2Time_any5 _ _).mono ?_
    rintro e w' ⟨rfl, rfl⟩
    go_wp2_with fail
    go_ret
    exact ⟨ret_bool (by simp [flB, h1, h2, h3n]), B0⟩
   ·have h3n : ¬ x3.size ≤ 64 := by omega
    have HN : Hid (flB x1 x2 x3 x4 = false) := by simp [Hid, flB, h3n]
    go_enter Tryz.func88, Tryz.ntmps88
    go_wp2_with fail
    refine (l4Node_any _ _).mono ?_
    rintro e w' ⟨rfl, rfl⟩
    rw [h1]
    go_wp2_with fail
    refine (l4Node_any _ _).mono ?_
    rintro e w' ⟨rfl, rfl⟩
    rw [h2]
    go_wp2_with fail
    go_ret
    exact ⟨ret_bool HN.out.symm, B0⟩
set_option maxHeartbeats 4000000 in
theorem flightOk_any (x0 x1 x2 : Int) (x3 : ByteArray) (x4 : Int) (w : World) (hs : x3.size ≤ maxLen) :
 Calls Tryz.prog 170 #[.agg #[.int .i64 x0, .int .i64 x1, .int .i64 x2, .string x3, .int .i64 x4]] w fun e w' => e = .returned (.bool (flB x1 x2 x3 x4)) ∧ Below w.heap.size w w' := by
 unfold maxLen at hs
 have B0 := Below.nw w (.cells #[.int .i64 x0, .int .i64 x1, .int .i64 x2, .string x3, .int .i64 x4] 105)
 cases h1 : nodB x1
 ·go_enter Tryz.func170, Tryz.ntmps170
  go_wp2_with fail
  refine (isNode_any _ _).mono ?_
  rintro e w' ⟨rfl, rfl⟩
  rw [h1]
  go_wp2_with fail
  go_ret
  exact ⟨ret_bool (by simp [flB, h1]), B0⟩
 ·cases h2 : nodB x2
  ·go_enter Tryz.func170, Tryz.ntmps170
   go_wp2_with fail
   refine (isNode_any _ _).mono ?_
   rintro e w' ⟨rfl, rfl⟩
   rw [h1]
   go_wp2_with fail
   refine (isNode_any _ _).mono ?_
   rintro e w' ⟨rfl, rfl⟩
   rw [h2]
   go_wp2_with fail
   go_ret
   exact ⟨ret_bool (by simp [flB, h2]), B0⟩
  ·by_cases h3 : (x3.size : Int) ≤ 64
   ·have h3n : x3.size ≤ 64 := by omega
    go_enter Tryz.func170, Tryz.ntmps170
    go_wp2_with fail
    refine (isNode_any _ _).mono ?_
    rintro e w' ⟨rfl, rfl⟩
    rw [h1]
    go_wp2_with fail
    refine (isNode_any _ _).mono ?_
    rintro e w' ⟨rfl, rfl⟩
    rw [h2]
    go_wp2_with fail
    refine (isTime_any5 _ _).mono ?_
    rintro e w' ⟨rfl, rfl⟩
    go_wp2_with fail
    go_ret
    exact ⟨ret_bool (by simp [flB, h1, h2, h3n]), B0⟩
   ·have h3n : ¬ x3.size ≤ 64 := by omega
    have HN : Hid (flB x1 x2 x3 x4 = false) := by simp [Hid, flB, h3n]
    go_enter Tryz.func170, Tryz.ntmps170
    go_wp2_with fail
    refine (isNode_any _ _).mono ?_
    rintro e w' ⟨rfl, rfl⟩
    rw [h1]
    go_wp2_with fail
    refine (isNode_any _ _).mono ?_
    rintro e w' ⟨rfl, rfl⟩
    rw [h2]
    go_wp2_with fail
    go_ret
    exact ⟨ret_bool HN.out.symm, B0⟩
set_option maxHeartbeats 1000000 in
theorem szFlight_left (x0 x1 x2 : Int) (x3 : ByteArray) (x4 : Int) (L : Int) (w : World) (hs : x3.size ≤ maxLen) (L0 : 0 ≤ L) (L1 : L ≤ 1048576) :
 Calls Tryz.prog 85 #[.agg #[.int .i64 x0, .int .i64 x1, .int .i64 x2, .string x3, .int .i64 x4], .int .i64 L] w fun e w' => e = .returned (.int .i64 (if (x3.size : Int) ≤ L then L - (x3.size : Int) else -1)) ∧ Below w.heap.size w w' := by
 unfold maxLen at hs
 have B0 := Below.nw w (.cells #[.int .i64 x0, .int .i64 x1, .int .i64 x2, .string x3, .int .i64 x4] 154)
 by_cases h : (x3.size : Int) ≤ L
 ·rw [if_pos h]
  have hd : decide (L - (x3.size : Int) < 0) = false := by simp; omega
  go_enter Tryz.func85, Tryz.ntmps85
  go_wp2
  go_ret
  exact ⟨rfl, B0⟩
 ·rw [if_neg h]
  have hd : decide (L - (x3.size : Int) < 0) = true := by simp; omega
  go_enter Tryz.func85, Tryz.ntmps85
  go_wp2
  go_ret
  exact ⟨rfl, B0⟩
set_option maxHeartbeats 2000000 in
theorem toFlight_any (x0 x1 x2 : Int) (x3 : ByteArray) (x4 : Int) (w : World) :
 Calls Tryz.prog 108 #[.agg #[.int .i64 x0, .int .i64 x1, .int .i64 x2, .string x3, .int .i64 x4]] w fun e w' => e = .returned (.agg #[.int .i64 x0, .int .i64 x1, .int .i64 x2, .string x3, .int .i64 x4]) ∧ Below w.heap.size w w' := by
 go_enter Tryz.func108, Tryz.ntmps108
 go_wp2_with fail
 exact bodyPost_ret (v := .agg #[.int .i64 x0, .int .i64 x1, .int .i64 x2, .string x3, .int .i64 x4]) (by simp (maxDischargeDepth := 6) [results, Tryz.results108, go_sem, *]) rfl ⟨rfl, by repeat (first | refine Below.setCell ?_ (by first | (simp; done) | (simp; omega) | omega) _ | refine Below.alloc ?_ (by first | exact Nat.le_refl _ | (simp; done) | (simp; omega)) _ | exact Below.refl _ _)⟩
set_option maxHeartbeats 2000000 in
theorem eqFlight_same (x0 x1 x2 : Int) (x3 : ByteArray) (x4 : Int) (w : World) :
 Calls Tryz.prog 128 #[.agg #[.int .i64 x0, .int .i64 x1, .int .i64 x2, .string x3, .int .i64 x4], .agg #[.int .i64 x0, .int .i64 x1, .int .i64 x2, .string x3, .int .i64 x4]] w fun e w' => e = .returned (.bool true) ∧ Below w.heap.size w w' := by
 go_enter Tryz.func128, Tryz.ntmps128
 go_wp2_with fail
 go_ret
 exact ⟨rfl, by repeat (first | refine Below.alloc ?_ (by first | exact Nat.le_refl _ | (simp; done) | (simp; omega)) _ | exact Below.refl _ _)⟩
end Go.Proofs.YtddijpjgkifngaaGreatDoor
namespace Go.Proofs.YtddijpjgkifngaaGreatDoor
open Go.RowKit
set_option linter.unusedVariables false
def fv (M : FT) : Value := .agg #[.int .i64 M.1, .int .i64 M.2.1, .int .i64 M.2.2.1, .string M.2.2.2.1, .int .i64 M.2.2.2.2]
def R0 (v : Value) : Option (DataW Value × List MemPlace) := some (.held v, [])
def atF (o : Option FT) (z : DataW Value) : DataW Value := match o with | some M => .held (fv M) | none => z
def MapI (w : World) (b n : Nat) (F : Int → Option FT) : Prop := ∃ D : DataW Value, w.ownsMap Tryz.prog 3 R0 b n D ∧ ∀ x, (∀ z, D.atKey (.int .i64 x) z = atF (F x) z) ∧ Maps.has D (.int .i64 x) = (F x).isSome
theorem lawK : Maps.Keyed Tryz.prog 3 := Maps.int_keyed Tryz.underlying3
theorem zeroFl (w : World) : (zeroValue 105).run Tryz.prog w = .ok (fv zF) w := by kernel_rfl
set_option maxRecDepth 100000 in
theorem run_mkmap (n : Nat) (w : World) : (Instr.makeMap 216 (some (.int .i64 (n : Int)))).run Tryz.prog w = .ok (.map (some w.heap.size)) (w.alloc (.map #[] 0)) := by
 first | rfl | (simp [Instr.makeMap, go_sem]; done) | (simp [Instr.makeMap]; done)
theorem MapI.made (w : World) : MapI (w.alloc (.map #[] 0)) w.heap.size 0 (fun _ => none) := ⟨.map [], World.ownsMap_made w _ _ _, fun x => ⟨fun z => rfl, rfl⟩⟩
theorem MapI.kept {w w' : World} {b n : Nat} {F : Int → Option FT} (h : MapI w b n F) {row : Option Nat} (hg : w.grownBy w' row) (hne : some b ≠ row) : MapI w' b n F := by
 obtain ⟨D, h1, h2⟩ := h
 exact ⟨D, h1.kept hg hne, h2⟩
theorem MapI.lt {w : World} {b n : Nat} {F : Int → Option FT} (h : MapI w b n F) : b < w.heap.size := by
 obtain ⟨D, h1, h2⟩ := h
 exact h1.lt
theorem MapI.below {w w' : World} {b n : Nat} {F : Int → Option FT} (h : MapI w b n F) (hb : Below w.heap.size w w') : MapI w' b n F :=
 h.kept (row := none) ⟨hb.os, hb.tape, hb.output, hb.size, fun k hk _ => hb.block k hk⟩ (by simp)
theorem MapI.setCell {w : World} {b n : Nat} {F : Int → Option FT} (h : MapI w b n F) {a : Addr} (ha : b ≠ a.block) (u : Value) : MapI (w.setCell a u) b n F := by
 obtain ⟨D, h1, h2⟩ := h
 exact ⟨D, h1.setCell ha u, h2⟩
theorem MapI.congr {w : World} {b n : Nat} {F G : Int → Option FT} (h : MapI w b n F) (e : ∀ x, F x = G x) : MapI w b n G := by
 obtain ⟨D, h1, h2⟩ := h
 exact ⟨D, h1, fun x => by rw [← e x]; exact h2 x⟩
theorem held_inj {o : Option FT} {v : Value} {ps : List MemPlace} (h : R0 v = some (atF o (.held (fv zF)), ps)) : v = fv (o.getD zF) := by
 unfold R0 at h
 simp only [Option.some.injEq, Prod.mk.injEq] at h
 cases o with
 | none => simp only [atF, DataW.held.injEq] at h; exact h.1
 | some M => simp only [atF, DataW.held.injEq] at h; exact h.1
theorem MapI.look_ok {w : World} {b n : Nat} {F : Int → Option FT} (h : MapI w b n F) {x : Int} (hx : (Lit.int .i64 x).wf = true) : (Instr.lookup 216 (.map (some b)) (.int .i64 x) true).run Tryz.prog w = .ok (.tuple #[fv ((F x).getD zF), .bool (F x).isSome]) w := by
 obtain ⟨D, h1, h2⟩ := h
 obtain ⟨v, ps, hrun, hv⟩ := h1.look_ok (t := 216) (e := 105) lawK Tryz.underlying216 (zeroFl w) (zd := .held (fv zF)) (zp := []) rfl (Maps.keyOf_int_mk Tryz.underlying3 hx)
 rw [(h2 x).1] at hv
 rw [hrun, held_inj hv, (h2 x).2]
theorem lit_ne {x y : Int} (h : x ≠ y) : (Lit.int .i64 x) ≠ (Lit.int .i64 y) := fun e => h (by injection e)
theorem MapI.put {w : World} {b n : Nat} {F : Int → Option FT} (h : MapI w b n F) {x : Int} (hx : (Lit.int .i64 x).wf = true) (hn : n < maxLen) (M : FT) :
 ∃ w', (Instr.mapUpdate 216 (.map (some b)) (.int .i64 x) (fv M)).run Tryz.prog w = .ok () w' ∧ MapI w' b (n + 1) (fun y => if y = x then some M else F y) ∧ w.grownBy w' (some b) := by
 obtain ⟨D, h1, h2⟩ := h
 have hD := h1.isMap
 obtain ⟨w', hrun, ho, hg⟩ := h1.update (t := 216) (e := 105) lawK Tryz.underlying216 hn (key := .int .i64 x) (val := fv M) (d := .held (fv M)) (ps := []) (Maps.keyOf_int_mk Tryz.underlying3 hx) rfl
 refine ⟨w', hrun, ⟨_, ho, fun y => ?_⟩, hg⟩
 by_cases e : y = x
 ·subst e
  simp only [if_true]
  exact ⟨fun z => Maps.atKey_put_same hD (show WideAt.IsKeyLit (.int .i64 y) from trivial) _ _, Maps.has_put_same hD (show WideAt.IsKeyLit (.int .i64 y) from trivial) _⟩
 ·simp only [if_neg e]
  exact ⟨fun z => (Maps.atKey_put_other (lit_ne e) _ _).trans ((h2 y).1 z), (Maps.has_put_other (lit_ne e) _).trans (h2 y).2⟩
end Go.Proofs.YtddijpjgkifngaaGreatDoor
