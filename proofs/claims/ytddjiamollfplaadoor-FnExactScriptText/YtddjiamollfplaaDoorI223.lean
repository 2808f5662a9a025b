/- The words of what is told, in parts (the program). -/
import Derived.Test.YtddjiamollfplaaDoorI221
import Derived.Test.YtddjiamollfplaaDoorZ200
import Derived.Deep.RegionHeld3
import Derived.WalkKit
import Derived.WalkSpells
import Derived.WalkLawsBesides
import Derived.Deep.RegionHeld
namespace Go.Proofs.YtddjiamollfplaaDoor
open Go.RowKit
set_option linter.unusedVariables false
/- Texts appended to a row of texts of one's own. -/
theorem strs_cell (w : World) (M : List ByteArray) : ∀ j u, (stR M)[j]? = some u → (w.alloc (.cells (stR M).toArray 9)).cell? ((⟨w.heap.size, 0, none⟩ : Addr).add j) = some u := by
  intro j u h
  rw [add_atX, Nat.zero_add]
  simpa using h
theorem srow_app (L M : List ByteArray) : stR (L ++ M) = stR L ++ stR M := by simp [stR]
theorem add_strs {w : World} {ops : Array Oper} {rest : List Oper} {o : Oper} {a : Act} {Q : Exit → Act → World → Prop} (hgd : o.guard = none) (s x : Operand)
    (ho : o.op = .call { callee := .builtin .append, args := #[s, x], argTypes := #[87, 87] }) (base : Nat) (L M : List ByteArray) (v : Value) (hs : a.eval s = v) (hown : w.ownsRow base 9 1 v L.length (stR L))
    (ad : Addr) (c : Nat) (hx : a.eval x = .slice (some ad) M.length c) (hM : ∀ j u, (stR M)[j]? = some u → w.cell? (ad.add j) = some u) (hL : L.length + M.length ≤ 64) (hbase : base ≤ w.heap.size)
    (h : ∀ v' w', w'.ownsRow base 9 1 v' (L ++ M).length (stR (L ++ M)) → w.grownBy w' v.ownBlock → wpList Tryd.prog ops Q rest (a.put o.dst v') w') :
    wpList Tryd.prog ops Q (o :: rest) a w := by
  obtain ⟨i0, hi, hz0, hz1, hz2⟩ := info_parts info_str
  refine wpList_append_own w hgd s x 87 ho base 9 i0 (.string ⟨#[]⟩) 1 16 Tryd.underlying87 hi hz0 hz1 hz2 rfl (by decide) v L.length (stR L) hs hown ad M.length c (stR M) hx (by rw [stR_len, Nat.mul_one]) hM (stR_one M) (by unfold maxLen; omega) (by omega) hbase ?_
  intro v' w' h1 h2 _
  exact h v' w' (by rw [srow_app, List.length_append]; exact h1) h2
theorem own_baseS {w : World} {base base' : Nat} {v : Value} {L : List ByteArray} (h : w.ownsRow base' 9 1 v L.length (stR L)) (hb : base ≤ base') : w.ownsRow base 9 1 v L.length (stR L) := own_baseX h hb
theorem grown_belowS {w w' : World} {base : Nat} {v : Value} {L : List ByteArray} (h : w.ownsRow base 9 1 v L.length (stR L)) (hg : w.grownBy w' v.ownBlock) (hb : base ≤ w.heap.size) : Below base w w' :=
  Below.grown (Below.refl base w) hg hb (fun k hk => (World.ownsRow.lt h k hk).1)
set_option maxHeartbeats 1000000 in
theorem wordOf_any (k : Int) (w : World) (E : OpW w) :
    Calls Tryd.prog 107 #[.int .i64 k] w fun e w' => e = .returned (.string (nmK k)) ∧ Below w.heap.size w w' := by
  by_cases h : 0 ≤ k ∧ k < 15
  · obtain ⟨K, rfl⟩ := Int.eq_ofNat_of_zero_le h.1
    have c := E.1 K (by omega)
    have d1 : decide ((K : Int) < 0) = false := by (rw [decide_eq_false_iff_not]; omega)
    have d2 : decide (15 ≤ (K : Int)) = false := by (rw [decide_eq_false_iff_not]; omega)
    have i1 : (0 : Int) ≤ (K : Int) ∧ (K : Int) < 15 := h
    have hk15 : K < 15 := by omega
    generalize nmK (K : Int) = nm at *
    clear E h
    go_enter Tryd.func107, Tryd.ntmps107
    go_wp2_with fail
    go_ret
    exact ⟨rfl, Below.refl _ _⟩
  · have hn := nmK_no (k := k) (by omega)
    rw [hn]
    clear E hn
    by_cases h0 : k < 0
    · have d1 : decide (k < 0) = true := by simp [h0]
      go_enter Tryd.func107, Tryd.ntmps107
      go_wp2_with fail
      go_ret
      exact ⟨rfl, Below.refl _ _⟩
    · have d1 : decide (k < 0) = false := by simp; omega
      have d2 : decide (15 ≤ k) = true := by simp; omega
      go_enter Tryd.func107, Tryd.ntmps107
      go_wp2_with fail
      go_ret
      exact ⟨rfl, Below.refl _ _⟩
set_option maxHeartbeats 1000000 in
theorem isOfNode_1 (nd cd v : Int) (hd kn : Bool) (wl wh nl nh : Int) (w : World) (E : OpW w) :
    Calls Tryd.prog 108 #[.agg #[.int .i64 1, .int .i64 nd, .int .i64 cd, .int .i64 v, .bool hd, .bool kn, .int .i64 wl, .int .i64 wh, .int .i64 nl, .int .i64 nh]] w fun e w' => e = .returned (.bool (ondB 1)) ∧ Below w.heap.size w w' := by
  have B := Below.nw w (.cells #[.int .i64 1, .int .i64 nd, .int .i64 cd, .int .i64 v, .bool hd, .bool kn, .int .i64 wl, .int .i64 wh, .int .i64 nl, .int .i64 nh] 66)
  have N := Bo.new w #[.int .i64 1, .int .i64 nd, .int .i64 cd, .int .i64 v, .bool hd, .bool kn, .int .i64 wl, .int .i64 wh, .int .i64 nl, .int .i64 nh] 66
  clear E
  go_enter Tryd.func108, Tryd.ntmps108
  go_upto_region 1 with fail
  generalize w.alloc (.cells #[.int .i64 1, .int .i64 nd, .int .i64 cd, .int .i64 v, .bool hd, .bool kn, .int .i64 wl, .int .i64 wh, .int .i64 nl, .int .i64 nh] 66) = x0 at *
  have c0 : x0.cell? ⟨w.heap.size, 0, none⟩ = some (.int .i64 1) := N.cell (i := 0) rfl
  have c1 : x0.cell? ⟨w.heap.size, 1, none⟩ = some (.int .i64 nd) := N.cell (i := 1) rfl
  have c2 : x0.cell? ⟨w.heap.size, 2, none⟩ = some (.int .i64 cd) := N.cell (i := 2) rfl
  have c3 : x0.cell? ⟨w.heap.size, 3, none⟩ = some (.int .i64 v) := N.cell (i := 3) rfl
  have c4 : x0.cell? ⟨w.heap.size, 4, none⟩ = some (.bool hd) := N.cell (i := 4) rfl
  have c5 : x0.cell? ⟨w.heap.size, 5, none⟩ = some (.bool kn) := N.cell (i := 5) rfl
  have c6 : x0.cell? ⟨w.heap.size, 6, none⟩ = some (.int .i64 wl) := N.cell (i := 6) rfl
  have c7 : x0.cell? ⟨w.heap.size, 7, none⟩ = some (.int .i64 wh) := N.cell (i := 7) rfl
  have c8 : x0.cell? ⟨w.heap.size, 8, none⟩ = some (.int .i64 nl) := N.cell (i := 8) rfl
  have c9 : x0.cell? ⟨w.heap.size, 9, none⟩ = some (.int .i64 nh) := N.cell (i := 9) rfl
  go_wp2_with fail
  go_ret
  exact ⟨rfl, B⟩
set_option maxHeartbeats 1000000 in
theorem isOfNode_11 (nd cd v : Int) (hd kn : Bool) (wl wh nl nh : Int) (w : World) (E : OpW w) :
    Calls Tryd.prog 108 #[.agg #[.int .i64 11, .int .i64 nd, .int .i64 cd, .int .i64 v, .bool hd, .bool kn, .int .i64 wl, .int .i64 wh, .int .i64 nl, .int .i64 nh]] w fun e w' => e = .returned (.bool (ondB 11)) ∧ Below w.heap.size w w' := by
  have B := Below.nw w (.cells #[.int .i64 11, .int .i64 nd, .int .i64 cd, .int .i64 v, .bool hd, .bool kn, .int .i64 wl, .int .i64 wh, .int .i64 nl, .int .i64 nh] 66)
  have N := Bo.new w #[.int .i64 11, .int .i64 nd, .int .i64 cd, .int .i64 v, .bool hd, .bool kn, .int .i64 wl, .int .i64 wh, .int .i64 nl, .int .i64 nh] 66
  clear E
  go_enter Tryd.func108, Tryd.ntmps108
  go_upto_region 1 with fail
  generalize w.alloc (.cells #[.int .i64 11, .int .i64 nd, .int .i64 cd, .int .i64 v, .bool hd, .bool kn, .int .i64 wl, .int .i64 wh, .int .i64 nl, .int .i64 nh] 66) = x0 at *
  have c0 : x0.cell? ⟨w.heap.size, 0, none⟩ = some (.int .i64 11) := N.cell (i := 0) rfl
  have c1 : x0.cell? ⟨w.heap.size, 1, none⟩ = some (.int .i64 nd) := N.cell (i := 1) rfl
  have c2 : x0.cell? ⟨w.heap.size, 2, none⟩ = some (.int .i64 cd) := N.cell (i := 2) rfl
  have c3 : x0.cell? ⟨w.heap.size, 3, none⟩ = some (.int .i64 v) := N.cell (i := 3) rfl
  have c4 : x0.cell? ⟨w.heap.size, 4, none⟩ = some (.bool hd) := N.cell (i := 4) rfl
  have c5 : x0.cell? ⟨w.heap.size, 5, none⟩ = some (.bool kn) := N.cell (i := 5) rfl
  have c6 : x0.cell? ⟨w.heap.size, 6, none⟩ = some (.int .i64 wl) := N.cell (i := 6) rfl
  have c7 : x0.cell? ⟨w.heap.size, 7, none⟩ = some (.int .i64 wh) := N.cell (i := 7) rfl
  have c8 : x0.cell? ⟨w.heap.size, 8, none⟩ = some (.int .i64 nl) := N.cell (i := 8) rfl
  have c9 : x0.cell? ⟨w.heap.size, 9, none⟩ = some (.int .i64 nh) := N.cell (i := 9) rfl
  go_wp2_with fail
  go_ret
  exact ⟨rfl, B⟩
set_option maxHeartbeats 1000000 in
theorem isOfNode_12 (nd cd v : Int) (hd kn : Bool) (wl wh nl nh : Int) (w : World) (E : OpW w) :
    Calls Tryd.prog 108 #[.agg #[.int .i64 12, .int .i64 nd, .int .i64 cd, .int .i64 v, .bool hd, .bool kn, .int .i64 wl, .int .i64 wh, .int .i64 nl, .int .i64 nh]] w fun e w' => e = .returned (.bool (ondB 12)) ∧ Below w.heap.size w w' := by
  have B := Below.nw w (.cells #[.int .i64 12, .int .i64 nd, .int .i64 cd, .int .i64 v, .bool hd, .bool kn, .int .i64 wl, .int .i64 wh, .int .i64 nl, .int .i64 nh] 66)
  have N := Bo.new w #[.int .i64 12, .int .i64 nd, .int .i64 cd, .int .i64 v, .bool hd, .bool kn, .int .i64 wl, .int .i64 wh, .int .i64 nl, .int .i64 nh] 66
  clear E
  go_enter Tryd.func108, Tryd.ntmps108
  go_upto_region 1 with fail
  generalize w.alloc (.cells #[.int .i64 12, .int .i64 nd, .int .i64 cd, .int .i64 v, .bool hd, .bool kn, .int .i64 wl, .int .i64 wh, .int .i64 nl, .int .i64 nh] 66) = x0 at *
  have c0 : x0.cell? ⟨w.heap.size, 0, none⟩ = some (.int .i64 12) := N.cell (i := 0) rfl
  have c1 : x0.cell? ⟨w.heap.size, 1, none⟩ = some (.int .i64 nd) := N.cell (i := 1) rfl
  have c2 : x0.cell? ⟨w.heap.size, 2, none⟩ = some (.int .i64 cd) := N.cell (i := 2) rfl
  have c3 : x0.cell? ⟨w.heap.size, 3, none⟩ = some (.int .i64 v) := N.cell (i := 3) rfl
  have c4 : x0.cell? ⟨w.heap.size, 4, none⟩ = some (.bool hd) := N.cell (i := 4) rfl
  have c5 : x0.cell? ⟨w.heap.size, 5, none⟩ = some (.bool kn) := N.cell (i := 5) rfl
  have c6 : x0.cell? ⟨w.heap.size, 6, none⟩ = some (.int .i64 wl) := N.cell (i := 6) rfl
  have c7 : x0.cell? ⟨w.heap.size, 7, none⟩ = some (.int .i64 wh) := N.cell (i := 7) rfl
  have c8 : x0.cell? ⟨w.heap.size, 8, none⟩ = some (.int .i64 nl) := N.cell (i := 8) rfl
  have c9 : x0.cell? ⟨w.heap.size, 9, none⟩ = some (.int .i64 nh) := N.cell (i := 9) rfl
  go_wp2_with fail
  go_ret
  exact ⟨rfl, B⟩
set_option maxHeartbeats 1000000 in
theorem isOfNode_13 (nd cd v : Int) (hd kn : Bool) (wl wh nl nh : Int) (w : World) (E : OpW w) :
    Calls Tryd.prog 108 #[.agg #[.int .i64 13, .int .i64 nd, .int .i64 cd, .int .i64 v, .bool hd, .bool kn, .int .i64 wl, .int .i64 wh, .int .i64 nl, .int .i64 nh]] w fun e w' => e = .returned (.bool (ondB 13)) ∧ Below w.heap.size w w' := by
  have B := Below.nw w (.cells #[.int .i64 13, .int .i64 nd, .int .i64 cd, .int .i64 v, .bool hd, .bool kn, .int .i64 wl, .int .i64 wh, .int .i64 nl, .int .i64 nh] 66)
  have N := Bo.new w #[.int .i64 13, .int .i64 nd, .int .i64 cd, .int .i64 v, .bool hd, .bool kn, .int .i64 wl, .int .i64 wh, .int .i64 nl, .int .i64 nh] 66
  clear E
  go_enter Tryd.func108, Tryd.ntmps108
  go_upto_region 1 with fail
  generalize w.alloc (.cells #[.int .i64 13, .int .i64 nd, .int .i64 cd, .int .i64 v, .bool hd, .bool kn, .int .i64 wl, .int .i64 wh, .int .i64 nl, .int .i64 nh] 66) = x0 at *
  have c0 : x0.cell? ⟨w.heap.size, 0, none⟩ = some (.int .i64 13) := N.cell (i := 0) rfl
  have c1 : x0.cell? ⟨w.heap.size, 1, none⟩ = some (.int .i64 nd) := N.cell (i := 1) rfl
  have c2 : x0.cell? ⟨w.heap.size, 2, none⟩ = some (.int .i64 cd) := N.cell (i := 2) rfl
  have c3 : x0.cell? ⟨w.heap.size, 3, none⟩ = some (.int .i64 v) := N.cell (i := 3) rfl
  have c4 : x0.cell? ⟨w.heap.size, 4, none⟩ = some (.bool hd) := N.cell (i := 4) rfl
  have c5 : x0.cell? ⟨w.heap.size, 5, none⟩ = some (.bool kn) := N.cell (i := 5) rfl
  have c6 : x0.cell? ⟨w.heap.size, 6, none⟩ = some (.int .i64 wl) := N.cell (i := 6) rfl
  have c7 : x0.cell? ⟨w.heap.size, 7, none⟩ = some (.int .i64 wh) := N.cell (i := 7) rfl
  have c8 : x0.cell? ⟨w.heap.size, 8, none⟩ = some (.int .i64 nl) := N.cell (i := 8) rfl
  have c9 : x0.cell? ⟨w.heap.size, 9, none⟩ = some (.int .i64 nh) := N.cell (i := 9) rfl
  go_wp2_with fail
  go_ret
  exact ⟨rfl, B⟩
set_option maxHeartbeats 1000000 in
theorem isOfNode_14 (nd cd v : Int) (hd kn : Bool) (wl wh nl nh : Int) (w : World) (E : OpW w) :
    Calls Tryd.prog 108 #[.agg #[.int .i64 14, .int .i64 nd, .int .i64 cd, .int .i64 v, .bool hd, .bool kn, .int .i64 wl, .int .i64 wh, .int .i64 nl, .int .i64 nh]] w fun e w' => e = .returned (.bool (ondB 14)) ∧ Below w.heap.size w w' := by
  have B := Below.nw w (.cells #[.int .i64 14, .int .i64 nd, .int .i64 cd, .int .i64 v, .bool hd, .bool kn, .int .i64 wl, .int .i64 wh, .int .i64 nl, .int .i64 nh] 66)
  have N := Bo.new w #[.int .i64 14, .int .i64 nd, .int .i64 cd, .int .i64 v, .bool hd, .bool kn, .int .i64 wl, .int .i64 wh, .int .i64 nl, .int .i64 nh] 66
  clear E
  go_enter Tryd.func108, Tryd.ntmps108
  go_upto_region 1 with fail
  generalize w.alloc (.cells #[.int .i64 14, .int .i64 nd, .int .i64 cd, .int .i64 v, .bool hd, .bool kn, .int .i64 wl, .int .i64 wh, .int .i64 nl, .int .i64 nh] 66) = x0 at *
  have c0 : x0.cell? ⟨w.heap.size, 0, none⟩ = some (.int .i64 14) := N.cell (i := 0) rfl
  have c1 : x0.cell? ⟨w.heap.size, 1, none⟩ = some (.int .i64 nd) := N.cell (i := 1) rfl
  have c2 : x0.cell? ⟨w.heap.size, 2, none⟩ = some (.int .i64 cd) := N.cell (i := 2) rfl
  have c3 : x0.cell? ⟨w.heap.size, 3, none⟩ = some (.int .i64 v) := N.cell (i := 3) rfl
  have c4 : x0.cell? ⟨w.heap.size, 4, none⟩ = some (.bool hd) := N.cell (i := 4) rfl
  have c5 : x0.cell? ⟨w.heap.size, 5, none⟩ = some (.bool kn) := N.cell (i := 5) rfl
  have c6 : x0.cell? ⟨w.heap.size, 6, none⟩ = some (.int .i64 wl) := N.cell (i := 6) rfl
  have c7 : x0.cell? ⟨w.heap.size, 7, none⟩ = some (.int .i64 wh) := N.cell (i := 7) rfl
  have c8 : x0.cell? ⟨w.heap.size, 8, none⟩ = some (.int .i64 nl) := N.cell (i := 8) rfl
  have c9 : x0.cell? ⟨w.heap.size, 9, none⟩ = some (.int .i64 nh) := N.cell (i := 9) rfl
  go_wp2_with fail
  go_ret
  exact ⟨rfl, B⟩
set_option maxHeartbeats 1000000 in
theorem isOfNode_any (k nd cd v : Int) (hd kn : Bool) (wl wh nl nh : Int) (w : World) (E : OpW w) :
    Calls Tryd.prog 108 #[.agg #[.int .i64 k, .int .i64 nd, .int .i64 cd, .int .i64 v, .bool hd, .bool kn, .int .i64 wl, .int .i64 wh, .int .i64 nl, .int .i64 nh]] w fun e w' => e = .returned (.bool (ondB k)) ∧ Below w.heap.size w w' := by
  by_cases hk : k = 1 ∨ (11 ≤ k ∧ k ≤ 14)
  · rcases (show k = 1 ∨ k = 11 ∨ k = 12 ∨ k = 13 ∨ k = 14 by omega) with rfl | rfl | rfl | rfl | rfl
    · exact isOfNode_1 nd cd v hd kn wl wh nl nh w E
    · exact isOfNode_11 nd cd v hd kn wl wh nl nh w E
    · exact isOfNode_12 nd cd v hd kn wl wh nl nh w E
    · exact isOfNode_13 nd cd v hd kn wl wh nl nh w E
    · exact isOfNode_14 nd cd v hd kn wl wh nl nh w E
  have d1 : (k == 1) = false := by (rw [beq_eq_false_iff_ne]; omega)
  have d2 : (k == 11) = false := by (rw [beq_eq_false_iff_ne]; omega)
  have d3 : (k == 12) = false := by (rw [beq_eq_false_iff_ne]; omega)
  have d4 : (k == 13) = false := by (rw [beq_eq_false_iff_ne]; omega)
  have d5 : (k == 14) = false := by (rw [beq_eq_false_iff_ne]; omega)
  have HE : Hid (OpW w) := E
  clear E
  by_cases hb : 2 ≤ k ∧ k ≤ 10
  · have hon : ondB k = true := by (unfold ondB; simp [hb])
    have hne : ∃ nm, nmK k = nm ∧ nm.toList.isEmpty = false := by
      refine ⟨_, rfl, ?_⟩
      rcases (show k = 2 ∨ k = 3 ∨ k = 4 ∨ k = 5 ∨ k = 6 ∨ k = 7 ∨ k = 8 ∨ k = 9 ∨ k = 10 by omega) with rfl | rfl | rfl | rfl | rfl | rfl | rfl | rfl | rfl
      all_goals decide +kernel
    obtain ⟨nm, hn, he⟩ := hne
    rw [hon]
    clear hk hb hon
    have B := Below.nw w (.cells #[.int .i64 k, .int .i64 nd, .int .i64 cd, .int .i64 v, .bool hd, .bool kn, .int .i64 wl, .int .i64 wh, .int .i64 nl, .int .i64 nh] 66)
    have N := Bo.new w #[.int .i64 k, .int .i64 nd, .int .i64 cd, .int .i64 v, .bool hd, .bool kn, .int .i64 wl, .int .i64 wh, .int .i64 nl, .int .i64 nh] 66
    have CW := fun (u : World) (hu : Below w.heap.size w u) => wordOf_any k u (HE.out.below hu)
    rw [hn] at CW
    clear HE hn
    go_enter Tryd.func108, Tryd.ntmps108
    go_upto_region 1 with fail
    generalize w.alloc (.cells #[.int .i64 k, .int .i64 nd, .int .i64 cd, .int .i64 v, .bool hd, .bool kn, .int .i64 wl, .int .i64 wh, .int .i64 nl, .int .i64 nh] 66) = x0 at *
    have c0 : x0.cell? ⟨w.heap.size, 0, none⟩ = some (.int .i64 k) := N.cell (i := 0) rfl
    have c1 : x0.cell? ⟨w.heap.size, 1, none⟩ = some (.int .i64 nd) := N.cell (i := 1) rfl
    have c2 : x0.cell? ⟨w.heap.size, 2, none⟩ = some (.int .i64 cd) := N.cell (i := 2) rfl
    have c3 : x0.cell? ⟨w.heap.size, 3, none⟩ = some (.int .i64 v) := N.cell (i := 3) rfl
    have c4 : x0.cell? ⟨w.heap.size, 4, none⟩ = some (.bool hd) := N.cell (i := 4) rfl
    have c5 : x0.cell? ⟨w.heap.size, 5, none⟩ = some (.bool kn) := N.cell (i := 5) rfl
    have c6 : x0.cell? ⟨w.heap.size, 6, none⟩ = some (.int .i64 wl) := N.cell (i := 6) rfl
    have c7 : x0.cell? ⟨w.heap.size, 7, none⟩ = some (.int .i64 wh) := N.cell (i := 7) rfl
    have c8 : x0.cell? ⟨w.heap.size, 8, none⟩ = some (.int .i64 nl) := N.cell (i := 8) rfl
    have c9 : x0.cell? ⟨w.heap.size, 9, none⟩ = some (.int .i64 nh) := N.cell (i := 9) rfl
    go_wp2_with fail
    refine (CW _ B).mono ?_
    rintro e x1 ⟨rfl, hb⟩
    go_wp2_with fail
    go_ret
    exact ⟨rfl, B.trans (hb.mono B.size)⟩
  · have hon : ondB k = false := by (unfold ondB; simp; omega)
    have hn := nmK_no (k := k) (by omega)
    rw [hon]
    clear hk hb hon
    have B := Below.nw w (.cells #[.int .i64 k, .int .i64 nd, .int .i64 cd, .int .i64 v, .bool hd, .bool kn, .int .i64 wl, .int .i64 wh, .int .i64 nl, .int .i64 nh] 66)
    have N := Bo.new w #[.int .i64 k, .int .i64 nd, .int .i64 cd, .int .i64 v, .bool hd, .bool kn, .int .i64 wl, .int .i64 wh, .int .i64 nl, .int .i64 nh] 66
    have CW := fun (u : World) (hu : Below w.heap.size w u) => wordOf_any k u (HE.out.below hu)
    rw [hn] at CW
    clear HE hn
    go_enter Tryd.func108, Tryd.ntmps108
    go_upto_region 1 with fail
    generalize w.alloc (.cells #[.int .i64 k, .int .i64 nd, .int .i64 cd, .int .i64 v, .bool hd, .bool kn, .int .i64 wl, .int .i64 wh, .int .i64 nl, .int .i64 nh] 66) = x0 at *
    have c0 : x0.cell? ⟨w.heap.size, 0, none⟩ = some (.int .i64 k) := N.cell (i := 0) rfl
    have c1 : x0.cell? ⟨w.heap.size, 1, none⟩ = some (.int .i64 nd) := N.cell (i := 1) rfl
    have c2 : x0.cell? ⟨w.heap.size, 2, none⟩ = some (.int .i64 cd) := N.cell (i := 2) rfl
    have c3 : x0.cell? ⟨w.heap.size, 3, none⟩ = some (.int .i64 v) := N.cell (i := 3) rfl
    have c4 : x0.cell? ⟨w.heap.size, 4, none⟩ = some (.bool hd) := N.cell (i := 4) rfl
    have c5 : x0.cell? ⟨w.heap.size, 5, none⟩ = some (.bool kn) := N.cell (i := 5) rfl
    have c6 : x0.cell? ⟨w.heap.size, 6, none⟩ = some (.int .i64 wl) := N.cell (i := 6) rfl
    have c7 : x0.cell? ⟨w.heap.size, 7, none⟩ = some (.int .i64 wh) := N.cell (i := 7) rfl
    have c8 : x0.cell? ⟨w.heap.size, 8, none⟩ = some (.int .i64 nl) := N.cell (i := 8) rfl
    have c9 : x0.cell? ⟨w.heap.size, 9, none⟩ = some (.int .i64 nh) := N.cell (i := 9) rfl
    go_wp2_with fail
    refine (CW _ B).mono ?_
    rintro e x1 ⟨rfl, hb⟩
    go_wp2_with fail
    go_ret
    exact ⟨rfl, B.trans (hb.mono B.size)⟩
set_option maxHeartbeats 4000000 in
set_option maxRecDepth 100000 in
theorem outcome_5 (nd cd v : Int) (hd kn : Bool) (wl wh nl nh : Int) (w : World) (E : T10 w) (g2 : -9223372036854775808 ≤ v ∧ v ≤ 9223372036854775807) (g3 : -9223372036854775808 ≤ nl ∧ nl ≤ 9223372036854775807) (g4 : -9223372036854775808 ≤ nh ∧ nh ≤ 9223372036854775807) :
    Calls Tryd.prog 109 #[.agg #[.int .i64 5, .int .i64 nd, .int .i64 cd, .int .i64 v, .bool hd, .bool kn, .int .i64 wl, .int .i64 wh, .int .i64 nl, .int .i64 nh]] w fun e w' => ∃ u, e = .returned u ∧ w'.ownsRow w.heap.size 9 1 u (ocdL 5 v hd nl nh).length (stR (ocdL 5 v hd nl nh)) ∧ Below w.heap.size w w' := by
  have B := Below.nw w (.cells #[.int .i64 5, .int .i64 nd, .int .i64 cd, .int .i64 v, .bool hd, .bool kn, .int .i64 wl, .int .i64 wh, .int .i64 nl, .int .i64 nh] 66)
  have N := Bo.new w #[.int .i64 5, .int .i64 nd, .int .i64 cd, .int .i64 v, .bool hd, .bool kn, .int .i64 wl, .int .i64 wh, .int .i64 nl, .int .i64 nh] 66
  have HE : Hid (T10 w) := E
  have CTv := fun (u : World) (hu : Below w.heap.size w u) => implTextOf_any v u g2.1 g2.2 (HE.out.below hu)
  have CTi := fun (u : World) (hu : Below w.heap.size w u) => implIvalText_any nl nh u g3.1 g3.2 g4.1 g4.2 (HE.out.below hu)
  clear E g2 g3 g4
  have HL : Hid (ocdL 5 v hd nl nh = [txI v]) := rfl
  generalize ocdL 5 v hd nl nh = LL at *
  generalize txI v = sv at *
  generalize ivT nl nh = si at *
  go_enter Tryd.func109, Tryd.ntmps109
  go_upto_region 1 with fail
  generalize w.alloc (.cells #[.int .i64 5, .int .i64 nd, .int .i64 cd, .int .i64 v, .bool hd, .bool kn, .int .i64 wl, .int .i64 wh, .int .i64 nl, .int .i64 nh] 66) = x0 at *
  have c0 : x0.cell? ⟨w.heap.size, 0, none⟩ = some (.int .i64 5) := N.cell (i := 0) rfl
  have c1 : x0.cell? ⟨w.heap.size, 1, none⟩ = some (.int .i64 nd) := N.cell (i := 1) rfl
  have c2 : x0.cell? ⟨w.heap.size, 2, none⟩ = some (.int .i64 cd) := N.cell (i := 2) rfl
  have c3 : x0.cell? ⟨w.heap.size, 3, none⟩ = some (.int .i64 v) := N.cell (i := 3) rfl
  have c4 : x0.cell? ⟨w.heap.size, 4, none⟩ = some (.bool hd) := N.cell (i := 4) rfl
  have c5 : x0.cell? ⟨w.heap.size, 5, none⟩ = some (.bool kn) := N.cell (i := 5) rfl
  have c6 : x0.cell? ⟨w.heap.size, 6, none⟩ = some (.int .i64 wl) := N.cell (i := 6) rfl
  have c7 : x0.cell? ⟨w.heap.size, 7, none⟩ = some (.int .i64 wh) := N.cell (i := 7) rfl
  have c8 : x0.cell? ⟨w.heap.size, 8, none⟩ = some (.int .i64 nl) := N.cell (i := 8) rfl
  have c9 : x0.cell? ⟨w.heap.size, 9, none⟩ = some (.int .i64 nh) := N.cell (i := 9) rfl
  go_wp2_with fail
  refine (CTv _ B).mono ?_
  rintro e x1 ⟨rfl, hb⟩
  replace N := N.below hb
  replace B := B.trans (hb.mono B.size)
  clear hb CTv CTi c0 c1 c2 c3 c4 c5 c6 c7 c8 c9
  have O := strs_new x1 [sv] (by show (1 : Nat) ≤ 64; omega)
  have b2 := Below.nw x1 (.cells (stR [sv]).toArray 9)
  go_wp2_with fail
  go_ret
  refine ⟨_, rfl, ?_, B.trans (b2.mono B.size)⟩
  rw [HL.out]
  exact own_baseS O B.size
set_option maxHeartbeats 4000000 in
set_option maxRecDepth 100000 in
theorem outcome_9 (nd cd v : Int) (hd kn : Bool) (wl wh nl nh : Int) (w : World) (E : T10 w) (g2 : -9223372036854775808 ≤ v ∧ v ≤ 9223372036854775807) (g3 : -9223372036854775808 ≤ nl ∧ nl ≤ 9223372036854775807) (g4 : -9223372036854775808 ≤ nh ∧ nh ≤ 9223372036854775807) :
    Calls Tryd.prog 109 #[.agg #[.int .i64 9, .int .i64 nd, .int .i64 cd, .int .i64 v, .bool hd, .bool kn, .int .i64 wl, .int .i64 wh, .int .i64 nl, .int .i64 nh]] w fun e w' => ∃ u, e = .returned u ∧ w'.ownsRow w.heap.size 9 1 u (ocdL 9 v hd nl nh).length (stR (ocdL 9 v hd nl nh)) ∧ Below w.heap.size w w' := by
  have B := Below.nw w (.cells #[.int .i64 9, .int .i64 nd, .int .i64 cd, .int .i64 v, .bool hd, .bool kn, .int .i64 wl, .int .i64 wh, .int .i64 nl, .int .i64 nh] 66)
  have N := Bo.new w #[.int .i64 9, .int .i64 nd, .int .i64 cd, .int .i64 v, .bool hd, .bool kn, .int .i64 wl, .int .i64 wh, .int .i64 nl, .int .i64 nh] 66
  have HE : Hid (T10 w) := E
  have CTv := fun (u : World) (hu : Below w.heap.size w u) => implTextOf_any v u g2.1 g2.2 (HE.out.below hu)
  have CTi := fun (u : World) (hu : Below w.heap.size w u) => implIvalText_any nl nh u g3.1 g3.2 g4.1 g4.2 (HE.out.below hu)
  clear E g2 g3 g4
  have HL : Hid (ocdL 9 v hd nl nh = [txI v]) := rfl
  generalize ocdL 9 v hd nl nh = LL at *
  generalize txI v = sv at *
  generalize ivT nl nh = si at *
  go_enter Tryd.func109, Tryd.ntmps109
  go_upto_region 1 with fail
  generalize w.alloc (.cells #[.int .i64 9, .int .i64 nd, .int .i64 cd, .int .i64 v, .bool hd, .bool kn, .int .i64 wl, .int .i64 wh, .int .i64 nl, .int .i64 nh] 66) = x0 at *
  have c0 : x0.cell? ⟨w.heap.size, 0, none⟩ = some (.int .i64 9) := N.cell (i := 0) rfl
  have c1 : x0.cell? ⟨w.heap.size, 1, none⟩ = some (.int .i64 nd) := N.cell (i := 1) rfl
  have c2 : x0.cell? ⟨w.heap.size, 2, none⟩ = some (.int .i64 cd) := N.cell (i := 2) rfl
  have c3 : x0.cell? ⟨w.heap.size, 3, none⟩ = some (.int .i64 v) := N.cell (i := 3) rfl
  have c4 : x0.cell? ⟨w.heap.size, 4, none⟩ = some (.bool hd) := N.cell (i := 4) rfl
  have c5 : x0.cell? ⟨w.heap.size, 5, none⟩ = some (.bool kn) := N.cell (i := 5) rfl
  have c6 : x0.cell? ⟨w.heap.size, 6, none⟩ = some (.int .i64 wl) := N.cell (i := 6) rfl
  have c7 : x0.cell? ⟨w.heap.size, 7, none⟩ = some (.int .i64 wh) := N.cell (i := 7) rfl
  have c8 : x0.cell? ⟨w.heap.size, 8, none⟩ = some (.int .i64 nl) := N.cell (i := 8) rfl
  have c9 : x0.cell? ⟨w.heap.size, 9, none⟩ = some (.int .i64 nh) := N.cell (i := 9) rfl
  go_wp2_with fail
  refine (CTv _ B).mono ?_
  rintro e x1 ⟨rfl, hb⟩
  replace N := N.below hb
  replace B := B.trans (hb.mono B.size)
  clear hb CTv CTi c0 c1 c2 c3 c4 c5 c6 c7 c8 c9
  have O := strs_new x1 [sv] (by show (1 : Nat) ≤ 64; omega)
  have b2 := Below.nw x1 (.cells (stR [sv]).toArray 9)
  go_wp2_with fail
  go_ret
  refine ⟨_, rfl, ?_, B.trans (b2.mono B.size)⟩
  rw [HL.out]
  exact own_baseS O B.size
set_option maxHeartbeats 4000000 in
set_option maxRecDepth 100000 in
theorem outcome_8 (nd cd v : Int) (hd kn : Bool) (wl wh nl nh : Int) (w : World) (E : T10 w) (g2 : -9223372036854775808 ≤ v ∧ v ≤ 9223372036854775807) (g3 : -9223372036854775808 ≤ nl ∧ nl ≤ 9223372036854775807) (g4 : -9223372036854775808 ≤ nh ∧ nh ≤ 9223372036854775807) :
    Calls Tryd.prog 109 #[.agg #[.int .i64 8, .int .i64 nd, .int .i64 cd, .int .i64 v, .bool hd, .bool kn, .int .i64 wl, .int .i64 wh, .int .i64 nl, .int .i64 nh]] w fun e w' => ∃ u, e = .returned u ∧ w'.ownsRow w.heap.size 9 1 u (ocdL 8 v hd nl nh).length (stR (ocdL 8 v hd nl nh)) ∧ Below w.heap.size w w' := by
  have B := Below.nw w (.cells #[.int .i64 8, .int .i64 nd, .int .i64 cd, .int .i64 v, .bool hd, .bool kn, .int .i64 wl, .int .i64 wh, .int .i64 nl, .int .i64 nh] 66)
  have N := Bo.new w #[.int .i64 8, .int .i64 nd, .int .i64 cd, .int .i64 v, .bool hd, .bool kn, .int .i64 wl, .int .i64 wh, .int .i64 nl, .int .i64 nh] 66
  have HE : Hid (T10 w) := E
  have CTv := fun (u : World) (hu : Below w.heap.size w u) => implTextOf_any v u g2.1 g2.2 (HE.out.below hu)
  have CTi := fun (u : World) (hu : Below w.heap.size w u) => implIvalText_any nl nh u g3.1 g3.2 g4.1 g4.2 (HE.out.below hu)
  clear E g2 g3 g4
  have HL : Hid (ocdL 8 v hd nl nh = if hd then [txI v, hoB] else [txI v]) := rfl
  generalize ocdL 8 v hd nl nh = LL at *
  generalize txI v = sv at *
  generalize ivT nl nh = si at *
  go_enter Tryd.func109, Tryd.ntmps109
  go_upto_region 1 with fail
  generalize w.alloc (.cells #[.int .i64 8, .int .i64 nd, .int .i64 cd, .int .i64 v, .bool hd, .bool kn, .int .i64 wl, .int .i64 wh, .int .i64 nl, .int .i64 nh] 66) = x0 at *
  have c0 : x0.cell? ⟨w.heap.size, 0, none⟩ = some (.int .i64 8) := N.cell (i := 0) rfl
  have c1 : x0.cell? ⟨w.heap.size, 1, none⟩ = some (.int .i64 nd) := N.cell (i := 1) rfl
  have c2 : x0.cell? ⟨w.heap.size, 2, none⟩ = some (.int .i64 cd) := N.cell (i := 2) rfl
  have c3 : x0.cell? ⟨w.heap.size, 3, none⟩ = some (.int .i64 v) := N.cell (i := 3) rfl
  have c4 : x0.cell? ⟨w.heap.size, 4, none⟩ = some (.bool hd) := N.cell (i := 4) rfl
  have c5 : x0.cell? ⟨w.heap.size, 5, none⟩ = some (.bool kn) := N.cell (i := 5) rfl
  have c6 : x0.cell? ⟨w.heap.size, 6, none⟩ = some (.int .i64 wl) := N.cell (i := 6) rfl
  have c7 : x0.cell? ⟨w.heap.size, 7, none⟩ = some (.int .i64 wh) := N.cell (i := 7) rfl
  have c8 : x0.cell? ⟨w.heap.size, 8, none⟩ = some (.int .i64 nl) := N.cell (i := 8) rfl
  have c9 : x0.cell? ⟨w.heap.size, 9, none⟩ = some (.int .i64 nh) := N.cell (i := 9) rfl
  go_wp2_with fail
  refine (CTv _ B).mono ?_
  rintro e x1 ⟨rfl, hb⟩
  replace N := N.below hb
  replace B := B.trans (hb.mono B.size)
  clear hb CTv CTi c0 c1 c2 c3 c4 c5 c6 c7 c8 c9
  have O := strs_new x1 [sv] (by show (1 : Nat) ≤ 64; omega)
  have b2 := Below.nw x1 (.cells (stR [sv]).toArray 9)
  go_upto_region 7 with fail
  change Below x1.heap.size x1 (x1.alloc (.cells #[.string sv] 9)) at b2
  change (x1.alloc (.cells #[.string sv] 9)).ownsRow x1.heap.size 9 1 (.slice (some ⟨x1.heap.size, 0, none⟩) 1 1) 1 (stR [sv]) at O
  replace N := N.below b2
  have hlo := B.size
  replace B := B.trans (b2.mono B.size)
  have hx1 := b2.size
  clear b2
  generalize x1.alloc (.cells #[.string sv] 9) = x2 at *
  generalize x1.heap.size = g at *
  have c4 : x2.cell? ⟨w.heap.size, 4, none⟩ = some (.bool hd) := N.cell (i := 4) rfl
  cases hd
  · go_wp2_with fail
    go_ret
    refine ⟨_, rfl, ?_, B⟩
    rw [HL.out]
    exact own_baseS (L := [sv]) O hlo
  · go_upto_region 8 with fail
    have O3 := World.ownsRow.alloc O (.cells #[.string hoB] 9)
    have hM := strs_cell x2 [hoB]
    have b3 := Below.nw x2 (.cells #[.string hoB] 9)
    go_wp2_with (at_builtin; refine add_strs rfl _ _ rfl g [sv] [hoB] _ rfl O3 ⟨x2.heap.size, 0, none⟩ 1 rfl hM (by show (2 : Nat) ≤ 64; omega) (Nat.le_trans hx1 b3.size) ?_; intro v' x4 O4 hg4)
    have b4 := grown_belowS (L := [sv]) O3 hg4 (Nat.le_trans hx1 b3.size)
    go_wp2_with fail
    go_ret
    refine ⟨_, rfl, ?_, (B.trans (b3.mono B.size)).trans (b4.mono hlo)⟩
    rw [HL.out]
    exact own_baseS (L := [sv, hoB]) O4 hlo
set_option maxHeartbeats 4000000 in
set_option maxRecDepth 100000 in
theorem outcome_7 (nd cd v : Int) (hd kn : Bool) (wl wh nl nh : Int) (w : World) (E : T10 w) (g2 : -9223372036854775808 ≤ v ∧ v ≤ 9223372036854775807) (g3 : -9223372036854775808 ≤ nl ∧ nl ≤ 9223372036854775807) (g4 : -9223372036854775808 ≤ nh ∧ nh ≤ 9223372036854775807) :
    Calls Tryd.prog 109 #[.agg #[.int .i64 7, .int .i64 nd, .int .i64 cd, .int .i64 v, .bool hd, .bool kn, .int .i64 wl, .int .i64 wh, .int .i64 nl, .int .i64 nh]] w fun e w' => ∃ u, e = .returned u ∧ w'.ownsRow w.heap.size 9 1 u (ocdL 7 v hd nl nh).length (stR (ocdL 7 v hd nl nh)) ∧ Below w.heap.size w w' := by
  have B := Below.nw w (.cells #[.int .i64 7, .int .i64 nd, .int .i64 cd, .int .i64 v, .bool hd, .bool kn, .int .i64 wl, .int .i64 wh, .int .i64 nl, .int .i64 nh] 66)
  have N := Bo.new w #[.int .i64 7, .int .i64 nd, .int .i64 cd, .int .i64 v, .bool hd, .bool kn, .int .i64 wl, .int .i64 wh, .int .i64 nl, .int .i64 nh] 66
  have HE : Hid (T10 w) := E
  have CTv := fun (u : World) (hu : Below w.heap.size w u) => implTextOf_any v u g2.1 g2.2 (HE.out.below hu)
  have CTi := fun (u : World) (hu : Below w.heap.size w u) => implIvalText_any nl nh u g3.1 g3.2 g4.1 g4.2 (HE.out.below hu)
  clear E g2 g3 g4
  have HL : Hid (ocdL 7 v hd nl nh = [ivT nl nh]) := rfl
  generalize ocdL 7 v hd nl nh = LL at *
  generalize txI v = sv at *
  generalize ivT nl nh = si at *
  go_enter Tryd.func109, Tryd.ntmps109
  go_upto_region 1 with fail
  generalize w.alloc (.cells #[.int .i64 7, .int .i64 nd, .int .i64 cd, .int .i64 v, .bool hd, .bool kn, .int .i64 wl, .int .i64 wh, .int .i64 nl, .int .i64 nh] 66) = x0 at *
  have c0 : x0.cell? ⟨w.heap.size, 0, none⟩ = some (.int .i64 7) := N.cell (i := 0) rfl
  have c1 : x0.cell? ⟨w.heap.size, 1, none⟩ = some (.int .i64 nd) := N.cell (i := 1) rfl
  have c2 : x0.cell? ⟨w.heap.size, 2, none⟩ = some (.int .i64 cd) := N.cell (i := 2) rfl
  have c3 : x0.cell? ⟨w.heap.size, 3, none⟩ = some (.int .i64 v) := N.cell (i := 3) rfl
  have c4 : x0.cell? ⟨w.heap.size, 4, none⟩ = some (.bool hd) := N.cell (i := 4) rfl
  have c5 : x0.cell? ⟨w.heap.size, 5, none⟩ = some (.bool kn) := N.cell (i := 5) rfl
  have c6 : x0.cell? ⟨w.heap.size, 6, none⟩ = some (.int .i64 wl) := N.cell (i := 6) rfl
  have c7 : x0.cell? ⟨w.heap.size, 7, none⟩ = some (.int .i64 wh) := N.cell (i := 7) rfl
  have c8 : x0.cell? ⟨w.heap.size, 8, none⟩ = some (.int .i64 nl) := N.cell (i := 8) rfl
  have c9 : x0.cell? ⟨w.heap.size, 9, none⟩ = some (.int .i64 nh) := N.cell (i := 9) rfl
  go_wp2_with fail
  refine (CTi _ B).mono ?_
  rintro e x1 ⟨rfl, hb⟩
  replace N := N.below hb
  replace B := B.trans (hb.mono B.size)
  clear hb CTv CTi c0 c1 c2 c3 c4 c5 c6 c7 c8 c9
  have O := strs_new x1 [si] (by show (1 : Nat) ≤ 64; omega)
  have b2 := Below.nw x1 (.cells (stR [si]).toArray 9)
  go_wp2_with fail
  go_ret
  refine ⟨_, rfl, ?_, B.trans (b2.mono B.size)⟩
  rw [HL.out]
  exact own_baseS O B.size
set_option maxHeartbeats 1000000 in
theorem outcome_no (k nd cd v : Int) (hd kn : Bool) (wl wh nl nh : Int) (w : World) (h5 : ¬ (k = 5 ∨ k = 9)) (h8 : k ≠ 8) (h7 : k ≠ 7) :
    Calls Tryd.prog 109 #[.agg #[.int .i64 k, .int .i64 nd, .int .i64 cd, .int .i64 v, .bool hd, .bool kn, .int .i64 wl, .int .i64 wh, .int .i64 nl, .int .i64 nh]] w fun e w' => ∃ u, e = .returned u ∧ w'.ownsRow w.heap.size 9 1 u (ocdL k v hd nl nh).length (stR (ocdL k v hd nl nh)) ∧ Below w.heap.size w w' := by
  have B := Below.nw w (.cells #[.int .i64 k, .int .i64 nd, .int .i64 cd, .int .i64 v, .bool hd, .bool kn, .int .i64 wl, .int .i64 wh, .int .i64 nl, .int .i64 nh] 66)
  have N := Bo.new w #[.int .i64 k, .int .i64 nd, .int .i64 cd, .int .i64 v, .bool hd, .bool kn, .int .i64 wl, .int .i64 wh, .int .i64 nl, .int .i64 nh] 66
  have hL : ocdL k v hd nl nh = [] := by (unfold ocdL; rw [if_neg h5, if_neg h8, if_neg h7])
  rw [hL]
  have d1 : (k == 5) = false := by (rw [beq_eq_false_iff_ne]; omega)
  have d2 : (k == 9) = false := by (rw [beq_eq_false_iff_ne]; omega)
  have d3 : (k == 8) = false := by (rw [beq_eq_false_iff_ne]; omega)
  have d4 : (k == 7) = false := by (rw [beq_eq_false_iff_ne]; omega)
  clear h5 h8 h7 hL
  go_enter Tryd.func109, Tryd.ntmps109
  go_upto_region 1 with fail
  generalize w.alloc (.cells #[.int .i64 k, .int .i64 nd, .int .i64 cd, .int .i64 v, .bool hd, .bool kn, .int .i64 wl, .int .i64 wh, .int .i64 nl, .int .i64 nh] 66) = x0 at *
  have c0 : x0.cell? ⟨w.heap.size, 0, none⟩ = some (.int .i64 k) := N.cell (i := 0) rfl
  have c1 : x0.cell? ⟨w.heap.size, 1, none⟩ = some (.int .i64 nd) := N.cell (i := 1) rfl
  have c2 : x0.cell? ⟨w.heap.size, 2, none⟩ = some (.int .i64 cd) := N.cell (i := 2) rfl
  have c3 : x0.cell? ⟨w.heap.size, 3, none⟩ = some (.int .i64 v) := N.cell (i := 3) rfl
  have c4 : x0.cell? ⟨w.heap.size, 4, none⟩ = some (.bool hd) := N.cell (i := 4) rfl
  have c5 : x0.cell? ⟨w.heap.size, 5, none⟩ = some (.bool kn) := N.cell (i := 5) rfl
  have c6 : x0.cell? ⟨w.heap.size, 6, none⟩ = some (.int .i64 wl) := N.cell (i := 6) rfl
  have c7 : x0.cell? ⟨w.heap.size, 7, none⟩ = some (.int .i64 wh) := N.cell (i := 7) rfl
  have c8 : x0.cell? ⟨w.heap.size, 8, none⟩ = some (.int .i64 nl) := N.cell (i := 8) rfl
  have c9 : x0.cell? ⟨w.heap.size, 9, none⟩ = some (.int .i64 nh) := N.cell (i := 9) rfl
  go_wp2_with fail
  go_ret
  exact ⟨_, rfl, World.ownsRow_nil x0 w.heap.size 9 1, B⟩
theorem outcome_any (k nd cd v : Int) (hd kn : Bool) (wl wh nl nh : Int) (w : World) (E : T10 w) (g2 : -9223372036854775808 ≤ v ∧ v ≤ 9223372036854775807) (g3 : -9223372036854775808 ≤ nl ∧ nl ≤ 9223372036854775807) (g4 : -9223372036854775808 ≤ nh ∧ nh ≤ 9223372036854775807) :
    Calls Tryd.prog 109 #[.agg #[.int .i64 k, .int .i64 nd, .int .i64 cd, .int .i64 v, .bool hd, .bool kn, .int .i64 wl, .int .i64 wh, .int .i64 nl, .int .i64 nh]] w fun e w' => ∃ u, e = .returned u ∧ w'.ownsRow w.heap.size 9 1 u (ocdL k v hd nl nh).length (stR (ocdL k v hd nl nh)) ∧ Below w.heap.size w w' := by
  by_cases h5 : k = 5 ∨ k = 9
  · rcases h5 with rfl | rfl
    · exact outcome_5 nd cd v hd kn wl wh nl nh w E g2 g3 g4
    · exact outcome_9 nd cd v hd kn wl wh nl nh w E g2 g3 g4
  by_cases h8 : k = 8
  · subst h8; exact outcome_8 nd cd v hd kn wl wh nl nh w E g2 g3 g4
  by_cases h7 : k = 7
  · subst h7; exact outcome_7 nd cd v hd kn wl wh nl nh w E g2 g3 g4
  exact outcome_no k nd cd v hd kn wl wh nl nh w h5 h8 h7
end Go.Proofs.YtddjiamollfplaaDoor
