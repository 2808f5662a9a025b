/- A block of three cells of any values. Slots and rows of slots: what the laws make of them, and whether two are the same. PlanOk in the specification. A life: numbers; LifeOk, LifeMay, LifeKnows, LifeSends, LifeName in the specification. A clock that is read: what the laws make of it. What the laws make of a life and of an event. The program's LifeOk, LifeKnows, LifeSends, LifeName, LifeMay (labels and gotos), mayTake. -/
import Derived.WalkMore
import Derived.ScopeJumps
import Derived.Test.YtddijpjgkifngaaGreatDoorM0
import Derived.Test.YtddijpjgkifngaaGreatDoorM7
namespace Go.Proofs.YtddijpjgkifngaaGreatDoor
open Go.RowKit
set_option linter.unusedVariables false
def Tx3 (w : World) (k : Nat) (u0 u1 u2 : Value) : Prop := k < w.heap.size ∧ w.cell? ⟨k, 0, none⟩ = some u0 ∧ w.cell? ⟨k, 1, none⟩ = some u1 ∧ w.cell? ⟨k, 2, none⟩ = some u2 ∧ w.frozen? ⟨k, 0, none⟩ = false ∧ w.frozen? ⟨k, 1, none⟩ = false ∧ w.frozen? ⟨k, 2, none⟩ = false
theorem Tx3.belowB {k B : Nat} {w w' : World} {u0 u1 u2 : Value} (h : Tx3 w k u0 u1 u2) (hw : Below B w w') (hk : k < B) : Tx3 w' k u0 u1 u2 := by
 obtain ⟨h0, h1, h2, h3, f1, f2, f3⟩ := h
 exact ⟨Nat.lt_of_lt_of_le h0 hw.size, by rw [hw.cell (p := ⟨k, 0, none⟩) hk]; exact h1, by rw [hw.cell (p := ⟨k, 1, none⟩) hk]; exact h2, by rw [hw.cell (p := ⟨k, 2, none⟩) hk]; exact h3, by rw [hw.frozen (p := ⟨k, 0, none⟩) hk]; exact f1, by rw [hw.frozen (p := ⟨k, 1, none⟩) hk]; exact f2, by rw [hw.frozen (p := ⟨k, 2, none⟩) hk]; exact f3⟩
theorem Tx3.below {k : Nat} {w w' : World} {u0 u1 u2 : Value} (h : Tx3 w k u0 u1 u2) (hw : Below w.heap.size w w') : Tx3 w' k u0 u1 u2 := h.belowB hw h.1
theorem Tx3.alloc {k : Nat} {w : World} {u0 u1 u2 : Value} (h : Tx3 w k u0 u1 u2) (o : Obj) : Tx3 (w.alloc o) k u0 u1 u2 := h.below ((Below.refl _ _).alloc (Nat.le_refl _) _)
theorem Tx3.new (w : World) (u0 u1 u2 : Value) (T : TypeId) : Tx3 (w.alloc (.cells #[u0, u1, u2] T)) w.heap.size u0 u1 u2 := ⟨by simp, by simp, by simp, by simp, by simp, by simp, by simp⟩
theorem Tx3.drew {k : Nat} {w : World} {u0 u1 u2 : Value} (h : Tx3 w k u0 u1 u2) : Tx3 w.drew k u0 u1 u2 := h
theorem Tx3.setO {k j : Nat} {w : World} {u0 u1 u2 : Value} (h : Tx3 w k u0 u1 u2) (hk : j ≠ k) (o : Nat) (u : Value) : Tx3 (w.setCell ⟨j, o, none⟩ u) k u0 u1 u2 := by
 have hne : ∀ q, (⟨j, o, none⟩ : Addr) ≠ ⟨k, q, none⟩ := fun q e => hk (congrArg Addr.block e)
 obtain ⟨h0, h1, h2, h3, f1, f2, f3⟩ := h
 exact ⟨by simpa using h0, by rw [World.cell?_setCell_other _ _ _ _ (hne _)]; exact h1, by rw [World.cell?_setCell_other _ _ _ _ (hne _)]; exact h2, by rw [World.cell?_setCell_other _ _ _ _ (hne _)]; exact h3, by simpa using f1, by simpa using f2, by simpa using f3⟩
theorem Tx3.set0 {k : Nat} {w : World} {u0 u1 u2 : Value} (h : Tx3 w k u0 u1 u2) (x : Value) : Tx3 (w.setCell ⟨k, 0, none⟩ x) k x u1 u2 := by
 obtain ⟨h0, h1, h2, h3, f1, f2, f3⟩ := h
 exact ⟨by simpa using h0, World.cell?_setCell_same _ _ _ h1, (World.cell?_setCell_other _ _ _ _ (by simp)).trans h2, (World.cell?_setCell_other _ _ _ _ (by simp)).trans h3, by simpa using f1, by simpa using f2, by simpa using f3⟩
theorem Tx3.set1 {k : Nat} {w : World} {u0 u1 u2 : Value} (h : Tx3 w k u0 u1 u2) (x : Value) : Tx3 (w.setCell ⟨k, 1, none⟩ x) k u0 x u2 := by
 obtain ⟨h0, h1, h2, h3, f1, f2, f3⟩ := h
 exact ⟨by simpa using h0, (World.cell?_setCell_other _ _ _ _ (by simp)).trans h1, World.cell?_setCell_same _ _ _ h2, (World.cell?_setCell_other _ _ _ _ (by simp)).trans h3, by simpa using f1, by simpa using f2, by simpa using f3⟩
theorem Tx3.set2 {k : Nat} {w : World} {u0 u1 u2 : Value} (h : Tx3 w k u0 u1 u2) (x : Value) : Tx3 (w.setCell ⟨k, 2, none⟩ x) k u0 u1 x := by
 obtain ⟨h0, h1, h2, h3, f1, f2, f3⟩ := h
 exact ⟨by simpa using h0, (World.cell?_setCell_other _ _ _ _ (by simp)).trans h1, (World.cell?_setCell_other _ _ _ _ (by simp)).trans h2, World.cell?_setCell_same _ _ _ h3, by simpa using f1, by simpa using f2, by simpa using f3⟩
end Go.Proofs.YtddijpjgkifngaaGreatDoor
namespace Go.Proofs.YtddijpjgkifngaaGreatDoor
open Go.RowKit
set_option linter.unusedVariables false
set_option maxHeartbeats 2000000 in
theorem toSlot_any (x0 x1 : Int) (w : World) :
 Calls Tryz.prog 134 #[.agg #[.int .i64 x0, .int .i64 x1]] w fun e w' => e = .returned (.agg #[.int .i64 x0, .int .i64 x1]) ∧ Below w.heap.size w w' := by
 go_enter Tryz.func134, Tryz.ntmps134
 go_wp2_with fail
 exact bodyPost_ret (v := .agg #[.int .i64 x0, .int .i64 x1]) (by simp (maxDischargeDepth := 6) [results, Tryz.results134, go_sem, *]) rfl ⟨rfl, by repeat (first | exact Below.refl _ _ | refine Below.drew ?_ | refine Below.alloc ?_ (by first | (simp; done) | (simp; omega) | omega) _ | refine Below.setCell ?_ (by first | (simp; done) | (simp; omega) | omega) _ | refine Below.trans ?_ (Below.mono (by assumption) (by first | (simp; done) | (simp; omega) | omega)))⟩
set_option maxHeartbeats 2000000 in
theorem eqSlot_same (x0 x1 : Int) (w : World) :
 Calls Tryz.prog 155 #[.agg #[.int .i64 x0, .int .i64 x1], .agg #[.int .i64 x0, .int .i64 x1]] w fun e w' => e = .returned (.bool true) ∧ Below w.heap.size w w' := by
 go_enter Tryz.func155, Tryz.ntmps155
 go_wp2_with fail
 go_ret
 exact ⟨rfl, by repeat (first | exact Below.refl _ _ | refine Below.drew ?_ | refine Below.alloc ?_ (by first | (simp; done) | (simp; omega) | omega) _ | refine Below.setCell ?_ (by first | (simp; done) | (simp; omega) | omega) _ | refine Below.trans ?_ (Below.mono (by assumption) (by first | (simp; done) | (simp; omega) | omega)))⟩
def MCSlot (M : SlT) : Nat → Value
 | 0 => .int .i64 M.1
 | _ => .int .i64 M.2
def MFSlot (M : Nat → SlT) (c : Nat) : Value := MCSlot (M (c / 2)) (c % 2)
theorem MFSlot_at (M : Nat → SlT) (k j : Nat) (hj : j < 2) : MFSlot M (k * 2 + j) = MCSlot (M k) j := by
 have h1 : (k * 2 + j) / 2 = k := by omega
 have h2 : (k * 2 + j) % 2 = j := by omega
 rw [MFSlot, h1, h2]
theorem MFSlot_vals {M : Nat → SlT} {k : Nat} {x0 : Int} {x1 : Int} (hM : M k = (x0, x1)) : MFSlot M (k * 2) = .int .i64 x0 ∧ MFSlot M (k * 2 + 1) = .int .i64 x1 :=
 ⟨by have q := MFSlot_at M k 0 (by decide); rw [hM] at q; exact q, by have q := MFSlot_at M k 1 (by decide); rw [hM] at q; exact q⟩
theorem Cs.elSlot {w : World} {b off n k : Nat} {M : Nat → SlT} {x0 : Int} {x1 : Int} (h : Cs w b off (n * 2) (MFSlot M)) (hk : k < n) (hM : M k = (x0, x1)) : w.cell? ⟨b, off + k * 2, none⟩ = some (.int .i64 x0) ∧ w.cell? ⟨b, off + k * 2 + 1, none⟩ = some (.int .i64 x1) := by
 obtain ⟨q0, q1⟩ := MFSlot_vals hM
 exact ⟨by have := h.2 (k * 2) (by omega); rw [q0] at this; exact this, by have := h.2 (k * 2 + 1) (by omega); rw [q1] at this; exact this⟩
theorem tupSlot (M : Nat → SlT) (k : Nat) : ∃ (x0 : Int) (x1 : Int), M k = (x0, x1) := ⟨_, _, rfl⟩
set_option maxHeartbeats 1000000 in
theorem szSlotS_any (a : Option Addr) (n c : Nat) (L : Int) (w : World) (hm : n ≤ maxLen) (L0 : 0 ≤ L) (L1 : L ≤ 1048576) :
 Calls Tryz.prog 81 #[.slice a n c, .int .i64 L] w fun e w' => e = .returned (.int .i64 (if (n : Int) ≤ L then L - (n : Int) else -1)) ∧ w = w' := by
 unfold maxLen at hm
 by_cases h : (n : Int) ≤ L
 ·rw [if_pos h]
  have hd : decide (L - (n : Int) < 0) = false := by simp; omega
  go_enter Tryz.func81, Tryz.ntmps81
  go_wp2_with fail
  go_ret
  exact ⟨rfl, rfl⟩
 ·rw [if_neg h]
  have hd : decide (L - (n : Int) < 0) = true := by simp; omega
  go_enter Tryz.func81, Tryz.ntmps81
  go_wp2_with fail
  go_ret
  exact ⟨rfl, rfl⟩
def rowObjSlot (n : Nat) : Obj := .cells (madeCells #[.int .i64 0, .int .i64 0] (n * 2)) 198
theorem infoSlot : (Tryz.prog.info? 198).map (fun i => (i.zero, i.size, i.bytes)) = some (some (.agg #[.int .i64 0, .int .i64 0]), 2, 16) := by kernel_rfl
theorem mk_rowSlot (n : Nat) (h : n ≤ 1048576) (w : World) : (Instr.makeSlice 41 (.int .i64 (n : Int)) (.int .i64 (n : Int))).run Tryz.prog w = .ok (.slice (some ⟨w.heap.size, 0, none⟩) n n) (w.alloc (rowObjSlot n)) := by
 obtain ⟨i, hi, hz⟩ := Option.map_eq_some_iff.1 infoSlot
 simp only [Prod.mk.injEq] at hz
 obtain ⟨h1, h2, h3⟩ := hz
 have hr := run_make (P := Tryz.prog) w 41 198 i _ Tryz.underlying41 hi h1 .i64 .i64 n n (by omega) (Int.le_refl _) (by rw [h3]; omega) (by omega)
 simp only [Int.toNat_natCast, h2] at hr
 exact hr
theorem rowObjSlot_is (w : World) (n : Nat) (F : Nat → Value) : RowF (w.alloc (rowObjSlot n)) w.heap.size 198 (n * 2) 0 F := by
 have h := World.rowIs_alloc w (madeCells #[.int .i64 0, .int .i64 0] (n * 2)) 198 (fun i => (madeCells #[.int .i64 0, .int .i64 0] (n * 2)).getD i undef) (fun i hi => by
  rw [Array.getElem?_eq_getElem hi]; exact congrArg some (by rw [Array.getD_eq_getD_getElem?, Array.getElem?_eq_getElem hi]; rfl))
 rw [size_madeCells] at h
 exact ⟨_, h, fun j hj => absurd hj (Nat.not_lt_zero _)⟩
set_option maxHeartbeats 4000000 in
theorem toSlotS_some (b off n c : Nat) (M : Nat → SlT) (w : World) (hn : n ≤ 1048576) (hf : Cs w b off (n * 2) (MFSlot M)) :
 Calls Tryz.prog 101 #[.slice (some ⟨b, off, none⟩) n c] w fun e w' => e = .returned (.slice (some ⟨w.heap.size, 0, none⟩) n n) ∧ RowF w' w.heap.size 198 (n * 2) (n * 2) (MFSlot M) ∧ Below w.heap.size w w' := by
 have hmk := mk_rowSlot n hn
 go_enter Tryz.func101, Tryz.ntmps101
 go_wp2_with fail
 clear hmk
 go_loopw [4] (fun i wr => ∃ k : Nat, k ≤ n ∧ i = .int .i64 k ∧ RowF wr w.heap.size 198 (n * 2) (k * 2) (MFSlot M) ∧ Below w.heap.size w wr) (fun i _ => n - (intOf i).toNat)
 case atStart => exact ⟨0, Nat.zero_le _, rfl, (rowObjSlot_is w n _).eqm (by omega), (Below.refl _ _).alloc (Nat.le_refl _) _⟩
 case round =>
  obtain ⟨k, hk, rfl, hrow, hB⟩ := hrel
  by_cases hlt : k < n
  ·obtain ⟨x0, x1, hM⟩ := tupSlot M k
   obtain ⟨c0, c1⟩ := (hf.below hB hf.1).elSlot hlt hM
   obtain ⟨q0, q1⟩ := MFSlot_vals hM
   have hli : (k : Int) < (n : Int) := by omega
   have hlr := hrow.lt
   clear hM
   go_wp2_with fail
   refine (toSlot_any x0 x1 _).mono ?_
   rintro e w' ⟨rfl, hb⟩
   have row := RowF.below hb hlr hrow
   have hB2 := hB.trans (hb.mono hB.size)
   clear c0 c1 hrow hB hb
   have hlr2 := row.lt
   obtain ⟨⟨v0, e0⟩, f0⟩ := row.facts (k * 2) (by omega)
   obtain ⟨⟨v1, e1⟩, f1⟩ := row.facts (k * 2 + 1) (by omega)
   go_wp2_with fail
   go_roundw
   case rel => exact ⟨k + 1, by omega, by go_num, ((row.put (k * 2 + 1) (by omega) q0).put ((k + 1) * 2) (by omega) q1), ((hB2.setCell (Nat.le_refl _) _).setCell (Nat.le_refl _) _)⟩
   case measure => simp [intOf]; omega
  ·have hkn : k = n := by omega
   subst hkn
   have hli : ¬ (k : Int) < (k : Int) := by omega
   go_wp2_with fail
   go_ret
   exact ⟨rfl, hrow, hB⟩
set_option maxHeartbeats 1000000 in
theorem toSlotS_empty (a : Option Addr) (c : Nat) (F : Nat → Value) (w : World) :
 Calls Tryz.prog 101 #[.slice a 0 c] w fun e w' => e = .returned (.slice (some ⟨w.heap.size, 0, none⟩) 0 0) ∧ RowF w' w.heap.size 198 (0 * 2) (0 * 2) F ∧ Below w.heap.size w w' := by
 have hmk := mk_rowSlot 0 (by omega)
 simp only [Int.ofNat_zero] at hmk
 go_enter Tryz.func101, Tryz.ntmps101
 go_wp2_with fail
 clear hmk
 go_loopw [4] (fun i wr => i = .int .i64 0 ∧ RowF wr w.heap.size 198 (0 * 2) 0 F ∧ Below w.heap.size w wr) (fun i _ => 0)
 case atStart => exact ⟨rfl, rowObjSlot_is w 0 F, (Below.refl _ _).alloc (Nat.le_refl _) _⟩
 case round =>
  obtain ⟨rfl, hrow, hB⟩ := hrel
  go_wp2_with fail
  go_ret
  exact ⟨rfl, hrow.eqm (by omega), hB⟩
theorem toSlotS_any (a : Option Addr) (n c : Nat) (M : Nat → SlT) (w : World) (hn : n ≤ 1048576) (h : SrcC w a (n * 2) (MFSlot M)) :
 Calls Tryz.prog 101 #[.slice a n c] w fun e w' => e = .returned (.slice (some ⟨w.heap.size, 0, none⟩) n n) ∧ RowF w' w.heap.size 198 (n * 2) (n * 2) (MFSlot M) ∧ Below w.heap.size w w' := by
 rcases h with h0 | ⟨b, off, rfl, h2⟩
 ·have hn0 : n = 0 := by omega
  subst hn0
  exact toSlotS_empty a c _ w
 ·exact toSlotS_some b off n c M w hn h2
set_option maxHeartbeats 8000000 in
theorem eqSlotS_some (b off b' off' n c c' : Nat) (M : Nat → SlT) (w : World) (hn : n ≤ maxLen) (hf : Cs w b off (n * 2) (MFSlot M)) (hg : Cs w b' off' (n * 2) (MFSlot M)) :
 Calls Tryz.prog 121 #[.slice (some ⟨b, off, none⟩) n c, .slice (some ⟨b', off', none⟩) n c'] w fun e w' => e = .returned (.bool true) ∧ Below w.heap.size w w' := by
 unfold maxLen at hn
 go_enter Tryz.func121, Tryz.ntmps121
 go_wp2_with fail
 go_loopw [5] (fun i wr => ∃ k : Nat, k ≤ n ∧ i = .int .i64 k ∧ Below w.heap.size w wr) (fun i _ => n - (intOf i).toNat)
 case atStart => exact ⟨0, Nat.zero_le _, rfl, Below.refl _ _⟩
 case round =>
  obtain ⟨k, hk, rfl, hB⟩ := hrel
  by_cases hlt : k < n
  ·obtain ⟨x0, x1, hM⟩ := tupSlot M k
   obtain ⟨c0, c1⟩ := (hf.below hB hf.1).elSlot hlt hM
   obtain ⟨d0, d1⟩ := (hg.below hB hg.1).elSlot hlt hM
   have hb1 : b < wr.drew.heap.size := Nat.lt_of_lt_of_le hf.1 hB.size
   have hb2 : b' < wr.drew.heap.size := Nat.lt_of_lt_of_le hg.1 hB.size
   have hsz : w.heap.size ≤ wr.drew.heap.size := hB.size
   have hli : (k : Int) < (n : Int) := by omega
   clear hM
   go_wp2_with fail
   refine wp_region_held_drew (S := (fun w' => w'.cell? ⟨b, off + k * 2, none⟩ = some (.int .i64 x0) ∧ w'.cell? ⟨b, off + k * 2 + 1, none⟩ = some (.int .i64 x1) ∧ w'.cell? ⟨b', off' + k * 2, none⟩ = some (.int .i64 x0) ∧ w'.cell? ⟨b', off' + k * 2 + 1, none⟩ = some (.int .i64 x1))) (by kernel_rfl) ?_ (fun hHeld => ?_)
   ·first | exact ⟨c0, c1, d0, d1⟩ | (simp (maxDischargeDepth := 6) [go_sem, *]; done)
   refine zTk 0 ?_
   refine zTk 1 ?_
   refine zTk 2 ?_
   refine zTk 3 ?_
   refine zTk 4 ?_
   refine zTk 5 ?_
   refine zTk 6 ?_
   refine zTk 7 ?_
   refine wpAnyH_ready (rs := [8]) (by kernel_rfl) (by simp) ?_
   refine AllReadyH.cons (by rw [List.getElem?_toArray]; rfl) (fun K hK => ?_) AllReadyH.nil
   go_simp
   refine (eqSlot_same _ _ _).mono ?_; rintro e w' ⟨rfl, hb⟩; (replace c0 := (hb.cell (p := ⟨b, off + k * 2, none⟩) hb1).trans c0); (replace c1 := (hb.cell (p := ⟨b, off + k * 2 + 1, none⟩) hb1).trans c1); (replace d0 := (hb.cell (p := ⟨b', off' + k * 2, none⟩) hb2).trans d0); (replace d1 := (hb.cell (p := ⟨b', off' + k * 2 + 1, none⟩) hb2).trans d1)
   (try go_wp2_with fail)
   refine hK.out _ _ ?_ (fun hHeld => ?_)
   ·first | exact ⟨c0, c1, d0, d1⟩ | (simp (maxDischargeDepth := 6) [go_sem, *]; done)
   clear hK K
   (try simp only [Act.put, zSb, zS0, zS1])
   refine zTk 9 ?_
   refine wpAnyH_done (by kernel_rfl) ?_ _
   go_wp2_with fail
   go_roundw
   case rel => exact ⟨k + 1, by omega, by go_num, (Below.drew hB).trans (hb.mono hsz)⟩
   case measure => simp [intOf]; omega
  ·go_wp2_with fail
   go_ret
   exact ⟨rfl, hB⟩
set_option maxHeartbeats 400000 in
theorem eqSlotS_zero (a a' : Option Addr) (c c' : Nat) (w : World) :
 Calls Tryz.prog 121 #[.slice a 0 c, .slice a' 0 c'] w fun e w' => e = .returned (.bool true) ∧ Below w.heap.size w w' := by
 go_enter Tryz.func121, Tryz.ntmps121
 go_wp2_with fail
 go_loopw [5] (fun i wr => i = .int .i64 0 ∧ w = wr) (fun i _ => 0)
 case atStart => exact ⟨rfl, rfl⟩
 case round =>
  obtain ⟨rfl, rfl⟩ := hrel
  go_wp2_with fail
  go_ret
  exact ⟨rfl, Below.refl _ _⟩
theorem eqSlotS_src (a a' : Option Addr) (n c c' : Nat) (M : Nat → SlT) (w : World) (hn : n ≤ maxLen) (h : SrcC w a (n * 2) (MFSlot M)) (h' : SrcC w a' (n * 2) (MFSlot M)) :
 Calls Tryz.prog 121 #[.slice a n c, .slice a' n c'] w fun e w' => e = .returned (.bool true) ∧ Below w.heap.size w w' := by
 by_cases h0 : n = 0
 ·subst h0; exact eqSlotS_zero a a' c c' w
 ·rcases h with h | ⟨b, off, rfl, hp⟩
  ·omega
  ·rcases h' with h | ⟨b', off', rfl, hp'⟩
   ·omega
   ·exact eqSlotS_some b off b' off' n c c' M w hn hp hp'
end Go.Proofs.YtddijpjgkifngaaGreatDoor
namespace Go.Proofs.YtddijpjgkifngaaGreatDoor
open Go.RowKit
set_option linter.unusedVariables false
set_option maxRecDepth 100000 in
set_option maxHeartbeats 8000000 in
theorem specPlanOk_any (s g : Int) (a : Option Addr) (n c : Nat) (M : Nat → SlT) (w : World) (hm : n ≤ maxLen) (hs : SrcC w a (n * 2) (MFSlot M)) :
 Calls Tryz.prog 87 #[.agg #[.int .i64 s, .int .i64 g, .slice a n c]] w fun e w' => e = .returned (.bool (plB s g M n)) ∧ Below w.heap.size w w' := by
 unfold maxLen at hm
 have B := Below.nw w (.cells #[.int .i64 s, .int .i64 g, .slice a n c] 43)
 have N := Tx3.new w (.int .i64 s) (.int .i64 g) (.slice a n c) 43
 have C1 := fun w' => l2Time_any s w'
 have C2 : ∀ w', Calls Tryz.prog 50 #[.int .i64 g, .int .i64 0, .int .i64 100000] w' fun e w'' => e = .returned (.bool (gpB g)) ∧ w' = w'' := fun w' => l1In_any g 0 100000 w'
 have C3 : ∀ w', Calls Tryz.prog 50 #[.int .i64 (n : Int), .int .i64 1, .int .i64 12] w' fun e w'' => e = .returned (.bool (cnB n)) ∧ w' = w'' := fun w' => l1In_any n 1 12 w'
 cases h1 : okT s
 ·have e0 : plB s g M n = false := by unfold plB; rw [h1]; rfl
  rw [e0]
  clear e0 hs
  go_enter Tryz.func87, Tryz.ntmps87; go_upto_region 1 with fail; generalize w.alloc (.cells #[.int .i64 s, .int .i64 g, .slice a n c] 43) = v at *
  obtain ⟨n0, n1, n2, n3, n4, n5, n6⟩ := id N; go_wp2_with fail; refine (C1 _).mono ?_; rintro e w' ⟨rfl, rfl⟩; rw [h1]
  go_wp2_with fail
  go_ret
  exact ⟨rfl, B⟩
 cases h2 : gpB g
 ·have e0 : plB s g M n = false := by unfold plB; rw [h1, h2]; rfl
  rw [e0]
  clear e0 hs
  go_enter Tryz.func87, Tryz.ntmps87; go_upto_region 1 with fail; generalize w.alloc (.cells #[.int .i64 s, .int .i64 g, .slice a n c] 43) = v at *
  obtain ⟨n0, n1, n2, n3, n4, n5, n6⟩ := id N; go_wp2_with fail; refine (C1 _).mono ?_; rintro e w' ⟨rfl, rfl⟩; rw [h1]
  go_wp2_with fail; refine (C2 _).mono ?_; rintro e w' ⟨rfl, rfl⟩; rw [h2]
  go_wp2_with fail
  go_ret
  exact ⟨rfl, B⟩
 cases h3 : cnB n
 ·have e0 : plB s g M n = false := by unfold plB; rw [h1, h2, h3]; rfl
  rw [e0]
  clear e0 hs
  go_enter Tryz.func87, Tryz.ntmps87; go_upto_region 1 with fail; generalize w.alloc (.cells #[.int .i64 s, .int .i64 g, .slice a n c] 43) = v at *
  obtain ⟨n0, n1, n2, n3, n4, n5, n6⟩ := id N; go_wp2_with fail; refine (C1 _).mono ?_; rintro e w' ⟨rfl, rfl⟩; rw [h1]
  go_wp2_with fail; refine (C2 _).mono ?_; rintro e w' ⟨rfl, rfl⟩; rw [h2]
  go_wp2_with fail; refine (C3 _).mono ?_; rintro e w' ⟨rfl, rfl⟩; rw [h3]
  go_wp2_with fail
  go_ret
  exact ⟨rfl, B⟩
 have e0 : plB s g M n = slA M n := by unfold plB; rw [h1, h2, h3]; rfl
 rw [e0]
 clear e0
 have hn : 1 ≤ (n : Int) ∧ (n : Int) ≤ 12 := of_decide_eq_true h3
 obtain ⟨b, off, rfl, hf⟩ : ∃ b off, a = some ⟨b, off, none⟩ ∧ Cs w b off (n * 2) (MFSlot M) := by
  rcases hs with q | q
  ·exact absurd q (by omega)
  ·exact q
 have HF : Hid (Cs w b off (n * 2) (MFSlot M)) := hf
 clear hf hs
 go_enter Tryz.func87, Tryz.ntmps87; go_upto_region 1 with fail; generalize w.alloc (.cells #[.int .i64 s, .int .i64 g, .slice (some ⟨b, off, none⟩) n c] 43) = v at *
 obtain ⟨n0, n1, n2, n3, n4, n5, n6⟩ := id N; go_wp2_with fail; refine (C1 _).mono ?_; rintro e w' ⟨rfl, rfl⟩; rw [h1]
 go_wp2_with fail; refine (C2 _).mono ?_; rintro e w' ⟨rfl, rfl⟩; rw [h2]
 go_wp2_with fail; refine (C3 _).mono ?_; rintro e w' ⟨rfl, rfl⟩; rw [h3]
 clear C1 C2 C3 h1 h2 h3
 clear n0 n1 n2 n3 n4 n5 n6
 go_wp2_with fail
 go_loopw [3] (fun i wr => ∃ (k : Nat), k ≤ n ∧ i = .int .i64 k ∧ slA M k = true ∧ Tx3 wr w.heap.size (.int .i64 s) (.int .i64 g) (.slice (some ⟨b, off, none⟩) n c) ∧ Below w.heap.size w wr) (fun i _ => n - (intOf i).toNat)
 case atStart => exact ⟨0, Nat.zero_le _, rfl, rfl, N, B⟩
 case round =>
  clear N B
  obtain ⟨k, hk, rfl, hA, N, B⟩ := hrel
  by_cases hlt : k < n
  ·obtain ⟨o, l, hM⟩ := tupSlot M k
   obtain ⟨c1, c2⟩ := (HF.out.below B HF.out.1).elSlot hlt hM
   have HA : Hid (slA M (k + 1) = (nodB o && lnB l)) := by rw [Hid, slA, hA, hM]; rfl
   have HLT : Hid (k < n) := hlt
   have hli : (k : Int) < (n : Int) := by omega
   have C1 := fun w' => l4Node_any o w'
   have C2 : ∀ w', Calls Tryz.prog 50 #[.int .i64 l, .int .i64 1, .int .i64 1000000] w' fun e w'' => e = .returned (.bool (lnB l)) ∧ w' = w'' := fun w' => l1In_any l 1 1000000 w'
   clear hM hA HF
   cases h1 : nodB o
   ·have HN : Hid (slA M (k + 1) = false) := by rw [Hid, HA.out, h1]; rfl
    clear HA
    obtain ⟨n0, n1, n2, n3, n4, n5, n6⟩ := id N; go_wp2_with fail; refine (C1 _).mono ?_; rintro e w' ⟨rfl, rfl⟩; rw [h1]
    go_wp2_with fail
    go_ret
    exact ⟨ret_bool (slA_no HN.out HLT.out).symm, B⟩
   cases h2 : lnB l
   ·have HN : Hid (slA M (k + 1) = false) := by rw [Hid, HA.out, h1, h2]; rfl
    clear HA
    obtain ⟨n0, n1, n2, n3, n4, n5, n6⟩ := id N; go_wp2_with fail; refine (C1 _).mono ?_; rintro e w' ⟨rfl, rfl⟩; rw [h1]
    go_wp2_with fail; refine (C2 _).mono ?_; rintro e w' ⟨rfl, rfl⟩; rw [h2]
    go_wp2_with fail
    go_ret
    exact ⟨ret_bool (slA_no HN.out HLT.out).symm, B⟩
   have HT : Hid (slA M (k + 1) = true) := by rw [Hid, HA.out, h1, h2]; rfl
   clear HA
   obtain ⟨n0, n1, n2, n3, n4, n5, n6⟩ := id N; go_wp2_with fail; refine (C1 _).mono ?_; rintro e w' ⟨rfl, rfl⟩; rw [h1]
   go_wp2_with fail; refine (C2 _).mono ?_; rintro e w' ⟨rfl, rfl⟩; rw [h2]
   go_wp2_with fail
   go_roundw
   case rel => exact ⟨k + 1, HLT.out, by go_num, HT.out, N, B⟩
   case measure => have hlt' := HLT.out; simp [intOf]; omega
  ·have hkn : k = n := by omega
   subst hkn
   have hli : ¬ (k : Int) < (k : Int) := by omega
   obtain ⟨n0, n1, n2, n3, n4, n5, n6⟩ := id N
   go_wp2_with fail
   go_ret
   exact ⟨by first | rfl | exact ret_bool hA.symm, B⟩
end Go.Proofs.YtddijpjgkifngaaGreatDoor
namespace Go.Proofs.YtddijpjgkifngaaGreatDoor
open Go.RowKit
set_option linter.unusedVariables false
def mdB (m : Int) : Bool := decide (0 ≤ m ∧ m ≤ 3)
def lfB (m e s : Int) : Bool := mdB m && (epB e && okT s)
def nmS (m : Int) : ByteArray := if m = 0 then ⟨#[100, 111, 119, 110]⟩ else if m = 1 then ⟨#[99, 111, 108, 100]⟩ else if m = 2 then ⟨#[115, 121, 110, 99]⟩ else if m = 3 then ⟨#[104, 111, 108, 100]⟩ else ⟨#[]⟩
def knB (m e s : Int) : Bool := lfB m e s && ((m == 2) || (m == 3))
set_option maxHeartbeats 4000000 in
theorem specLifeOk_any (m e s : Int) (w : World) :
 Calls Tryz.prog 91 #[.agg #[.int .i64 m, .int .i64 e, .int .i64 s]] w fun x w' => x = .returned (.bool (lfB m e s)) ∧ Below w.heap.size w w' := by
 have B := Below.nw w (.cells #[.int .i64 m, .int .i64 e, .int .i64 s] 66)
 have C1 : ∀ w', Calls Tryz.prog 50 #[.int .i64 m, .int .i64 0, .int .i64 3] w' fun e w'' => e = .returned (.bool (mdB m)) ∧ w' = w'' := fun w' => l1In_any m 0 3 w'
 have C2 : ∀ w', Calls Tryz.prog 50 #[.int .i64 e, .int .i64 0, .int .i64 100000] w' fun e' w'' => e' = .returned (.bool (epB e)) ∧ w' = w'' := fun w' => l1In_any e 0 100000 w'
 have C3 := fun w' => l2Time_any s w'
 cases h1 : mdB m
 ·rw [show lfB m e s = false by unfold lfB; rw [h1]; rfl]
  go_enter Tryz.func91, Tryz.ntmps91; go_wp2_with fail; refine (C1 _).mono ?_; rintro e w' ⟨rfl, rfl⟩; rw [h1]; go_wp2_with fail
  go_ret
  exact ⟨rfl, B⟩
 cases h2 : epB e
 ·rw [show lfB m e s = false by unfold lfB; rw [h1, h2]; rfl]
  go_enter Tryz.func91, Tryz.ntmps91; go_wp2_with fail; refine (C1 _).mono ?_; rintro e w' ⟨rfl, rfl⟩; rw [h1]; go_wp2_with fail
  refine (C2 _).mono ?_
  rintro e w' ⟨rfl, rfl⟩
  rw [h2]
  go_wp2_with fail
  go_ret
  exact ⟨rfl, B⟩
 rw [show lfB m e s = okT s by unfold lfB; rw [h1, h2]; rfl]
 go_enter Tryz.func91, Tryz.ntmps91; go_wp2_with fail; refine (C1 _).mono ?_; rintro e w' ⟨rfl, rfl⟩; rw [h1]; go_wp2_with fail
 refine (C2 _).mono ?_
 rintro e w' ⟨rfl, rfl⟩
 rw [h2]
 go_wp2_with fail
 refine (C3 _).mono ?_
 rintro e w' ⟨rfl, rfl⟩
 go_wp2_with fail
 go_ret
 exact ⟨rfl, B⟩
set_option maxHeartbeats 4000000 in
theorem specLifeName_any (m : Int) (w : World) :
 Calls Tryz.prog 22 #[.int .i64 m] w fun x w' => x = .returned (.string (nmS m)) ∧ w = w' := by
 unfold nmS
 by_cases h0 : m = 0
 ·subst h0
  rw [if_pos rfl]
  go_enter Tryz.func22, Tryz.ntmps22
  go_wp2_with fail
  go_ret
  exact ⟨rfl, rfl⟩
 have e0 : (m == 0) = false := beq_eq_false_iff_ne.2 h0
 by_cases h1 : m = 1
 ·subst h1
  simp only [reduceIte, Int.reduceEq]
  go_enter Tryz.func22, Tryz.ntmps22
  go_wp2_with fail
  go_ret
  exact ⟨rfl, rfl⟩
 have e1 : (m == 1) = false := beq_eq_false_iff_ne.2 h1
 by_cases h2 : m = 2
 ·subst h2
  simp only [reduceIte, Int.reduceEq]
  go_enter Tryz.func22, Tryz.ntmps22
  go_wp2_with fail
  go_ret
  exact ⟨rfl, rfl⟩
 have e2 : (m == 2) = false := beq_eq_false_iff_ne.2 h2
 by_cases h3 : m = 3
 ·subst h3
  simp only [reduceIte, Int.reduceEq]
  go_enter Tryz.func22, Tryz.ntmps22
  go_wp2_with fail
  go_ret
  exact ⟨rfl, rfl⟩
 have e3 : (m == 3) = false := beq_eq_false_iff_ne.2 h3
 rw [if_neg h0, if_neg h1, if_neg h2, if_neg h3]
 go_enter Tryz.func22, Tryz.ntmps22
 go_wp2_with fail
 go_ret
 exact ⟨rfl, rfl⟩
set_option maxHeartbeats 4000000 in
theorem specLifeKnows_any (m e s : Int) (w : World) :
 Calls Tryz.prog 97 #[.agg #[.int .i64 m, .int .i64 e, .int .i64 s]] w fun x w' => x = .returned (.bool (knB m e s)) ∧ Below w.heap.size w w' := by
 have B := Below.nw w (.cells #[.int .i64 m, .int .i64 e, .int .i64 s] 66)
 have N := Tx3.new w (.int .i64 m) (.int .i64 e) (.int .i64 s) 66
 have C1 := fun w' => specLifeOk_any m e s w'
 unfold knB
 cases h1 : lfB m e s
 ·rw [Bool.false_and]
  go_enter Tryz.func97, Tryz.ntmps97
  go_wp2_with fail
  refine (C1 _).mono ?_
  rintro x w1 ⟨rfl, hb⟩
  rw [h1]
  replace B := B.trans (hb.mono B.size)
  go_wp2_with fail
  go_ret
  exact ⟨rfl, B⟩
 rw [Bool.true_and]
 go_enter Tryz.func97, Tryz.ntmps97
 go_wp2_with fail
 refine (C1 _).mono ?_
 rintro x w1 ⟨rfl, hb⟩
 rw [h1]
 replace B := B.trans (hb.mono B.size)
 replace N := N.below hb
 clear hb C1
 obtain ⟨n0, n1, n2, n3, n4, n5, n6⟩ := id N
 cases h2 : (m == 2)
 ·go_wp2_with fail
  go_ret
  exact ⟨by first | rfl | simp [h2], B⟩
 ·go_wp2_with fail
  go_ret
  exact ⟨by first | rfl | simp [h2], B⟩
end Go.Proofs.YtddijpjgkifngaaGreatDoor
namespace Go.Proofs.YtddijpjgkifngaaGreatDoor
open Go.RowKit
set_option linter.unusedVariables false
set_option maxHeartbeats 2000000 in
theorem toApp_any (h : Bool) (l : Int) (w : World) :
 Calls Tryz.prog 106 #[.agg #[.bool h, .int .i64 l]] w fun e w' => e = .returned (.agg #[.bool h, .int .i64 l]) ∧ Below w.heap.size w w' := by
 go_enter Tryz.func106, Tryz.ntmps106
 go_wp2
 exact bodyPost_ret (v := .agg #[.bool h, .int .i64 l]) (by simp [results, Tryz.results106, go_sem]) rfl ⟨rfl, by repeat (first | exact Below.refl _ _ | refine Below.drew ?_ | refine Below.alloc ?_ (by first | (simp; done) | (simp; omega) | omega) _ | refine Below.setCell ?_ (by first | (simp; done) | (simp; omega) | omega) _ | refine Below.trans ?_ (Below.mono (by assumption) (by first | (simp; done) | (simp; omega) | omega)))⟩
set_option maxHeartbeats 2000000 in
theorem eqApp_same (h : Bool) (l : Int) (w : World) :
 Calls Tryz.prog 126 #[.agg #[.bool h, .int .i64 l], .agg #[.bool h, .int .i64 l]] w fun e w' => e = .returned (.bool true) ∧ Below w.heap.size w w' := by
 have hx : (h != h) = false := by simp
 go_enter Tryz.func126, Tryz.ntmps126
 go_wp2
 go_ret
 exact ⟨rfl, by repeat (first | exact Below.refl _ _ | refine Below.drew ?_ | refine Below.alloc ?_ (by first | (simp; done) | (simp; omega) | omega) _ | refine Below.setCell ?_ (by first | (simp; done) | (simp; omega) | omega) _ | refine Below.trans ?_ (Below.mono (by assumption) (by first | (simp; done) | (simp; omega) | omega)))⟩
end Go.Proofs.YtddijpjgkifngaaGreatDoor
namespace Go.Proofs.YtddijpjgkifngaaGreatDoor
open Go.RowKit
set_option linter.unusedVariables false
set_option maxHeartbeats 2000000 in
theorem toLife_any (m e s : Int) (w : World) :
 Calls Tryz.prog 102 #[.agg #[.int .i64 m, .int .i64 e, .int .i64 s]] w fun x w' => x = .returned (.agg #[.int .i64 m, .int .i64 e, .int .i64 s]) ∧ Below w.heap.size w w' := by
 go_enter Tryz.func102, Tryz.ntmps102
 go_wp2_with fail
 exact bodyPost_ret (v := .agg #[.int .i64 m, .int .i64 e, .int .i64 s]) (by simp (maxDischargeDepth := 6) [results, Tryz.results102, go_sem, *]) rfl ⟨rfl, by repeat (first | exact Below.refl _ _ | refine Below.drew ?_ | refine Below.alloc ?_ (by first | (simp; done) | (simp; omega) | omega) _ | refine Below.setCell ?_ (by first | (simp; done) | (simp; omega) | omega) _ | refine Below.trans ?_ (Below.mono (by assumption) (by first | (simp; done) | (simp; omega) | omega)))⟩
set_option maxHeartbeats 2000000 in
theorem eqLife_same (m e s : Int) (w : World) :
 Calls Tryz.prog 122 #[.agg #[.int .i64 m, .int .i64 e, .int .i64 s], .agg #[.int .i64 m, .int .i64 e, .int .i64 s]] w fun x w' => x = .returned (.bool true) ∧ Below w.heap.size w w' := by
 go_enter Tryz.func122, Tryz.ntmps122
 go_wp2_with fail
 go_ret
 exact ⟨rfl, by repeat (first | exact Below.refl _ _ | refine Below.drew ?_ | refine Below.alloc ?_ (by first | (simp; done) | (simp; omega) | omega) _ | refine Below.setCell ?_ (by first | (simp; done) | (simp; omega) | omega) _ | refine Below.trans ?_ (Below.mono (by assumption) (by first | (simp; done) | (simp; omega) | omega)))⟩
end Go.Proofs.YtddijpjgkifngaaGreatDoor
namespace Go.Proofs.YtddijpjgkifngaaGreatDoor
open Go.RowKit
set_option linter.unusedVariables false
set_option maxHeartbeats 400000 in
theorem isMode_any (n : Int) (w : World) :
 Calls Tryz.prog 181 #[.int .i64 n] w fun e w' => e = .returned (.bool (mdB n)) ∧ w = w' := by
 go_enter Tryz.func181, Tryz.ntmps181
 go_wp2
 all_goals go_ret
 all_goals exact ⟨ret_bool (by rw [Bool.eq_iff_iff]; simp [mdB]; try omega), rfl⟩
set_option maxHeartbeats 400000 in
theorem isEpoch17_any (n : Int) (w : World) :
 Calls Tryz.prog 182 #[.int .i64 n] w fun e w' => e = .returned (.bool (epB n)) ∧ w = w' := by
 go_enter Tryz.func182, Tryz.ntmps182
 go_wp2
 all_goals go_ret
 all_goals exact ⟨ret_bool (by rw [Bool.eq_iff_iff]; simp [epB]; try omega), rfl⟩
set_option maxHeartbeats 4000000 in
theorem lifeOk_any (m e s : Int) (w : World) :
 Calls Tryz.prog 164 #[.agg #[.int .i64 m, .int .i64 e, .int .i64 s]] w fun x w' => x = .returned (.bool (lfB m e s)) ∧ Below w.heap.size w w' := by
 have B := Below.nw w (.cells #[.int .i64 m, .int .i64 e, .int .i64 s] 66)
 have C1 := fun w' => isMode_any m w'
 have C2 := fun w' => isEpoch17_any e w'
 have C3 := fun w' => isTime_any s w'
 cases h1 : mdB m
 ·rw [show lfB m e s = false by unfold lfB; rw [h1]; rfl]
  go_enter Tryz.func164, Tryz.ntmps164; go_wp2_with fail; refine (C1 _).mono ?_; rintro e w' ⟨rfl, rfl⟩; rw [h1]; go_wp2_with fail
  go_ret
  exact ⟨rfl, B⟩
 cases h2 : epB e
 ·rw [show lfB m e s = false by unfold lfB; rw [h1, h2]; rfl]
  go_enter Tryz.func164, Tryz.ntmps164; go_wp2_with fail; refine (C1 _).mono ?_; rintro e w' ⟨rfl, rfl⟩; rw [h1]; go_wp2_with fail
  refine (C2 _).mono ?_
  rintro e w' ⟨rfl, rfl⟩
  rw [h2]
  go_wp2_with fail
  go_ret
  exact ⟨rfl, B⟩
 rw [show lfB m e s = okT s by unfold lfB; rw [h1, h2]; rfl]
 go_enter Tryz.func164, Tryz.ntmps164; go_wp2_with fail; refine (C1 _).mono ?_; rintro e w' ⟨rfl, rfl⟩; rw [h1]; go_wp2_with fail
 refine (C2 _).mono ?_
 rintro e w' ⟨rfl, rfl⟩
 rw [h2]
 go_wp2_with fail
 refine (C3 _).mono ?_
 rintro e w' ⟨rfl, rfl⟩
 go_wp2_with fail
 go_ret
 exact ⟨rfl, B⟩
set_option maxHeartbeats 4000000 in
theorem implLifeKnows_any (m e s : Int) (w : World) :
 Calls Tryz.prog 142 #[.agg #[.int .i64 m, .int .i64 e, .int .i64 s]] w fun x w' => x = .returned (.bool (knB m e s)) ∧ Below w.heap.size w w' := by
 have B := Below.nw w (.cells #[.int .i64 m, .int .i64 e, .int .i64 s] 66)
 have N := Tx3.new w (.int .i64 m) (.int .i64 e) (.int .i64 s) 66
 have C1 := fun w' => lifeOk_any m e s w'
 unfold knB
 cases h1 : lfB m e s
 ·rw [Bool.false_and]
  go_enter Tryz.func142, Tryz.ntmps142
  go_wp2_with fail
  refine (C1 _).mono ?_
  rintro x w1 ⟨rfl, hb⟩
  rw [h1]
  replace B := B.trans (hb.mono B.size)
  go_wp2_with fail
  go_ret
  exact ⟨rfl, B⟩
 rw [Bool.true_and]
 go_enter Tryz.func142, Tryz.ntmps142
 go_wp2_with fail
 refine (C1 _).mono ?_
 rintro x w1 ⟨rfl, hb⟩
 rw [h1]
 replace B := B.trans (hb.mono B.size)
 replace N := N.below hb
 clear hb C1
 obtain ⟨n0, n1, n2, n3, n4, n5, n6⟩ := id N
 cases h2 : (m == 2)
 ·go_wp2_with fail
  go_ret
  exact ⟨by first | rfl | simp [h2], B⟩
 ·go_wp2_with fail
  go_ret
  exact ⟨by first | rfl | simp [h2], B⟩
set_option maxHeartbeats 4000000 in
theorem implLifeName_w (m : Int) (w : World) :
 Calls Tryz.prog 68 #[.int .i64 m] w fun x w' => x = .returned (.string (nmS m)) ∧ w = w' := by
 unfold nmS
 by_cases h0 : m = 0
 ·subst h0
  rw [if_pos rfl]
  go_enter Tryz.func68, Tryz.ntmps68
  go_wp2_with fail
  go_ret
  exact ⟨rfl, rfl⟩
 have e0 : (m == 0) = false := beq_eq_false_iff_ne.2 h0
 by_cases h1 : m = 1
 ·subst h1
  simp only [reduceIte, Int.reduceEq]
  go_enter Tryz.func68, Tryz.ntmps68
  go_wp2_with fail
  go_ret
  exact ⟨rfl, rfl⟩
 have e1 : (m == 1) = false := beq_eq_false_iff_ne.2 h1
 by_cases h2 : m = 2
 ·subst h2
  simp only [reduceIte, Int.reduceEq]
  go_enter Tryz.func68, Tryz.ntmps68
  go_wp2_with fail
  go_ret
  exact ⟨rfl, rfl⟩
 have e2 : (m == 2) = false := beq_eq_false_iff_ne.2 h2
 by_cases h3 : m = 3
 ·subst h3
  simp only [reduceIte, Int.reduceEq]
  go_enter Tryz.func68, Tryz.ntmps68
  go_wp2_with fail
  go_ret
  exact ⟨rfl, rfl⟩
 have e3 : (m == 3) = false := beq_eq_false_iff_ne.2 h3
 rw [if_neg h0, if_neg h1, if_neg h2, if_neg h3]
 go_enter Tryz.func68, Tryz.ntmps68
 go_wp2_with fail
 go_ret
 exact ⟨rfl, rfl⟩
theorem implLifeName_any (m : Int) (w : World) :
 Calls Tryz.prog 68 #[.int .i64 m] w fun x w' => x = .returned (.string (nmS m)) ∧ Below w.heap.size w w' :=
 (implLifeName_w m w).mono fun x w' h => ⟨h.1, h.2 ▸ Below.refl _ _⟩
end Go.Proofs.YtddijpjgkifngaaGreatDoor
