/- Slots and rows of slots: what the laws make of them, and whether two are the same. PlanOk in the specification. -/
import Derived.Test.YtddijpjgkifngaaGreatM0
import Derived.Test.YtddijpjgkifngaaGreatM7
namespace Go.Proofs.YtddijpjgkifngaaGreat
open Go.RowKit
set_option linter.unusedVariables false
set_option maxHeartbeats 2000000 in
theorem toSlot_any (x0 x1 : Int) (w : World) :
 Calls Tryz.prog 160 #[.agg #[.int .i64 x0, .int .i64 x1]] w fun e w' => e = .returned (.agg #[.int .i64 x0, .int .i64 x1]) ∧ Below w.heap.size w w' := by
 go_enter Tryz.func160, Tryz.ntmps160
 go_wp2_with fail
 exact bodyPost_ret (v := .agg #[.int .i64 x0, .int .i64 x1]) (by simp (maxDischargeDepth := 6) [results, Tryz.results160, go_sem, *]) rfl ⟨rfl, by repeat (first | exact Below.refl _ _ | refine Below.drew ?_ | refine Below.alloc ?_ (by first | (simp; done) | (simp; omega) | omega) _ | refine Below.setCell ?_ (by first | (simp; done) | (simp; omega) | omega) _ | refine Below.trans ?_ (Below.mono (by assumption) (by first | (simp; done) | (simp; omega) | omega)))⟩
set_option maxHeartbeats 2000000 in
theorem eqSlot_same (x0 x1 : Int) (w : World) :
 Calls Tryz.prog 164 #[.agg #[.int .i64 x0, .int .i64 x1], .agg #[.int .i64 x0, .int .i64 x1]] w fun e w' => e = .returned (.bool true) ∧ Below w.heap.size w w' := by
 go_enter Tryz.func164, Tryz.ntmps164
 go_wp2_with fail
 go_ret
 exact ⟨rfl, by repeat (first | exact Below.refl _ _ | refine Below.drew ?_ | refine Below.alloc ?_ (by first | (simp; done) | (simp; omega) | omega) _ | refine Below.setCell ?_ (by first | (simp; done) | (simp; omega) | omega) _ | refine Below.trans ?_ (Below.mono (by assumption) (by first | (simp; done) | (simp; omega) | omega)))⟩
def MCSlot (M : SlT) : Nat → Value
 | 0 => .int .i64 M.1
 | _ => .int .i64 M.2
def MFSlot (M : Nat → SlT) (c : Nat) : Value := MCSlot (M (c / 2)) (c % 2)
theorem MFSlot_at (M : Nat → SlT) (k j : Nat) (hj : j < 2) : MFSlot M (k * 2 + j) = MCSlot (M k) j := by
 have h1 : (k * 2 + j) / 2 = k := by omega
 have h2 : (k * 2 + j) % 2 = j := by omega
 rw [MFSlot, h1, h2]
theorem MFSlot_vals {M : Nat → SlT} {k : Nat} {x0 : Int} {x1 : Int} (hM : M k = (x0, x1)) : MFSlot M (k * 2) = .int .i64 x0 ∧ MFSlot M (k * 2 + 1) = .int .i64 x1 :=
 ⟨by have q := MFSlot_at M k 0 (by decide); rw [hM] at q; exact q, by have q := MFSlot_at M k 1 (by decide); rw [hM] at q; exact q⟩
theorem Cs.elSlot {w : World} {b off n k : Nat} {M : Nat → SlT} {x0 : Int} {x1 : Int} (h : Cs w b off (n * 2) (MFSlot M)) (hk : k < n) (hM : M k = (x0, x1)) : w.cell? ⟨b, off + k * 2, none⟩ = some (.int .i64 x0) ∧ w.cell? ⟨b, off + k * 2 + 1, none⟩ = some (.int .i64 x1) := by
 obtain ⟨q0, q1⟩ := MFSlot_vals hM
 exact ⟨by have := h.2 (k * 2) (by omega); rw [q0] at this; exact this, by have := h.2 (k * 2 + 1) (by omega); rw [q1] at this; exact this⟩
theorem tupSlot (M : Nat → SlT) (k : Nat) : ∃ (x0 : Int) (x1 : Int), M k = (x0, x1) := ⟨_, _, rfl⟩
set_option maxHeartbeats 1000000 in
theorem szSlotS_any (a : Option Addr) (n c : Nat) (L : Int) (w : World) (hm : n ≤ maxLen) (L0 : 0 ≤ L) (L1 : L ≤ 1048576) :
 Calls Tryz.prog 106 #[.slice a n c, .int .i64 L] w fun e w' => e = .returned (.int .i64 (if (n : Int) ≤ L then L - (n : Int) else -1)) ∧ w = w' := by
 unfold maxLen at hm
 by_cases h : (n : Int) ≤ L
 ·rw [if_pos h]
  have hd : decide (L - (n : Int) < 0) = false := by simp; omega
  go_enter Tryz.func106, Tryz.ntmps106
  go_wp2_with fail
  go_ret
  exact ⟨rfl, rfl⟩
 ·rw [if_neg h]
  have hd : decide (L - (n : Int) < 0) = true := by simp; omega
  go_enter Tryz.func106, Tryz.ntmps106
  go_wp2_with fail
  go_ret
  exact ⟨rfl, rfl⟩
def rowObjSlot (n : Nat) : Obj := .cells (madeCells #[.int .i64 0, .int .i64 0] (n * 2)) 173
theorem infoSlot : (Tryz.prog.info? 173).map (fun i => (i.zero, i.size, i.bytes)) = some (some (.agg #[.int .i64 0, .int .i64 0]), 2, 16) := by kernel_rfl
theorem mk_rowSlot (n : Nat) (h : n ≤ 1048576) (w : World) : (Instr.makeSlice 41 (.int .i64 (n : Int)) (.int .i64 (n : Int))).run Tryz.prog w = .ok (.slice (some ⟨w.heap.size, 0, none⟩) n n) (w.alloc (rowObjSlot n)) := by
 obtain ⟨i, hi, hz⟩ := Option.map_eq_some_iff.1 infoSlot
 simp only [Prod.mk.injEq] at hz
 obtain ⟨h1, h2, h3⟩ := hz
 have hr := run_make (P := Tryz.prog) w 41 173 i _ Tryz.underlying41 hi h1 .i64 .i64 n n (by omega) (Int.le_refl _) (by rw [h3]; omega) (by omega)
 simp only [Int.toNat_natCast, h2] at hr
 exact hr
theorem rowObjSlot_is (w : World) (n : Nat) (F : Nat → Value) : RowF (w.alloc (rowObjSlot n)) w.heap.size 173 (n * 2) 0 F := by
 have h := World.rowIs_alloc w (madeCells #[.int .i64 0, .int .i64 0] (n * 2)) 173 (fun i => (madeCells #[.int .i64 0, .int .i64 0] (n * 2)).getD i undef) (fun i hi => by
  rw [Array.getElem?_eq_getElem hi]; exact congrArg some (by rw [Array.getD_eq_getD_getElem?, Array.getElem?_eq_getElem hi]; rfl))
 rw [size_madeCells] at h
 exact ⟨_, h, fun j hj => absurd hj (Nat.not_lt_zero _)⟩
set_option maxHeartbeats 4000000 in
theorem toSlotS_some (b off n c : Nat) (M : Nat → SlT) (w : World) (hn : n ≤ 1048576) (hf : Cs w b off (n * 2) (MFSlot M)) :
 Calls Tryz.prog 107 #[.slice (some ⟨b, off, none⟩) n c] w fun e w' => e = .returned (.slice (some ⟨w.heap.size, 0, none⟩) n n) ∧ RowF w' w.heap.size 173 (n * 2) (n * 2) (MFSlot M) ∧ Below w.heap.size w w' := by
 have hmk := mk_rowSlot n hn
 go_enter Tryz.func107, Tryz.ntmps107
 go_wp2_with fail
 clear hmk
 go_loopw [4] (fun i wr => ∃ k : Nat, k ≤ n ∧ i = .int .i64 k ∧ RowF wr w.heap.size 173 (n * 2) (k * 2) (MFSlot M) ∧ Below w.heap.size w wr) (fun i _ => n - (intOf i).toNat)
 case atStart => exact ⟨0, Nat.zero_le _, rfl, (rowObjSlot_is w n _).eqm (by omega), (Below.refl _ _).alloc (Nat.le_refl _) _⟩
 case round =>
  obtain ⟨k, hk, rfl, hrow, hB⟩ := hrel
  by_cases hlt : k < n
  ·obtain ⟨x0, x1, hM⟩ := tupSlot M k
   obtain ⟨c0, c1⟩ := (hf.below hB hf.1).elSlot hlt hM
   obtain ⟨q0, q1⟩ := MFSlot_vals hM
   have hli : (k : Int) < (n : Int) := by omega
   have hlr := hrow.lt
   clear hM
   go_wp2_with fail
   refine (toSlot_any x0 x1 _).mono ?_
   rintro e w' ⟨rfl, hb⟩
   have row := RowF.below hb hlr hrow
   have hB2 := hB.trans (hb.mono hB.size)
   clear c0 c1 hrow hB hb
   have hlr2 := row.lt
   obtain ⟨⟨v0, e0⟩, f0⟩ := row.facts (k * 2) (by omega)
   obtain ⟨⟨v1, e1⟩, f1⟩ := row.facts (k * 2 + 1) (by omega)
   go_wp2_with fail
   go_roundw
   case rel => exact ⟨k + 1, by omega, by go_num, ((row.put (k * 2 + 1) (by omega) q0).put ((k + 1) * 2) (by omega) q1), ((hB2.setCell (Nat.le_refl _) _).setCell (Nat.le_refl _) _)⟩
   case measure => simp [intOf]; omega
  ·have hkn : k = n := by omega
   subst hkn
   have hli : ¬ (k : Int) < (k : Int) := by omega
   go_wp2_with fail
   go_ret
   exact ⟨rfl, hrow, hB⟩
set_option maxHeartbeats 1000000 in
theorem toSlotS_empty (a : Option Addr) (c : Nat) (F : Nat → Value) (w : World) :
 Calls Tryz.prog 107 #[.slice a 0 c] w fun e w' => e = .returned (.slice (some ⟨w.heap.size, 0, none⟩) 0 0) ∧ RowF w' w.heap.size 173 (0 * 2) (0 * 2) F ∧ Below w.heap.size w w' := by
 have hmk := mk_rowSlot 0 (by omega)
 simp only [Int.ofNat_zero] at hmk
 go_enter Tryz.func107, Tryz.ntmps107
 go_wp2_with fail
 clear hmk
 go_loopw [4] (fun i wr => i = .int .i64 0 ∧ RowF wr w.heap.size 173 (0 * 2) 0 F ∧ Below w.heap.size w wr) (fun i _ => 0)
 case atStart => exact ⟨rfl, rowObjSlot_is w 0 F, (Below.refl _ _).alloc (Nat.le_refl _) _⟩
 case round =>
  obtain ⟨rfl, hrow, hB⟩ := hrel
  go_wp2_with fail
  go_ret
  exact ⟨rfl, hrow.eqm (by omega), hB⟩
theorem toSlotS_any (a : Option Addr) (n c : Nat) (M : Nat → SlT) (w : World) (hn : n ≤ 1048576) (h : SrcC w a (n * 2) (MFSlot M)) :
 Calls Tryz.prog 107 #[.slice a n c] w fun e w' => e = .returned (.slice (some ⟨w.heap.size, 0, none⟩) n n) ∧ RowF w' w.heap.size 173 (n * 2) (n * 2) (MFSlot M) ∧ Below w.heap.size w w' := by
 rcases h with h0 | ⟨b, off, rfl, h2⟩
 ·have hn0 : n = 0 := by omega
  subst hn0
  exact toSlotS_empty a c _ w
 ·exact toSlotS_some b off n c M w hn h2
set_option maxHeartbeats 8000000 in
theorem eqSlotS_some (b off b' off' n c c' : Nat) (M : Nat → SlT) (w : World) (hn : n ≤ maxLen) (hf : Cs w b off (n * 2) (MFSlot M)) (hg : Cs w b' off' (n * 2) (MFSlot M)) :
 Calls Tryz.prog 116 #[.slice (some ⟨b, off, none⟩) n c, .slice (some ⟨b', off', none⟩) n c'] w fun e w' => e = .returned (.bool true) ∧ Below w.heap.size w w' := by
 unfold maxLen at hn
 go_enter Tryz.func116, Tryz.ntmps116
 go_wp2_with fail
 go_loopw [5] (fun i wr => ∃ k : Nat, k ≤ n ∧ i = .int .i64 k ∧ Below w.heap.size w wr) (fun i _ => n - (intOf i).toNat)
 case atStart => exact ⟨0, Nat.zero_le _, rfl, Below.refl _ _⟩
 case round =>
  obtain ⟨k, hk, rfl, hB⟩ := hrel
  by_cases hlt : k < n
  ·obtain ⟨x0, x1, hM⟩ := tupSlot M k
   obtain ⟨c0, c1⟩ := (hf.below hB hf.1).elSlot hlt hM
   obtain ⟨d0, d1⟩ := (hg.below hB hg.1).elSlot hlt hM
   have hb1 : b < wr.drew.heap.size := Nat.lt_of_lt_of_le hf.1 hB.size
   have hb2 : b' < wr.drew.heap.size := Nat.lt_of_lt_of_le hg.1 hB.size
   have hsz : w.heap.size ≤ wr.drew.heap.size := hB.size
   have hli : (k : Int) < (n : Int) := by omega
   clear hM
   go_wp2_with fail
   refine wp_region_held_drew (S := (fun w' => w'.cell? ⟨b, off + k * 2, none⟩ = some (.int .i64 x0) ∧ w'.cell? ⟨b, off + k * 2 + 1, none⟩ = some (.int .i64 x1) ∧ w'.cell? ⟨b', off' + k * 2, none⟩ = some (.int .i64 x0) ∧ w'.cell? ⟨b', off' + k * 2 + 1, none⟩ = some (.int .i64 x1))) (by kernel_rfl) ?_ (fun hHeld => ?_)
   ·first | exact ⟨c0, c1, d0, d1⟩ | (simp (maxDischargeDepth := 6) [go_sem, *]; done)
   refine zTk 0 ?_
   refine zTk 1 ?_
   refine zTk 2 ?_
   refine zTk 3 ?_
   refine zTk 4 ?_
   refine zTk 5 ?_
   refine zTk 6 ?_
   refine zTk 7 ?_
   refine wpAnyH_ready (rs := [8]) (by kernel_rfl) (by simp) ?_
   refine AllReadyH.cons (by rw [List.getElem?_toArray]; rfl) (fun K hK => ?_) AllReadyH.nil
   go_simp
   refine (eqSlot_same _ _ _).mono ?_; rintro e w' ⟨rfl, hb⟩; (replace c0 := (hb.cell (p := ⟨b, off + k * 2, none⟩) hb1).trans c0); (replace c1 := (hb.cell (p := ⟨b, off + k * 2 + 1, none⟩) hb1).trans c1); (replace d0 := (hb.cell (p := ⟨b', off' + k * 2, none⟩) hb2).trans d0); (replace d1 := (hb.cell (p := ⟨b', off' + k * 2 + 1, none⟩) hb2).trans d1)
   (try go_wp2_with fail)
   refine hK.out _ _ ?_ (fun hHeld => ?_)
   ·first | exact ⟨c0, c1, d0, d1⟩ | (simp (maxDischargeDepth := 6) [go_sem, *]; done)
   clear hK K
   (try simp only [Act.put, zSb, zS0, zS1])
   refine zTk 9 ?_
   refine wpAnyH_done (by kernel_rfl) ?_ _
   go_wp2_with fail
   go_roundw
   case rel => exact ⟨k + 1, by omega, by go_num, (Below.drew hB).trans (hb.mono hsz)⟩
   case measure => simp [intOf]; omega
  ·go_wp2_with fail
   go_ret
   exact ⟨rfl, hB⟩
set_option maxHeartbeats 400000 in
theorem eqSlotS_zero (a a' : Option Addr) (c c' : Nat) (w : World) :
 Calls Tryz.prog 116 #[.slice a 0 c, .slice a' 0 c'] w fun e w' => e = .returned (.bool true) ∧ Below w.heap.size w w' := by
 go_enter Tryz.func116, Tryz.ntmps116
 go_wp2_with fail
 go_loopw [5] (fun i wr => i = .int .i64 0 ∧ w = wr) (fun i _ => 0)
 case atStart => exact ⟨rfl, rfl⟩
 case round =>
  obtain ⟨rfl, rfl⟩ := hrel
  go_wp2_with fail
  go_ret
  exact ⟨rfl, Below.refl _ _⟩
theorem eqSlotS_src (a a' : Option Addr) (n c c' : Nat) (M : Nat → SlT) (w : World) (hn : n ≤ maxLen) (h : SrcC w a (n * 2) (MFSlot M)) (h' : SrcC w a' (n * 2) (MFSlot M)) :
 Calls Tryz.prog 116 #[.slice a n c, .slice a' n c'] w fun e w' => e = .returned (.bool true) ∧ Below w.heap.size w w' := by
 by_cases h0 : n = 0
 ·subst h0; exact eqSlotS_zero a a' c c' w
 ·rcases h with h | ⟨b, off, rfl, hp⟩
  ·omega
  ·rcases h' with h | ⟨b', off', rfl, hp'⟩
   ·omega
   ·exact eqSlotS_some b off b' off' n c c' M w hn hp hp'
def mkSlot (q : Int) (c : Nat) : Value := .int .i64 (q + (c : Int))
theorem mkSlot_i {q : Int} {k j : Nat} {x : Int} (h : x = q + ((k * 2 + j : Nat) : Int)) : mkSlot q (k * 2 + j) = .int .i64 x := by rw [mkSlot, h]
set_option maxHeartbeats 8000000 in
theorem markSlotS_row (b N n c : Nat) (q0 : Int) (w : World) (hn : n ≤ 1048576) (hq : 0 < q0) (hq1 : q0 ≤ 1073741824) (hN : n * 2 ≤ N) (h : RowF w b 173 N 0 (mkSlot q0)) :
 Calls Tryz.prog 117 #[.slice (some ⟨b, 0, none⟩) n c, .int .i64 q0] w fun e w' => e = .returned (.int .i64 (q0 + (n : Int) * 2)) ∧ RowF w' b 173 N (n * 2) (mkSlot q0) ∧ But b w w' := by
 go_enter Tryz.func117, Tryz.ntmps117
 go_wp2_with fail
 go_loopw [1, 5] (fun q i wr => ∃ (k : Nat) (Q : Int), k ≤ n ∧ i = .int .i64 k ∧ q = .int .i64 Q ∧ Q = q0 + (k : Int) * 2 ∧ RowF wr b 173 N (k * 2) (mkSlot q0) ∧ But b w wr) (fun _ i _ => n - (intOf i).toNat)
 case atStart => exact ⟨0, q0, Nat.zero_le _, rfl, rfl, by omega, h.eqm (by omega), But.refl _ _⟩
 case round =>
  obtain ⟨k, Q, hk, rfl, rfl, hQ, row, hB⟩ := hrel
  clear h
  have HQ : Hid (Q = q0 + (k : Int) * 2) := hQ
  by_cases hlt : k < n
  ·have hli : (k : Int) < (n : Int) := by omega
   have Q0 : 0 < Q := by omega
   have Q1 : Q ≤ 1073741824 + 1048576 * 2 := by omega
   clear hQ
   have hlr := row.lt
   obtain ⟨⟨v0, e0⟩, f0⟩ := row.facts (k * 2) (by omega)
   obtain ⟨⟨v1, e1⟩, f1⟩ := row.facts (k * 2 + 1) (by omega)
   go_wp2_with fail
   go_roundw
   case rel => exact ⟨k + 1, _, by omega, by go_num, rfl, by have := HQ.out; omega, (RowF.put (RowF.put row (k * 2 + 1) (by omega) (mkSlot_i (k := k) (j := 0) (by have := HQ.out; omega))) ((k + 1) * 2) (by omega) (mkSlot_i (k := k) (j := 1) (by have := HQ.out; omega))), ((hB.setCell _ _).setCell _ _)⟩
   case measure => simp [intOf]; omega
  ·have hkn : k = n := by omega
   subst hkn
   have hli : ¬ (k : Int) < (k : Int) := by omega
   subst hQ
   go_wp2_with fail
   go_ret
   exact ⟨rfl, row, hB⟩
set_option maxHeartbeats 400000 in
theorem markSlotS_zero (a : Option Addr) (c : Nat) (q0 : Int) (w : World) :
 Calls Tryz.prog 117 #[.slice a 0 c, .int .i64 q0] w fun e w' => e = .returned (.int .i64 q0) ∧ w = w' := by
 go_enter Tryz.func117, Tryz.ntmps117
 go_wp2_with fail
 go_loopw [1, 5] (fun q i wr => i = .int .i64 0 ∧ q = .int .i64 q0 ∧ w = wr) (fun _ i _ => 0)
 case atStart => exact ⟨rfl, rfl, by first | rfl | trivial⟩
 case round =>
  obtain ⟨rfl, rfl, rfl⟩ := hrel
  go_wp2_with fail
  go_ret
  exact ⟨rfl, rfl⟩
end Go.Proofs.YtddijpjgkifngaaGreat
namespace Go.Proofs.YtddijpjgkifngaaGreat
open Go.RowKit
set_option linter.unusedVariables false
set_option maxRecDepth 100000 in
set_option maxHeartbeats 8000000 in
theorem specPlanOk_any (s g : Int) (a : Option Addr) (n c : Nat) (M : Nat → SlT) (w : World) (hm : n ≤ maxLen) (hs : SrcC w a (n * 2) (MFSlot M)) :
 Calls Tryz.prog 83 #[.agg #[.int .i64 s, .int .i64 g, .slice a n c]] w fun e w' => e = .returned (.bool (plB s g M n)) ∧ Below w.heap.size w w' := by
 unfold maxLen at hm
 have B := Below.nw w (.cells #[.int .i64 s, .int .i64 g, .slice a n c] 43)
 have N := Tx3.new w (.int .i64 s) (.int .i64 g) (.slice a n c) 43
 have C1 := fun w' => l2Time_any s w'
 have C2 : ∀ w', Calls Tryz.prog 42 #[.int .i64 g, .int .i64 0, .int .i64 100000] w' fun e w'' => e = .returned (.bool (gpB g)) ∧ w' = w'' := fun w' => l1In_any g 0 100000 w'
 have C3 : ∀ w', Calls Tryz.prog 42 #[.int .i64 (n : Int), .int .i64 1, .int .i64 12] w' fun e w'' => e = .returned (.bool (cnB n)) ∧ w' = w'' := fun w' => l1In_any n 1 12 w'
 cases h1 : okT s
 ·have e0 : plB s g M n = false := by unfold plB; rw [h1]; rfl
  rw [e0]
  clear e0 hs
  go_enter Tryz.func83, Tryz.ntmps83; go_upto_region 1 with fail; generalize w.alloc (.cells #[.int .i64 s, .int .i64 g, .slice a n c] 43) = v at *
  obtain ⟨n0, n1, n2, n3, n4, n5, n6⟩ := id N; go_wp2_with fail; refine (C1 _).mono ?_; rintro e w' ⟨rfl, rfl⟩; rw [h1]
  go_wp2_with fail
  go_ret
  exact ⟨rfl, B⟩
 cases h2 : gpB g
 ·have e0 : plB s g M n = false := by unfold plB; rw [h1, h2]; rfl
  rw [e0]
  clear e0 hs
  go_enter Tryz.func83, Tryz.ntmps83; go_upto_region 1 with fail; generalize w.alloc (.cells #[.int .i64 s, .int .i64 g, .slice a n c] 43) = v at *
  obtain ⟨n0, n1, n2, n3, n4, n5, n6⟩ := id N; go_wp2_with fail; refine (C1 _).mono ?_; rintro e w' ⟨rfl, rfl⟩; rw [h1]
  go_wp2_with fail; refine (C2 _).mono ?_; rintro e w' ⟨rfl, rfl⟩; rw [h2]
  go_wp2_with fail
  go_ret
  exact ⟨rfl, B⟩
 cases h3 : cnB n
 ·have e0 : plB s g M n = false := by unfold plB; rw [h1, h2, h3]; rfl
  rw [e0]
  clear e0 hs
  go_enter Tryz.func83, Tryz.ntmps83; go_upto_region 1 with fail; generalize w.alloc (.cells #[.int .i64 s, .int .i64 g, .slice a n c] 43) = v at *
  obtain ⟨n0, n1, n2, n3, n4, n5, n6⟩ := id N; go_wp2_with fail; refine (C1 _).mono ?_; rintro e w' ⟨rfl, rfl⟩; rw [h1]
  go_wp2_with fail; refine (C2 _).mono ?_; rintro e w' ⟨rfl, rfl⟩; rw [h2]
  go_wp2_with fail; refine (C3 _).mono ?_; rintro e w' ⟨rfl, rfl⟩; rw [h3]
  go_wp2_with fail
  go_ret
  exact ⟨rfl, B⟩
 have e0 : plB s g M n = slA M n := by unfold plB; rw [h1, h2, h3]; rfl
 rw [e0]
 clear e0
 have hn : 1 ≤ (n : Int) ∧ (n : Int) ≤ 12 := of_decide_eq_true h3
 obtain ⟨b, off, rfl, hf⟩ : ∃ b off, a = some ⟨b, off, none⟩ ∧ Cs w b off (n * 2) (MFSlot M) := by
  rcases hs with q | q
  ·exact absurd q (by omega)
  ·exact q
 have HF : Hid (Cs w b off (n * 2) (MFSlot M)) := hf
 clear hf hs
 go_enter Tryz.func83, Tryz.ntmps83; go_upto_region 1 with fail; generalize w.alloc (.cells #[.int .i64 s, .int .i64 g, .slice (some ⟨b, off, none⟩) n c] 43) = v at *
 obtain ⟨n0, n1, n2, n3, n4, n5, n6⟩ := id N; go_wp2_with fail; refine (C1 _).mono ?_; rintro e w' ⟨rfl, rfl⟩; rw [h1]
 go_wp2_with fail; refine (C2 _).mono ?_; rintro e w' ⟨rfl, rfl⟩; rw [h2]
 go_wp2_with fail; refine (C3 _).mono ?_; rintro e w' ⟨rfl, rfl⟩; rw [h3]
 clear C1 C2 C3 h1 h2 h3
 clear n0 n1 n2 n3 n4 n5 n6
 go_wp2_with fail
 go_loopw [3] (fun i wr => ∃ (k : Nat), k ≤ n ∧ i = .int .i64 k ∧ slA M k = true ∧ Tx3 wr w.heap.size (.int .i64 s) (.int .i64 g) (.slice (some ⟨b, off, none⟩) n c) ∧ Below w.heap.size w wr) (fun i _ => n - (intOf i).toNat)
 case atStart => exact ⟨0, Nat.zero_le _, rfl, rfl, N, B⟩
 case round =>
  clear N B
  obtain ⟨k, hk, rfl, hA, N, B⟩ := hrel
  by_cases hlt : k < n
  ·obtain ⟨o, l, hM⟩ := tupSlot M k
   obtain ⟨c1, c2⟩ := (HF.out.below B HF.out.1).elSlot hlt hM
   have HA : Hid (slA M (k + 1) = (nodB o && lnB l)) := by rw [Hid, slA, hA, hM]; rfl
   have HLT : Hid (k < n) := hlt
   have hli : (k : Int) < (n : Int) := by omega
   have C1 := fun w' => l4Node_any o w'
   have C2 : ∀ w', Calls Tryz.prog 42 #[.int .i64 l, .int .i64 1, .int .i64 1000000] w' fun e w'' => e = .returned (.bool (lnB l)) ∧ w' = w'' := fun w' => l1In_any l 1 1000000 w'
   clear hM hA HF
   cases h1 : nodB o
   ·have HN : Hid (slA M (k + 1) = false) := by rw [Hid, HA.out, h1]; rfl
    clear HA
    obtain ⟨n0, n1, n2, n3, n4, n5, n6⟩ := id N; go_wp2_with fail; refine (C1 _).mono ?_; rintro e w' ⟨rfl, rfl⟩; rw [h1]
    go_wp2_with fail
    go_ret
    exact ⟨ret_bool (slA_no HN.out HLT.out).symm, B⟩
   cases h2 : lnB l
   ·have HN : Hid (slA M (k + 1) = false) := by rw [Hid, HA.out, h1, h2]; rfl
    clear HA
    obtain ⟨n0, n1, n2, n3, n4, n5, n6⟩ := id N; go_wp2_with fail; refine (C1 _).mono ?_; rintro e w' ⟨rfl, rfl⟩; rw [h1]
    go_wp2_with fail; refine (C2 _).mono ?_; rintro e w' ⟨rfl, rfl⟩; rw [h2]
    go_wp2_with fail
    go_ret
    exact ⟨ret_bool (slA_no HN.out HLT.out).symm, B⟩
   have HT : Hid (slA M (k + 1) = true) := by rw [Hid, HA.out, h1, h2]; rfl
   clear HA
   obtain ⟨n0, n1, n2, n3, n4, n5, n6⟩ := id N; go_wp2_with fail; refine (C1 _).mono ?_; rintro e w' ⟨rfl, rfl⟩; rw [h1]
   go_wp2_with fail; refine (C2 _).mono ?_; rintro e w' ⟨rfl, rfl⟩; rw [h2]
   go_wp2_with fail
   go_roundw
   case rel => exact ⟨k + 1, HLT.out, by go_num, HT.out, N, B⟩
   case measure => have hlt' := HLT.out; simp [intOf]; omega
  ·have hkn : k = n := by omega
   subst hkn
   have hli : ¬ (k : Int) < (k : Int) := by omega
   obtain ⟨n0, n1, n2, n3, n4, n5, n6⟩ := id N
   go_wp2_with fail
   go_ret
   exact ⟨by first | rfl | exact ret_bool hA.symm, B⟩
end Go.Proofs.YtddijpjgkifngaaGreat
