/- Asks and rows of asks: what the laws make of them, and whether two are the same. Tables: what the laws make of them. When a table is right. -/
import Derived.Deep.RegionHeld3
import Derived.WalkKit
import Derived.WalkSpells
import Derived.WalkLawsBesides
import Derived.Deep.RegionHeld
import Derived.Test.YtlllbahfjihepaaM1
namespace Go.Proofs.Ytlllbahfjihepaa
open Go.RowKit
set_option linter.unusedVariables false
def KT : Type := Int × Int × Int × Int
def zK : KT := (0, 0, 0, 0)
set_option maxHeartbeats 2000000 in
theorem toAsk_any (x0 x1 x2 x3 : Int) (w : World) :
    Calls Try.prog 89 #[.agg #[.int .i64 x0, .int .i64 x1, .int .i64 x2, .int .i64 x3]] w fun e w' => e = .returned (.agg #[.int .i64 x0, .int .i64 x1, .int .i64 x2, .int .i64 x3]) ∧ Below w.heap.size w w' := by
  go_enter Try.func89, Try.ntmps89
  go_wp2_with fail
  exact bodyPost_ret (v := .agg #[.int .i64 x0, .int .i64 x1, .int .i64 x2, .int .i64 x3]) (by simp (maxDischargeDepth := 6) [results, Try.results89, go_sem, *]) rfl ⟨rfl, by repeat (first | refine Below.setCell ?_ (by first | (simp; done) | (simp; omega) | omega) _ | refine Below.alloc ?_ (by first | exact Nat.le_refl _ | (simp; done) | (simp; omega)) _ | exact Below.refl _ _)⟩
set_option maxHeartbeats 2000000 in
theorem eqAsk_same (x0 x1 x2 x3 : Int) (w : World) :
    Calls Try.prog 96 #[.agg #[.int .i64 x0, .int .i64 x1, .int .i64 x2, .int .i64 x3], .agg #[.int .i64 x0, .int .i64 x1, .int .i64 x2, .int .i64 x3]] w fun e w' => e = .returned (.bool true) ∧ Below w.heap.size w w' := by
  go_enter Try.func96, Try.ntmps96
  go_wp2_with fail
  go_ret
  exact ⟨rfl, by repeat (first | refine Below.alloc ?_ (by first | exact Nat.le_refl _ | (simp; done) | (simp; omega)) _ | exact Below.refl _ _)⟩
def MCAsk (M : KT) : Nat → Value
  | 0 => .int .i64 M.1
  | 1 => .int .i64 M.2.1
  | 2 => .int .i64 M.2.2.1
  | _ => .int .i64 M.2.2.2
def MFAsk (M : Nat → KT) (c : Nat) : Value := MCAsk (M (c / 4)) (c % 4)
theorem MFAsk_at (M : Nat → KT) (k j : Nat) (hj : j < 4) : MFAsk M (k * 4 + j) = MCAsk (M k) j := by
  have h1 : (k * 4 + j) / 4 = k := by omega
  have h2 : (k * 4 + j) % 4 = j := by omega
  rw [MFAsk, h1, h2]
theorem MFAsk_vals {M : Nat → KT} {k : Nat} {x0 : Int} {x1 : Int} {x2 : Int} {x3 : Int} (hM : M k = (x0, x1, x2, x3)) : MFAsk M (k * 4) = .int .i64 x0 ∧ MFAsk M (k * 4 + 1) = .int .i64 x1 ∧ MFAsk M (k * 4 + 2) = .int .i64 x2 ∧ MFAsk M (k * 4 + 3) = .int .i64 x3 :=
  ⟨by have q := MFAsk_at M k 0 (by decide); rw [hM] at q; exact q, by have q := MFAsk_at M k 1 (by decide); rw [hM] at q; exact q, by have q := MFAsk_at M k 2 (by decide); rw [hM] at q; exact q, by have q := MFAsk_at M k 3 (by decide); rw [hM] at q; exact q⟩
theorem Cs.elAsk {w : World} {b off n k : Nat} {M : Nat → KT} {x0 : Int} {x1 : Int} {x2 : Int} {x3 : Int} (h : Cs w b off (n * 4) (MFAsk M)) (hk : k < n) (hM : M k = (x0, x1, x2, x3)) : w.cell? ⟨b, off + k * 4, none⟩ = some (.int .i64 x0) ∧ w.cell? ⟨b, off + k * 4 + 1, none⟩ = some (.int .i64 x1) ∧ w.cell? ⟨b, off + k * 4 + 2, none⟩ = some (.int .i64 x2) ∧ w.cell? ⟨b, off + k * 4 + 3, none⟩ = some (.int .i64 x3) := by
  obtain ⟨q0, q1, q2, q3⟩ := MFAsk_vals hM
  exact ⟨by have := h.2 (k * 4) (by omega); rw [q0] at this; exact this, by have := h.2 (k * 4 + 1) (by omega); rw [q1] at this; exact this, by have := h.2 (k * 4 + 2) (by omega); rw [q2] at this; exact this, by have := h.2 (k * 4 + 3) (by omega); rw [q3] at this; exact this⟩
theorem tupAsk (M : Nat → KT) (k : Nat) : ∃ (x0 : Int) (x1 : Int) (x2 : Int) (x3 : Int), M k = (x0, x1, x2, x3) := ⟨_, _, _, _, rfl⟩
set_option maxHeartbeats 1000000 in
theorem szAskS_any (a : Option Addr) (n c : Nat) (L : Int) (w : World) (hm : n ≤ maxLen) (L0 : 0 ≤ L) (L1 : L ≤ 1048576) :
    Calls Try.prog 68 #[.slice a n c, .int .i64 L] w fun e w' => e = .returned (.int .i64 (if (n : Int) ≤ L then L - (n : Int) else -1)) ∧ w = w' := by
  unfold maxLen at hm
  by_cases h : (n : Int) ≤ L
  · rw [if_pos h]
    have hd : decide (L - (n : Int) < 0) = false := by simp; omega
    go_enter Try.func68, Try.ntmps68
    go_wp2_with fail
    go_ret
    exact ⟨rfl, rfl⟩
  · rw [if_neg h]
    have hd : decide (L - (n : Int) < 0) = true := by simp; omega
    go_enter Try.func68, Try.ntmps68
    go_wp2_with fail
    go_ret
    exact ⟨rfl, rfl⟩
def rowObjAsk (n : Nat) : Obj := .cells (madeCells #[.int .i64 0, .int .i64 0, .int .i64 0, .int .i64 0] (n * 4)) 118
theorem infoAsk : (Try.prog.info? 118).map (fun i => (i.zero, i.size, i.bytes)) = some (some (.agg #[.int .i64 0, .int .i64 0, .int .i64 0, .int .i64 0]), 4, 32) := by kernel_rfl
theorem mk_rowAsk (n : Nat) (h : n ≤ 1048576) (w : World) : (Instr.makeSlice 61 (.int .i64 (n : Int)) (.int .i64 (n : Int))).run Try.prog w = .ok (.slice (some ⟨w.heap.size, 0, none⟩) n n) (w.alloc (rowObjAsk n)) := by
  obtain ⟨i, hi, hz⟩ := Option.map_eq_some_iff.1 infoAsk
  simp only [Prod.mk.injEq] at hz
  obtain ⟨h1, h2, h3⟩ := hz
  have hr := run_make (P := Try.prog) w 61 118 i _ Try.underlying61 hi h1 .i64 .i64 n n (by omega) (Int.le_refl _) (by rw [h3]; omega) (by omega)
  simp only [Int.toNat_natCast, h2] at hr
  exact hr
theorem rowObjAsk_is (w : World) (n : Nat) (F : Nat → Value) : RowF (w.alloc (rowObjAsk n)) w.heap.size 118 (n * 4) 0 F := by
  have h := World.rowIs_alloc w (madeCells #[.int .i64 0, .int .i64 0, .int .i64 0, .int .i64 0] (n * 4)) 118 (fun i => (madeCells #[.int .i64 0, .int .i64 0, .int .i64 0, .int .i64 0] (n * 4)).getD i undef) (fun i hi => by
    rw [Array.getElem?_eq_getElem hi]; exact congrArg some (by rw [Array.getD_eq_getD_getElem?, Array.getElem?_eq_getElem hi]; rfl))
  rw [size_madeCells] at h
  exact ⟨_, h, fun j hj => absurd hj (Nat.not_lt_zero _)⟩
set_option maxHeartbeats 4000000 in
theorem toAskS_some (b off n c : Nat) (M : Nat → KT) (w : World) (hn : n ≤ 1048576) (hf : Cs w b off (n * 4) (MFAsk M)) :
    Calls Try.prog 72 #[.slice (some ⟨b, off, none⟩) n c] w fun e w' => e = .returned (.slice (some ⟨w.heap.size, 0, none⟩) n n) ∧ RowF w' w.heap.size 118 (n * 4) (n * 4) (MFAsk M) ∧ Below w.heap.size w w' := by
  have hmk := mk_rowAsk n hn
  go_enter Try.func72, Try.ntmps72
  go_wp2_with fail
  clear hmk
  go_loopw [4] (fun i wr => ∃ k : Nat, k ≤ n ∧ i = .int .i64 k ∧ RowF wr w.heap.size 118 (n * 4) (k * 4) (MFAsk M) ∧ Below w.heap.size w wr) (fun i _ => n - (intOf i).toNat)
  case atStart => exact ⟨0, Nat.zero_le _, rfl, (rowObjAsk_is w n _).eqm (by omega), (Below.refl _ _).alloc (Nat.le_refl _) _⟩
  case round =>
    obtain ⟨k, hk, rfl, hrow, hB⟩ := hrel
    by_cases hlt : k < n
    · obtain ⟨x0, x1, x2, x3, hM⟩ := tupAsk M k
      obtain ⟨c0, c1, c2, c3⟩ := (hf.below hB hf.1).elAsk hlt hM
      obtain ⟨q0, q1, q2, q3⟩ := MFAsk_vals hM
      have hli : (k : Int) < (n : Int) := by omega
      have hlr := hrow.lt
      clear hM
      go_wp2_with fail
      refine (toAsk_any x0 x1 x2 x3 _).mono ?_
      rintro e w' ⟨rfl, hb⟩
      have row := RowF.below hb hlr hrow
      have hB2 := hB.trans (hb.mono hB.size)
      clear c0 c1 c2 c3 hrow hB hb
      have hlr2 := row.lt
      obtain ⟨⟨v0, e0⟩, f0⟩ := row.facts (k * 4) (by omega)
      obtain ⟨⟨v1, e1⟩, f1⟩ := row.facts (k * 4 + 1) (by omega)
      obtain ⟨⟨v2, e2⟩, f2⟩ := row.facts (k * 4 + 2) (by omega)
      obtain ⟨⟨v3, e3⟩, f3⟩ := row.facts (k * 4 + 3) (by omega)
      go_wp2_with fail
      go_roundw
      case rel => exact ⟨k + 1, by omega, by go_num, ((((row.put (k * 4 + 1) (by omega) q0).put (k * 4 + 2) (by omega) q1).put (k * 4 + 3) (by omega) q2).put ((k + 1) * 4) (by omega) q3), ((((hB2.setCell (Nat.le_refl _) _).setCell (Nat.le_refl _) _).setCell (Nat.le_refl _) _).setCell (Nat.le_refl _) _)⟩
      case measure => simp [intOf]; omega
    · have hkn : k = n := by omega
      subst hkn
      have hli : ¬ (k : Int) < (k : Int) := by omega
      go_wp2_with fail
      go_ret
      exact ⟨rfl, hrow, hB⟩
set_option maxHeartbeats 1000000 in
theorem toAskS_empty (a : Option Addr) (c : Nat) (F : Nat → Value) (w : World) :
    Calls Try.prog 72 #[.slice a 0 c] w fun e w' => e = .returned (.slice (some ⟨w.heap.size, 0, none⟩) 0 0) ∧ RowF w' w.heap.size 118 (0 * 4) (0 * 4) F ∧ Below w.heap.size w w' := by
  have hmk := mk_rowAsk 0 (by omega)
  simp only [Int.ofNat_zero] at hmk
  go_enter Try.func72, Try.ntmps72
  go_wp2_with fail
  clear hmk
  go_loopw [4] (fun i wr => i = .int .i64 0 ∧ RowF wr w.heap.size 118 (0 * 4) 0 F ∧ Below w.heap.size w wr) (fun i _ => 0)
  case atStart => exact ⟨rfl, rowObjAsk_is w 0 F, (Below.refl _ _).alloc (Nat.le_refl _) _⟩
  case round =>
    obtain ⟨rfl, hrow, hB⟩ := hrel
    go_wp2_with fail
    go_ret
    exact ⟨rfl, hrow.eqm (by omega), hB⟩
theorem toAskS_any (a : Option Addr) (n c : Nat) (M : Nat → KT) (w : World) (hn : n ≤ 1048576) (h : SrcC w a (n * 4) (MFAsk M)) :
    Calls Try.prog 72 #[.slice a n c] w fun e w' => e = .returned (.slice (some ⟨w.heap.size, 0, none⟩) n n) ∧ RowF w' w.heap.size 118 (n * 4) (n * 4) (MFAsk M) ∧ Below w.heap.size w w' := by
  rcases h with h0 | ⟨b, off, rfl, h2⟩
  · have hn0 : n = 0 := by omega
    subst hn0
    exact toAskS_empty a c _ w
  · exact toAskS_some b off n c M w hn h2
set_option maxHeartbeats 8000000 in
theorem eqAskS_some (b off b' off' n c c' : Nat) (M : Nat → KT) (w : World) (hn : n ≤ maxLen) (hf : Cs w b off (n * 4) (MFAsk M)) (hg : Cs w b' off' (n * 4) (MFAsk M)) :
    Calls Try.prog 81 #[.slice (some ⟨b, off, none⟩) n c, .slice (some ⟨b', off', none⟩) n c'] w fun e w' => e = .returned (.bool true) ∧ Below w.heap.size w w' := by
  unfold maxLen at hn
  go_enter Try.func81, Try.ntmps81
  go_wp2_with fail
  go_loopw [5] (fun i wr => ∃ k : Nat, k ≤ n ∧ i = .int .i64 k ∧ Below w.heap.size w wr) (fun i _ => n - (intOf i).toNat)
  case atStart => exact ⟨0, Nat.zero_le _, rfl, Below.refl _ _⟩
  case round =>
    obtain ⟨k, hk, rfl, hB⟩ := hrel
    by_cases hlt : k < n
    · obtain ⟨x0, x1, x2, x3, hM⟩ := tupAsk M k
      obtain ⟨c0, c1, c2, c3⟩ := (hf.below hB hf.1).elAsk hlt hM
      obtain ⟨d0, d1, d2, d3⟩ := (hg.below hB hg.1).elAsk hlt hM
      have hb1 : b < wr.drew.heap.size := Nat.lt_of_lt_of_le hf.1 hB.size
      have hb2 : b' < wr.drew.heap.size := Nat.lt_of_lt_of_le hg.1 hB.size
      have hsz : w.heap.size ≤ wr.drew.heap.size := hB.size
      have hli : (k : Int) < (n : Int) := by omega
      clear hM
      go_wp2_with fail
      refine wp_region_held_drew (S := (fun w' => w'.cell? ⟨b, off + k * 4, none⟩ = some (.int .i64 x0) ∧ w'.cell? ⟨b, off + k * 4 + 1, none⟩ = some (.int .i64 x1) ∧ w'.cell? ⟨b, off + k * 4 + 2, none⟩ = some (.int .i64 x2) ∧ w'.cell? ⟨b, off + k * 4 + 3, none⟩ = some (.int .i64 x3) ∧ w'.cell? ⟨b', off' + k * 4, none⟩ = some (.int .i64 x0) ∧ w'.cell? ⟨b', off' + k * 4 + 1, none⟩ = some (.int .i64 x1) ∧ w'.cell? ⟨b', off' + k * 4 + 2, none⟩ = some (.int .i64 x2) ∧ w'.cell? ⟨b', off' + k * 4 + 3, none⟩ = some (.int .i64 x3))) (by kernel_rfl) ?_ (fun hHeld => ?_)
      · first | exact ⟨c0, c1, c2, c3, d0, d1, d2, d3⟩ | (simp (maxDischargeDepth := 6) [go_sem, *]; done)
      refine wpAnyH_take (i := 0) (v := ?_) (by rw [List.getElem?_toArray]; rfl) (by kernel_rfl) (by kernel_rfl) (by kernel_rfl) (by intro _ _ _ h; exact h) (Or.inl ⟨by rfl, ?_⟩) (by assumption) ?_
      rotate_left
      · (intro w hSw; (try dsimp only at hSw); go_simp; all_goals with_reducible rfl)
      (try simp only [Act.put, List.setIfInBounds_toArray, List.set_cons_zero, List.set_cons_succ])
      refine wpAnyH_take (i := 1) (v := ?_) (by rw [List.getElem?_toArray]; rfl) (by kernel_rfl) (by kernel_rfl) (by kernel_rfl) (by intro _ _ _ h; exact h) (Or.inl ⟨by rfl, ?_⟩) (by assumption) ?_
      rotate_left
      · (intro w hSw; (try dsimp only at hSw); go_simp; all_goals with_reducible rfl)
      (try simp only [Act.put, List.setIfInBounds_toArray, List.set_cons_zero, List.set_cons_succ])
      refine wpAnyH_take (i := 2) (v := ?_) (by rw [List.getElem?_toArray]; rfl) (by kernel_rfl) (by kernel_rfl) (by kernel_rfl) (by intro _ _ _ h; exact h) (Or.inl ⟨by rfl, ?_⟩) (by assumption) ?_
      rotate_left
      · (intro w hSw; (try dsimp only at hSw); go_simp; all_goals with_reducible rfl)
      (try simp only [Act.put, List.setIfInBounds_toArray, List.set_cons_zero, List.set_cons_succ])
      refine wpAnyH_take (i := 3) (v := ?_) (by rw [List.getElem?_toArray]; rfl) (by kernel_rfl) (by kernel_rfl) (by kernel_rfl) (by intro _ _ _ h; exact h) (Or.inl ⟨by rfl, ?_⟩) (by assumption) ?_
      rotate_left
      · (intro w hSw; (try dsimp only at hSw); go_simp; all_goals with_reducible rfl)
      (try simp only [Act.put, List.setIfInBounds_toArray, List.set_cons_zero, List.set_cons_succ])
      refine wpAnyH_take (i := 4) (v := ?_) (by rw [List.getElem?_toArray]; rfl) (by kernel_rfl) (by kernel_rfl) (by kernel_rfl) (by intro _ _ _ h; exact h) (Or.inl ⟨by rfl, ?_⟩) (by assumption) ?_
      rotate_left
      · (intro w hSw; (try dsimp only at hSw); go_simp; all_goals with_reducible rfl)
      (try simp only [Act.put, List.setIfInBounds_toArray, List.set_cons_zero, List.set_cons_succ])
      refine wpAnyH_take (i := 5) (v := ?_) (by rw [List.getElem?_toArray]; rfl) (by kernel_rfl) (by kernel_rfl) (by kernel_rfl) (by intro _ _ _ h; exact h) (Or.inl ⟨by rfl, ?_⟩) (by assumption) ?_
      rotate_left
      · (intro w hSw; (try dsimp only at hSw); go_simp; all_goals with_reducible rfl)
      (try simp only [Act.put, List.setIfInBounds_toArray, List.set_cons_zero, List.set_cons_succ])
      refine wpAnyH_take (i := 6) (v := ?_) (by rw [List.getElem?_toArray]; rfl) (by kernel_rfl) (by kernel_rfl) (by kernel_rfl) (by intro _ _ _ h; exact h) (Or.inl ⟨by rfl, ?_⟩) (by assumption) ?_
      rotate_left
      · (intro w hSw; (try dsimp only at hSw); go_simp; all_goals with_reducible rfl)
      (try simp only [Act.put, List.setIfInBounds_toArray, List.set_cons_zero, List.set_cons_succ])
      refine wpAnyH_take (i := 7) (v := ?_) (by rw [List.getElem?_toArray]; rfl) (by kernel_rfl) (by kernel_rfl) (by kernel_rfl) (by intro _ _ _ h; exact h) (Or.inl ⟨by rfl, ?_⟩) (by assumption) ?_
      rotate_left
      · (intro w hSw; (try dsimp only at hSw); go_simp; all_goals with_reducible rfl)
      (try simp only [Act.put, List.setIfInBounds_toArray, List.set_cons_zero, List.set_cons_succ])
      refine wpAnyH_ready (rs := [8]) (by kernel_rfl) (by simp) ?_
      refine AllReadyH.cons (by rw [List.getElem?_toArray]; rfl) (fun K hK => ?_) AllReadyH.nil
      go_simp
      refine (eqAsk_same _ _ _ _ _).mono ?_; rintro e w' ⟨rfl, hb⟩; (replace c0 := (hb.cell (p := ⟨b, off + k * 4, none⟩) hb1).trans c0); (replace c1 := (hb.cell (p := ⟨b, off + k * 4 + 1, none⟩) hb1).trans c1); (replace c2 := (hb.cell (p := ⟨b, off + k * 4 + 2, none⟩) hb1).trans c2); (replace c3 := (hb.cell (p := ⟨b, off + k * 4 + 3, none⟩) hb1).trans c3); (replace d0 := (hb.cell (p := ⟨b', off' + k * 4, none⟩) hb2).trans d0); (replace d1 := (hb.cell (p := ⟨b', off' + k * 4 + 1, none⟩) hb2).trans d1); (replace d2 := (hb.cell (p := ⟨b', off' + k * 4 + 2, none⟩) hb2).trans d2); (replace d3 := (hb.cell (p := ⟨b', off' + k * 4 + 3, none⟩) hb2).trans d3)
      (try go_wp2_with fail)
      refine hK.out _ _ ?_ (fun hHeld => ?_)
      · first | exact ⟨c0, c1, c2, c3, d0, d1, d2, d3⟩ | (simp (maxDischargeDepth := 6) [go_sem, *]; done)
      clear hK K
      (try simp only [Act.put, List.setIfInBounds_toArray, List.set_cons_zero, List.set_cons_succ])
      refine wpAnyH_take (i := 9) (v := ?_) (by rw [List.getElem?_toArray]; rfl) (by kernel_rfl) (by kernel_rfl) (by kernel_rfl) (by intro _ _ _ h; exact h) (Or.inl ⟨by rfl, ?_⟩) (by assumption) ?_
      rotate_left
      · (intro w hSw; (try dsimp only at hSw); go_simp; all_goals with_reducible rfl)
      (try simp only [Act.put, List.setIfInBounds_toArray, List.set_cons_zero, List.set_cons_succ])
      refine wpAnyH_done (by kernel_rfl) ?_ _
      go_wp2_with fail
      go_roundw
      case rel => exact ⟨k + 1, by omega, by go_num, (Below.drew hB).trans (hb.mono hsz)⟩
      case measure => simp [intOf]; omega
    · go_wp2_with fail
      go_ret
      exact ⟨rfl, hB⟩
set_option maxHeartbeats 400000 in
theorem eqAskS_zero (a a' : Option Addr) (c c' : Nat) (w : World) :
    Calls Try.prog 81 #[.slice a 0 c, .slice a' 0 c'] w fun e w' => e = .returned (.bool true) ∧ Below w.heap.size w w' := by
  go_enter Try.func81, Try.ntmps81
  go_wp2_with fail
  go_loopw [5] (fun i wr => i = .int .i64 0 ∧ w = wr) (fun i _ => 0)
  case atStart => exact ⟨rfl, rfl⟩
  case round =>
    obtain ⟨rfl, rfl⟩ := hrel
    go_wp2_with fail
    go_ret
    exact ⟨rfl, Below.refl _ _⟩
theorem eqAskS_src (a a' : Option Addr) (n c c' : Nat) (M : Nat → KT) (w : World) (hn : n ≤ maxLen) (h : SrcC w a (n * 4) (MFAsk M)) (h' : SrcC w a' (n * 4) (MFAsk M)) :
    Calls Try.prog 81 #[.slice a n c, .slice a' n c'] w fun e w' => e = .returned (.bool true) ∧ Below w.heap.size w w' := by
  by_cases h0 : n = 0
  · subst h0; exact eqAskS_zero a a' c c' w
  · rcases h with h | ⟨b, off, rfl, hp⟩
    · omega
    · rcases h' with h | ⟨b', off', rfl, hp'⟩
      · omega
      · exact eqAskS_some b off b' off' n c c' M w hn hp hp'
def mkAsk (q : Int) (c : Nat) : Value := .int .i64 (q + (c : Int))
theorem mkAsk_i {q : Int} {k j : Nat} {x : Int} (h : x = q + ((k * 4 + j : Nat) : Int)) : mkAsk q (k * 4 + j) = .int .i64 x := by rw [mkAsk, h]
set_option maxHeartbeats 8000000 in
theorem markAskS_row (b N n c : Nat) (q0 : Int) (w : World) (hn : n ≤ 1048576) (hq : 0 < q0) (hq1 : q0 ≤ 1073741824) (hN : n * 4 ≤ N) (h : RowF w b 118 N 0 (mkAsk q0)) :
    Calls Try.prog 84 #[.slice (some ⟨b, 0, none⟩) n c, .int .i64 q0] w fun e w' => e = .returned (.int .i64 (q0 + (n : Int) * 4)) ∧ RowF w' b 118 N (n * 4) (mkAsk q0) ∧ But b w w' := by
  go_enter Try.func84, Try.ntmps84
  go_wp2_with fail
  go_loopw [1, 5] (fun q i wr => ∃ (k : Nat) (Q : Int), k ≤ n ∧ i = .int .i64 k ∧ q = .int .i64 Q ∧ Q = q0 + (k : Int) * 4 ∧ RowF wr b 118 N (k * 4) (mkAsk q0) ∧ But b w wr) (fun _ i _ => n - (intOf i).toNat)
  case atStart => exact ⟨0, q0, Nat.zero_le _, rfl, rfl, by omega, h.eqm (by omega), But.refl _ _⟩
  case round =>
    obtain ⟨k, Q, hk, rfl, rfl, hQ, row, hB⟩ := hrel
    clear h
    have HQ : Hid (Q = q0 + (k : Int) * 4) := hQ
    by_cases hlt : k < n
    · have hli : (k : Int) < (n : Int) := by omega
      have Q0 : 0 < Q := by omega
      have Q1 : Q ≤ 1073741824 + 1048576 * 4 := by omega
      clear hQ
      have hlr := row.lt
      obtain ⟨⟨v0, e0⟩, f0⟩ := row.facts (k * 4) (by omega)
      obtain ⟨⟨v1, e1⟩, f1⟩ := row.facts (k * 4 + 1) (by omega)
      obtain ⟨⟨v2, e2⟩, f2⟩ := row.facts (k * 4 + 2) (by omega)
      obtain ⟨⟨v3, e3⟩, f3⟩ := row.facts (k * 4 + 3) (by omega)
      go_wp2_with fail
      go_roundw
      case rel => exact ⟨k + 1, _, by omega, by go_num, rfl, by have := HQ.out; omega, (RowF.put (RowF.put (RowF.put (RowF.put row (k * 4 + 1) (by omega) (mkAsk_i (k := k) (j := 0) (by have := HQ.out; omega))) (k * 4 + 2) (by omega) (mkAsk_i (k := k) (j := 1) (by have := HQ.out; omega))) (k * 4 + 3) (by omega) (mkAsk_i (k := k) (j := 2) (by have := HQ.out; omega))) ((k + 1) * 4) (by omega) (mkAsk_i (k := k) (j := 3) (by have := HQ.out; omega))), ((((hB.setCell _ _).setCell _ _).setCell _ _).setCell _ _)⟩
      case measure => simp [intOf]; omega
    · have hkn : k = n := by omega
      subst hkn
      have hli : ¬ (k : Int) < (k : Int) := by omega
      subst hQ
      go_wp2_with fail
      go_ret
      exact ⟨rfl, row, hB⟩
set_option maxHeartbeats 400000 in
theorem markAskS_zero (a : Option Addr) (c : Nat) (q0 : Int) (w : World) :
    Calls Try.prog 84 #[.slice a 0 c, .int .i64 q0] w fun e w' => e = .returned (.int .i64 q0) ∧ w = w' := by
  go_enter Try.func84, Try.ntmps84
  go_wp2_with fail
  go_loopw [1, 5] (fun q i wr => i = .int .i64 0 ∧ q = .int .i64 q0 ∧ w = wr) (fun _ i _ => 0)
  case atStart => exact ⟨rfl, rfl, by first | rfl | trivial⟩
  case round =>
    obtain ⟨rfl, rfl, rfl⟩ := hrel
    go_wp2_with fail
    go_ret
    exact ⟨rfl, rfl⟩
set_option maxRecDepth 100000 in
set_option maxHeartbeats 8000000 in
theorem heldAskS_some (b off n c : Nat) (q0 : Int) (w : World) (hn : n ≤ 1048576) (hq : 0 < q0) (hq1 : q0 ≤ 1073741824) (h : Cs w b off (n * 4) (mkAsk q0)) :
    Calls Try.prog 85 #[.slice (some ⟨b, off, none⟩) n c, .int .i64 q0] w fun e w' => e = .returned (.int .i64 (q0 + (n : Int) * 4)) ∧ w = w' := by
  have HP : Hid (Cs w b off (n * 4) (mkAsk q0)) := h
  clear h
  go_enter Try.func85, Try.ntmps85
  go_wp2_with fail
  go_loopw [1, 5] (fun q i wr => ∃ (k : Nat) (Q : Int), k ≤ n ∧ i = .int .i64 k ∧ q = .int .i64 Q ∧ Q = q0 + (k : Int) * 4 ∧ w = wr) (fun _ i _ => n - (intOf i).toNat)
  case atStart => exact ⟨0, q0, Nat.zero_le _, rfl, rfl, by omega, by first | rfl | trivial⟩
  case round =>
    obtain ⟨k, Q, hk, rfl, rfl, hQ, rfl⟩ := hrel
    have HQ : Hid (Q = q0 + (k : Int) * 4) := hQ
    by_cases hlt : k < n
    · have hli : (k : Int) < (n : Int) := by omega
      have Q0 : 0 < Q := by omega
      have Q1 : Q ≤ 1073741824 + 1048576 * 4 := by omega
      have hP := HP.out
      clear hQ
      have c0 : w.cell? ⟨b, off + k * 4, none⟩ = some (.int .i64 (Q)) := by have q := hP.2 (k * 4) (by omega); rw [show mkAsk q0 (k * 4) = .int .i64 (Q) from mkAsk_i (k := k) (j := 0) (x := Q) (by have := HQ.out; omega)] at q; exact q
      have c1 : w.cell? ⟨b, off + k * 4 + 1, none⟩ = some (.int .i64 (Q + 1)) := by have q := hP.2 (k * 4 + 1) (by omega); rw [show mkAsk q0 (k * 4 + 1) = .int .i64 (Q + 1) from mkAsk_i (k := k) (j := 1) (x := Q + 1) (by have := HQ.out; omega)] at q; exact q
      have c2 : w.cell? ⟨b, off + k * 4 + 2, none⟩ = some (.int .i64 (Q + 1 + 1)) := by have q := hP.2 (k * 4 + 2) (by omega); rw [show mkAsk q0 (k * 4 + 2) = .int .i64 (Q + 1 + 1) from mkAsk_i (k := k) (j := 2) (x := Q + 1 + 1) (by have := HQ.out; omega)] at q; exact q
      have c3 : w.cell? ⟨b, off + k * 4 + 3, none⟩ = some (.int .i64 (Q + 1 + 1 + 1)) := by have q := hP.2 (k * 4 + 3) (by omega); rw [show mkAsk q0 (k * 4 + 3) = .int .i64 (Q + 1 + 1 + 1) from mkAsk_i (k := k) (j := 3) (x := Q + 1 + 1 + 1) (by have := HQ.out; omega)] at q; exact q
      have hbl := hP.1
      clear hP
      go_wp2_with fail
      go_roundw
      case rel => exact ⟨k + 1, _, by omega, by go_num, rfl, by have := HQ.out; omega, by first | rfl | trivial⟩
      case measure => simp [intOf]; omega
    · have hkn : k = n := by omega
      subst hkn
      have hli : ¬ (k : Int) < (k : Int) := by omega
      subst hQ
      go_wp2_with fail
      go_ret
      exact ⟨rfl, rfl⟩
set_option maxHeartbeats 400000 in
theorem heldAskS_zero (a : Option Addr) (c : Nat) (q0 : Int) (w : World) :
    Calls Try.prog 85 #[.slice a 0 c, .int .i64 q0] w fun e w' => e = .returned (.int .i64 q0) ∧ w = w' := by
  go_enter Try.func85, Try.ntmps85
  go_wp2_with fail
  go_loopw [1, 5] (fun q i wr => i = .int .i64 0 ∧ q = .int .i64 q0 ∧ w = wr) (fun _ i _ => 0)
  case atStart => exact ⟨rfl, rfl, by first | rfl | trivial⟩
  case round =>
    obtain ⟨rfl, rfl, rfl⟩ := hrel
    go_wp2_with fail
    go_ret
    exact ⟨rfl, rfl⟩
theorem heldAskS_any (a : Option Addr) (n c : Nat) (q0 : Int) (w : World) (hn : n ≤ 1048576) (hq : 0 < q0) (hq1 : q0 ≤ 1073741824) (h : SrcC w a (n * 4) (mkAsk q0)) :
    Calls Try.prog 85 #[.slice a n c, .int .i64 q0] w fun e w' => e = .returned (.int .i64 (q0 + (n : Int) * 4)) ∧ w = w' := by
  rcases h with h0 | ⟨b, off, rfl, hp⟩
  · have hn0 : n = 0 := by omega
    subst hn0
    exact (heldAskS_zero a c q0 w).mono fun e w' ⟨h1, h2⟩ => ⟨by rw [h1]; simp, h2⟩
  · exact heldAskS_some b off n c q0 w hn hq hq1 hp
end Go.Proofs.Ytlllbahfjihepaa
namespace Go.Proofs.Ytlllbahfjihepaa
open Go.RowKit
set_option linter.unusedVariables false
set_option maxHeartbeats 4000000 in
theorem toTable_any (ep us : Int) (a : Option Addr) (n c : Nat) (M : Nat → KT) (w : World) (hn : n ≤ 1048576) (h : SrcC w a (n * 4) (MFAsk M)) :
    Calls Try.prog 44 #[.agg #[.int .i64 ep, .int .i64 us, .slice a n c]] w fun e w' => e = .returned (.agg #[.int .i64 ep, .int .i64 us, .slice (some ⟨w.heap.size + 3, 0, none⟩) n n]) ∧ RowF w' (w.heap.size + 3) 118 (n * 4) (n * 4) (MFAsk M) ∧ Below w.heap.size w w' := by
  have A0 := ((Below.nw w (.cells #[.int .i64 ep, .int .i64 us, .slice a n c] 48)).alloc (by simp) (.cells #[.int .i64 0, .int .i64 0, .slice none 0 0] 63)).alloc (by simp; omega) (.cells #[.int .i64 ep, .int .i64 us, .slice none 0 0] 63)
  have z3 : (((w.alloc (.cells #[.int .i64 ep, .int .i64 us, .slice a n c] 48)).alloc (.cells #[.int .i64 0, .int .i64 0, .slice none 0 0] 63)).alloc (.cells #[.int .i64 ep, .int .i64 us, .slice none 0 0] 63)).heap.size = w.heap.size + 3 := by simp
  have C := toAskS_any a n c M _ hn (h.below A0)
  rw [z3] at C
  have r0 : (((w.alloc (.cells #[.int .i64 ep, .int .i64 us, .slice a n c] 48)).alloc (.cells #[.int .i64 0, .int .i64 0, .slice none 0 0] 63)).alloc (.cells #[.int .i64 ep, .int .i64 us, .slice none 0 0] 63)).cell? ⟨w.heap.size + 1, 0, none⟩ = some (.int .i64 0) := by simp [go_sem]
  have f0 : (((w.alloc (.cells #[.int .i64 ep, .int .i64 us, .slice a n c] 48)).alloc (.cells #[.int .i64 0, .int .i64 0, .slice none 0 0] 63)).alloc (.cells #[.int .i64 ep, .int .i64 us, .slice none 0 0] 63)).frozen? ⟨w.heap.size + 1, 0, none⟩ = false := by simp [go_sem]
  have r1 : (((w.alloc (.cells #[.int .i64 ep, .int .i64 us, .slice a n c] 48)).alloc (.cells #[.int .i64 0, .int .i64 0, .slice none 0 0] 63)).alloc (.cells #[.int .i64 ep, .int .i64 us, .slice none 0 0] 63)).cell? ⟨w.heap.size + 1, 1, none⟩ = some (.int .i64 0) := by simp [go_sem]
  have f1 : (((w.alloc (.cells #[.int .i64 ep, .int .i64 us, .slice a n c] 48)).alloc (.cells #[.int .i64 0, .int .i64 0, .slice none 0 0] 63)).alloc (.cells #[.int .i64 ep, .int .i64 us, .slice none 0 0] 63)).frozen? ⟨w.heap.size + 1, 1, none⟩ = false := by simp [go_sem]
  have r2 : (((w.alloc (.cells #[.int .i64 ep, .int .i64 us, .slice a n c] 48)).alloc (.cells #[.int .i64 0, .int .i64 0, .slice none 0 0] 63)).alloc (.cells #[.int .i64 ep, .int .i64 us, .slice none 0 0] 63)).cell? ⟨w.heap.size + 1, 2, none⟩ = some (.slice none 0 0) := by simp [go_sem]
  have f2 : (((w.alloc (.cells #[.int .i64 ep, .int .i64 us, .slice a n c] 48)).alloc (.cells #[.int .i64 0, .int .i64 0, .slice none 0 0] 63)).alloc (.cells #[.int .i64 ep, .int .i64 us, .slice none 0 0] 63)).frozen? ⟨w.heap.size + 1, 2, none⟩ = false := by simp [go_sem]
  have o0 : (((w.alloc (.cells #[.int .i64 ep, .int .i64 us, .slice a n c] 48)).alloc (.cells #[.int .i64 0, .int .i64 0, .slice none 0 0] 63)).alloc (.cells #[.int .i64 ep, .int .i64 us, .slice none 0 0] 63)).cell? ⟨w.heap.size + 1 + 1, 0, none⟩ = some (.int .i64 ep) := by simp [go_sem]
  have o1 : (((w.alloc (.cells #[.int .i64 ep, .int .i64 us, .slice a n c] 48)).alloc (.cells #[.int .i64 0, .int .i64 0, .slice none 0 0] 63)).alloc (.cells #[.int .i64 ep, .int .i64 us, .slice none 0 0] 63)).cell? ⟨w.heap.size + 1 + 1, 1, none⟩ = some (.int .i64 us) := by simp [go_sem]
  have o2 : (((w.alloc (.cells #[.int .i64 ep, .int .i64 us, .slice a n c] 48)).alloc (.cells #[.int .i64 0, .int .i64 0, .slice none 0 0] 63)).alloc (.cells #[.int .i64 ep, .int .i64 us, .slice none 0 0] 63)).cell? ⟨w.heap.size + 1 + 1, 2, none⟩ = some (.slice none 0 0) := by simp [go_sem]
  have g2 : (((w.alloc (.cells #[.int .i64 ep, .int .i64 us, .slice a n c] 48)).alloc (.cells #[.int .i64 0, .int .i64 0, .slice none 0 0] 63)).alloc (.cells #[.int .i64 ep, .int .i64 us, .slice none 0 0] 63)).frozen? ⟨w.heap.size + 1 + 1, 2, none⟩ = false := by simp [go_sem]
  clear h
  go_enter Try.func44, Try.ntmps44
  go_wp2_with fail
  refine C.mono ?_
  rintro e w1 ⟨rfl, R1, hb⟩
  have l3 := R1.lt
  have q0 := (hb.cell (p := ⟨w.heap.size + 1, 0, none⟩) (by simp)).trans r0
  have k0 := (hb.frozen (p := ⟨w.heap.size + 1, 0, none⟩) (by simp)).trans f0
  have q1 := (hb.cell (p := ⟨w.heap.size + 1, 1, none⟩) (by simp)).trans r1
  have k1 := (hb.frozen (p := ⟨w.heap.size + 1, 1, none⟩) (by simp)).trans f1
  have q2 := (hb.cell (p := ⟨w.heap.size + 1, 2, none⟩) (by simp)).trans r2
  have k2 := (hb.frozen (p := ⟨w.heap.size + 1, 2, none⟩) (by simp)).trans f2
  have p0 := (hb.cell (p := ⟨w.heap.size + 1 + 1, 0, none⟩) (by simp)).trans o0
  have p1 := (hb.cell (p := ⟨w.heap.size + 1 + 1, 1, none⟩) (by simp)).trans o1
  have p2 := (hb.cell (p := ⟨w.heap.size + 1 + 1, 2, none⟩) (by simp)).trans o2
  have j2 := (hb.frozen (p := ⟨w.heap.size + 1 + 1, 2, none⟩) (by simp)).trans g2
  have B1 := A0.trans (hb.mono (by omega))
  have RF : RowF ((((w1.setCell ⟨w.heap.size + 1 + 1, 2, none⟩ (.slice (some ⟨w.heap.size + 3, 0, none⟩) n n)).setCell ⟨w.heap.size + 1, 0, none⟩ (.int .i64 ep)).setCell ⟨w.heap.size + 1, 1, none⟩ (.int .i64 us)).setCell ⟨w.heap.size + 1, 2, none⟩ (.slice (some ⟨w.heap.size + 3, 0, none⟩) n n)) (w.heap.size + 3) 118 (n * 4) (n * 4) (MFAsk M) := (((R1.setO (by omega) _ _).setO (by omega) _ _).setO (by omega) _ _).setO (by omega) _ _
  have BF : Below w.heap.size w ((((w1.setCell ⟨w.heap.size + 1 + 1, 2, none⟩ (.slice (some ⟨w.heap.size + 3, 0, none⟩) n n)).setCell ⟨w.heap.size + 1, 0, none⟩ (.int .i64 ep)).setCell ⟨w.heap.size + 1, 1, none⟩ (.int .i64 us)).setCell ⟨w.heap.size + 1, 2, none⟩ (.slice (some ⟨w.heap.size + 3, 0, none⟩) n n)) := (((B1.setCell (by simp; omega) _).setCell (by simp) _).setCell (by simp) _).setCell (by simp) _
  have s1 : w.heap.size + 1 < w1.heap.size := by omega
  have s2 : w.heap.size + 1 + 1 < w1.heap.size := by omega
  clear hb C r0 r1 r2 o0 o1 o2 f0 f1 f2 g2 A0 z3 R1 B1
  go_wp2_with fail
  exact bodyPost_ret (v := .agg #[.int .i64 ep, .int .i64 us, .slice (some ⟨w.heap.size + 3, 0, none⟩) n n]) (by simp (maxDischargeDepth := 6) [results, Try.results44, go_sem, *]) rfl ⟨rfl, RF, BF⟩
set_option maxHeartbeats 2000000 in
theorem eqTable_same (ep us : Int) (a a' : Option Addr) (n c c' : Nat) (M : Nat → KT) (w : World) (hn : n ≤ maxLen) (h : SrcC w a (n * 4) (MFAsk M)) (h' : SrcC w a' (n * 4) (MFAsk M)) :
    Calls Try.prog 51 #[.agg #[.int .i64 ep, .int .i64 us, .slice a n c], .agg #[.int .i64 ep, .int .i64 us, .slice a' n c']] w fun e w' => e = .returned (.bool true) ∧ Below w.heap.size w w' := by
  have A0 := (Below.nw w (.cells #[.int .i64 ep, .int .i64 us, .slice a n c] 63)).alloc (by simp) (.cells #[.int .i64 ep, .int .i64 us, .slice a' n c'] 63)
  have C := eqAskS_src a a' n c c' M _ hn (h.below A0) (h'.below A0)
  clear h h'
  go_enter Try.func51, Try.ntmps51
  go_wp2_with fail
  refine C.mono ?_
  rintro e w1 ⟨rfl, hb⟩
  go_wp2_with fail
  go_ret
  exact ⟨rfl, A0.trans (hb.mono A0.size)⟩
end Go.Proofs.Ytlllbahfjihepaa
namespace Go.Proofs.Ytlllbahfjihepaa
open Go.RowKit
set_option linter.unusedVariables false
def trB (x : Int) : Bool := decide (1 ≤ x ∧ x ≤ 4)
def akB (x1 x2 x3 : Int) : Bool := nodB x1 && tmB x2 && trB x3
def lsBk (M : Nat → KT) : Nat → Bool
  | 0 => true
  | k + 1 => decide ((M k).1 < (M (k + 1)).1)
def elB (ep us : Int) (M : Nat → KT) (k : Nat) : Bool := npB (M k).1 && decide (npE (M k).1 = ep) && decide (npK (M k).1 < us) && lsBk M k && akB (M k).2.1 (M k).2.2.1 (M k).2.2.2
def tOk (ep us : Int) (M : Nat → KT) : Nat → Bool
  | 0 => true
  | k + 1 => tOk ep us M k && elB ep us M k
def usB (u : Int) : Bool := decide (0 ≤ u ∧ u ≤ 1000)
def tabB (ep us : Int) (M : Nat → KT) (n : Nat) : Bool := epB ep && usB us && decide (n ≤ 16) && tOk ep us M n
theorem tOk_no {ep us : Int} {M : Nat → KT} {k : Nat} (h : elB ep us M k = false) : ∀ n, k < n → tOk ep us M n = false
  | 0, hn => absurd hn (Nat.not_lt_zero _)
  | n + 1, hn => by
    rcases Nat.lt_succ_iff_lt_or_eq.1 hn with h1 | h1
    · rw [tOk, tOk_no h n h1, Bool.false_and]
    · subst h1; rw [tOk, h, Bool.and_false]
theorem tabB_bad {ep us : Int} {M : Nat → KT} {n : Nat} (h : tOk ep us M n = false) : tabB ep us M n = false := by rw [tabB, h, Bool.and_false]
theorem tabB_ep {ep us : Int} {M : Nat → KT} {n : Nat} (h : epB ep = false) : tabB ep us M n = false := by rw [tabB, h]; rfl
theorem tabB_us {ep us : Int} {M : Nat → KT} {n : Nat} (h : usB us = false) : tabB ep us M n = false := by rw [tabB, h, Bool.and_false]; rfl
theorem tabB_long {ep us : Int} {M : Nat → KT} {n : Nat} (h : ¬ n ≤ 16) : tabB ep us M n = false := by rw [tabB, decide_eq_false h, Bool.and_false]; rfl
theorem tabB_ok {ep us : Int} {M : Nat → KT} {n : Nat} (h0 : epB ep = true) (h1 : usB us = true) (h2 : n ≤ 16) (h : tOk ep us M n = true) : tabB ep us M n = true := by rw [tabB, h, h0, h1, decide_eq_true h2]; rfl
theorem np_join {n : Int} (h : npB n = true) : n = npE n * 1000 + npK n ∧ 0 ≤ npK n ∧ npK n ≤ 999 := by
  have g : 0 ≤ n ∧ n ≤ 100000999 := of_decide_eq_true h
  rw [npE, npK, h]
  simp only [cond_true]
  rw [Int.tdiv_eq_ediv_of_nonneg g.1, Int.tmod_eq_emod_of_nonneg g.1]
  omega
def lastK (M : Nat → KT) : Nat → Int
  | 0 => -1
  | k + 1 => npK (M k).1
theorem last_ls {ep us : Int} {M : Nat → KT} : ∀ {k : Nat}, tOk ep us M k = true → npB (M k).1 = true → npE (M k).1 = ep → (lastK M k < npK (M k).1 ↔ lsBk M k = true)
  | 0, _, h1, _ => by simp [lastK, lsBk]; have := (np_join h1).2; omega
  | k + 1, h, h1, h2 => by
    rw [tOk, Bool.and_eq_true, elB] at h
    have g := h.2
    simp only [Bool.and_eq_true, decide_eq_true_eq] at g
    obtain ⟨⟨⟨⟨g1, g2⟩, g3⟩, g4⟩, g5⟩ := g
    have a := np_join h1
    have b := np_join g1
    simp only [lastK, lsBk, decide_eq_true_eq]
    omega
def IB3 (w : World) (j : Nat) (ep us : Int) (a : Option Addr) (n c : Nat) : Prop := j < w.heap.size ∧ w.cell? ⟨j, 0, none⟩ = some (.int .i64 ep) ∧ w.cell? ⟨j, 1, none⟩ = some (.int .i64 us) ∧ w.cell? ⟨j, 2, none⟩ = some (.slice a n c)
theorem IB3.below {w w' : World} {j : Nat} {ep us : Int} {a : Option Addr} {n c : Nat} (h : IB3 w j ep us a n c) (hb : Below w.heap.size w w') : IB3 w' j ep us a n c :=
  ⟨Nat.lt_of_lt_of_le h.1 hb.size, by rw [hb.cell (p := ⟨j, 0, none⟩) h.1]; exact h.2.1, by rw [hb.cell (p := ⟨j, 1, none⟩) h.1]; exact h.2.2.1, by rw [hb.cell (p := ⟨j, 2, none⟩) h.1]; exact h.2.2.2⟩
theorem IB3.drew {w : World} {j : Nat} {ep us : Int} {a : Option Addr} {n c : Nat} (h : IB3 w j ep us a n c) : IB3 w.drew j ep us a n c := h
theorem IB3.new (w : World) (ep us : Int) (a : Option Addr) (n c : Nat) (T : TypeId) : IB3 (w.alloc (.cells #[.int .i64 ep, .int .i64 us, .slice a n c] T)) w.heap.size ep us a n c := ⟨by simp, by simp, by simp, by simp⟩
def Bk4 (w : World) (j : Nat) (x0 x1 x2 x3 : Int) : Prop := j < w.heap.size ∧ w.cell? ⟨j, 0, none⟩ = some (.int .i64 x0) ∧ w.cell? ⟨j, 1, none⟩ = some (.int .i64 x1) ∧ w.cell? ⟨j, 2, none⟩ = some (.int .i64 x2) ∧ w.cell? ⟨j, 3, none⟩ = some (.int .i64 x3)
theorem Bk4.below {w w' : World} {j : Nat} {x0 x1 x2 x3 : Int} (h : Bk4 w j x0 x1 x2 x3) (hb : Below w.heap.size w w') : Bk4 w' j x0 x1 x2 x3 :=
  ⟨Nat.lt_of_lt_of_le h.1 hb.size, by rw [hb.cell (p := ⟨j, 0, none⟩) h.1]; exact h.2.1, by rw [hb.cell (p := ⟨j, 1, none⟩) h.1]; exact h.2.2.1, by rw [hb.cell (p := ⟨j, 2, none⟩) h.1]; exact h.2.2.2.1, by rw [hb.cell (p := ⟨j, 3, none⟩) h.1]; exact h.2.2.2.2⟩
theorem Bk4.new (w : World) (x0 x1 x2 x3 : Int) (T : TypeId) : Bk4 (w.alloc (.cells #[.int .i64 x0, .int .i64 x1, .int .i64 x2, .int .i64 x3] T)) w.heap.size x0 x1 x2 x3 := ⟨by simp, by simp, by simp, by simp, by simp⟩
set_option maxHeartbeats 2000000 in
theorem askOk_any (x0 x1 x2 x3 : Int) (w : World) :
    Calls Try.prog 101 #[.agg #[.int .i64 x0, .int .i64 x1, .int .i64 x2, .int .i64 x3]] w fun e w' => e = .returned (.bool (akB x1 x2 x3)) ∧ Below w.heap.size w w' := by
  have B0 := Below.nw w (.cells #[.int .i64 x0, .int .i64 x1, .int .i64 x2, .int .i64 x3] 118)
  cases h1 : nodB x1
  · have HN : Hid (akB x1 x2 x3 = false) := by rw [Hid, akB, h1]; rfl
    go_enter Try.func101, Try.ntmps101
    go_wp2_with fail
    refine (isNode_any _ _).mono ?_
    rintro e w' ⟨rfl, rfl⟩
    rw [h1]
    go_wp2_with fail
    go_ret
    exact ⟨ret_bool HN.out.symm, B0⟩
  · cases h2 : tmB x2
    · have HN : Hid (akB x1 x2 x3 = false) := by rw [Hid, akB, h2, Bool.and_false]; rfl
      go_enter Try.func101, Try.ntmps101
      go_wp2_with fail
      refine (isNode_any _ _).mono ?_
      rintro e w' ⟨rfl, rfl⟩
      rw [h1]
      go_wp2_with fail
      refine (isTime_any5 _ _).mono ?_
      rintro e w' ⟨rfl, rfl⟩
      rw [h2]
      go_wp2_with fail
      go_ret
      exact ⟨ret_bool HN.out.symm, B0⟩
    · have HN : Hid (akB x1 x2 x3 = trB x3) := by rw [Hid, akB, h1, h2]; rfl
      by_cases h3 : 1 ≤ x3
      · by_cases h4 : x3 ≤ 4
        · have HT : Hid (trB x3 = true) := by simp [Hid, trB]; omega
          go_enter Try.func101, Try.ntmps101
          go_wp2_with fail
          refine (isNode_any _ _).mono ?_
          rintro e w' ⟨rfl, rfl⟩
          rw [h1]
          go_wp2_with fail
          refine (isTime_any5 _ _).mono ?_
          rintro e w' ⟨rfl, rfl⟩
          rw [h2]
          go_wp2_with fail
          go_ret
          exact ⟨ret_bool (HN.out.trans HT.out).symm, B0⟩
        · have HT : Hid (trB x3 = false) := by simp [Hid, trB]; omega
          have hd4 : decide (x3 ≤ 4) = false := decide_eq_false h4
          go_enter Try.func101, Try.ntmps101
          go_wp2_with fail
          refine (isNode_any _ _).mono ?_
          rintro e w' ⟨rfl, rfl⟩
          rw [h1]
          go_wp2_with fail
          refine (isTime_any5 _ _).mono ?_
          rintro e w' ⟨rfl, rfl⟩
          rw [h2]
          go_wp2_with fail
          go_ret
          exact ⟨ret_bool (HN.out.trans HT.out).symm, B0⟩
      · have HT : Hid (trB x3 = false) := by simp [Hid, trB]; omega
        go_enter Try.func101, Try.ntmps101
        go_wp2_with fail
        refine (isNode_any _ _).mono ?_
        rintro e w' ⟨rfl, rfl⟩
        rw [h1]
        go_wp2_with fail
        refine (isTime_any5 _ _).mono ?_
        rintro e w' ⟨rfl, rfl⟩
        rw [h2]
        go_wp2_with fail
        go_ret
        exact ⟨ret_bool (HN.out.trans HT.out).symm, B0⟩
end Go.Proofs.Ytlllbahfjihepaa
