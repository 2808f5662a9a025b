/- Rows of tells: what the laws make of them, and whether two are the same. -/
import Derived.Test.YtbicpkelejjnjaaJ200
import Derived.Deep.RegionHeld3
import Derived.WalkKit
import Derived.WalkSpells
import Derived.WalkLawsBesides
import Derived.Deep.RegionHeld
namespace Go.Proofs.Ytbicpkelejjnjaa
open Go.RowKit
set_option linter.unusedVariables false
def MCTold (M : TdT) : Nat → Value
  | 0 => .int .i64 M.1
  | 1 => .int .i64 M.2.1
  | 2 => .int .i64 M.2.2.1
  | 3 => .int .i64 M.2.2.2.1
  | 4 => .bool M.2.2.2.2.1
  | 5 => .bool M.2.2.2.2.2.1
  | 6 => .int .i64 M.2.2.2.2.2.2.1
  | 7 => .int .i64 M.2.2.2.2.2.2.2.1
  | 8 => .int .i64 M.2.2.2.2.2.2.2.2.1
  | _ => .int .i64 M.2.2.2.2.2.2.2.2.2
def MFTold (M : Nat → TdT) (c : Nat) : Value := MCTold (M (c / 10)) (c % 10)
theorem MFTold_at (M : Nat → TdT) (k j : Nat) (hj : j < 10) : MFTold M (k * 10 + j) = MCTold (M k) j := by
  have h1 : (k * 10 + j) / 10 = k := by omega
  have h2 : (k * 10 + j) % 10 = j := by omega
  rw [MFTold, h1, h2]
theorem MFTold_vals {M : Nat → TdT} {k : Nat} {x0 : Int} {x1 : Int} {x2 : Int} {x3 : Int} {x4 : Bool} {x5 : Bool} {x6 : Int} {x7 : Int} {x8 : Int} {x9 : Int} (hM : M k = (x0, x1, x2, x3, x4, x5, x6, x7, x8, x9)) : MFTold M (k * 10) = .int .i64 x0 ∧ MFTold M (k * 10 + 1) = .int .i64 x1 ∧ MFTold M (k * 10 + 2) = .int .i64 x2 ∧ MFTold M (k * 10 + 3) = .int .i64 x3 ∧ MFTold M (k * 10 + 4) = .bool x4 ∧ MFTold M (k * 10 + 5) = .bool x5 ∧ MFTold M (k * 10 + 6) = .int .i64 x6 ∧ MFTold M (k * 10 + 7) = .int .i64 x7 ∧ MFTold M (k * 10 + 8) = .int .i64 x8 ∧ MFTold M (k * 10 + 9) = .int .i64 x9 :=
  ⟨by have q := MFTold_at M k 0 (by decide); rw [hM] at q; exact q, by have q := MFTold_at M k 1 (by decide); rw [hM] at q; exact q, by have q := MFTold_at M k 2 (by decide); rw [hM] at q; exact q, by have q := MFTold_at M k 3 (by decide); rw [hM] at q; exact q, by have q := MFTold_at M k 4 (by decide); rw [hM] at q; exact q, by have q := MFTold_at M k 5 (by decide); rw [hM] at q; exact q, by have q := MFTold_at M k 6 (by decide); rw [hM] at q; exact q, by have q := MFTold_at M k 7 (by decide); rw [hM] at q; exact q, by have q := MFTold_at M k 8 (by decide); rw [hM] at q; exact q, by have q := MFTold_at M k 9 (by decide); rw [hM] at q; exact q⟩
theorem Cs.elTold {w : World} {b off n k : Nat} {M : Nat → TdT} {x0 : Int} {x1 : Int} {x2 : Int} {x3 : Int} {x4 : Bool} {x5 : Bool} {x6 : Int} {x7 : Int} {x8 : Int} {x9 : Int} (h : Cs w b off (n * 10) (MFTold M)) (hk : k < n) (hM : M k = (x0, x1, x2, x3, x4, x5, x6, x7, x8, x9)) : w.cell? ⟨b, off + k * 10, none⟩ = some (.int .i64 x0) ∧ w.cell? ⟨b, off + k * 10 + 1, none⟩ = some (.int .i64 x1) ∧ w.cell? ⟨b, off + k * 10 + 2, none⟩ = some (.int .i64 x2) ∧ w.cell? ⟨b, off + k * 10 + 3, none⟩ = some (.int .i64 x3) ∧ w.cell? ⟨b, off + k * 10 + 4, none⟩ = some (.bool x4) ∧ w.cell? ⟨b, off + k * 10 + 5, none⟩ = some (.bool x5) ∧ w.cell? ⟨b, off + k * 10 + 6, none⟩ = some (.int .i64 x6) ∧ w.cell? ⟨b, off + k * 10 + 7, none⟩ = some (.int .i64 x7) ∧ w.cell? ⟨b, off + k * 10 + 8, none⟩ = some (.int .i64 x8) ∧ w.cell? ⟨b, off + k * 10 + 9, none⟩ = some (.int .i64 x9) := by
  obtain ⟨q0, q1, q2, q3, q4, q5, q6, q7, q8, q9⟩ := MFTold_vals hM
  exact ⟨by have := h.2 (k * 10) (by omega); rw [q0] at this; exact this, by have := h.2 (k * 10 + 1) (by omega); rw [q1] at this; exact this, by have := h.2 (k * 10 + 2) (by omega); rw [q2] at this; exact this, by have := h.2 (k * 10 + 3) (by omega); rw [q3] at this; exact this, by have := h.2 (k * 10 + 4) (by omega); rw [q4] at this; exact this, by have := h.2 (k * 10 + 5) (by omega); rw [q5] at this; exact this, by have := h.2 (k * 10 + 6) (by omega); rw [q6] at this; exact this, by have := h.2 (k * 10 + 7) (by omega); rw [q7] at this; exact this, by have := h.2 (k * 10 + 8) (by omega); rw [q8] at this; exact this, by have := h.2 (k * 10 + 9) (by omega); rw [q9] at this; exact this⟩
theorem tupTold (M : Nat → TdT) (k : Nat) : ∃ (x0 : Int) (x1 : Int) (x2 : Int) (x3 : Int) (x4 : Bool) (x5 : Bool) (x6 : Int) (x7 : Int) (x8 : Int) (x9 : Int), M k = (x0, x1, x2, x3, x4, x5, x6, x7, x8, x9) := ⟨_, _, _, _, _, _, _, _, _, _, rfl⟩
set_option maxRecDepth 100000 in
set_option maxHeartbeats 1000000 in
theorem szToldS_any (a : Option Addr) (n c : Nat) (L : Int) (w : World) (hm : n ≤ maxLen) (L0 : 0 ≤ L) (L1 : L ≤ 1048576) :
    Calls Try.prog 7 #[.slice a n c, .int .i64 L] w fun e w' => e = .returned (.int .i64 (if (n : Int) ≤ L then L - (n : Int) else -1)) ∧ w = w' := by
  unfold maxLen at hm
  by_cases h : (n : Int) ≤ L
  · rw [if_pos h]
    have hd : decide (L - (n : Int) < 0) = false := by simp; omega
    go_enter Try.func7, Try.ntmps7
    go_wp2_with fail
    go_ret
    exact ⟨rfl, rfl⟩
  · rw [if_neg h]
    have hd : decide (L - (n : Int) < 0) = true := by simp; omega
    go_enter Try.func7, Try.ntmps7
    go_wp2_with fail
    go_ret
    exact ⟨rfl, rfl⟩
def rowObjTold (n : Nat) : Obj := .cells (madeCells #[.int .i64 0, .int .i64 0, .int .i64 0, .int .i64 0, .bool false, .bool false, .int .i64 0, .int .i64 0, .int .i64 0, .int .i64 0] (n * 10)) 39
theorem infoTold : (Try.prog.info? 39).map (fun i => (i.zero, i.size, i.bytes)) = some (some (.agg #[.int .i64 0, .int .i64 0, .int .i64 0, .int .i64 0, .bool false, .bool false, .int .i64 0, .int .i64 0, .int .i64 0, .int .i64 0]), 10, 72) := by kernel_rfl
theorem mk_rowTold (n : Nat) (h : n ≤ 1048576) (w : World) : (Instr.makeSlice 24 (.int .i64 (n : Int)) (.int .i64 (n : Int))).run Try.prog w = .ok (.slice (some ⟨w.heap.size, 0, none⟩) n n) (w.alloc (rowObjTold n)) := by
  obtain ⟨i, hi, hz⟩ := Option.map_eq_some_iff.1 infoTold
  simp only [Prod.mk.injEq] at hz
  obtain ⟨h1, h2, h3⟩ := hz
  have hr := run_make (P := Try.prog) w 24 39 i _ Try.underlying24 hi h1 .i64 .i64 n n (by omega) (Int.le_refl _) (by rw [h3]; omega) (by omega)
  simp only [Int.toNat_natCast, h2] at hr
  exact hr
theorem rowObjTold_is (w : World) (n : Nat) (F : Nat → Value) : RowF (w.alloc (rowObjTold n)) w.heap.size 39 (n * 10) 0 F := by
  have h := World.rowIs_alloc w (madeCells #[.int .i64 0, .int .i64 0, .int .i64 0, .int .i64 0, .bool false, .bool false, .int .i64 0, .int .i64 0, .int .i64 0, .int .i64 0] (n * 10)) 39 (fun i => (madeCells #[.int .i64 0, .int .i64 0, .int .i64 0, .int .i64 0, .bool false, .bool false, .int .i64 0, .int .i64 0, .int .i64 0, .int .i64 0] (n * 10)).getD i undef) (fun i hi => by
    rw [Array.getElem?_eq_getElem hi]; exact congrArg some (by rw [Array.getD_eq_getD_getElem?, Array.getElem?_eq_getElem hi]; rfl))
  rw [size_madeCells] at h
  exact ⟨_, h, fun j hj => absurd hj (Nat.not_lt_zero _)⟩
set_option maxRecDepth 100000 in
set_option maxHeartbeats 4000000 in
theorem toToldS_some (b off n c : Nat) (M : Nat → TdT) (w : World) (hn : n ≤ 1048576) (hf : Cs w b off (n * 10) (MFTold M)) :
    Calls Try.prog 9 #[.slice (some ⟨b, off, none⟩) n c] w fun e w' => e = .returned (.slice (some ⟨w.heap.size, 0, none⟩) n n) ∧ RowF w' w.heap.size 39 (n * 10) (n * 10) (MFTold M) ∧ Below w.heap.size w w' := by
  have hmk := mk_rowTold n hn
  go_enter Try.func9, Try.ntmps9
  go_wp2_with fail
  clear hmk
  go_loopw [4] (fun i wr => ∃ k : Nat, k ≤ n ∧ i = .int .i64 k ∧ RowF wr w.heap.size 39 (n * 10) (k * 10) (MFTold M) ∧ Below w.heap.size w wr) (fun i _ => n - (intOf i).toNat)
  case atStart => exact ⟨0, Nat.zero_le _, rfl, (rowObjTold_is w n _).eqm (by omega), (Below.refl _ _).alloc (Nat.le_refl _) _⟩
  case round =>
    obtain ⟨k, hk, rfl, hrow, hB⟩ := hrel
    by_cases hlt : k < n
    · obtain ⟨x0, x1, x2, x3, x4, x5, x6, x7, x8, x9, hM⟩ := tupTold M k
      obtain ⟨c0, c1, c2, c3, c4, c5, c6, c7, c8, c9⟩ := (hf.below hB hf.1).elTold hlt hM
      obtain ⟨q0, q1, q2, q3, q4, q5, q6, q7, q8, q9⟩ := MFTold_vals hM
      have hli : (k : Int) < (n : Int) := by omega
      have hlr := hrow.lt
      clear hM
      go_wp2_with fail
      refine (toTold_any x0 x1 x2 x3 x4 x5 x6 x7 x8 x9 _).mono ?_
      rintro e w' ⟨rfl, hb⟩
      have row := RowF.below hb hlr hrow
      have hB2 := hB.trans (hb.mono hB.size)
      clear c0 c1 c2 c3 c4 c5 c6 c7 c8 c9 hrow hB hb
      have hlr2 := row.lt
      obtain ⟨⟨v0, e0⟩, f0⟩ := row.facts (k * 10) (by omega)
      obtain ⟨⟨v1, e1⟩, f1⟩ := row.facts (k * 10 + 1) (by omega)
      obtain ⟨⟨v2, e2⟩, f2⟩ := row.facts (k * 10 + 2) (by omega)
      obtain ⟨⟨v3, e3⟩, f3⟩ := row.facts (k * 10 + 3) (by omega)
      obtain ⟨⟨v4, e4⟩, f4⟩ := row.facts (k * 10 + 4) (by omega)
      obtain ⟨⟨v5, e5⟩, f5⟩ := row.facts (k * 10 + 5) (by omega)
      obtain ⟨⟨v6, e6⟩, f6⟩ := row.facts (k * 10 + 6) (by omega)
      obtain ⟨⟨v7, e7⟩, f7⟩ := row.facts (k * 10 + 7) (by omega)
      obtain ⟨⟨v8, e8⟩, f8⟩ := row.facts (k * 10 + 8) (by omega)
      obtain ⟨⟨v9, e9⟩, f9⟩ := row.facts (k * 10 + 9) (by omega)
      go_wp2_with fail
      go_roundw
      case rel => exact ⟨k + 1, by omega, by go_num, ((((((((((row.put (k * 10 + 1) (by omega) q0).put (k * 10 + 2) (by omega) q1).put (k * 10 + 3) (by omega) q2).put (k * 10 + 4) (by omega) q3).put (k * 10 + 5) (by omega) q4).put (k * 10 + 6) (by omega) q5).put (k * 10 + 7) (by omega) q6).put (k * 10 + 8) (by omega) q7).put (k * 10 + 9) (by omega) q8).put ((k + 1) * 10) (by omega) q9), ((((((((((hB2.setCell (Nat.le_refl _) _).setCell (Nat.le_refl _) _).setCell (Nat.le_refl _) _).setCell (Nat.le_refl _) _).setCell (Nat.le_refl _) _).setCell (Nat.le_refl _) _).setCell (Nat.le_refl _) _).setCell (Nat.le_refl _) _).setCell (Nat.le_refl _) _).setCell (Nat.le_refl _) _)⟩
      case measure => simp [intOf]; omega
    · have hkn : k = n := by omega
      subst hkn
      have hli : ¬ (k : Int) < (k : Int) := by omega
      go_wp2_with fail
      go_ret
      exact ⟨rfl, hrow, hB⟩
set_option maxRecDepth 100000 in
set_option maxHeartbeats 1000000 in
theorem toToldS_empty (a : Option Addr) (c : Nat) (F : Nat → Value) (w : World) :
    Calls Try.prog 9 #[.slice a 0 c] w fun e w' => e = .returned (.slice (some ⟨w.heap.size, 0, none⟩) 0 0) ∧ RowF w' w.heap.size 39 (0 * 10) (0 * 10) F ∧ Below w.heap.size w w' := by
  have hmk := mk_rowTold 0 (by omega)
  simp only [Int.ofNat_zero] at hmk
  go_enter Try.func9, Try.ntmps9
  go_wp2_with fail
  clear hmk
  go_loopw [4] (fun i wr => i = .int .i64 0 ∧ RowF wr w.heap.size 39 (0 * 10) 0 F ∧ Below w.heap.size w wr) (fun i _ => 0)
  case atStart => exact ⟨rfl, rowObjTold_is w 0 F, (Below.refl _ _).alloc (Nat.le_refl _) _⟩
  case round =>
    obtain ⟨rfl, hrow, hB⟩ := hrel
    go_wp2_with fail
    go_ret
    exact ⟨rfl, hrow.eqm (by omega), hB⟩
theorem toToldS_any (a : Option Addr) (n c : Nat) (M : Nat → TdT) (w : World) (hn : n ≤ 1048576) (h : SrcC w a (n * 10) (MFTold M)) :
    Calls Try.prog 9 #[.slice a n c] w fun e w' => e = .returned (.slice (some ⟨w.heap.size, 0, none⟩) n n) ∧ RowF w' w.heap.size 39 (n * 10) (n * 10) (MFTold M) ∧ Below w.heap.size w w' := by
  rcases h with h0 | ⟨b, off, rfl, h2⟩
  · have hn0 : n = 0 := by omega
    subst hn0
    exact toToldS_empty a c _ w
  · exact toToldS_some b off n c M w hn h2
set_option maxRecDepth 100000 in
set_option maxHeartbeats 8000000 in
theorem eqToldS_some (b off b' off' n c c' : Nat) (M : Nat → TdT) (w : World) (hn : n ≤ maxLen) (hf : Cs w b off (n * 10) (MFTold M)) (hg : Cs w b' off' (n * 10) (MFTold M)) :
    Calls Try.prog 11 #[.slice (some ⟨b, off, none⟩) n c, .slice (some ⟨b', off', none⟩) n c'] w fun e w' => e = .returned (.bool true) ∧ Below w.heap.size w w' := by
  unfold maxLen at hn
  go_enter Try.func11, Try.ntmps11
  go_wp2_with fail
  go_loopw [5] (fun i wr => ∃ k : Nat, k ≤ n ∧ i = .int .i64 k ∧ Below w.heap.size w wr) (fun i _ => n - (intOf i).toNat)
  case atStart => exact ⟨0, Nat.zero_le _, rfl, Below.refl _ _⟩
  case round =>
    obtain ⟨k, hk, rfl, hB⟩ := hrel
    by_cases hlt : k < n
    · obtain ⟨x0, x1, x2, x3, x4, x5, x6, x7, x8, x9, hM⟩ := tupTold M k
      obtain ⟨c0, c1, c2, c3, c4, c5, c6, c7, c8, c9⟩ := (hf.below hB hf.1).elTold hlt hM
      obtain ⟨d0, d1, d2, d3, d4, d5, d6, d7, d8, d9⟩ := (hg.below hB hg.1).elTold hlt hM
      have hb1 : b < wr.drew.heap.size := Nat.lt_of_lt_of_le hf.1 hB.size
      have hb2 : b' < wr.drew.heap.size := Nat.lt_of_lt_of_le hg.1 hB.size
      have hsz : w.heap.size ≤ wr.drew.heap.size := hB.size
      have hli : (k : Int) < (n : Int) := by omega
      clear hM
      go_wp2_with fail
      refine wp_region_held_drew (S := (fun w' => w'.cell? ⟨b, off + k * 10, none⟩ = some (.int .i64 x0) ∧ w'.cell? ⟨b, off + k * 10 + 1, none⟩ = some (.int .i64 x1) ∧ w'.cell? ⟨b, off + k * 10 + 2, none⟩ = some (.int .i64 x2) ∧ w'.cell? ⟨b, off + k * 10 + 3, none⟩ = some (.int .i64 x3) ∧ w'.cell? ⟨b, off + k * 10 + 4, none⟩ = some (.bool x4) ∧ w'.cell? ⟨b, off + k * 10 + 5, none⟩ = some (.bool x5) ∧ w'.cell? ⟨b, off + k * 10 + 6, none⟩ = some (.int .i64 x6) ∧ w'.cell? ⟨b, off + k * 10 + 7, none⟩ = some (.int .i64 x7) ∧ w'.cell? ⟨b, off + k * 10 + 8, none⟩ = some (.int .i64 x8) ∧ w'.cell? ⟨b, off + k * 10 + 9, none⟩ = some (.int .i64 x9) ∧ w'.cell? ⟨b', off' + k * 10, none⟩ = some (.int .i64 x0) ∧ w'.cell? ⟨b', off' + k * 10 + 1, none⟩ = some (.int .i64 x1) ∧ w'.cell? ⟨b', off' + k * 10 + 2, none⟩ = some (.int .i64 x2) ∧ w'.cell? ⟨b', off' + k * 10 + 3, none⟩ = some (.int .i64 x3) ∧ w'.cell? ⟨b', off' + k * 10 + 4, none⟩ = some (.bool x4) ∧ w'.cell? ⟨b', off' + k * 10 + 5, none⟩ = some (.bool x5) ∧ w'.cell? ⟨b', off' + k * 10 + 6, none⟩ = some (.int .i64 x6) ∧ w'.cell? ⟨b', off' + k * 10 + 7, none⟩ = some (.int .i64 x7) ∧ w'.cell? ⟨b', off' + k * 10 + 8, none⟩ = some (.int .i64 x8) ∧ w'.cell? ⟨b', off' + k * 10 + 9, none⟩ = some (.int .i64 x9))) (by kernel_rfl) ?_ (fun hHeld => ?_)
      · first | exact ⟨c0, c1, c2, c3, c4, c5, c6, c7, c8, c9, d0, d1, d2, d3, d4, d5, d6, d7, d8, d9⟩ | (simp (maxDischargeDepth := 6) [go_sem, *]; done)
      refine wpAnyH_take (i := 0) (v := ?_) (by rw [List.getElem?_toArray]; rfl) (by kernel_rfl) (by kernel_rfl) (by kernel_rfl) (by intro _ _ _ h; exact h) (Or.inl ⟨by rfl, ?_⟩) (by assumption) ?_
      rotate_left
      · (intro w hSw; (try dsimp only at hSw); go_simp; all_goals with_reducible rfl)
      (try simp only [Act.put, List.setIfInBounds_toArray, List.set_cons_zero, List.set_cons_succ])
      refine wpAnyH_take (i := 1) (v := ?_) (by rw [List.getElem?_toArray]; rfl) (by kernel_rfl) (by kernel_rfl) (by kernel_rfl) (by intro _ _ _ h; exact h) (Or.inl ⟨by rfl, ?_⟩) (by assumption) ?_
      rotate_left
      · (intro w hSw; (try dsimp only at hSw); go_simp; all_goals with_reducible rfl)
      (try simp only [Act.put, List.setIfInBounds_toArray, List.set_cons_zero, List.set_cons_succ])
      refine wpAnyH_take (i := 2) (v := ?_) (by rw [List.getElem?_toArray]; rfl) (by kernel_rfl) (by kernel_rfl) (by kernel_rfl) (by intro _ _ _ h; exact h) (Or.inl ⟨by rfl, ?_⟩) (by assumption) ?_
      rotate_left
      · (intro w hSw; (try dsimp only at hSw); go_simp; all_goals with_reducible rfl)
      (try simp only [Act.put, List.setIfInBounds_toArray, List.set_cons_zero, List.set_cons_succ])
      refine wpAnyH_take (i := 3) (v := ?_) (by rw [List.getElem?_toArray]; rfl) (by kernel_rfl) (by kernel_rfl) (by kernel_rfl) (by intro _ _ _ h; exact h) (Or.inl ⟨by rfl, ?_⟩) (by assumption) ?_
      rotate_left
      · (intro w hSw; (try dsimp only at hSw); go_simp; all_goals with_reducible rfl)
      (try simp only [Act.put, List.setIfInBounds_toArray, List.set_cons_zero, List.set_cons_succ])
      refine wpAnyH_take (i := 4) (v := ?_) (by rw [List.getElem?_toArray]; rfl) (by kernel_rfl) (by kernel_rfl) (by kernel_rfl) (by intro _ _ _ h; exact h) (Or.inl ⟨by rfl, ?_⟩) (by assumption) ?_
      rotate_left
      · (intro w hSw; (try dsimp only at hSw); go_simp; all_goals with_reducible rfl)
      (try simp only [Act.put, List.setIfInBounds_toArray, List.set_cons_zero, List.set_cons_succ])
      refine wpAnyH_take (i := 5) (v := ?_) (by rw [List.getElem?_toArray]; rfl) (by kernel_rfl) (by kernel_rfl) (by kernel_rfl) (by intro _ _ _ h; exact h) (Or.inl ⟨by rfl, ?_⟩) (by assumption) ?_
      rotate_left
      · (intro w hSw; (try dsimp only at hSw); go_simp; all_goals with_reducible rfl)
      (try simp only [Act.put, List.setIfInBounds_toArray, List.set_cons_zero, List.set_cons_succ])
      refine wpAnyH_take (i := 6) (v := ?_) (by rw [List.getElem?_toArray]; rfl) (by kernel_rfl) (by kernel_rfl) (by kernel_rfl) (by intro _ _ _ h; exact h) (Or.inl ⟨by rfl, ?_⟩) (by assumption) ?_
      rotate_left
      · (intro w hSw; (try dsimp only at hSw); go_simp; all_goals with_reducible rfl)
      (try simp only [Act.put, List.setIfInBounds_toArray, List.set_cons_zero, List.set_cons_succ])
      refine wpAnyH_take (i := 7) (v := ?_) (by rw [List.getElem?_toArray]; rfl) (by kernel_rfl) (by kernel_rfl) (by kernel_rfl) (by intro _ _ _ h; exact h) (Or.inl ⟨by rfl, ?_⟩) (by assumption) ?_
      rotate_left
      · (intro w hSw; (try dsimp only at hSw); go_simp; all_goals with_reducible rfl)
      (try simp only [Act.put, List.setIfInBounds_toArray, List.set_cons_zero, List.set_cons_succ])
      refine wpAnyH_ready (rs := [8]) (by kernel_rfl) (by simp) ?_
      refine AllReadyH.cons (by rw [List.getElem?_toArray]; rfl) (fun K hK => ?_) AllReadyH.nil
      go_simp
      refine (eqTold_same _ _ _ _ _ _ _ _ _ _ _).mono ?_; rintro e w' ⟨rfl, hb⟩; (replace c0 := (hb.cell (p := ⟨b, off + k * 10, none⟩) hb1).trans c0); (replace c1 := (hb.cell (p := ⟨b, off + k * 10 + 1, none⟩) hb1).trans c1); (replace c2 := (hb.cell (p := ⟨b, off + k * 10 + 2, none⟩) hb1).trans c2); (replace c3 := (hb.cell (p := ⟨b, off + k * 10 + 3, none⟩) hb1).trans c3); (replace c4 := (hb.cell (p := ⟨b, off + k * 10 + 4, none⟩) hb1).trans c4); (replace c5 := (hb.cell (p := ⟨b, off + k * 10 + 5, none⟩) hb1).trans c5); (replace c6 := (hb.cell (p := ⟨b, off + k * 10 + 6, none⟩) hb1).trans c6); (replace c7 := (hb.cell (p := ⟨b, off + k * 10 + 7, none⟩) hb1).trans c7); (replace c8 := (hb.cell (p := ⟨b, off + k * 10 + 8, none⟩) hb1).trans c8); (replace c9 := (hb.cell (p := ⟨b, off + k * 10 + 9, none⟩) hb1).trans c9); (replace d0 := (hb.cell (p := ⟨b', off' + k * 10, none⟩) hb2).trans d0); (replace d1 := (hb.cell (p := ⟨b', off' + k * 10 + 1, none⟩) hb2).trans d1); (replace d2 := (hb.cell (p := ⟨b', off' + k * 10 + 2, none⟩) hb2).trans d2); (replace d3 := (hb.cell (p := ⟨b', off' + k * 10 + 3, none⟩) hb2).trans d3); (replace d4 := (hb.cell (p := ⟨b', off' + k * 10 + 4, none⟩) hb2).trans d4); (replace d5 := (hb.cell (p := ⟨b', off' + k * 10 + 5, none⟩) hb2).trans d5); (replace d6 := (hb.cell (p := ⟨b', off' + k * 10 + 6, none⟩) hb2).trans d6); (replace d7 := (hb.cell (p := ⟨b', off' + k * 10 + 7, none⟩) hb2).trans d7); (replace d8 := (hb.cell (p := ⟨b', off' + k * 10 + 8, none⟩) hb2).trans d8); (replace d9 := (hb.cell (p := ⟨b', off' + k * 10 + 9, none⟩) hb2).trans d9)
      (try go_wp2_with fail)
      refine hK.out _ _ ?_ (fun hHeld => ?_)
      · first | exact ⟨c0, c1, c2, c3, c4, c5, c6, c7, c8, c9, d0, d1, d2, d3, d4, d5, d6, d7, d8, d9⟩ | (simp (maxDischargeDepth := 6) [go_sem, *]; done)
      clear hK K
      (try simp only [Act.put, List.setIfInBounds_toArray, List.set_cons_zero, List.set_cons_succ])
      refine wpAnyH_take (i := 9) (v := ?_) (by rw [List.getElem?_toArray]; rfl) (by kernel_rfl) (by kernel_rfl) (by kernel_rfl) (by intro _ _ _ h; exact h) (Or.inl ⟨by rfl, ?_⟩) (by assumption) ?_
      rotate_left
      · (intro w hSw; (try dsimp only at hSw); go_simp; all_goals with_reducible rfl)
      (try simp only [Act.put, List.setIfInBounds_toArray, List.set_cons_zero, List.set_cons_succ])
      refine wpAnyH_done (by kernel_rfl) ?_ _
      go_wp2_with fail
      go_roundw
      case rel => exact ⟨k + 1, by omega, by go_num, (Below.drew hB).trans (hb.mono hsz)⟩
      case measure => simp [intOf]; omega
    · go_wp2_with fail
      go_ret
      exact ⟨rfl, hB⟩
set_option maxRecDepth 100000 in
set_option maxHeartbeats 400000 in
theorem eqToldS_zero (a a' : Option Addr) (c c' : Nat) (w : World) :
    Calls Try.prog 11 #[.slice a 0 c, .slice a' 0 c'] w fun e w' => e = .returned (.bool true) ∧ Below w.heap.size w w' := by
  go_enter Try.func11, Try.ntmps11
  go_wp2_with fail
  go_loopw [5] (fun i wr => i = .int .i64 0 ∧ w = wr) (fun i _ => 0)
  case atStart => exact ⟨rfl, rfl⟩
  case round =>
    obtain ⟨rfl, rfl⟩ := hrel
    go_wp2_with fail
    go_ret
    exact ⟨rfl, Below.refl _ _⟩
theorem eqToldS_src (a a' : Option Addr) (n c c' : Nat) (M : Nat → TdT) (w : World) (hn : n ≤ maxLen) (h : SrcC w a (n * 10) (MFTold M)) (h' : SrcC w a' (n * 10) (MFTold M)) :
    Calls Try.prog 11 #[.slice a n c, .slice a' n c'] w fun e w' => e = .returned (.bool true) ∧ Below w.heap.size w w' := by
  by_cases h0 : n = 0
  · subst h0; exact eqToldS_zero a a' c c' w
  · rcases h with h | ⟨b, off, rfl, hp⟩
    · omega
    · rcases h' with h | ⟨b', off', rfl, hp'⟩
      · omega
      · exact eqToldS_some b off b' off' n c c' M w hn hp hp'
def mkTold (q : Int) (c : Nat) : Value := if c % 10 = 4 ∨ c % 10 = 5 then .bool ((q + (c : Int)) % 3 == 0) else .int .i64 (q + (c : Int))
theorem mkTold_i {q : Int} {k j : Nat} {x : Int} (hj : j < 10 ∧ j ≠ 4 ∧ j ≠ 5) (h : x = q + ((k * 10 + j : Nat) : Int)) : mkTold q (k * 10 + j) = .int .i64 x := by rw [mkTold, if_neg (by omega), h]
theorem mkTold_b {q : Int} {k j : Nat} {x : Int} (hj : j = 4 ∨ j = 5) (h : x = q + ((k * 10 + j : Nat) : Int)) : mkTold q (k * 10 + j) = .bool (x % 3 == 0) := by rw [mkTold, if_pos (by omega), h]
set_option maxRecDepth 100000 in
set_option maxHeartbeats 8000000 in
theorem markToldS_row (b N n c : Nat) (q0 : Int) (w : World) (hn : n ≤ 1048576) (hq : 0 < q0) (hq1 : q0 ≤ 1073741824) (hN : n * 10 ≤ N) (h : RowF w b 39 N 0 (mkTold q0)) :
    Calls Try.prog 12 #[.slice (some ⟨b, 0, none⟩) n c, .int .i64 q0] w fun e w' => e = .returned (.int .i64 (q0 + (n : Int) * 10)) ∧ RowF w' b 39 N (n * 10) (mkTold q0) ∧ But b w w' := by
  go_enter Try.func12, Try.ntmps12
  go_wp2_with fail
  go_loopw [1, 5] (fun q i wr => ∃ (k : Nat) (Q : Int), k ≤ n ∧ i = .int .i64 k ∧ q = .int .i64 Q ∧ Q = q0 + (k : Int) * 10 ∧ RowF wr b 39 N (k * 10) (mkTold q0) ∧ But b w wr) (fun _ i _ => n - (intOf i).toNat)
  case atStart => exact ⟨0, q0, Nat.zero_le _, rfl, rfl, by omega, h.eqm (by omega), But.refl _ _⟩
  case round =>
    obtain ⟨k, Q, hk, rfl, rfl, hQ, row, hB⟩ := hrel
    clear h
    have HQ : Hid (Q = q0 + (k : Int) * 10) := hQ
    by_cases hlt : k < n
    · have hli : (k : Int) < (n : Int) := by omega
      have Q0 : 0 < Q := by omega
      have Q1 : Q ≤ 1073741824 + 1048576 * 10 := by omega
      clear hQ
      have hlr := row.lt
      obtain ⟨⟨v0, e0⟩, f0⟩ := row.facts (k * 10) (by omega)
      obtain ⟨⟨v1, e1⟩, f1⟩ := row.facts (k * 10 + 1) (by omega)
      obtain ⟨⟨v2, e2⟩, f2⟩ := row.facts (k * 10 + 2) (by omega)
      obtain ⟨⟨v3, e3⟩, f3⟩ := row.facts (k * 10 + 3) (by omega)
      obtain ⟨⟨v4, e4⟩, f4⟩ := row.facts (k * 10 + 4) (by omega)
      obtain ⟨⟨v5, e5⟩, f5⟩ := row.facts (k * 10 + 5) (by omega)
      obtain ⟨⟨v6, e6⟩, f6⟩ := row.facts (k * 10 + 6) (by omega)
      obtain ⟨⟨v7, e7⟩, f7⟩ := row.facts (k * 10 + 7) (by omega)
      obtain ⟨⟨v8, e8⟩, f8⟩ := row.facts (k * 10 + 8) (by omega)
      obtain ⟨⟨v9, e9⟩, f9⟩ := row.facts (k * 10 + 9) (by omega)
      go_wp2_with fail
      go_roundw
      case rel => exact ⟨k + 1, _, by omega, by go_num, rfl, by have := HQ.out; omega, (RowF.put (RowF.put (RowF.put (RowF.put (RowF.put (RowF.put (RowF.put (RowF.put (RowF.put (RowF.put row (k * 10 + 1) (by omega) (mkTold_i (k := k) (j := 0) (by decide) (by have := HQ.out; omega))) (k * 10 + 2) (by omega) (mkTold_i (k := k) (j := 1) (by decide) (by have := HQ.out; omega))) (k * 10 + 3) (by omega) (mkTold_i (k := k) (j := 2) (by decide) (by have := HQ.out; omega))) (k * 10 + 4) (by omega) (mkTold_i (k := k) (j := 3) (by decide) (by have := HQ.out; omega))) (k * 10 + 5) (by omega) (mkTold_b (k := k) (j := 4) (by decide) (by have := HQ.out; omega))) (k * 10 + 6) (by omega) (mkTold_b (k := k) (j := 5) (by decide) (by have := HQ.out; omega))) (k * 10 + 7) (by omega) (mkTold_i (k := k) (j := 6) (by decide) (by have := HQ.out; omega))) (k * 10 + 8) (by omega) (mkTold_i (k := k) (j := 7) (by decide) (by have := HQ.out; omega))) (k * 10 + 9) (by omega) (mkTold_i (k := k) (j := 8) (by decide) (by have := HQ.out; omega))) ((k + 1) * 10) (by omega) (mkTold_i (k := k) (j := 9) (by decide) (by have := HQ.out; omega))), ((((((((((hB.setCell _ _).setCell _ _).setCell _ _).setCell _ _).setCell _ _).setCell _ _).setCell _ _).setCell _ _).setCell _ _).setCell _ _)⟩
      case measure => simp [intOf]; omega
    · have hkn : k = n := by omega
      subst hkn
      have hli : ¬ (k : Int) < (k : Int) := by omega
      subst hQ
      go_wp2_with fail
      go_ret
      exact ⟨rfl, row, hB⟩
set_option maxRecDepth 100000 in
set_option maxHeartbeats 400000 in
theorem markToldS_zero (a : Option Addr) (c : Nat) (q0 : Int) (w : World) :
    Calls Try.prog 12 #[.slice a 0 c, .int .i64 q0] w fun e w' => e = .returned (.int .i64 q0) ∧ w = w' := by
  go_enter Try.func12, Try.ntmps12
  go_wp2_with fail
  go_loopw [1, 5] (fun q i wr => i = .int .i64 0 ∧ q = .int .i64 q0 ∧ w = wr) (fun _ i _ => 0)
  case atStart => exact ⟨rfl, rfl, by first | rfl | trivial⟩
  case round =>
    obtain ⟨rfl, rfl, rfl⟩ := hrel
    go_wp2_with fail
    go_ret
    exact ⟨rfl, rfl⟩
theorem markToldS_any (a : Option Addr) (n c base : Nat) (q0 : Int) (xs : List Value) (w : World) (hn : n ≤ 1048576) (hq : 0 < q0) (hq1 : q0 ≤ 1073741824) (hb : base ≤ w.heap.size) (h : w.ownsRow base 39 10 (.slice a n c) n xs) :
    Calls Try.prog 12 #[.slice a n c, .int .i64 q0] w fun e w' => e = .returned (.int .i64 (q0 + (n : Int) * 10)) ∧ SrcC w' a (n * 10) (mkTold q0) ∧ Below base w w' := by
  rcases h.2 with ⟨he, h0⟩ | ⟨g, cap, cur, he, _⟩
  · subst h0
    exact (markToldS_zero a c q0 w).mono fun e w' ⟨h1, h2⟩ => ⟨by rw [h1]; simp, .inl (by omega), h2 ▸ Below.refl _ _⟩
  · simp at he
    obtain ⟨rfl, rfl⟩ := he
    obtain ⟨h1, h2, _, h3⟩ := ownF_row (mkTold q0) h
    exact (markToldS_row g (c * 10) n c q0 w hn hq hq1 (Nat.mul_le_mul_right _ h2) h3).mono fun e w' ⟨r1, r2, r3⟩ => ⟨r1, .inr ⟨g, 0, rfl, r2.cs (Nat.mul_le_mul_right _ h2)⟩, r3.below h1 hb⟩
set_option maxRecDepth 100000 in
set_option maxHeartbeats 8000000 in
theorem heldToldS_some (b off n c : Nat) (q0 : Int) (w : World) (hn : n ≤ 1048576) (hq : 0 < q0) (hq1 : q0 ≤ 1073741824) (h : Cs w b off (n * 10) (mkTold q0)) :
    Calls Try.prog 13 #[.slice (some ⟨b, off, none⟩) n c, .int .i64 q0] w fun e w' => e = .returned (.int .i64 (q0 + (n : Int) * 10)) ∧ w = w' := by
  have HP : Hid (Cs w b off (n * 10) (mkTold q0)) := h
  clear h
  go_enter Try.func13, Try.ntmps13
  go_wp2_with fail
  go_loopw [1, 5] (fun q i wr => ∃ (k : Nat) (Q : Int), k ≤ n ∧ i = .int .i64 k ∧ q = .int .i64 Q ∧ Q = q0 + (k : Int) * 10 ∧ w = wr) (fun _ i _ => n - (intOf i).toNat)
  case atStart => exact ⟨0, q0, Nat.zero_le _, rfl, rfl, by omega, by first | rfl | trivial⟩
  case round =>
    obtain ⟨k, Q, hk, rfl, rfl, hQ, rfl⟩ := hrel
    have HQ : Hid (Q = q0 + (k : Int) * 10) := hQ
    by_cases hlt : k < n
    · have hli : (k : Int) < (n : Int) := by omega
      have Q0 : 0 < Q := by omega
      have Q1 : Q ≤ 1073741824 + 1048576 * 10 := by omega
      have hP := HP.out
      clear hQ
      have c0 : w.cell? ⟨b, off + k * 10, none⟩ = some (.int .i64 (Q)) := by have q := hP.2 (k * 10) (by omega); rw [show mkTold q0 (k * 10) = .int .i64 (Q) from mkTold_i (k := k) (j := 0) (x := Q) (by decide) (by have := HQ.out; omega)] at q; exact q
      have c1 : w.cell? ⟨b, off + k * 10 + 1, none⟩ = some (.int .i64 (Q + 1)) := by have q := hP.2 (k * 10 + 1) (by omega); rw [show mkTold q0 (k * 10 + 1) = .int .i64 (Q + 1) from mkTold_i (k := k) (j := 1) (x := Q + 1) (by decide) (by have := HQ.out; omega)] at q; exact q
      have c2 : w.cell? ⟨b, off + k * 10 + 2, none⟩ = some (.int .i64 (Q + 1 + 1)) := by have q := hP.2 (k * 10 + 2) (by omega); rw [show mkTold q0 (k * 10 + 2) = .int .i64 (Q + 1 + 1) from mkTold_i (k := k) (j := 2) (x := Q + 1 + 1) (by decide) (by have := HQ.out; omega)] at q; exact q
      have c3 : w.cell? ⟨b, off + k * 10 + 3, none⟩ = some (.int .i64 (Q + 1 + 1 + 1)) := by have q := hP.2 (k * 10 + 3) (by omega); rw [show mkTold q0 (k * 10 + 3) = .int .i64 (Q + 1 + 1 + 1) from mkTold_i (k := k) (j := 3) (x := Q + 1 + 1 + 1) (by decide) (by have := HQ.out; omega)] at q; exact q
      have c4 : w.cell? ⟨b, off + k * 10 + 4, none⟩ = some (.bool ((Q + 1 + 1 + 1 + 1) % 3 == 0)) := by have q := hP.2 (k * 10 + 4) (by omega); rw [show mkTold q0 (k * 10 + 4) = .bool ((Q + 1 + 1 + 1 + 1) % 3 == 0) from mkTold_b (k := k) (j := 4) (x := Q + 1 + 1 + 1 + 1) (by decide) (by have := HQ.out; omega)] at q; exact q
      have c5 : w.cell? ⟨b, off + k * 10 + 5, none⟩ = some (.bool ((Q + 1 + 1 + 1 + 1 + 1) % 3 == 0)) := by have q := hP.2 (k * 10 + 5) (by omega); rw [show mkTold q0 (k * 10 + 5) = .bool ((Q + 1 + 1 + 1 + 1 + 1) % 3 == 0) from mkTold_b (k := k) (j := 5) (x := Q + 1 + 1 + 1 + 1 + 1) (by decide) (by have := HQ.out; omega)] at q; exact q
      have c6 : w.cell? ⟨b, off + k * 10 + 6, none⟩ = some (.int .i64 (Q + 1 + 1 + 1 + 1 + 1 + 1)) := by have q := hP.2 (k * 10 + 6) (by omega); rw [show mkTold q0 (k * 10 + 6) = .int .i64 (Q + 1 + 1 + 1 + 1 + 1 + 1) from mkTold_i (k := k) (j := 6) (x := Q + 1 + 1 + 1 + 1 + 1 + 1) (by decide) (by have := HQ.out; omega)] at q; exact q
      have c7 : w.cell? ⟨b, off + k * 10 + 7, none⟩ = some (.int .i64 (Q + 1 + 1 + 1 + 1 + 1 + 1 + 1)) := by have q := hP.2 (k * 10 + 7) (by omega); rw [show mkTold q0 (k * 10 + 7) = .int .i64 (Q + 1 + 1 + 1 + 1 + 1 + 1 + 1) from mkTold_i (k := k) (j := 7) (x := Q + 1 + 1 + 1 + 1 + 1 + 1 + 1) (by decide) (by have := HQ.out; omega)] at q; exact q
      have c8 : w.cell? ⟨b, off + k * 10 + 8, none⟩ = some (.int .i64 (Q + 1 + 1 + 1 + 1 + 1 + 1 + 1 + 1)) := by have q := hP.2 (k * 10 + 8) (by omega); rw [show mkTold q0 (k * 10 + 8) = .int .i64 (Q + 1 + 1 + 1 + 1 + 1 + 1 + 1 + 1) from mkTold_i (k := k) (j := 8) (x := Q + 1 + 1 + 1 + 1 + 1 + 1 + 1 + 1) (by decide) (by have := HQ.out; omega)] at q; exact q
      have c9 : w.cell? ⟨b, off + k * 10 + 9, none⟩ = some (.int .i64 (Q + 1 + 1 + 1 + 1 + 1 + 1 + 1 + 1 + 1)) := by have q := hP.2 (k * 10 + 9) (by omega); rw [show mkTold q0 (k * 10 + 9) = .int .i64 (Q + 1 + 1 + 1 + 1 + 1 + 1 + 1 + 1 + 1) from mkTold_i (k := k) (j := 9) (x := Q + 1 + 1 + 1 + 1 + 1 + 1 + 1 + 1 + 1) (by decide) (by have := HQ.out; omega)] at q; exact q
      have hbl := hP.1
      clear hP
      go_wp2_with fail
      go_roundw
      case rel => exact ⟨k + 1, _, by omega, by go_num, rfl, by have := HQ.out; omega, by first | rfl | trivial⟩
      case measure => simp [intOf]; omega
    · have hkn : k = n := by omega
      subst hkn
      have hli : ¬ (k : Int) < (k : Int) := by omega
      subst hQ
      go_wp2_with fail
      go_ret
      exact ⟨rfl, rfl⟩
set_option maxRecDepth 100000 in
set_option maxHeartbeats 400000 in
theorem heldToldS_zero (a : Option Addr) (c : Nat) (q0 : Int) (w : World) :
    Calls Try.prog 13 #[.slice a 0 c, .int .i64 q0] w fun e w' => e = .returned (.int .i64 q0) ∧ w = w' := by
  go_enter Try.func13, Try.ntmps13
  go_wp2_with fail
  go_loopw [1, 5] (fun q i wr => i = .int .i64 0 ∧ q = .int .i64 q0 ∧ w = wr) (fun _ i _ => 0)
  case atStart => exact ⟨rfl, rfl, by first | rfl | trivial⟩
  case round =>
    obtain ⟨rfl, rfl, rfl⟩ := hrel
    go_wp2_with fail
    go_ret
    exact ⟨rfl, rfl⟩
theorem heldToldS_any (a : Option Addr) (n c : Nat) (q0 : Int) (w : World) (hn : n ≤ 1048576) (hq : 0 < q0) (hq1 : q0 ≤ 1073741824) (h : SrcC w a (n * 10) (mkTold q0)) :
    Calls Try.prog 13 #[.slice a n c, .int .i64 q0] w fun e w' => e = .returned (.int .i64 (q0 + (n : Int) * 10)) ∧ w = w' := by
  rcases h with h0 | ⟨b, off, rfl, hp⟩
  · have hn0 : n = 0 := by omega
    subst hn0
    exact (heldToldS_zero a c q0 w).mono fun e w' ⟨h1, h2⟩ => ⟨by rw [h1]; simp, h2⟩
  · exact heldToldS_some b off n c q0 w hn hq hq1 hp
end Go.Proofs.Ytbicpkelejjnjaa
