/- Rows of frames: what the laws make of them, and whether two are the same. -/
import Derived.Test.YtnjoldjefknpbaaQ150
import Derived.Deep.RegionHeld3
import Derived.WalkKit
import Derived.WalkSpells
import Derived.WalkLawsBesides
import Derived.Deep.RegionHeld
namespace Go.Proofs.Ytnjoldjefknpbaa
open Go.RowKit
set_option linter.unusedVariables false
def MCFrame (M : FrT) : Nat → Value
  | 0 => .int .i64 M.1
  | 1 => .int .i64 M.2.1
  | 2 => .int .i64 M.2.2.1
  | 3 => .int .i64 M.2.2.2.1
  | 4 => .int .i64 M.2.2.2.2.1
  | _ => .string M.2.2.2.2.2
def MFFrame (M : Nat → FrT) (c : Nat) : Value := MCFrame (M (c / 6)) (c % 6)
theorem MFFrame_at (M : Nat → FrT) (k j : Nat) (hj : j < 6) : MFFrame M (k * 6 + j) = MCFrame (M k) j := by
  have h1 : (k * 6 + j) / 6 = k := by omega
  have h2 : (k * 6 + j) % 6 = j := by omega
  rw [MFFrame, h1, h2]
theorem MFFrame_vals {M : Nat → FrT} {k : Nat} {x0 : Int} {x1 : Int} {x2 : Int} {x3 : Int} {x4 : Int} {x5 : ByteArray} (hM : M k = (x0, x1, x2, x3, x4, x5)) : MFFrame M (k * 6) = .int .i64 x0 ∧ MFFrame M (k * 6 + 1) = .int .i64 x1 ∧ MFFrame M (k * 6 + 2) = .int .i64 x2 ∧ MFFrame M (k * 6 + 3) = .int .i64 x3 ∧ MFFrame M (k * 6 + 4) = .int .i64 x4 ∧ MFFrame M (k * 6 + 5) = .string x5 :=
  ⟨by have q := MFFrame_at M k 0 (by decide); rw [hM] at q; exact q, by have q := MFFrame_at M k 1 (by decide); rw [hM] at q; exact q, by have q := MFFrame_at M k 2 (by decide); rw [hM] at q; exact q, by have q := MFFrame_at M k 3 (by decide); rw [hM] at q; exact q, by have q := MFFrame_at M k 4 (by decide); rw [hM] at q; exact q, by have q := MFFrame_at M k 5 (by decide); rw [hM] at q; exact q⟩
theorem Cs.elFrame {w : World} {b off n k : Nat} {M : Nat → FrT} {x0 : Int} {x1 : Int} {x2 : Int} {x3 : Int} {x4 : Int} {x5 : ByteArray} (h : Cs w b off (n * 6) (MFFrame M)) (hk : k < n) (hM : M k = (x0, x1, x2, x3, x4, x5)) : w.cell? ⟨b, off + k * 6, none⟩ = some (.int .i64 x0) ∧ w.cell? ⟨b, off + k * 6 + 1, none⟩ = some (.int .i64 x1) ∧ w.cell? ⟨b, off + k * 6 + 2, none⟩ = some (.int .i64 x2) ∧ w.cell? ⟨b, off + k * 6 + 3, none⟩ = some (.int .i64 x3) ∧ w.cell? ⟨b, off + k * 6 + 4, none⟩ = some (.int .i64 x4) ∧ w.cell? ⟨b, off + k * 6 + 5, none⟩ = some (.string x5) := by
  obtain ⟨q0, q1, q2, q3, q4, q5⟩ := MFFrame_vals hM
  exact ⟨by have := h.2 (k * 6) (by omega); rw [q0] at this; exact this, by have := h.2 (k * 6 + 1) (by omega); rw [q1] at this; exact this, by have := h.2 (k * 6 + 2) (by omega); rw [q2] at this; exact this, by have := h.2 (k * 6 + 3) (by omega); rw [q3] at this; exact this, by have := h.2 (k * 6 + 4) (by omega); rw [q4] at this; exact this, by have := h.2 (k * 6 + 5) (by omega); rw [q5] at this; exact this⟩
theorem tupFrame (M : Nat → FrT) (k : Nat) : ∃ (x0 : Int) (x1 : Int) (x2 : Int) (x3 : Int) (x4 : Int) (x5 : ByteArray), M k = (x0, x1, x2, x3, x4, x5) := ⟨_, _, _, _, _, _, rfl⟩
set_option maxHeartbeats 1000000 in
theorem szFrameS_long (a : Option Addr) (n c : Nat) (w : World) (hm : n ≤ maxLen) (h : 1048576 < n) :
    Calls Try.prog 37 #[.slice a n c, .int .i64 1048576] w fun e w' => e = .returned (.int .i64 (-1)) ∧ Below w.heap.size w w' := by
  unfold maxLen at hm
  have hd : decide (1048576 - (n : Int) < 0) = true := by simp; omega
  go_enter Try.func37, Try.ntmps37
  go_wp2_with fail
  go_ret
  exact ⟨rfl, Below.refl _ _⟩
set_option maxHeartbeats 2000000 in
theorem szFrameS_some (b off n c : Nat) (M : Nat → FrT) (w : World) (hn : n ≤ 1048576) (hf : Cs w b off (n * 6) (MFFrame M)) (hs : ∀ i, i < n → ((M i).2.2.2.2.2).size ≤ maxLen) :
    Calls Try.prog 37 #[.slice (some ⟨b, off, none⟩) n c, .int .i64 1048576] w fun e w' => ∃ L : Int, e = .returned (.int .i64 L) ∧ (0 ≤ L → ∀ i, i < n → ((M i).2.2.2.2.2).size ≤ 1048576) ∧ Below w.heap.size w w' := by
  have hd : decide (1048576 - (n : Int) < 0) = false := by simp; omega
  have HS : Hid (∀ i, i < n → ((M i).2.2.2.2.2).size ≤ maxLen) := hs
  clear hs
  go_enter Try.func37, Try.ntmps37
  go_wp2_with fail
  go_loopw [1, 5] (fun l i wr => ∃ (k : Nat) (L : Int), k ≤ n ∧ i = .int .i64 k ∧ l = .int .i64 L ∧ 0 ≤ L ∧ L ≤ 1048576 ∧ (∀ i, i < k → ((M i).2.2.2.2.2).size ≤ 1048576) ∧ Below w.heap.size w wr) (fun _ i _ => n - (intOf i).toNat)
  case atStart => exact ⟨0, _, Nat.zero_le _, rfl, rfl, by omega, by omega, fun i hi => absurd hi (Nat.not_lt_zero _), Below.refl _ _⟩
  case round =>
    obtain ⟨k, L, hk, rfl, rfl, L0, L1, hall, hB⟩ := hrel
    have HA : Hid (∀ i, i < k → ((M i).2.2.2.2.2).size ≤ 1048576) := hall
    clear hall
    by_cases hlt : k < n
    · obtain ⟨x0, x1, x2, x3, x4, x5, hM⟩ := tupFrame M k
      obtain ⟨c0, c1, c2, c3, c4, c5⟩ := (hf.below hB hf.1).elFrame hlt hM
      have hx := HS.out k hlt
      rw [hM] at hx
      have hli : (k : Int) < (n : Int) := by omega
      by_cases hle : (x5.size : Int) ≤ L
      · go_wp2_with fail
        refine (szFrame_left x0 x1 x2 x3 x4 x5 L _ hx L0 L1).mono ?_
        rintro e w' ⟨rfl, hb⟩
        rw [if_pos hle]
        have hnl : ¬ L - (x5.size : Int) < 0 := by omega
        go_wp2_with fail
        go_roundw
        case rel =>
          refine ⟨k + 1, _, by omega, by go_num, rfl, by omega, by omega, fun i hi => ?_, hB.trans (hb.mono hB.size)⟩
          by_cases e : i = k
          · subst e; rw [hM]; show x5.size ≤ 1048576; omega
          · exact HA.out i (by omega)
        case measure => simp [intOf]; omega
      · have HL : Hid (¬ (x5.size : Int) ≤ L) := hle
        go_wp2_with fail
        refine (szFrame_left x0 x1 x2 x3 x4 x5 L _ hx L0 L1).mono ?_
        rintro e w' ⟨rfl, hb⟩
        rw [if_neg (Int.not_le.2 HL.out)]
        go_wp2_with fail
        go_ret
        exact ⟨-1, rfl, fun h => absurd h (by decide), hB.trans (hb.mono hB.size)⟩
    · have hkn : k = n := by omega
      subst hkn
      have hli : ¬ (k : Int) < (k : Int) := by omega
      go_wp2_with fail
      go_ret
      exact ⟨L, rfl, fun _ => HA.out, hB⟩
set_option maxHeartbeats 1000000 in
theorem szFrameS_zero (a : Option Addr) (c : Nat) (w : World) :
    Calls Try.prog 37 #[.slice a 0 c, .int .i64 1048576] w fun e w' => e = .returned (.int .i64 1048576) ∧ Below w.heap.size w w' := by
  go_enter Try.func37, Try.ntmps37
  go_wp2_with fail
  go_loopw [1, 5] (fun l i wr => i = .int .i64 0 ∧ l = .int .i64 1048576 ∧ w = wr) (fun _ i _ => 0)
  case atStart => exact ⟨rfl, rfl, by first | rfl | trivial⟩
  case round =>
    obtain ⟨rfl, rfl, rfl⟩ := hrel
    go_wp2_with fail
    go_ret
    exact ⟨rfl, Below.refl _ _⟩
theorem szFrameS_any (a : Option Addr) (n c : Nat) (M : Nat → FrT) (w : World) (hm : n ≤ maxLen) (h : SrcC w a (n * 6) (MFFrame M)) (hs : ∀ i, i < n → ((M i).2.2.2.2.2).size ≤ maxLen) :
    Calls Try.prog 37 #[.slice a n c, .int .i64 1048576] w fun e w' => ∃ L : Int, e = .returned (.int .i64 L) ∧ (0 ≤ L → n ≤ 1048576 ∧ ∀ i, i < n → ((M i).2.2.2.2.2).size ≤ 1048576) ∧ Below w.heap.size w w' := by
  by_cases hl : 1048576 < n
  · exact (szFrameS_long a n c w hm hl).mono fun e w' ⟨h1, h2⟩ => ⟨-1, h1, fun h => absurd h (by decide), h2⟩
  · rcases h with h0 | ⟨b, off, rfl, hf⟩
    · have hn0 : n = 0 := by omega
      subst hn0
      exact (szFrameS_zero a c w).mono fun e w' ⟨h1, h2⟩ => ⟨_, h1, fun _ => ⟨by omega, fun i hi => absurd hi (Nat.not_lt_zero _)⟩, h2⟩
    · exact (szFrameS_some b off n c M w (by omega) hf hs).mono fun e w' ⟨L, h1, h2, h3⟩ => ⟨L, h1, fun h => ⟨by omega, h2 h⟩, h3⟩
def rowObjFrame (n : Nat) : Obj := .cells (madeCells #[.int .i64 0, .int .i64 0, .int .i64 0, .int .i64 0, .int .i64 0, .string ⟨#[]⟩] (n * 6)) 33
theorem infoFrame : (Try.prog.info? 33).map (fun i => (i.zero, i.size, i.bytes)) = some (some (.agg #[.int .i64 0, .int .i64 0, .int .i64 0, .int .i64 0, .int .i64 0, .string ⟨#[]⟩]), 6, 56) := by kernel_rfl
theorem mk_rowFrame (n : Nat) (h : n ≤ 1048576) (w : World) : (Instr.makeSlice 24 (.int .i64 (n : Int)) (.int .i64 (n : Int))).run Try.prog w = .ok (.slice (some ⟨w.heap.size, 0, none⟩) n n) (w.alloc (rowObjFrame n)) := by
  obtain ⟨i, hi, hz⟩ := Option.map_eq_some_iff.1 infoFrame
  simp only [Prod.mk.injEq] at hz
  obtain ⟨h1, h2, h3⟩ := hz
  have hr := run_make (P := Try.prog) w 24 33 i _ Try.underlying24 hi h1 .i64 .i64 n n (by omega) (Int.le_refl _) (by rw [h3]; omega) (by omega)
  simp only [Int.toNat_natCast, h2] at hr
  exact hr
theorem rowObjFrame_is (w : World) (n : Nat) (F : Nat → Value) : RowF (w.alloc (rowObjFrame n)) w.heap.size 33 (n * 6) 0 F := by
  have h := World.rowIs_alloc w (madeCells #[.int .i64 0, .int .i64 0, .int .i64 0, .int .i64 0, .int .i64 0, .string ⟨#[]⟩] (n * 6)) 33 (fun i => (madeCells #[.int .i64 0, .int .i64 0, .int .i64 0, .int .i64 0, .int .i64 0, .string ⟨#[]⟩] (n * 6)).getD i undef) (fun i hi => by
    rw [Array.getElem?_eq_getElem hi]; exact congrArg some (by rw [Array.getD_eq_getD_getElem?, Array.getElem?_eq_getElem hi]; rfl))
  rw [size_madeCells] at h
  exact ⟨_, h, fun j hj => absurd hj (Nat.not_lt_zero _)⟩
set_option maxHeartbeats 4000000 in
theorem toFrameS_some (b off n c : Nat) (M : Nat → FrT) (w : World) (hn : n ≤ 1048576) (hf : Cs w b off (n * 6) (MFFrame M)) :
    Calls Try.prog 38 #[.slice (some ⟨b, off, none⟩) n c] w fun e w' => e = .returned (.slice (some ⟨w.heap.size, 0, none⟩) n n) ∧ RowF w' w.heap.size 33 (n * 6) (n * 6) (MFFrame M) ∧ Below w.heap.size w w' := by
  have hmk := mk_rowFrame n hn
  go_enter Try.func38, Try.ntmps38
  go_wp2_with fail
  clear hmk
  go_loopw [4] (fun i wr => ∃ k : Nat, k ≤ n ∧ i = .int .i64 k ∧ RowF wr w.heap.size 33 (n * 6) (k * 6) (MFFrame M) ∧ Below w.heap.size w wr) (fun i _ => n - (intOf i).toNat)
  case atStart => exact ⟨0, Nat.zero_le _, rfl, (rowObjFrame_is w n _).eqm (by omega), (Below.refl _ _).alloc (Nat.le_refl _) _⟩
  case round =>
    obtain ⟨k, hk, rfl, hrow, hB⟩ := hrel
    by_cases hlt : k < n
    · obtain ⟨x0, x1, x2, x3, x4, x5, hM⟩ := tupFrame M k
      obtain ⟨c0, c1, c2, c3, c4, c5⟩ := (hf.below hB hf.1).elFrame hlt hM
      obtain ⟨q0, q1, q2, q3, q4, q5⟩ := MFFrame_vals hM
      have hli : (k : Int) < (n : Int) := by omega
      have hlr := hrow.lt
      clear hM
      go_wp2_with fail
      refine (toFrame_any x0 x1 x2 x3 x4 x5 _).mono ?_
      rintro e w' ⟨rfl, hb⟩
      have row := RowF.below hb hlr hrow
      have hB2 := hB.trans (hb.mono hB.size)
      clear c0 c1 c2 c3 c4 c5 hrow hB hb
      have hlr2 := row.lt
      obtain ⟨⟨v0, e0⟩, f0⟩ := row.facts (k * 6) (by omega)
      obtain ⟨⟨v1, e1⟩, f1⟩ := row.facts (k * 6 + 1) (by omega)
      obtain ⟨⟨v2, e2⟩, f2⟩ := row.facts (k * 6 + 2) (by omega)
      obtain ⟨⟨v3, e3⟩, f3⟩ := row.facts (k * 6 + 3) (by omega)
      obtain ⟨⟨v4, e4⟩, f4⟩ := row.facts (k * 6 + 4) (by omega)
      obtain ⟨⟨v5, e5⟩, f5⟩ := row.facts (k * 6 + 5) (by omega)
      go_wp2_with fail
      go_roundw
      case rel => exact ⟨k + 1, by omega, by go_num, ((((((row.put (k * 6 + 1) (by omega) q0).put (k * 6 + 2) (by omega) q1).put (k * 6 + 3) (by omega) q2).put (k * 6 + 4) (by omega) q3).put (k * 6 + 5) (by omega) q4).put ((k + 1) * 6) (by omega) q5), ((((((hB2.setCell (Nat.le_refl _) _).setCell (Nat.le_refl _) _).setCell (Nat.le_refl _) _).setCell (Nat.le_refl _) _).setCell (Nat.le_refl _) _).setCell (Nat.le_refl _) _)⟩
      case measure => simp [intOf]; omega
    · have hkn : k = n := by omega
      subst hkn
      have hli : ¬ (k : Int) < (k : Int) := by omega
      go_wp2_with fail
      go_ret
      exact ⟨rfl, hrow, hB⟩
set_option maxHeartbeats 1000000 in
theorem toFrameS_empty (a : Option Addr) (c : Nat) (F : Nat → Value) (w : World) :
    Calls Try.prog 38 #[.slice a 0 c] w fun e w' => e = .returned (.slice (some ⟨w.heap.size, 0, none⟩) 0 0) ∧ RowF w' w.heap.size 33 (0 * 6) (0 * 6) F ∧ Below w.heap.size w w' := by
  have hmk := mk_rowFrame 0 (by omega)
  simp only [Int.ofNat_zero] at hmk
  go_enter Try.func38, Try.ntmps38
  go_wp2_with fail
  clear hmk
  go_loopw [4] (fun i wr => i = .int .i64 0 ∧ RowF wr w.heap.size 33 (0 * 6) 0 F ∧ Below w.heap.size w wr) (fun i _ => 0)
  case atStart => exact ⟨rfl, rowObjFrame_is w 0 F, (Below.refl _ _).alloc (Nat.le_refl _) _⟩
  case round =>
    obtain ⟨rfl, hrow, hB⟩ := hrel
    go_wp2_with fail
    go_ret
    exact ⟨rfl, hrow.eqm (by omega), hB⟩
theorem toFrameS_any (a : Option Addr) (n c : Nat) (M : Nat → FrT) (w : World) (hn : n ≤ 1048576) (h : SrcC w a (n * 6) (MFFrame M)) :
    Calls Try.prog 38 #[.slice a n c] w fun e w' => e = .returned (.slice (some ⟨w.heap.size, 0, none⟩) n n) ∧ RowF w' w.heap.size 33 (n * 6) (n * 6) (MFFrame M) ∧ Below w.heap.size w w' := by
  rcases h with h0 | ⟨b, off, rfl, h2⟩
  · have hn0 : n = 0 := by omega
    subst hn0
    exact toFrameS_empty a c _ w
  · exact toFrameS_some b off n c M w hn h2
set_option maxHeartbeats 8000000 in
theorem eqFrameS_some (b off b' off' n c c' : Nat) (M : Nat → FrT) (w : World) (hn : n ≤ maxLen) (hf : Cs w b off (n * 6) (MFFrame M)) (hg : Cs w b' off' (n * 6) (MFFrame M)) :
    Calls Try.prog 39 #[.slice (some ⟨b, off, none⟩) n c, .slice (some ⟨b', off', none⟩) n c'] w fun e w' => e = .returned (.bool true) ∧ Below w.heap.size w w' := by
  unfold maxLen at hn
  go_enter Try.func39, Try.ntmps39
  go_wp2_with fail
  go_loopw [5] (fun i wr => ∃ k : Nat, k ≤ n ∧ i = .int .i64 k ∧ Below w.heap.size w wr) (fun i _ => n - (intOf i).toNat)
  case atStart => exact ⟨0, Nat.zero_le _, rfl, Below.refl _ _⟩
  case round =>
    obtain ⟨k, hk, rfl, hB⟩ := hrel
    by_cases hlt : k < n
    · obtain ⟨x0, x1, x2, x3, x4, x5, hM⟩ := tupFrame M k
      obtain ⟨c0, c1, c2, c3, c4, c5⟩ := (hf.below hB hf.1).elFrame hlt hM
      obtain ⟨d0, d1, d2, d3, d4, d5⟩ := (hg.below hB hg.1).elFrame hlt hM
      have hb1 : b < wr.drew.heap.size := Nat.lt_of_lt_of_le hf.1 hB.size
      have hb2 : b' < wr.drew.heap.size := Nat.lt_of_lt_of_le hg.1 hB.size
      have hsz : w.heap.size ≤ wr.drew.heap.size := hB.size
      have hli : (k : Int) < (n : Int) := by omega
      clear hM
      go_wp2_with fail
      refine wp_region_held_drew (S := (fun w' => w'.cell? ⟨b, off + k * 6, none⟩ = some (.int .i64 x0) ∧ w'.cell? ⟨b, off + k * 6 + 1, none⟩ = some (.int .i64 x1) ∧ w'.cell? ⟨b, off + k * 6 + 2, none⟩ = some (.int .i64 x2) ∧ w'.cell? ⟨b, off + k * 6 + 3, none⟩ = some (.int .i64 x3) ∧ w'.cell? ⟨b, off + k * 6 + 4, none⟩ = some (.int .i64 x4) ∧ w'.cell? ⟨b, off + k * 6 + 5, none⟩ = some (.string x5) ∧ w'.cell? ⟨b', off' + k * 6, none⟩ = some (.int .i64 x0) ∧ w'.cell? ⟨b', off' + k * 6 + 1, none⟩ = some (.int .i64 x1) ∧ w'.cell? ⟨b', off' + k * 6 + 2, none⟩ = some (.int .i64 x2) ∧ w'.cell? ⟨b', off' + k * 6 + 3, none⟩ = some (.int .i64 x3) ∧ w'.cell? ⟨b', off' + k * 6 + 4, none⟩ = some (.int .i64 x4) ∧ w'.cell? ⟨b', off' + k * 6 + 5, none⟩ = some (.string x5))) (by kernel_rfl) ?_ (fun hHeld => ?_)
      · first | exact ⟨c0, c1, c2, c3, c4, c5, d0, d1, d2, d3, d4, d5⟩ | (simp (maxDischargeDepth := 6) [go_sem, *]; done)
      refine wpAnyH_take (i := 0) (v := ?_) (by rw [List.getElem?_toArray]; rfl) (by kernel_rfl) (by kernel_rfl) (by kernel_rfl) (by intro _ _ _ h; exact h) (Or.inl ⟨by rfl, ?_⟩) (by assumption) ?_
      rotate_left
      · (intro w hSw; (try dsimp only at hSw); go_simp; all_goals with_reducible rfl)
      (try simp only [Act.put, List.setIfInBounds_toArray, List.set_cons_zero, List.set_cons_succ])
      refine wpAnyH_take (i := 1) (v := ?_) (by rw [List.getElem?_toArray]; rfl) (by kernel_rfl) (by kernel_rfl) (by kernel_rfl) (by intro _ _ _ h; exact h) (Or.inl ⟨by rfl, ?_⟩) (by assumption) ?_
      rotate_left
      · (intro w hSw; (try dsimp only at hSw); go_simp; all_goals with_reducible rfl)
      (try simp only [Act.put, List.setIfInBounds_toArray, List.set_cons_zero, List.set_cons_succ])
      refine wpAnyH_take (i := 2) (v := ?_) (by rw [List.getElem?_toArray]; rfl) (by kernel_rfl) (by kernel_rfl) (by kernel_rfl) (by intro _ _ _ h; exact h) (Or.inl ⟨by rfl, ?_⟩) (by assumption) ?_
      rotate_left
      · (intro w hSw; (try dsimp only at hSw); go_simp; all_goals with_reducible rfl)
      (try simp only [Act.put, List.setIfInBounds_toArray, List.set_cons_zero, List.set_cons_succ])
      refine wpAnyH_take (i := 3) (v := ?_) (by rw [List.getElem?_toArray]; rfl) (by kernel_rfl) (by kernel_rfl) (by kernel_rfl) (by intro _ _ _ h; exact h) (Or.inl ⟨by rfl, ?_⟩) (by assumption) ?_
      rotate_left
      · (intro w hSw; (try dsimp only at hSw); go_simp; all_goals with_reducible rfl)
      (try simp only [Act.put, List.setIfInBounds_toArray, List.set_cons_zero, List.set_cons_succ])
      refine wpAnyH_take (i := 4) (v := ?_) (by rw [List.getElem?_toArray]; rfl) (by kernel_rfl) (by kernel_rfl) (by kernel_rfl) (by intro _ _ _ h; exact h) (Or.inl ⟨by rfl, ?_⟩) (by assumption) ?_
      rotate_left
      · (intro w hSw; (try dsimp only at hSw); go_simp; all_goals with_reducible rfl)
      (try simp only [Act.put, List.setIfInBounds_toArray, List.set_cons_zero, List.set_cons_succ])
      refine wpAnyH_take (i := 5) (v := ?_) (by rw [List.getElem?_toArray]; rfl) (by kernel_rfl) (by kernel_rfl) (by kernel_rfl) (by intro _ _ _ h; exact h) (Or.inl ⟨by rfl, ?_⟩) (by assumption) ?_
      rotate_left
      · (intro w hSw; (try dsimp only at hSw); go_simp; all_goals with_reducible rfl)
      (try simp only [Act.put, List.setIfInBounds_toArray, List.set_cons_zero, List.set_cons_succ])
      refine wpAnyH_take (i := 6) (v := ?_) (by rw [List.getElem?_toArray]; rfl) (by kernel_rfl) (by kernel_rfl) (by kernel_rfl) (by intro _ _ _ h; exact h) (Or.inl ⟨by rfl, ?_⟩) (by assumption) ?_
      rotate_left
      · (intro w hSw; (try dsimp only at hSw); go_simp; all_goals with_reducible rfl)
      (try simp only [Act.put, List.setIfInBounds_toArray, List.set_cons_zero, List.set_cons_succ])
      refine wpAnyH_take (i := 7) (v := ?_) (by rw [List.getElem?_toArray]; rfl) (by kernel_rfl) (by kernel_rfl) (by kernel_rfl) (by intro _ _ _ h; exact h) (Or.inl ⟨by rfl, ?_⟩) (by assumption) ?_
      rotate_left
      · (intro w hSw; (try dsimp only at hSw); go_simp; all_goals with_reducible rfl)
      (try simp only [Act.put, List.setIfInBounds_toArray, List.set_cons_zero, List.set_cons_succ])
      refine wpAnyH_ready (rs := [8]) (by kernel_rfl) (by simp) ?_
      refine AllReadyH.cons (by rw [List.getElem?_toArray]; rfl) (fun K hK => ?_) AllReadyH.nil
      go_simp
      refine (eqFrame_same _ _ _ _ _ _ _).mono ?_; rintro e w' ⟨rfl, hb⟩; (replace c0 := (hb.cell (p := ⟨b, off + k * 6, none⟩) hb1).trans c0); (replace c1 := (hb.cell (p := ⟨b, off + k * 6 + 1, none⟩) hb1).trans c1); (replace c2 := (hb.cell (p := ⟨b, off + k * 6 + 2, none⟩) hb1).trans c2); (replace c3 := (hb.cell (p := ⟨b, off + k * 6 + 3, none⟩) hb1).trans c3); (replace c4 := (hb.cell (p := ⟨b, off + k * 6 + 4, none⟩) hb1).trans c4); (replace c5 := (hb.cell (p := ⟨b, off + k * 6 + 5, none⟩) hb1).trans c5); (replace d0 := (hb.cell (p := ⟨b', off' + k * 6, none⟩) hb2).trans d0); (replace d1 := (hb.cell (p := ⟨b', off' + k * 6 + 1, none⟩) hb2).trans d1); (replace d2 := (hb.cell (p := ⟨b', off' + k * 6 + 2, none⟩) hb2).trans d2); (replace d3 := (hb.cell (p := ⟨b', off' + k * 6 + 3, none⟩) hb2).trans d3); (replace d4 := (hb.cell (p := ⟨b', off' + k * 6 + 4, none⟩) hb2).trans d4); (replace d5 := (hb.cell (p := ⟨b', off' + k * 6 + 5, none⟩) hb2).trans d5)
      (try go_wp2_with fail)
      refine hK.out _ _ ?_ (fun hHeld => ?_)
      · first | exact ⟨c0, c1, c2, c3, c4, c5, d0, d1, d2, d3, d4, d5⟩ | (simp (maxDischargeDepth := 6) [go_sem, *]; done)
      clear hK K
      (try simp only [Act.put, List.setIfInBounds_toArray, List.set_cons_zero, List.set_cons_succ])
      refine wpAnyH_take (i := 9) (v := ?_) (by rw [List.getElem?_toArray]; rfl) (by kernel_rfl) (by kernel_rfl) (by kernel_rfl) (by intro _ _ _ h; exact h) (Or.inl ⟨by rfl, ?_⟩) (by assumption) ?_
      rotate_left
      · (intro w hSw; (try dsimp only at hSw); go_simp; all_goals with_reducible rfl)
      (try simp only [Act.put, List.setIfInBounds_toArray, List.set_cons_zero, List.set_cons_succ])
      refine wpAnyH_done (by kernel_rfl) ?_ _
      go_wp2_with fail
      go_roundw
      case rel => exact ⟨k + 1, by omega, by go_num, (Below.drew hB).trans (hb.mono hsz)⟩
      case measure => simp [intOf]; omega
    · go_wp2_with fail
      go_ret
      exact ⟨rfl, hB⟩
set_option maxHeartbeats 400000 in
theorem eqFrameS_zero (a a' : Option Addr) (c c' : Nat) (w : World) :
    Calls Try.prog 39 #[.slice a 0 c, .slice a' 0 c'] w fun e w' => e = .returned (.bool true) ∧ Below w.heap.size w w' := by
  go_enter Try.func39, Try.ntmps39
  go_wp2_with fail
  go_loopw [5] (fun i wr => i = .int .i64 0 ∧ w = wr) (fun i _ => 0)
  case atStart => exact ⟨rfl, rfl⟩
  case round =>
    obtain ⟨rfl, rfl⟩ := hrel
    go_wp2_with fail
    go_ret
    exact ⟨rfl, Below.refl _ _⟩
theorem eqFrameS_src (a a' : Option Addr) (n c c' : Nat) (M : Nat → FrT) (w : World) (hn : n ≤ maxLen) (h : SrcC w a (n * 6) (MFFrame M)) (h' : SrcC w a' (n * 6) (MFFrame M)) :
    Calls Try.prog 39 #[.slice a n c, .slice a' n c'] w fun e w' => e = .returned (.bool true) ∧ Below w.heap.size w w' := by
  by_cases h0 : n = 0
  · subst h0; exact eqFrameS_zero a a' c c' w
  · rcases h with h | ⟨b, off, rfl, hp⟩
    · omega
    · rcases h' with h | ⟨b', off', rfl, hp'⟩
      · omega
      · exact eqFrameS_some b off b' off' n c c' M w hn hp hp'
def mkFrame (c : Nat) : Value := if c % 6 = 5 then .string (txt (1 + (c : Int))) else .int .i64 (1 + (c : Int))
theorem mkFrame_i {k j : Nat} {x : Int} (hj : j < 6) (hs : j ≠ 5) (h : x = 1 + ((k * 6 + j : Nat) : Int)) : mkFrame (k * 6 + j) = .int .i64 x := by
  have e : (k * 6 + j) % 6 = j := by omega
  rw [mkFrame, e, if_neg (by omega), h]
theorem mkFrame_s {k j : Nat} {x : Int} (hj : j < 6) (hs : j = 5) (h : x = 1 + ((k * 6 + j : Nat) : Int)) : mkFrame (k * 6 + j) = .string (txt x) := by
  have e : (k * 6 + j) % 6 = j := by omega
  rw [mkFrame, e, if_pos (by omega), h]
set_option maxHeartbeats 8000000 in
theorem markFrameS_row (b N n c : Nat) (w : World) (hn : n ≤ 1048576) (hN : n * 6 ≤ N) (h : RowF w b 33 N 0 mkFrame) :
    Calls Try.prog 42 #[.slice (some ⟨b, 0, none⟩) n c, .int .i64 1] w fun e w' => e = .returned (.int .i64 (1 + (n : Int) * 6)) ∧ RowF w' b 33 N (n * 6) mkFrame ∧ But b w w' := by
  go_enter Try.func42, Try.ntmps42
  go_wp2_with fail
  go_loopw [1, 5] (fun q i wr => ∃ (k : Nat) (Q : Int), k ≤ n ∧ i = .int .i64 k ∧ q = .int .i64 Q ∧ Q = 1 + (k : Int) * 6 ∧ RowF wr b 33 N (k * 6) mkFrame ∧ But b w wr) (fun _ i _ => n - (intOf i).toNat)
  case atStart => exact ⟨0, 1, Nat.zero_le _, rfl, rfl, by omega, h.eqm (by omega), But.refl _ _⟩
  case round =>
    obtain ⟨k, Q, hk, rfl, rfl, hQ, row, hB⟩ := hrel
    clear h
    have HQ : Hid (Q = 1 + (k : Int) * 6) := hQ
    by_cases hlt : k < n
    · have hli : (k : Int) < (n : Int) := by omega
      have Q0 : 0 < Q := by omega
      have Q1 : Q ≤ 8388609 * 6 := by omega
      clear hQ
      have hlr := row.lt
      obtain ⟨⟨v0, e0⟩, f0⟩ := row.facts (k * 6) (by omega)
      obtain ⟨⟨v1, e1⟩, f1⟩ := row.facts (k * 6 + 1) (by omega)
      obtain ⟨⟨v2, e2⟩, f2⟩ := row.facts (k * 6 + 2) (by omega)
      obtain ⟨⟨v3, e3⟩, f3⟩ := row.facts (k * 6 + 3) (by omega)
      obtain ⟨⟨v4, e4⟩, f4⟩ := row.facts (k * 6 + 4) (by omega)
      obtain ⟨⟨v5, e5⟩, f5⟩ := row.facts (k * 6 + 5) (by omega)
      go_wp2_with fail
      refine (markText_any _ _ (by omega) (by omega)).mono ?_
      rintro e w' ⟨rfl, hb⟩
      have row' := RowF.below' hb (RowF.put (RowF.put (RowF.put (RowF.put (RowF.put row (k * 6 + 1) (by omega) (mkFrame_i (k := k) (j := 0) (by decide) (by decide) (by have := HQ.out; omega))) (k * 6 + 2) (by omega) (mkFrame_i (k := k) (j := 1) (by decide) (by decide) (by have := HQ.out; omega))) (k * 6 + 3) (by omega) (mkFrame_i (k := k) (j := 2) (by decide) (by decide) (by have := HQ.out; omega))) (k * 6 + 4) (by omega) (mkFrame_i (k := k) (j := 3) (by decide) (by decide) (by have := HQ.out; omega))) (k * 6 + 5) (by omega) (mkFrame_i (k := k) (j := 4) (by decide) (by decide) (by have := HQ.out; omega)))
      have hB' : But b w w' := But.trans (((((hB.setCell _ _).setCell _ _).setCell _ _).setCell _ _).setCell _ _) (But.of_below hb)
      clear e0 f0 e1 f1 e2 f2 e3 f3 e4 f4 e5 f5 hb row hB hlr
      have row := row'
      have hB := hB'
      clear row' hB'
      have hlr := row.lt
      obtain ⟨⟨v0, e0⟩, f0⟩ := row.facts (k * 6) (by omega)
      obtain ⟨⟨v1, e1⟩, f1⟩ := row.facts (k * 6 + 1) (by omega)
      obtain ⟨⟨v2, e2⟩, f2⟩ := row.facts (k * 6 + 2) (by omega)
      obtain ⟨⟨v3, e3⟩, f3⟩ := row.facts (k * 6 + 3) (by omega)
      obtain ⟨⟨v4, e4⟩, f4⟩ := row.facts (k * 6 + 4) (by omega)
      obtain ⟨⟨v5, e5⟩, f5⟩ := row.facts (k * 6 + 5) (by omega)
      go_wp2_with fail
      go_roundw
      case rel => exact ⟨k + 1, _, by omega, by go_num, rfl, by have := HQ.out; omega, (RowF.put row ((k + 1) * 6) (by omega) (mkFrame_s (k := k) (j := 5) (by decide) (by decide) (by have := HQ.out; omega))), (hB.setCell _ _)⟩
      case measure => simp [intOf]; omega
    · have hkn : k = n := by omega
      subst hkn
      have hli : ¬ (k : Int) < (k : Int) := by omega
      subst hQ
      go_wp2_with fail
      go_ret
      exact ⟨rfl, row, hB⟩
set_option maxHeartbeats 400000 in
theorem markFrameS_zero (a : Option Addr) (c : Nat) (w : World) :
    Calls Try.prog 42 #[.slice a 0 c, .int .i64 1] w fun e w' => e = .returned (.int .i64 1) ∧ w = w' := by
  go_enter Try.func42, Try.ntmps42
  go_wp2_with fail
  go_loopw [1, 5] (fun q i wr => i = .int .i64 0 ∧ q = .int .i64 1 ∧ w = wr) (fun _ i _ => 0)
  case atStart => exact ⟨rfl, rfl, by first | rfl | trivial⟩
  case round =>
    obtain ⟨rfl, rfl, rfl⟩ := hrel
    go_wp2_with fail
    go_ret
    exact ⟨rfl, rfl⟩
theorem markFrameS_any (a : Option Addr) (n c base : Nat) (xs : List Value) (w : World) (hn : n ≤ 1048576) (hb : base ≤ w.heap.size) (h : w.ownsRow base 33 6 (.slice a n c) n xs) :
    Calls Try.prog 42 #[.slice a n c, .int .i64 1] w fun e w' => e = .returned (.int .i64 (1 + (n : Int) * 6)) ∧ SrcC w' a (n * 6) mkFrame ∧ Below base w w' := by
  rcases h.2 with ⟨he, h0⟩ | ⟨g, cap, cur, he, _⟩
  · subst h0
    exact (markFrameS_zero a c w).mono fun e w' ⟨h1, h2⟩ => ⟨h1, .inl (by omega), h2 ▸ Below.refl _ _⟩
  · simp at he
    obtain ⟨rfl, rfl⟩ := he
    obtain ⟨h1, h2, _, h3⟩ := ownF_row mkFrame h
    exact (markFrameS_row g (c * 6) n c w hn (Nat.mul_le_mul_right _ h2) h3).mono fun e w' ⟨r1, r2, r3⟩ => ⟨r1, .inr ⟨g, 0, rfl, r2.cs (Nat.mul_le_mul_right _ h2)⟩, r3.below h1 hb⟩
set_option maxRecDepth 100000 in
set_option maxHeartbeats 8000000 in
theorem heldFrameS_some (b off n c : Nat) (w : World) (hn : n ≤ 1048576) (h : Cs w b off (n * 6) mkFrame) :
    Calls Try.prog 43 #[.slice (some ⟨b, off, none⟩) n c, .int .i64 1] w fun e w' => e = .returned (.int .i64 (1 + (n : Int) * 6)) ∧ Below w.heap.size w w' := by
  have HP : Hid (Cs w b off (n * 6) mkFrame) := h
  clear h
  go_enter Try.func43, Try.ntmps43
  go_wp2_with fail
  go_loopw [1, 5] (fun q i wr => ∃ (k : Nat) (Q : Int), k ≤ n ∧ i = .int .i64 k ∧ q = .int .i64 Q ∧ Q = 1 + (k : Int) * 6 ∧ Below w.heap.size w wr) (fun _ i _ => n - (intOf i).toNat)
  case atStart => exact ⟨0, 1, Nat.zero_le _, rfl, rfl, by omega, Below.refl _ _⟩
  case round =>
    obtain ⟨k, Q, hk, rfl, rfl, hQ, hB⟩ := hrel
    have HQ : Hid (Q = 1 + (k : Int) * 6) := hQ
    by_cases hlt : k < n
    · have hli : (k : Int) < (n : Int) := by omega
      have Q0 : 0 < Q := by omega
      have Q1 : Q ≤ 8388609 * 6 := by omega
      have hP := HP.out.below hB HP.out.1
      clear hQ
      have c0 : wr.cell? ⟨b, off + k * 6, none⟩ = some (.int .i64 (Q)) := by have q := hP.2 (k * 6) (by omega); rw [show mkFrame (k * 6) = .int .i64 (Q) from mkFrame_i (k := k) (j := 0) (x := Q) (by decide) (by decide) (by have := HQ.out; omega)] at q; exact q
      have c1 : wr.cell? ⟨b, off + k * 6 + 1, none⟩ = some (.int .i64 (Q + 1)) := by have q := hP.2 (k * 6 + 1) (by omega); rw [show mkFrame (k * 6 + 1) = .int .i64 (Q + 1) from mkFrame_i (k := k) (j := 1) (x := Q + 1) (by decide) (by decide) (by have := HQ.out; omega)] at q; exact q
      have c2 : wr.cell? ⟨b, off + k * 6 + 2, none⟩ = some (.int .i64 (Q + 1 + 1)) := by have q := hP.2 (k * 6 + 2) (by omega); rw [show mkFrame (k * 6 + 2) = .int .i64 (Q + 1 + 1) from mkFrame_i (k := k) (j := 2) (x := Q + 1 + 1) (by decide) (by decide) (by have := HQ.out; omega)] at q; exact q
      have c3 : wr.cell? ⟨b, off + k * 6 + 3, none⟩ = some (.int .i64 (Q + 1 + 1 + 1)) := by have q := hP.2 (k * 6 + 3) (by omega); rw [show mkFrame (k * 6 + 3) = .int .i64 (Q + 1 + 1 + 1) from mkFrame_i (k := k) (j := 3) (x := Q + 1 + 1 + 1) (by decide) (by decide) (by have := HQ.out; omega)] at q; exact q
      have c4 : wr.cell? ⟨b, off + k * 6 + 4, none⟩ = some (.int .i64 (Q + 1 + 1 + 1 + 1)) := by have q := hP.2 (k * 6 + 4) (by omega); rw [show mkFrame (k * 6 + 4) = .int .i64 (Q + 1 + 1 + 1 + 1) from mkFrame_i (k := k) (j := 4) (x := Q + 1 + 1 + 1 + 1) (by decide) (by decide) (by have := HQ.out; omega)] at q; exact q
      have c5 : wr.cell? ⟨b, off + k * 6 + 5, none⟩ = some (.string (txt (Q + 1 + 1 + 1 + 1 + 1))) := by have q := hP.2 (k * 6 + 5) (by omega); rw [show mkFrame (k * 6 + 5) = .string (txt (Q + 1 + 1 + 1 + 1 + 1)) from mkFrame_s (k := k) (j := 5) (x := Q + 1 + 1 + 1 + 1 + 1) (by decide) (by decide) (by have := HQ.out; omega)] at q; exact q
      have hbl := hP.1
      go_wp2_with fail
      refine wp_region_held_drew (S := (fun w' => w'.cell? ⟨b, off + k * 6 + 5, none⟩ = some (.string (txt (Q + 1 + 1 + 1 + 1 + 1))))) (by kernel_rfl) ?_ (fun hHeld => ?_)
      · first | exact c5 | (simp (maxDischargeDepth := 6) [go_sem, *]; done)
      refine wpAnyH_take (i := 0) (v := ?_) (by rw [List.getElem?_toArray]; rfl) (by kernel_rfl) (by kernel_rfl) (by kernel_rfl) (by intro _ _ _ h; exact h) (Or.inl ⟨by rfl, ?_⟩) (by assumption) ?_
      rotate_left
      · (intro w hSw; (try dsimp only at hSw); go_simp; all_goals with_reducible rfl)
      (try simp only [Act.put, List.setIfInBounds_toArray, List.set_cons_zero, List.set_cons_succ])
      refine wpAnyH_take (i := 1) (v := ?_) (by rw [List.getElem?_toArray]; rfl) (by kernel_rfl) (by kernel_rfl) (by kernel_rfl) (by intro _ _ _ h; exact h) (Or.inl ⟨by rfl, ?_⟩) (by assumption) ?_
      rotate_left
      · (intro w hSw; (try dsimp only at hSw); go_simp; all_goals with_reducible rfl)
      (try simp only [Act.put, List.setIfInBounds_toArray, List.set_cons_zero, List.set_cons_succ])
      refine wpAnyH_take (i := 2) (v := ?_) (by rw [List.getElem?_toArray]; rfl) (by kernel_rfl) (by kernel_rfl) (by kernel_rfl) (by intro _ _ _ h; exact h) (Or.inl ⟨by rfl, ?_⟩) (by assumption) ?_
      rotate_left
      · (intro w hSw; (try dsimp only at hSw); go_simp; all_goals with_reducible rfl)
      (try simp only [Act.put, List.setIfInBounds_toArray, List.set_cons_zero, List.set_cons_succ])
      refine wpAnyH_take (i := 3) (v := ?_) (by rw [List.getElem?_toArray]; rfl) (by kernel_rfl) (by kernel_rfl) (by kernel_rfl) (by intro _ _ _ h; exact h) (Or.inl ⟨by rfl, ?_⟩) (by assumption) ?_
      rotate_left
      · (intro w hSw; (try dsimp only at hSw); go_simp; all_goals with_reducible rfl)
      (try simp only [Act.put, List.setIfInBounds_toArray, List.set_cons_zero, List.set_cons_succ])
      refine wpAnyH_take (i := 4) (v := ?_) (by rw [List.getElem?_toArray]; rfl) (by kernel_rfl) (by kernel_rfl) (by kernel_rfl) (by intro _ _ _ h; exact h) (Or.inl ⟨by rfl, ?_⟩) (by assumption) ?_
      rotate_left
      · (intro w hSw; (try dsimp only at hSw); go_simp; all_goals with_reducible rfl)
      (try simp only [Act.put, List.setIfInBounds_toArray, List.set_cons_zero, List.set_cons_succ])
      refine wpAnyH_take (i := 5) (v := ?_) (by rw [List.getElem?_toArray]; rfl) (by kernel_rfl) (by kernel_rfl) (by kernel_rfl) (by intro _ _ _ h; exact h) (Or.inl ⟨by rfl, ?_⟩) (by assumption) ?_
      rotate_left
      · (intro w hSw; (try dsimp only at hSw); go_simp; all_goals with_reducible rfl)
      (try simp only [Act.put, List.setIfInBounds_toArray, List.set_cons_zero, List.set_cons_succ])
      refine wpAnyH_ready (rs := [6]) (by kernel_rfl) (by simp) ?_
      refine AllReadyH.cons (by rw [List.getElem?_toArray]; rfl) (fun K hK => ?_) AllReadyH.nil
      go_simp
      refine (markText_any _ _ (by omega) (by omega)).mono ?_; rintro e w' ⟨rfl, hb⟩; (replace c5 := (hb.cell (p := ⟨b, off + k * 6 + 5, none⟩) hbl).trans c5)
      (try go_wp2_with fail)
      refine hK.out _ _ ?_ (fun hHeld => ?_)
      · first | exact c5 | (simp (maxDischargeDepth := 6) [go_sem, *]; done)
      clear hK K
      (try simp only [Act.put, List.setIfInBounds_toArray, List.set_cons_zero, List.set_cons_succ])
      refine wpAnyH_take (i := 7) (v := ?_) (by rw [List.getElem?_toArray]; rfl) (by kernel_rfl) (by kernel_rfl) (by kernel_rfl) (by intro _ _ _ h; exact h) (Or.inl ⟨by rfl, ?_⟩) (by assumption) ?_
      rotate_left
      · (intro w hSw; (try dsimp only at hSw); go_simp; all_goals with_reducible rfl)
      (try simp only [Act.put, List.setIfInBounds_toArray, List.set_cons_zero, List.set_cons_succ])
      refine wpAnyH_done (by kernel_rfl) ?_ _
      have hB' := (Below.drew hB).trans (hb.mono hB.size)
      have hP' := (Cs.drew hP).below hb hbl
      clear hb hB hP hHeld c0 c1 c2 c3 c4 c5
      have hB := hB'
      have hP := hP'
      clear hB' hP' hbl
      generalize txt (Q + 1 + 1 + 1 + 1 + 1) = tx5 at *
      go_wp2_with fail
      go_roundw
      case rel => exact ⟨k + 1, _, by omega, by go_num, rfl, by have := HQ.out; omega, hB⟩
      case measure => simp [intOf]; omega
    · have hkn : k = n := by omega
      subst hkn
      have hli : ¬ (k : Int) < (k : Int) := by omega
      subst hQ
      go_wp2_with fail
      go_ret
      exact ⟨rfl, hB⟩
set_option maxHeartbeats 400000 in
theorem heldFrameS_zero (a : Option Addr) (c : Nat) (w : World) :
    Calls Try.prog 43 #[.slice a 0 c, .int .i64 1] w fun e w' => e = .returned (.int .i64 1) ∧ w = w' := by
  go_enter Try.func43, Try.ntmps43
  go_wp2_with fail
  go_loopw [1, 5] (fun q i wr => i = .int .i64 0 ∧ q = .int .i64 1 ∧ w = wr) (fun _ i _ => 0)
  case atStart => exact ⟨rfl, rfl, by first | rfl | trivial⟩
  case round =>
    obtain ⟨rfl, rfl, rfl⟩ := hrel
    go_wp2_with fail
    go_ret
    exact ⟨rfl, rfl⟩
theorem heldFrameS_any (a : Option Addr) (n c : Nat) (w : World) (hn : n ≤ 1048576) (h : SrcC w a (n * 6) mkFrame) :
    Calls Try.prog 43 #[.slice a n c, .int .i64 1] w fun e w' => e = .returned (.int .i64 (1 + (n : Int) * 6)) ∧ Below w.heap.size w w' := by
  rcases h with h0 | ⟨b, off, rfl, hp⟩
  · have hn0 : n = 0 := by omega
    subst hn0
    exact (heldFrameS_zero a c w).mono fun e w' ⟨h1, h2⟩ => ⟨h1, h2 ▸ Below.refl _ _⟩
  · exact heldFrameS_some b off n c w hn hp
end Go.Proofs.Ytnjoldjefknpbaa
