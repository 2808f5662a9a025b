/- Rows of messages: what the laws make of them, and whether two are the same. -/
import Derived.Test.YtnhkpbbkappclaaJ1
import Derived.Test.YtnhkpbbkappclaaH12
import Derived.Deep.RegionHeld3
import Derived.WalkKit
import Derived.WalkSpells
import Derived.WalkLawsBesides
import Derived.Deep.RegionHeld
namespace Go.Proofs.Ytnhkpbbkappclaa
open Go.RowKit
set_option linter.unusedVariables false
set_option maxHeartbeats 1000000 in
theorem szMsg_left (k fr tu no lo hi sl : Int) (s : ByteArray) (L : Int) (w : World) (hs : s.size ≤ maxLen) (L0 : 0 ≤ L) (L1 : L ≤ 1048576) :
    Calls Try.prog 7 #[.agg #[.int .i64 k, .int .i64 fr, .int .i64 tu, .int .i64 no, .int .i64 lo, .int .i64 hi, .int .i64 sl, .string s], .int .i64 L] w fun e w' => e = .returned (.int .i64 (if (s.size : Int) ≤ L then L - (s.size : Int) else -1)) ∧ Below w.heap.size w w' := by
  unfold maxLen at hs
  have B0 := (Below.refl w.heap.size w).alloc (Nat.le_refl _) (.cells #[.int .i64 k, .int .i64 fr, .int .i64 tu, .int .i64 no, .int .i64 lo, .int .i64 hi, .int .i64 sl, .string s] 25)
  by_cases h : (s.size : Int) ≤ L
  · rw [if_pos h]
    have hd : decide (L - (s.size : Int) < 0) = false := by simp; omega
    go_enter Try.func7, Try.ntmps7
    go_wp2
    go_ret
    exact ⟨rfl, B0⟩
  · rw [if_neg h]
    have hd : decide (L - (s.size : Int) < 0) = true := by simp; omega
    go_enter Try.func7, Try.ntmps7
    go_wp2
    go_ret
    exact ⟨rfl, B0⟩
def MCMsg (M : MT) : Nat → Value
  | 0 => .int .i64 M.1
  | 1 => .int .i64 M.2.1
  | 2 => .int .i64 M.2.2.1
  | 3 => .int .i64 M.2.2.2.1
  | 4 => .int .i64 M.2.2.2.2.1
  | 5 => .int .i64 M.2.2.2.2.2.1
  | 6 => .int .i64 M.2.2.2.2.2.2.1
  | _ => .string M.2.2.2.2.2.2.2
def MFMsg (M : Nat → MT) (c : Nat) : Value := MCMsg (M (c / 8)) (c % 8)
theorem MFMsg_at (M : Nat → MT) (k j : Nat) (hj : j < 8) : MFMsg M (k * 8 + j) = MCMsg (M k) j := by
  have h1 : (k * 8 + j) / 8 = k := by omega
  have h2 : (k * 8 + j) % 8 = j := by omega
  rw [MFMsg, h1, h2]
theorem MFMsg_vals {M : Nat → MT} {k : Nat} {x0 : Int} {x1 : Int} {x2 : Int} {x3 : Int} {x4 : Int} {x5 : Int} {x6 : Int} {x7 : ByteArray} (hM : M k = (x0, x1, x2, x3, x4, x5, x6, x7)) : MFMsg M (k * 8) = .int .i64 x0 ∧ MFMsg M (k * 8 + 1) = .int .i64 x1 ∧ MFMsg M (k * 8 + 2) = .int .i64 x2 ∧ MFMsg M (k * 8 + 3) = .int .i64 x3 ∧ MFMsg M (k * 8 + 4) = .int .i64 x4 ∧ MFMsg M (k * 8 + 5) = .int .i64 x5 ∧ MFMsg M (k * 8 + 6) = .int .i64 x6 ∧ MFMsg M (k * 8 + 7) = .string x7 :=
  ⟨by have q := MFMsg_at M k 0 (by decide); rw [hM] at q; exact q, by have q := MFMsg_at M k 1 (by decide); rw [hM] at q; exact q, by have q := MFMsg_at M k 2 (by decide); rw [hM] at q; exact q, by have q := MFMsg_at M k 3 (by decide); rw [hM] at q; exact q, by have q := MFMsg_at M k 4 (by decide); rw [hM] at q; exact q, by have q := MFMsg_at M k 5 (by decide); rw [hM] at q; exact q, by have q := MFMsg_at M k 6 (by decide); rw [hM] at q; exact q, by have q := MFMsg_at M k 7 (by decide); rw [hM] at q; exact q⟩
theorem Cs.elMsg {w : World} {b off n k : Nat} {M : Nat → MT} {x0 : Int} {x1 : Int} {x2 : Int} {x3 : Int} {x4 : Int} {x5 : Int} {x6 : Int} {x7 : ByteArray} (h : Cs w b off (n * 8) (MFMsg M)) (hk : k < n) (hM : M k = (x0, x1, x2, x3, x4, x5, x6, x7)) : w.cell? ⟨b, off + k * 8, none⟩ = some (.int .i64 x0) ∧ w.cell? ⟨b, off + k * 8 + 1, none⟩ = some (.int .i64 x1) ∧ w.cell? ⟨b, off + k * 8 + 2, none⟩ = some (.int .i64 x2) ∧ w.cell? ⟨b, off + k * 8 + 3, none⟩ = some (.int .i64 x3) ∧ w.cell? ⟨b, off + k * 8 + 4, none⟩ = some (.int .i64 x4) ∧ w.cell? ⟨b, off + k * 8 + 5, none⟩ = some (.int .i64 x5) ∧ w.cell? ⟨b, off + k * 8 + 6, none⟩ = some (.int .i64 x6) ∧ w.cell? ⟨b, off + k * 8 + 7, none⟩ = some (.string x7) := by
  obtain ⟨q0, q1, q2, q3, q4, q5, q6, q7⟩ := MFMsg_vals hM
  exact ⟨by have := h.2 (k * 8) (by omega); rw [q0] at this; exact this, by have := h.2 (k * 8 + 1) (by omega); rw [q1] at this; exact this, by have := h.2 (k * 8 + 2) (by omega); rw [q2] at this; exact this, by have := h.2 (k * 8 + 3) (by omega); rw [q3] at this; exact this, by have := h.2 (k * 8 + 4) (by omega); rw [q4] at this; exact this, by have := h.2 (k * 8 + 5) (by omega); rw [q5] at this; exact this, by have := h.2 (k * 8 + 6) (by omega); rw [q6] at this; exact this, by have := h.2 (k * 8 + 7) (by omega); rw [q7] at this; exact this⟩
theorem tupMsg (M : Nat → MT) (k : Nat) : ∃ (x0 : Int) (x1 : Int) (x2 : Int) (x3 : Int) (x4 : Int) (x5 : Int) (x6 : Int) (x7 : ByteArray), M k = (x0, x1, x2, x3, x4, x5, x6, x7) := ⟨_, _, _, _, _, _, _, _, rfl⟩
set_option maxHeartbeats 1000000 in
theorem szMsgS_long (a : Option Addr) (n c : Nat) (w : World) (hm : n ≤ maxLen) (h : 1048576 < n) :
    Calls Try.prog 18 #[.slice a n c, .int .i64 1048576] w fun e w' => e = .returned (.int .i64 (-1)) ∧ Below w.heap.size w w' := by
  unfold maxLen at hm
  have hd : decide (1048576 - (n : Int) < 0) = true := by simp; omega
  go_enter Try.func18, Try.ntmps18
  go_wp2_with fail
  go_ret
  exact ⟨rfl, Below.refl _ _⟩
set_option maxHeartbeats 2000000 in
theorem szMsgS_some (b off n c : Nat) (M : Nat → MT) (w : World) (hn : n ≤ 1048576) (hf : Cs w b off (n * 8) (MFMsg M)) (hs : ∀ i, i < n → ((M i).2.2.2.2.2.2.2).size ≤ maxLen) :
    Calls Try.prog 18 #[.slice (some ⟨b, off, none⟩) n c, .int .i64 1048576] w fun e w' => ∃ L : Int, e = .returned (.int .i64 L) ∧ (0 ≤ L → ∀ i, i < n → ((M i).2.2.2.2.2.2.2).size ≤ 1048576) ∧ Below w.heap.size w w' := by
  have hd : decide (1048576 - (n : Int) < 0) = false := by simp; omega
  have HS : Hid (∀ i, i < n → ((M i).2.2.2.2.2.2.2).size ≤ maxLen) := hs
  clear hs
  go_enter Try.func18, Try.ntmps18
  go_wp2_with fail
  go_loopw [1, 5] (fun l i wr => ∃ (k : Nat) (L : Int), k ≤ n ∧ i = .int .i64 k ∧ l = .int .i64 L ∧ 0 ≤ L ∧ L ≤ 1048576 ∧ (∀ i, i < k → ((M i).2.2.2.2.2.2.2).size ≤ 1048576) ∧ Below w.heap.size w wr) (fun _ i _ => n - (intOf i).toNat)
  case atStart => exact ⟨0, _, Nat.zero_le _, rfl, rfl, by omega, by omega, fun i hi => absurd hi (Nat.not_lt_zero _), Below.refl _ _⟩
  case round =>
    obtain ⟨k, L, hk, rfl, rfl, L0, L1, hall, hB⟩ := hrel
    have HA : Hid (∀ i, i < k → ((M i).2.2.2.2.2.2.2).size ≤ 1048576) := hall
    clear hall
    by_cases hlt : k < n
    · obtain ⟨x0, x1, x2, x3, x4, x5, x6, x7, hM⟩ := tupMsg M k
      obtain ⟨c0, c1, c2, c3, c4, c5, c6, c7⟩ := (hf.below hB hf.1).elMsg hlt hM
      have hx := HS.out k hlt
      rw [hM] at hx
      have hli : (k : Int) < (n : Int) := by omega
      by_cases hle : (x7.size : Int) ≤ L
      · go_wp2_with fail
        refine (szMsg_left x0 x1 x2 x3 x4 x5 x6 x7 L _ hx L0 L1).mono ?_
        rintro e w' ⟨rfl, hb⟩
        rw [if_pos hle]
        have hnl : ¬ L - (x7.size : Int) < 0 := by omega
        go_wp2_with fail
        go_roundw
        case rel =>
          refine ⟨k + 1, _, by omega, by go_num, rfl, by omega, by omega, fun i hi => ?_, hB.trans (hb.mono hB.size)⟩
          by_cases e : i = k
          · subst e; rw [hM]; show x7.size ≤ 1048576; omega
          · exact HA.out i (by omega)
        case measure => simp [intOf]; omega
      · have HL : Hid (¬ (x7.size : Int) ≤ L) := hle
        go_wp2_with fail
        refine (szMsg_left x0 x1 x2 x3 x4 x5 x6 x7 L _ hx L0 L1).mono ?_
        rintro e w' ⟨rfl, hb⟩
        rw [if_neg (Int.not_le.2 HL.out)]
        go_wp2_with fail
        go_ret
        exact ⟨-1, rfl, fun h => absurd h (by decide), hB.trans (hb.mono hB.size)⟩
    · have hkn : k = n := by omega
      subst hkn
      have hli : ¬ (k : Int) < (k : Int) := by omega
      go_wp2_with fail
      go_ret
      exact ⟨L, rfl, fun _ => HA.out, hB⟩
set_option maxHeartbeats 1000000 in
theorem szMsgS_zero (a : Option Addr) (c : Nat) (w : World) :
    Calls Try.prog 18 #[.slice a 0 c, .int .i64 1048576] w fun e w' => e = .returned (.int .i64 1048576) ∧ Below w.heap.size w w' := by
  go_enter Try.func18, Try.ntmps18
  go_wp2_with fail
  go_loopw [1, 5] (fun l i wr => i = .int .i64 0 ∧ l = .int .i64 1048576 ∧ w = wr) (fun _ i _ => 0)
  case atStart => exact ⟨rfl, rfl, by first | rfl | trivial⟩
  case round =>
    obtain ⟨rfl, rfl, rfl⟩ := hrel
    go_wp2_with fail
    go_ret
    exact ⟨rfl, Below.refl _ _⟩
theorem szMsgS_any (a : Option Addr) (n c : Nat) (M : Nat → MT) (w : World) (hm : n ≤ maxLen) (h : SrcC w a (n * 8) (MFMsg M)) (hs : ∀ i, i < n → ((M i).2.2.2.2.2.2.2).size ≤ maxLen) :
    Calls Try.prog 18 #[.slice a n c, .int .i64 1048576] w fun e w' => ∃ L : Int, e = .returned (.int .i64 L) ∧ (0 ≤ L → n ≤ 1048576 ∧ ∀ i, i < n → ((M i).2.2.2.2.2.2.2).size ≤ 1048576) ∧ Below w.heap.size w w' := by
  by_cases hl : 1048576 < n
  · exact (szMsgS_long a n c w hm hl).mono fun e w' ⟨h1, h2⟩ => ⟨-1, h1, fun h => absurd h (by decide), h2⟩
  · rcases h with h0 | ⟨b, off, rfl, hf⟩
    · have hn0 : n = 0 := by omega
      subst hn0
      exact (szMsgS_zero a c w).mono fun e w' ⟨h1, h2⟩ => ⟨_, h1, fun _ => ⟨by omega, fun i hi => absurd hi (Nat.not_lt_zero _)⟩, h2⟩
    · exact (szMsgS_some b off n c M w (by omega) hf hs).mono fun e w' ⟨L, h1, h2, h3⟩ => ⟨L, h1, fun h => ⟨by omega, h2 h⟩, h3⟩
def rowObjMsg (n : Nat) : Obj := .cells (madeCells #[.int .i64 0, .int .i64 0, .int .i64 0, .int .i64 0, .int .i64 0, .int .i64 0, .int .i64 0, .string ⟨#[]⟩] (n * 8)) 32
theorem infoMsg : (Try.prog.info? 32).map (fun i => (i.zero, i.size, i.bytes)) = some (some (.agg #[.int .i64 0, .int .i64 0, .int .i64 0, .int .i64 0, .int .i64 0, .int .i64 0, .int .i64 0, .string ⟨#[]⟩]), 8, 72) := by kernel_rfl
theorem mk_rowMsg (n : Nat) (h : n ≤ 1048576) (w : World) : (Instr.makeSlice 45 (.int .i64 (n : Int)) (.int .i64 (n : Int))).run Try.prog w = .ok (.slice (some ⟨w.heap.size, 0, none⟩) n n) (w.alloc (rowObjMsg n)) := by
  obtain ⟨i, hi, hz⟩ := Option.map_eq_some_iff.1 infoMsg
  simp only [Prod.mk.injEq] at hz
  obtain ⟨h1, h2, h3⟩ := hz
  have hr := run_make (P := Try.prog) w 45 32 i _ Try.underlying45 hi h1 .i64 .i64 n n (by omega) (Int.le_refl _) (by rw [h3]; omega) (by omega)
  simp only [Int.toNat_natCast, h2] at hr
  exact hr
theorem rowObjMsg_is (w : World) (n : Nat) (F : Nat → Value) : RowF (w.alloc (rowObjMsg n)) w.heap.size 32 (n * 8) 0 F := by
  have h := World.rowIs_alloc w (madeCells #[.int .i64 0, .int .i64 0, .int .i64 0, .int .i64 0, .int .i64 0, .int .i64 0, .int .i64 0, .string ⟨#[]⟩] (n * 8)) 32 (fun i => (madeCells #[.int .i64 0, .int .i64 0, .int .i64 0, .int .i64 0, .int .i64 0, .int .i64 0, .int .i64 0, .string ⟨#[]⟩] (n * 8)).getD i undef) (fun i hi => by
    rw [Array.getElem?_eq_getElem hi]; exact congrArg some (by rw [Array.getD_eq_getD_getElem?, Array.getElem?_eq_getElem hi]; rfl))
  rw [size_madeCells] at h
  exact ⟨_, h, fun j hj => absurd hj (Nat.not_lt_zero _)⟩
set_option maxHeartbeats 4000000 in
theorem toMsgS_some (b off n c : Nat) (M : Nat → MT) (w : World) (hn : n ≤ 1048576) (hf : Cs w b off (n * 8) (MFMsg M)) :
    Calls Try.prog 20 #[.slice (some ⟨b, off, none⟩) n c] w fun e w' => e = .returned (.slice (some ⟨w.heap.size, 0, none⟩) n n) ∧ RowF w' w.heap.size 32 (n * 8) (n * 8) (MFMsg M) ∧ Below w.heap.size w w' := by
  have hmk := mk_rowMsg n hn
  go_enter Try.func20, Try.ntmps20
  go_wp2_with fail
  clear hmk
  go_loopw [4] (fun i wr => ∃ k : Nat, k ≤ n ∧ i = .int .i64 k ∧ RowF wr w.heap.size 32 (n * 8) (k * 8) (MFMsg M) ∧ Below w.heap.size w wr) (fun i _ => n - (intOf i).toNat)
  case atStart => exact ⟨0, Nat.zero_le _, rfl, (rowObjMsg_is w n _).eqm (by omega), (Below.refl _ _).alloc (Nat.le_refl _) _⟩
  case round =>
    obtain ⟨k, hk, rfl, hrow, hB⟩ := hrel
    by_cases hlt : k < n
    · obtain ⟨x0, x1, x2, x3, x4, x5, x6, x7, hM⟩ := tupMsg M k
      obtain ⟨c0, c1, c2, c3, c4, c5, c6, c7⟩ := (hf.below hB hf.1).elMsg hlt hM
      obtain ⟨q0, q1, q2, q3, q4, q5, q6, q7⟩ := MFMsg_vals hM
      have hli : (k : Int) < (n : Int) := by omega
      have hlr := hrow.lt
      clear hM
      go_wp2_with fail
      refine (toMsg_any x0 x1 x2 x3 x4 x5 x6 x7 _).mono ?_
      rintro e w' ⟨rfl, hb⟩
      have row := RowF.below hb hlr hrow
      have hB2 := hB.trans (hb.mono hB.size)
      clear c0 c1 c2 c3 c4 c5 c6 c7 hrow hB hb
      have hlr2 := row.lt
      obtain ⟨⟨v0, e0⟩, f0⟩ := row.facts (k * 8) (by omega)
      obtain ⟨⟨v1, e1⟩, f1⟩ := row.facts (k * 8 + 1) (by omega)
      obtain ⟨⟨v2, e2⟩, f2⟩ := row.facts (k * 8 + 2) (by omega)
      obtain ⟨⟨v3, e3⟩, f3⟩ := row.facts (k * 8 + 3) (by omega)
      obtain ⟨⟨v4, e4⟩, f4⟩ := row.facts (k * 8 + 4) (by omega)
      obtain ⟨⟨v5, e5⟩, f5⟩ := row.facts (k * 8 + 5) (by omega)
      obtain ⟨⟨v6, e6⟩, f6⟩ := row.facts (k * 8 + 6) (by omega)
      obtain ⟨⟨v7, e7⟩, f7⟩ := row.facts (k * 8 + 7) (by omega)
      go_wp2_with fail
      go_roundw
      case rel => exact ⟨k + 1, by omega, by go_num, ((((((((row.put (k * 8 + 1) (by omega) q0).put (k * 8 + 2) (by omega) q1).put (k * 8 + 3) (by omega) q2).put (k * 8 + 4) (by omega) q3).put (k * 8 + 5) (by omega) q4).put (k * 8 + 6) (by omega) q5).put (k * 8 + 7) (by omega) q6).put ((k + 1) * 8) (by omega) q7), ((((((((hB2.setCell (Nat.le_refl _) _).setCell (Nat.le_refl _) _).setCell (Nat.le_refl _) _).setCell (Nat.le_refl _) _).setCell (Nat.le_refl _) _).setCell (Nat.le_refl _) _).setCell (Nat.le_refl _) _).setCell (Nat.le_refl _) _)⟩
      case measure => simp [intOf]; omega
    · have hkn : k = n := by omega
      subst hkn
      have hli : ¬ (k : Int) < (k : Int) := by omega
      go_wp2_with fail
      go_ret
      exact ⟨rfl, hrow, hB⟩
set_option maxHeartbeats 1000000 in
theorem toMsgS_empty (a : Option Addr) (c : Nat) (F : Nat → Value) (w : World) :
    Calls Try.prog 20 #[.slice a 0 c] w fun e w' => e = .returned (.slice (some ⟨w.heap.size, 0, none⟩) 0 0) ∧ RowF w' w.heap.size 32 (0 * 8) (0 * 8) F ∧ Below w.heap.size w w' := by
  have hmk := mk_rowMsg 0 (by omega)
  simp only [Int.ofNat_zero] at hmk
  go_enter Try.func20, Try.ntmps20
  go_wp2_with fail
  clear hmk
  go_loopw [4] (fun i wr => i = .int .i64 0 ∧ RowF wr w.heap.size 32 (0 * 8) 0 F ∧ Below w.heap.size w wr) (fun i _ => 0)
  case atStart => exact ⟨rfl, rowObjMsg_is w 0 F, (Below.refl _ _).alloc (Nat.le_refl _) _⟩
  case round =>
    obtain ⟨rfl, hrow, hB⟩ := hrel
    go_wp2_with fail
    go_ret
    exact ⟨rfl, hrow.eqm (by omega), hB⟩
theorem toMsgS_any (a : Option Addr) (n c : Nat) (M : Nat → MT) (w : World) (hn : n ≤ 1048576) (h : SrcC w a (n * 8) (MFMsg M)) :
    Calls Try.prog 20 #[.slice a n c] w fun e w' => e = .returned (.slice (some ⟨w.heap.size, 0, none⟩) n n) ∧ RowF w' w.heap.size 32 (n * 8) (n * 8) (MFMsg M) ∧ Below w.heap.size w w' := by
  rcases h with h0 | ⟨b, off, rfl, h2⟩
  · have hn0 : n = 0 := by omega
    subst hn0
    exact toMsgS_empty a c _ w
  · exact toMsgS_some b off n c M w hn h2
set_option maxHeartbeats 8000000 in
theorem eqMsgS_some (b off b' off' n c c' : Nat) (M : Nat → MT) (w : World) (hn : n ≤ maxLen) (hf : Cs w b off (n * 8) (MFMsg M)) (hg : Cs w b' off' (n * 8) (MFMsg M)) :
    Calls Try.prog 22 #[.slice (some ⟨b, off, none⟩) n c, .slice (some ⟨b', off', none⟩) n c'] w fun e w' => e = .returned (.bool true) ∧ Below w.heap.size w w' := by
  unfold maxLen at hn
  go_enter Try.func22, Try.ntmps22
  go_wp2_with fail
  go_loopw [5] (fun i wr => ∃ k : Nat, k ≤ n ∧ i = .int .i64 k ∧ Below w.heap.size w wr) (fun i _ => n - (intOf i).toNat)
  case atStart => exact ⟨0, Nat.zero_le _, rfl, Below.refl _ _⟩
  case round =>
    obtain ⟨k, hk, rfl, hB⟩ := hrel
    by_cases hlt : k < n
    · obtain ⟨x0, x1, x2, x3, x4, x5, x6, x7, hM⟩ := tupMsg M k
      obtain ⟨c0, c1, c2, c3, c4, c5, c6, c7⟩ := (hf.below hB hf.1).elMsg hlt hM
      obtain ⟨d0, d1, d2, d3, d4, d5, d6, d7⟩ := (hg.below hB hg.1).elMsg hlt hM
      have hb1 : b < wr.drew.heap.size := Nat.lt_of_lt_of_le hf.1 hB.size
      have hb2 : b' < wr.drew.heap.size := Nat.lt_of_lt_of_le hg.1 hB.size
      have hsz : w.heap.size ≤ wr.drew.heap.size := hB.size
      have hli : (k : Int) < (n : Int) := by omega
      clear hM
      go_wp2_with fail
      refine wp_region_held_drew (S := (fun w' => w'.cell? ⟨b, off + k * 8, none⟩ = some (.int .i64 x0) ∧ w'.cell? ⟨b, off + k * 8 + 1, none⟩ = some (.int .i64 x1) ∧ w'.cell? ⟨b, off + k * 8 + 2, none⟩ = some (.int .i64 x2) ∧ w'.cell? ⟨b, off + k * 8 + 3, none⟩ = some (.int .i64 x3) ∧ w'.cell? ⟨b, off + k * 8 + 4, none⟩ = some (.int .i64 x4) ∧ w'.cell? ⟨b, off + k * 8 + 5, none⟩ = some (.int .i64 x5) ∧ w'.cell? ⟨b, off + k * 8 + 6, none⟩ = some (.int .i64 x6) ∧ w'.cell? ⟨b, off + k * 8 + 7, none⟩ = some (.string x7) ∧ w'.cell? ⟨b', off' + k * 8, none⟩ = some (.int .i64 x0) ∧ w'.cell? ⟨b', off' + k * 8 + 1, none⟩ = some (.int .i64 x1) ∧ w'.cell? ⟨b', off' + k * 8 + 2, none⟩ = some (.int .i64 x2) ∧ w'.cell? ⟨b', off' + k * 8 + 3, none⟩ = some (.int .i64 x3) ∧ w'.cell? ⟨b', off' + k * 8 + 4, none⟩ = some (.int .i64 x4) ∧ w'.cell? ⟨b', off' + k * 8 + 5, none⟩ = some (.int .i64 x5) ∧ w'.cell? ⟨b', off' + k * 8 + 6, none⟩ = some (.int .i64 x6) ∧ w'.cell? ⟨b', off' + k * 8 + 7, none⟩ = some (.string x7))) (by kernel_rfl) ?_ (fun hHeld => ?_)
      · first | exact ⟨c0, c1, c2, c3, c4, c5, c6, c7, d0, d1, d2, d3, d4, d5, d6, d7⟩ | (simp (maxDischargeDepth := 6) [go_sem, *]; done)
      refine wpAnyH_take (i := 0) (v := ?_) (by rw [List.getElem?_toArray]; rfl) (by kernel_rfl) (by kernel_rfl) (by kernel_rfl) (by intro _ _ _ h; exact h) (Or.inl ⟨by rfl, ?_⟩) (by assumption) ?_
      rotate_left
      · (intro w hSw; (try dsimp only at hSw); go_simp; all_goals with_reducible rfl)
      (try simp only [Act.put, List.setIfInBounds_toArray, List.set_cons_zero, List.set_cons_succ])
      refine wpAnyH_take (i := 1) (v := ?_) (by rw [List.getElem?_toArray]; rfl) (by kernel_rfl) (by kernel_rfl) (by kernel_rfl) (by intro _ _ _ h; exact h) (Or.inl ⟨by rfl, ?_⟩) (by assumption) ?_
      rotate_left
      · (intro w hSw; (try dsimp only at hSw); go_simp; all_goals with_reducible rfl)
      (try simp only [Act.put, List.setIfInBounds_toArray, List.set_cons_zero, List.set_cons_succ])
      refine wpAnyH_take (i := 2) (v := ?_) (by rw [List.getElem?_toArray]; rfl) (by kernel_rfl) (by kernel_rfl) (by kernel_rfl) (by intro _ _ _ h; exact h) (Or.inl ⟨by rfl, ?_⟩) (by assumption) ?_
      rotate_left
      · (intro w hSw; (try dsimp only at hSw); go_simp; all_goals with_reducible rfl)
      (try simp only [Act.put, List.setIfInBounds_toArray, List.set_cons_zero, List.set_cons_succ])
      refine wpAnyH_take (i := 3) (v := ?_) (by rw [List.getElem?_toArray]; rfl) (by kernel_rfl) (by kernel_rfl) (by kernel_rfl) (by intro _ _ _ h; exact h) (Or.inl ⟨by rfl, ?_⟩) (by assumption) ?_
      rotate_left
      · (intro w hSw; (try dsimp only at hSw); go_simp; all_goals with_reducible rfl)
      (try simp only [Act.put, List.setIfInBounds_toArray, List.set_cons_zero, List.set_cons_succ])
      refine wpAnyH_take (i := 4) (v := ?_) (by rw [List.getElem?_toArray]; rfl) (by kernel_rfl) (by kernel_rfl) (by kernel_rfl) (by intro _ _ _ h; exact h) (Or.inl ⟨by rfl, ?_⟩) (by assumption) ?_
      rotate_left
      · (intro w hSw; (try dsimp only at hSw); go_simp; all_goals with_reducible rfl)
      (try simp only [Act.put, List.setIfInBounds_toArray, List.set_cons_zero, List.set_cons_succ])
      refine wpAnyH_take (i := 5) (v := ?_) (by rw [List.getElem?_toArray]; rfl) (by kernel_rfl) (by kernel_rfl) (by kernel_rfl) (by intro _ _ _ h; exact h) (Or.inl ⟨by rfl, ?_⟩) (by assumption) ?_
      rotate_left
      · (intro w hSw; (try dsimp only at hSw); go_simp; all_goals with_reducible rfl)
      (try simp only [Act.put, List.setIfInBounds_toArray, List.set_cons_zero, List.set_cons_succ])
      refine wpAnyH_take (i := 6) (v := ?_) (by rw [List.getElem?_toArray]; rfl) (by kernel_rfl) (by kernel_rfl) (by kernel_rfl) (by intro _ _ _ h; exact h) (Or.inl ⟨by rfl, ?_⟩) (by assumption) ?_
      rotate_left
      · (intro w hSw; (try dsimp only at hSw); go_simp; all_goals with_reducible rfl)
      (try simp only [Act.put, List.setIfInBounds_toArray, List.set_cons_zero, List.set_cons_succ])
      refine wpAnyH_take (i := 7) (v := ?_) (by rw [List.getElem?_toArray]; rfl) (by kernel_rfl) (by kernel_rfl) (by kernel_rfl) (by intro _ _ _ h; exact h) (Or.inl ⟨by rfl, ?_⟩) (by assumption) ?_
      rotate_left
      · (intro w hSw; (try dsimp only at hSw); go_simp; all_goals with_reducible rfl)
      (try simp only [Act.put, List.setIfInBounds_toArray, List.set_cons_zero, List.set_cons_succ])
      refine wpAnyH_ready (rs := [8]) (by kernel_rfl) (by simp) ?_
      refine AllReadyH.cons (by rw [List.getElem?_toArray]; rfl) (fun K hK => ?_) AllReadyH.nil
      go_simp
      refine (eqMsg_same _ _ _ _ _ _ _ _ _).mono ?_; rintro e w' ⟨rfl, hb⟩; (replace c0 := (hb.cell (p := ⟨b, off + k * 8, none⟩) hb1).trans c0); (replace c1 := (hb.cell (p := ⟨b, off + k * 8 + 1, none⟩) hb1).trans c1); (replace c2 := (hb.cell (p := ⟨b, off + k * 8 + 2, none⟩) hb1).trans c2); (replace c3 := (hb.cell (p := ⟨b, off + k * 8 + 3, none⟩) hb1).trans c3); (replace c4 := (hb.cell (p := ⟨b, off + k * 8 + 4, none⟩) hb1).trans c4); (replace c5 := (hb.cell (p := ⟨b, off + k * 8 + 5, none⟩) hb1).trans c5); (replace c6 := (hb.cell (p := ⟨b, off + k * 8 + 6, none⟩) hb1).trans c6); (replace c7 := (hb.cell (p := ⟨b, off + k * 8 + 7, none⟩) hb1).trans c7); (replace d0 := (hb.cell (p := ⟨b', off' + k * 8, none⟩) hb2).trans d0); (replace d1 := (hb.cell (p := ⟨b', off' + k * 8 + 1, none⟩) hb2).trans d1); (replace d2 := (hb.cell (p := ⟨b', off' + k * 8 + 2, none⟩) hb2).trans d2); (replace d3 := (hb.cell (p := ⟨b', off' + k * 8 + 3, none⟩) hb2).trans d3); (replace d4 := (hb.cell (p := ⟨b', off' + k * 8 + 4, none⟩) hb2).trans d4); (replace d5 := (hb.cell (p := ⟨b', off' + k * 8 + 5, none⟩) hb2).trans d5); (replace d6 := (hb.cell (p := ⟨b', off' + k * 8 + 6, none⟩) hb2).trans d6); (replace d7 := (hb.cell (p := ⟨b', off' + k * 8 + 7, none⟩) hb2).trans d7)
      (try go_wp2_with fail)
      refine hK.out _ _ ?_ (fun hHeld => ?_)
      · first | exact ⟨c0, c1, c2, c3, c4, c5, c6, c7, d0, d1, d2, d3, d4, d5, d6, d7⟩ | (simp (maxDischargeDepth := 6) [go_sem, *]; done)
      clear hK K
      (try simp only [Act.put, List.setIfInBounds_toArray, List.set_cons_zero, List.set_cons_succ])
      refine wpAnyH_take (i := 9) (v := ?_) (by rw [List.getElem?_toArray]; rfl) (by kernel_rfl) (by kernel_rfl) (by kernel_rfl) (by intro _ _ _ h; exact h) (Or.inl ⟨by rfl, ?_⟩) (by assumption) ?_
      rotate_left
      · (intro w hSw; (try dsimp only at hSw); go_simp; all_goals with_reducible rfl)
      (try simp only [Act.put, List.setIfInBounds_toArray, List.set_cons_zero, List.set_cons_succ])
      refine wpAnyH_done (by kernel_rfl) ?_ _
      go_wp2_with fail
      go_roundw
      case rel => exact ⟨k + 1, by omega, by go_num, (Below.drew hB).trans (hb.mono hsz)⟩
      case measure => simp [intOf]; omega
    · go_wp2_with fail
      go_ret
      exact ⟨rfl, hB⟩
set_option maxHeartbeats 400000 in
theorem eqMsgS_zero (a a' : Option Addr) (c c' : Nat) (w : World) :
    Calls Try.prog 22 #[.slice a 0 c, .slice a' 0 c'] w fun e w' => e = .returned (.bool true) ∧ Below w.heap.size w w' := by
  go_enter Try.func22, Try.ntmps22
  go_wp2_with fail
  go_loopw [5] (fun i wr => i = .int .i64 0 ∧ w = wr) (fun i _ => 0)
  case atStart => exact ⟨rfl, rfl⟩
  case round =>
    obtain ⟨rfl, rfl⟩ := hrel
    go_wp2_with fail
    go_ret
    exact ⟨rfl, Below.refl _ _⟩
theorem eqMsgS_src (a a' : Option Addr) (n c c' : Nat) (M : Nat → MT) (w : World) (hn : n ≤ maxLen) (h : SrcC w a (n * 8) (MFMsg M)) (h' : SrcC w a' (n * 8) (MFMsg M)) :
    Calls Try.prog 22 #[.slice a n c, .slice a' n c'] w fun e w' => e = .returned (.bool true) ∧ Below w.heap.size w w' := by
  by_cases h0 : n = 0
  · subst h0; exact eqMsgS_zero a a' c c' w
  · rcases h with h | ⟨b, off, rfl, hp⟩
    · omega
    · rcases h' with h | ⟨b', off', rfl, hp'⟩
      · omega
      · exact eqMsgS_some b off b' off' n c c' M w hn hp hp'
def mkMsg (c : Nat) : Value := if c % 8 = 7 then .string (txt (1 + (c : Int))) else .int .i64 (1 + (c : Int))
theorem mkMsg_i {k j : Nat} {x : Int} (hj : j < 8) (hs : j ≠ 7) (h : x = 1 + ((k * 8 + j : Nat) : Int)) : mkMsg (k * 8 + j) = .int .i64 x := by
  have e : (k * 8 + j) % 8 = j := by omega
  rw [mkMsg, e, if_neg (by omega), h]
theorem mkMsg_s {k j : Nat} {x : Int} (hj : j < 8) (hs : j = 7) (h : x = 1 + ((k * 8 + j : Nat) : Int)) : mkMsg (k * 8 + j) = .string (txt x) := by
  have e : (k * 8 + j) % 8 = j := by omega
  rw [mkMsg, e, if_pos (by omega), h]
set_option maxHeartbeats 8000000 in
theorem markMsgS_row (b N n c : Nat) (w : World) (hn : n ≤ 1048576) (hN : n * 8 ≤ N) (h : RowF w b 32 N 0 mkMsg) :
    Calls Try.prog 23 #[.slice (some ⟨b, 0, none⟩) n c, .int .i64 1] w fun e w' => e = .returned (.int .i64 (1 + (n : Int) * 8)) ∧ RowF w' b 32 N (n * 8) mkMsg ∧ But b w w' := by
  go_enter Try.func23, Try.ntmps23
  go_wp2_with fail
  go_loopw [1, 5] (fun q i wr => ∃ (k : Nat) (Q : Int), k ≤ n ∧ i = .int .i64 k ∧ q = .int .i64 Q ∧ Q = 1 + (k : Int) * 8 ∧ RowF wr b 32 N (k * 8) mkMsg ∧ But b w wr) (fun _ i _ => n - (intOf i).toNat)
  case atStart => exact ⟨0, 1, Nat.zero_le _, rfl, rfl, by omega, h.eqm (by omega), But.refl _ _⟩
  case round =>
    obtain ⟨k, Q, hk, rfl, rfl, hQ, row, hB⟩ := hrel
    clear h
    have HQ : Hid (Q = 1 + (k : Int) * 8) := hQ
    by_cases hlt : k < n
    · have hli : (k : Int) < (n : Int) := by omega
      have Q0 : 0 < Q := by omega
      have Q1 : Q ≤ 8388609 * 8 := by omega
      clear hQ
      have hlr := row.lt
      obtain ⟨⟨v0, e0⟩, f0⟩ := row.facts (k * 8) (by omega)
      obtain ⟨⟨v1, e1⟩, f1⟩ := row.facts (k * 8 + 1) (by omega)
      obtain ⟨⟨v2, e2⟩, f2⟩ := row.facts (k * 8 + 2) (by omega)
      obtain ⟨⟨v3, e3⟩, f3⟩ := row.facts (k * 8 + 3) (by omega)
      obtain ⟨⟨v4, e4⟩, f4⟩ := row.facts (k * 8 + 4) (by omega)
      obtain ⟨⟨v5, e5⟩, f5⟩ := row.facts (k * 8 + 5) (by omega)
      obtain ⟨⟨v6, e6⟩, f6⟩ := row.facts (k * 8 + 6) (by omega)
      obtain ⟨⟨v7, e7⟩, f7⟩ := row.facts (k * 8 + 7) (by omega)
      go_wp2_with fail
      refine (markText_any _ _ (by omega) (by omega)).mono ?_
      rintro e w' ⟨rfl, hb⟩
      have row' := RowF.below' hb (RowF.put (RowF.put (RowF.put (RowF.put (RowF.put (RowF.put (RowF.put row (k * 8 + 1) (by omega) (mkMsg_i (k := k) (j := 0) (by decide) (by decide) (by have := HQ.out; omega))) (k * 8 + 2) (by omega) (mkMsg_i (k := k) (j := 1) (by decide) (by decide) (by have := HQ.out; omega))) (k * 8 + 3) (by omega) (mkMsg_i (k := k) (j := 2) (by decide) (by decide) (by have := HQ.out; omega))) (k * 8 + 4) (by omega) (mkMsg_i (k := k) (j := 3) (by decide) (by decide) (by have := HQ.out; omega))) (k * 8 + 5) (by omega) (mkMsg_i (k := k) (j := 4) (by decide) (by decide) (by have := HQ.out; omega))) (k * 8 + 6) (by omega) (mkMsg_i (k := k) (j := 5) (by decide) (by decide) (by have := HQ.out; omega))) (k * 8 + 7) (by omega) (mkMsg_i (k := k) (j := 6) (by decide) (by decide) (by have := HQ.out; omega)))
      have hB' : But b w w' := But.trans (((((((hB.setCell _ _).setCell _ _).setCell _ _).setCell _ _).setCell _ _).setCell _ _).setCell _ _) (But.of_below hb)
      clear e0 f0 e1 f1 e2 f2 e3 f3 e4 f4 e5 f5 e6 f6 e7 f7 hb row hB hlr
      have row := row'
      have hB := hB'
      clear row' hB'
      have hlr := row.lt
      obtain ⟨⟨v0, e0⟩, f0⟩ := row.facts (k * 8) (by omega)
      obtain ⟨⟨v1, e1⟩, f1⟩ := row.facts (k * 8 + 1) (by omega)
      obtain ⟨⟨v2, e2⟩, f2⟩ := row.facts (k * 8 + 2) (by omega)
      obtain ⟨⟨v3, e3⟩, f3⟩ := row.facts (k * 8 + 3) (by omega)
      obtain ⟨⟨v4, e4⟩, f4⟩ := row.facts (k * 8 + 4) (by omega)
      obtain ⟨⟨v5, e5⟩, f5⟩ := row.facts (k * 8 + 5) (by omega)
      obtain ⟨⟨v6, e6⟩, f6⟩ := row.facts (k * 8 + 6) (by omega)
      obtain ⟨⟨v7, e7⟩, f7⟩ := row.facts (k * 8 + 7) (by omega)
      go_wp2_with fail
      go_roundw
      case rel => exact ⟨k + 1, _, by omega, by go_num, rfl, by have := HQ.out; omega, (RowF.put row ((k + 1) * 8) (by omega) (mkMsg_s (k := k) (j := 7) (by decide) (by decide) (by have := HQ.out; omega))), (hB.setCell _ _)⟩
      case measure => simp [intOf]; omega
    · have hkn : k = n := by omega
      subst hkn
      have hli : ¬ (k : Int) < (k : Int) := by omega
      subst hQ
      go_wp2_with fail
      go_ret
      exact ⟨rfl, row, hB⟩
set_option maxHeartbeats 400000 in
theorem markMsgS_zero (a : Option Addr) (c : Nat) (w : World) :
    Calls Try.prog 23 #[.slice a 0 c, .int .i64 1] w fun e w' => e = .returned (.int .i64 1) ∧ w = w' := by
  go_enter Try.func23, Try.ntmps23
  go_wp2_with fail
  go_loopw [1, 5] (fun q i wr => i = .int .i64 0 ∧ q = .int .i64 1 ∧ w = wr) (fun _ i _ => 0)
  case atStart => exact ⟨rfl, rfl, by first | rfl | trivial⟩
  case round =>
    obtain ⟨rfl, rfl, rfl⟩ := hrel
    go_wp2_with fail
    go_ret
    exact ⟨rfl, rfl⟩
theorem markMsgS_any (a : Option Addr) (n c base : Nat) (xs : List Value) (w : World) (hn : n ≤ 1048576) (hb : base ≤ w.heap.size) (h : w.ownsRow base 32 8 (.slice a n c) n xs) :
    Calls Try.prog 23 #[.slice a n c, .int .i64 1] w fun e w' => e = .returned (.int .i64 (1 + (n : Int) * 8)) ∧ SrcC w' a (n * 8) mkMsg ∧ Below base w w' := by
  rcases h.2 with ⟨he, h0⟩ | ⟨g, cap, cur, he, _⟩
  · subst h0
    exact (markMsgS_zero a c w).mono fun e w' ⟨h1, h2⟩ => ⟨h1, .inl (by omega), h2 ▸ Below.refl _ _⟩
  · simp at he
    obtain ⟨rfl, rfl⟩ := he
    obtain ⟨h1, h2, _, h3⟩ := ownF_row mkMsg h
    exact (markMsgS_row g (c * 8) n c w hn (Nat.mul_le_mul_right _ h2) h3).mono fun e w' ⟨r1, r2, r3⟩ => ⟨r1, .inr ⟨g, 0, rfl, r2.cs (Nat.mul_le_mul_right _ h2)⟩, r3.below h1 hb⟩
set_option maxRecDepth 100000 in
set_option maxHeartbeats 8000000 in
theorem heldMsgS_some (b off n c : Nat) (w : World) (hn : n ≤ 1048576) (h : Cs w b off (n * 8) mkMsg) :
    Calls Try.prog 26 #[.slice (some ⟨b, off, none⟩) n c, .int .i64 1] w fun e w' => e = .returned (.int .i64 (1 + (n : Int) * 8)) ∧ Below w.heap.size w w' := by
  have HP : Hid (Cs w b off (n * 8) mkMsg) := h
  clear h
  go_enter Try.func26, Try.ntmps26
  go_wp2_with fail
  go_loopw [1, 5] (fun q i wr => ∃ (k : Nat) (Q : Int), k ≤ n ∧ i = .int .i64 k ∧ q = .int .i64 Q ∧ Q = 1 + (k : Int) * 8 ∧ Below w.heap.size w wr) (fun _ i _ => n - (intOf i).toNat)
  case atStart => exact ⟨0, 1, Nat.zero_le _, rfl, rfl, by omega, Below.refl _ _⟩
  case round =>
    obtain ⟨k, Q, hk, rfl, rfl, hQ, hB⟩ := hrel
    have HQ : Hid (Q = 1 + (k : Int) * 8) := hQ
    by_cases hlt : k < n
    · have hli : (k : Int) < (n : Int) := by omega
      have Q0 : 0 < Q := by omega
      have Q1 : Q ≤ 8388609 * 8 := by omega
      have hP := HP.out.below hB HP.out.1
      clear hQ
      have c0 : wr.cell? ⟨b, off + k * 8, none⟩ = some (.int .i64 (Q)) := by have q := hP.2 (k * 8) (by omega); rw [show mkMsg (k * 8) = .int .i64 (Q) from mkMsg_i (k := k) (j := 0) (x := Q) (by decide) (by decide) (by have := HQ.out; omega)] at q; exact q
      have c1 : wr.cell? ⟨b, off + k * 8 + 1, none⟩ = some (.int .i64 (Q + 1)) := by have q := hP.2 (k * 8 + 1) (by omega); rw [show mkMsg (k * 8 + 1) = .int .i64 (Q + 1) from mkMsg_i (k := k) (j := 1) (x := Q + 1) (by decide) (by decide) (by have := HQ.out; omega)] at q; exact q
      have c2 : wr.cell? ⟨b, off + k * 8 + 2, none⟩ = some (.int .i64 (Q + 1 + 1)) := by have q := hP.2 (k * 8 + 2) (by omega); rw [show mkMsg (k * 8 + 2) = .int .i64 (Q + 1 + 1) from mkMsg_i (k := k) (j := 2) (x := Q + 1 + 1) (by decide) (by decide) (by have := HQ.out; omega)] at q; exact q
      have c3 : wr.cell? ⟨b, off + k * 8 + 3, none⟩ = some (.int .i64 (Q + 1 + 1 + 1)) := by have q := hP.2 (k * 8 + 3) (by omega); rw [show mkMsg (k * 8 + 3) = .int .i64 (Q + 1 + 1 + 1) from mkMsg_i (k := k) (j := 3) (x := Q + 1 + 1 + 1) (by decide) (by decide) (by have := HQ.out; omega)] at q; exact q
      have c4 : wr.cell? ⟨b, off + k * 8 + 4, none⟩ = some (.int .i64 (Q + 1 + 1 + 1 + 1)) := by have q := hP.2 (k * 8 + 4) (by omega); rw [show mkMsg (k * 8 + 4) = .int .i64 (Q + 1 + 1 + 1 + 1) from mkMsg_i (k := k) (j := 4) (x := Q + 1 + 1 + 1 + 1) (by decide) (by decide) (by have := HQ.out; omega)] at q; exact q
      have c5 : wr.cell? ⟨b, off + k * 8 + 5, none⟩ = some (.int .i64 (Q + 1 + 1 + 1 + 1 + 1)) := by have q := hP.2 (k * 8 + 5) (by omega); rw [show mkMsg (k * 8 + 5) = .int .i64 (Q + 1 + 1 + 1 + 1 + 1) from mkMsg_i (k := k) (j := 5) (x := Q + 1 + 1 + 1 + 1 + 1) (by decide) (by decide) (by have := HQ.out; omega)] at q; exact q
      have c6 : wr.cell? ⟨b, off + k * 8 + 6, none⟩ = some (.int .i64 (Q + 1 + 1 + 1 + 1 + 1 + 1)) := by have q := hP.2 (k * 8 + 6) (by omega); rw [show mkMsg (k * 8 + 6) = .int .i64 (Q + 1 + 1 + 1 + 1 + 1 + 1) from mkMsg_i (k := k) (j := 6) (x := Q + 1 + 1 + 1 + 1 + 1 + 1) (by decide) (by decide) (by have := HQ.out; omega)] at q; exact q
      have c7 : wr.cell? ⟨b, off + k * 8 + 7, none⟩ = some (.string (txt (Q + 1 + 1 + 1 + 1 + 1 + 1 + 1))) := by have q := hP.2 (k * 8 + 7) (by omega); rw [show mkMsg (k * 8 + 7) = .string (txt (Q + 1 + 1 + 1 + 1 + 1 + 1 + 1)) from mkMsg_s (k := k) (j := 7) (x := Q + 1 + 1 + 1 + 1 + 1 + 1 + 1) (by decide) (by decide) (by have := HQ.out; omega)] at q; exact q
      have hbl := hP.1
      go_wp2_with fail
      refine wp_region_held_drew (S := (fun w' => w'.cell? ⟨b, off + k * 8 + 7, none⟩ = some (.string (txt (Q + 1 + 1 + 1 + 1 + 1 + 1 + 1))))) (by kernel_rfl) ?_ (fun hHeld => ?_)
      · first | exact c7 | (simp (maxDischargeDepth := 6) [go_sem, *]; done)
      refine wpAnyH_take (i := 0) (v := ?_) (by rw [List.getElem?_toArray]; rfl) (by kernel_rfl) (by kernel_rfl) (by kernel_rfl) (by intro _ _ _ h; exact h) (Or.inl ⟨by rfl, ?_⟩) (by assumption) ?_
      rotate_left
      · (intro w hSw; (try dsimp only at hSw); go_simp; all_goals with_reducible rfl)
      (try simp only [Act.put, List.setIfInBounds_toArray, List.set_cons_zero, List.set_cons_succ])
      refine wpAnyH_take (i := 1) (v := ?_) (by rw [List.getElem?_toArray]; rfl) (by kernel_rfl) (by kernel_rfl) (by kernel_rfl) (by intro _ _ _ h; exact h) (Or.inl ⟨by rfl, ?_⟩) (by assumption) ?_
      rotate_left
      · (intro w hSw; (try dsimp only at hSw); go_simp; all_goals with_reducible rfl)
      (try simp only [Act.put, List.setIfInBounds_toArray, List.set_cons_zero, List.set_cons_succ])
      refine wpAnyH_take (i := 2) (v := ?_) (by rw [List.getElem?_toArray]; rfl) (by kernel_rfl) (by kernel_rfl) (by kernel_rfl) (by intro _ _ _ h; exact h) (Or.inl ⟨by rfl, ?_⟩) (by assumption) ?_
      rotate_left
      · (intro w hSw; (try dsimp only at hSw); go_simp; all_goals with_reducible rfl)
      (try simp only [Act.put, List.setIfInBounds_toArray, List.set_cons_zero, List.set_cons_succ])
      refine wpAnyH_take (i := 3) (v := ?_) (by rw [List.getElem?_toArray]; rfl) (by kernel_rfl) (by kernel_rfl) (by kernel_rfl) (by intro _ _ _ h; exact h) (Or.inl ⟨by rfl, ?_⟩) (by assumption) ?_
      rotate_left
      · (intro w hSw; (try dsimp only at hSw); go_simp; all_goals with_reducible rfl)
      (try simp only [Act.put, List.setIfInBounds_toArray, List.set_cons_zero, List.set_cons_succ])
      refine wpAnyH_take (i := 4) (v := ?_) (by rw [List.getElem?_toArray]; rfl) (by kernel_rfl) (by kernel_rfl) (by kernel_rfl) (by intro _ _ _ h; exact h) (Or.inl ⟨by rfl, ?_⟩) (by assumption) ?_
      rotate_left
      · (intro w hSw; (try dsimp only at hSw); go_simp; all_goals with_reducible rfl)
      (try simp only [Act.put, List.setIfInBounds_toArray, List.set_cons_zero, List.set_cons_succ])
      refine wpAnyH_take (i := 5) (v := ?_) (by rw [List.getElem?_toArray]; rfl) (by kernel_rfl) (by kernel_rfl) (by kernel_rfl) (by intro _ _ _ h; exact h) (Or.inl ⟨by rfl, ?_⟩) (by assumption) ?_
      rotate_left
      · (intro w hSw; (try dsimp only at hSw); go_simp; all_goals with_reducible rfl)
      (try simp only [Act.put, List.setIfInBounds_toArray, List.set_cons_zero, List.set_cons_succ])
      refine wpAnyH_ready (rs := [6]) (by kernel_rfl) (by simp) ?_
      refine AllReadyH.cons (by rw [List.getElem?_toArray]; rfl) (fun K hK => ?_) AllReadyH.nil
      go_simp
      refine (markText_any _ _ (by omega) (by omega)).mono ?_; rintro e w' ⟨rfl, hb⟩; (replace c7 := (hb.cell (p := ⟨b, off + k * 8 + 7, none⟩) hbl).trans c7)
      (try go_wp2_with fail)
      refine hK.out _ _ ?_ (fun hHeld => ?_)
      · first | exact c7 | (simp (maxDischargeDepth := 6) [go_sem, *]; done)
      clear hK K
      (try simp only [Act.put, List.setIfInBounds_toArray, List.set_cons_zero, List.set_cons_succ])
      refine wpAnyH_take (i := 7) (v := ?_) (by rw [List.getElem?_toArray]; rfl) (by kernel_rfl) (by kernel_rfl) (by kernel_rfl) (by intro _ _ _ h; exact h) (Or.inl ⟨by rfl, ?_⟩) (by assumption) ?_
      rotate_left
      · (intro w hSw; (try dsimp only at hSw); go_simp; all_goals with_reducible rfl)
      (try simp only [Act.put, List.setIfInBounds_toArray, List.set_cons_zero, List.set_cons_succ])
      refine wpAnyH_done (by kernel_rfl) ?_ _
      have hB' := (Below.drew hB).trans (hb.mono hB.size)
      have hP' := (Cs.drew hP).below hb hbl
      clear hb hB hP hHeld c0 c1 c2 c3 c4 c5 c6 c7
      have hB := hB'
      have hP := hP'
      clear hB' hP' hbl
      generalize txt (Q + 1 + 1 + 1 + 1 + 1 + 1 + 1) = tx7 at *
      go_wp2_with fail
      go_roundw
      case rel => exact ⟨k + 1, _, by omega, by go_num, rfl, by have := HQ.out; omega, hB⟩
      case measure => simp [intOf]; omega
    · have hkn : k = n := by omega
      subst hkn
      have hli : ¬ (k : Int) < (k : Int) := by omega
      subst hQ
      go_wp2_with fail
      go_ret
      exact ⟨rfl, hB⟩
set_option maxHeartbeats 400000 in
theorem heldMsgS_zero (a : Option Addr) (c : Nat) (w : World) :
    Calls Try.prog 26 #[.slice a 0 c, .int .i64 1] w fun e w' => e = .returned (.int .i64 1) ∧ w = w' := by
  go_enter Try.func26, Try.ntmps26
  go_wp2_with fail
  go_loopw [1, 5] (fun q i wr => i = .int .i64 0 ∧ q = .int .i64 1 ∧ w = wr) (fun _ i _ => 0)
  case atStart => exact ⟨rfl, rfl, by first | rfl | trivial⟩
  case round =>
    obtain ⟨rfl, rfl, rfl⟩ := hrel
    go_wp2_with fail
    go_ret
    exact ⟨rfl, rfl⟩
theorem heldMsgS_any (a : Option Addr) (n c : Nat) (w : World) (hn : n ≤ 1048576) (h : SrcC w a (n * 8) mkMsg) :
    Calls Try.prog 26 #[.slice a n c, .int .i64 1] w fun e w' => e = .returned (.int .i64 (1 + (n : Int) * 8)) ∧ Below w.heap.size w w' := by
  rcases h with h0 | ⟨b, off, rfl, hp⟩
  · have hn0 : n = 0 := by omega
    subst hn0
    exact (heldMsgS_zero a c w).mono fun e w' ⟨h1, h2⟩ => ⟨h1, h2 ▸ Below.refl _ _⟩
  · exact heldMsgS_some b off n c w hn hp
end Go.Proofs.Ytnhkpbbkappclaa
