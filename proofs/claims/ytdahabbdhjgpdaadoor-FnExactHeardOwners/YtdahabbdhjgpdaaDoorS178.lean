/- Bit sets in the program: one bit more, the lowest bit, an atomic of its own. -/
import Derived.Test.YtdahabbdhjgpdaaDoorS171
import Derived.Test.YtdahabbdhjgpdaaDoorJ1
import Derived.Laws.LoneSync
import Derived.Deep.OwnRows
import Derived.Test.YtdahabbdhjgpdaaDoorI106
import Derived.Laws.ShiftsVarLaws
import Derived.Laws.Pointers
import Derived.Deep.RegionHeld3
import Derived.Deep.DeepCutAuto
import Derived.WalkKit
import Derived.WalkSpells
import Derived.WalkLawsBesides
import Derived.Deep.RegionHeld
namespace Go.Proofs.YtdahabbdhjgpdaaDoor
open Go.RowKit
set_option linter.unusedVariables false
/- The table of the library's that tells a number's lowest bit, as it stands in its variable. -/
def Tb (w : World) : Prop := (∀ j, j < 64 → w.cell? ⟨1, j, none⟩ = some (.int .u8 ((Go.Lib.deBruijn64tab.getD j 0 : Nat) : Int))) ∧ 1 < w.heap.size
theorem Tb.below {w w' : World} (h : Tb w) (hb : Below w.heap.size w w') : Tb w' :=
  ⟨fun j hj => by rw [hb.cell (p := ⟨1, j, none⟩) h.2]; exact h.1 j hj, Nat.lt_of_lt_of_le h.2 hb.size⟩
theorem Tb.drew {w : World} (h : Tb w) : Tb w.drew := h
/- One bit more; the lowest bit away. -/
theorem with_any (s x : Nat) (w : World) (hs : s < 65536) (hx : x ≤ 15) :
    Calls Tryd.prog 57 #[.int .u64 (s : Int), .int .i64 (x : Int)] w fun e w' => e = .returned (.int .u64 ((s ||| 2 ^ x : Nat) : Int)) ∧ w = w' := by
  have hp : 2 ^ x < 65536 := Nat.lt_of_le_of_lt (Nat.pow_le_pow_right (by decide) hx) (by decide)
  have e1 : IntKind.u64.wrap ((2 : Int) ^ x) = ((2 ^ x : Nat) : Int) := by
    rw [show ((2 : Int) ^ x) = ((2 ^ x : Nat) : Int) by simp, IntKind.wrap_u64]
    generalize 2 ^ x = y at *
    omega
  have e2 := u64_or_nat s (2 ^ x) (by omega) (by omega)
  rw [← e1] at e2
  rw [← e2]
  clear e1 e2
  go_enter Tryd.func57, Tryd.ntmps57
  go_wp2
  go_ret
  exact ⟨rfl, rfl⟩
theorem less_any (s : Nat) (w : World) (hs : s < 65536) (h0 : 0 < s) :
    Calls Tryd.prog 86 #[.int .u64 (s : Int)] w fun e w' => e = .returned (.int .u64 ((s &&& (s - 1) : Nat) : Int)) ∧ w = w' := by
  have e2 := u64_and_nat s (s - 1) (by omega) (by omega)
  rw [show ((s - 1 : Nat) : Int) = (s : Int) - 1 by omega] at e2
  rw [← e2]
  clear e2
  go_enter Tryd.func86, Tryd.ntmps86
  go_wp2
  go_ret
  exact ⟨rfl, rfl⟩
theorem tz64_key (x a : Nat) (hx : x < 18446744073709551616) (hx0 : x ≠ 0) (hlow : x &&& (18446744073709551616 - x) = a) :
    IntKind.u64.wrap (bits BinOp.and IntKind.u64 (x : Int) (IntKind.u64.wrap (-(x : Int))) * 285870213051353865) / 288230376151711744 = ((a * 285870213051353865 % 18446744073709551616 / 288230376151711744 : Nat) : Int) := by
  have e1 : IntKind.u64.wrap (-(x : Int)) = ((18446744073709551616 - x : Nat) : Int) := by rw [IntKind.wrap_u64]; omega
  rw [e1, u64_and_nat x _ hx (by omega), hlow, IntKind.wrap_u64]
  omega
set_option maxHeartbeats 1000000 in
theorem tz64_core (x k idx : Nat) (w : World) (hx0 : ((x : Int) == 0) = false)
    (key : IntKind.u64.wrap (bits BinOp.and IntKind.u64 (x : Int) (IntKind.u64.wrap (-(x : Int))) * 285870213051353865) / 288230376151711744 = (idx : Int))
    (hi : idx < 64) (hk : k < 64) (hcell : w.cell? ⟨1, idx, none⟩ = some (.int .u8 k)) :
    Calls Tryd.prog 105 #[.int .u64 x] w fun e w' => e = .returned (.int .i64 k) ∧ w = w' := by
  go_enter Tryd.func105, Tryd.ntmps105
  go_wp2_with (simp only [key])
  go_ret
  exact ⟨rfl, rfl⟩
theorem tz_any (x : Nat) (w : World) (hx : x < 65536) (h0 : 0 < x) (T : Tb w) :
    Calls Tryd.prog 85 #[.int .u64 (x : Int)] w fun e w' => e = .returned (.int .i64 ((Go.Lib.ctz 64 x : Nat) : Int)) ∧ w = w' := by
  obtain ⟨hlow, hk⟩ := Go.Lib.lowest_bit 64 x (by omega) (by omega)
  obtain ⟨hi, htab⟩ := Go.Lib.deBruijn64_at _ hk
  have hcell := T.1 _ hi
  rw [htab] at hcell
  have C := tz64_core x _ _ w (by simp; omega) (tz64_key x _ (by omega) (by omega) hlow) hi hk hcell
  clear hcell htab hi hlow hk T
  generalize Go.Lib.ctz 64 x = z at *
  go_enter Tryd.func85, Tryd.ntmps85
  go_wp2_with fail
  refine C.mono ?_
  rintro e w' ⟨rfl, rfl⟩
  go_wp2_with fail
  go_ret
  exact ⟨rfl, rfl⟩
/- An atomic of one's own, in a run of one. -/
theorem atAdd_any (b : Nat) (x : Nat) (w : World) (hx : x < 65536) (h0 : w.cell? ⟨b, 0, none⟩ = some (.int .i64 (x : Int))) (f0 : w.frozen? ⟨b, 0, none⟩ = false) :
    Calls Tryd.prog 102 #[.pointer (some ⟨b, 0, none⟩), .int .i64 1] w fun e w' => e = .returned (.int .i64 ((x + 1 : Nat) : Int)) ∧ w' = w.setCell ⟨b, 0, none⟩ (.int .i64 ((x + 1 : Nat) : Int)) := by
  have hadd := run_call_add (P := Tryd.prog) Tryd.func111 (by kernel_rfl) (by kernel_rfl) (by kernel_rfl) .i64 (by kernel_rfl) (y := 1) (s := ((x + 1 : Nat) : Int)) h0 f0 (by
    have e : IntKind.i64.wrap ((x : Int) + 1) = ((x + 1 : Nat) : Int) := by rw [IntKind.wrap_i64]; omega
    simp [go_sem, e]
    try omega)
  generalize ((x + 1 : Nat) : Int) = y at *
  go_enter Tryd.func102, Tryd.ntmps102
  go_wp2
  go_ret
  exact ⟨rfl, rfl⟩
theorem atLoad_any (b : Nat) (x : Int) (w : World) (h0 : w.cell? ⟨b, 0, none⟩ = some (.int .i64 x)) :
    Calls Tryd.prog 103 #[.pointer (some ⟨b, 0, none⟩)] w fun e w' => e = .returned (.int .i64 x) ∧ w = w' := by
  have hld := run_call_load (P := Tryd.prog) Tryd.func112 (by kernel_rfl) (by kernel_rfl) (by kernel_rfl) .i64 (by kernel_rfl) h0
  go_enter Tryd.func103, Tryd.ntmps103
  go_wp2
  go_ret
  exact ⟨rfl, rfl⟩
/- How many bits; the numbers of the bits. -/
theorem drop_asc : ∀ {L : List Int} {lo : Int}, 0 ≤ lo → ascF lo L → ∀ k, ascF 0 (L.drop k)
  | [], _, _, _, k => by simp [ascF]
  | x :: L, lo, h0, h, 0 => ascF_le h0 h
  | x :: L, lo, h0, h, k + 1 => by rw [List.drop_succ_cons]; exact drop_asc (show 0 ≤ x + 1 by have := h.1; omega) h.2.2 k
theorem asc_len : ∀ {L : List Int} {lo : Int}, ascF lo L → lo + L.length ≤ 16 ∨ L = []
  | [], _, _ => .inr rfl
  | x :: L, lo, h => by
    have h1 := h.1; have h2 := h.2.1
    rcases asc_len h.2.2 with q | q
    · left; simp only [List.length_cons]; omega
    · subst q; left; simp; omega
theorem asc_le {L : List Int} (h : ascF 0 L) : L.length ≤ 16 := by
  rcases asc_len h with q | q
  · omega
  · subst q; simp
theorem drop_cons {L : List Int} {k : Nat} (h : k < L.length) : L.drop k = gI L k :: L.drop (k + 1) := by
  rw [List.drop_eq_getElem_cons h]
  congr 1
  unfold gI
  simp [h]
set_option maxRecDepth 100000 in
set_option maxHeartbeats 4000000 in
theorem size_any (L : List Int) (h : ascF 0 L) (w : World) :
    Calls Tryd.prog 84 #[.int .u64 (numL L : Int)] w fun e w' => e = .returned (.int .i64 (L.length : Int)) ∧ Below w.heap.size w w' := by
  have h16 := asc_le h
  have HL : Hid (ascF 0 L) := h
  clear h
  have B := Below.nw w (.cells #[.int .i64 0] 124)
  go_enter Tryd.func84, Tryd.ntmps84
  go_upto_region 2 with fail
  have q0 : (w.alloc (.cells #[.int .i64 0] 124)).cell? ⟨w.heap.size, 0, none⟩ = some (.int .i64 ((0 : Nat) : Int)) := by simp
  have q1 : (w.alloc (.cells #[.int .i64 0] 124)).frozen? ⟨w.heap.size, 0, none⟩ = false := by simp
  generalize w.alloc (.cells #[.int .i64 0] 124) = v at *
  go_wp2_with fail
  go_loopw [4] (fun l wr => ∃ (k : Nat), k ≤ L.length ∧ l = .int .u64 (numL (L.drop k) : Int) ∧ wr.cell? ⟨w.heap.size, 0, none⟩ = some (.int .i64 (k : Int)) ∧ wr.frozen? ⟨w.heap.size, 0, none⟩ = false ∧ Below w.heap.size w wr) (fun l _ => (intOf l).toNat)
  case atStart => exact ⟨0, Nat.zero_le _, rfl, q0, q1, B⟩
  case round =>
    clear q0 q1 B
    obtain ⟨k, hk, rfl, q0, q1, B⟩ := hrel
    by_cases hlt : k < L.length
    · obtain ⟨Q, hQ⟩ : ∃ Q, Q = numL (L.drop (k + 1)) := ⟨_, rfl⟩
      obtain ⟨P, hP⟩ : ∃ P, P = numL (L.drop k) := ⟨_, rfl⟩
      have hp0 : 0 < P := by rw [hP, drop_cons hlt]; exact num_pos
      have hp1 : P < 65536 := by rw [hP]; exact num_lt (drop_asc (Int.le_refl 0) HL.out k)
      have hpq : P &&& (P - 1) = Q := by
        have h1 := drop_asc (Int.le_refl 0) HL.out k
        rw [hP, hQ]
        rw [drop_cons hlt] at h1 ⊢
        exact num_rest (Int.le_refl 0) h1
      have HQP : Hid (Q < P) := by
        rw [Hid, hQ, hP, drop_cons hlt, numL]
        have : 0 < 2 ^ (gI L k).toNat := Nat.pow_pos (by decide)
        omega
      have C1 := atAdd_any w.heap.size k wr (by omega) q0 q1
      have C2 := fun w' => less_any P w' hp1 hp0
      rw [hpq] at C2
      have HQ : Hid (Q = numL (L.drop (k + 1))) := hQ
      have HLT : Hid (k < L.length) := hlt
      have ht : ((P : Int) != 0) = true := by simp; omega
      have q2 : (wr.setCell ⟨w.heap.size, 0, none⟩ (.int .i64 ((k + 1 : Nat) : Int))).cell? ⟨w.heap.size, 0, none⟩ = some (.int .i64 ((k + 1 : Nat) : Int)) := World.cell?_setCell_same wr _ _ q0
      have q3 : (wr.setCell ⟨w.heap.size, 0, none⟩ (.int .i64 ((k + 1 : Nat) : Int))).frozen? ⟨w.heap.size, 0, none⟩ = false := by simpa using q1
      have B2 := B.setCell (p := ⟨w.heap.size, 0, none⟩) (Nat.le_refl _) (.int .i64 ((k + 1 : Nat) : Int))
      rw [← hP]
      clear hP hQ hpq HL hlt q0 q1 B
      obtain ⟨y, hy⟩ : ∃ y, y = ((k + 1 : Nat) : Int) := ⟨_, rfl⟩
      have HY : Hid (y = ((k + 1 : Nat) : Int)) := hy
      rw [← hy] at q2 q3 B2 C1
      clear hy
      go_wp2_with fail
      refine C1.mono ?_
      clear C1
      rintro e v1 ⟨rfl, rfl⟩
      generalize wr.setCell ⟨w.heap.size, 0, none⟩ (.int .i64 y) = v1 at *
      go_wp2_with fail
      refine (C2 _).mono ?_
      clear C2
      rintro e v2 ⟨rfl, rfl⟩
      go_wp2_with fail
      go_roundw
      case rel => exact ⟨k + 1, HLT.out, by rw [HQ.out], by rw [q2, HY.out], q3, B2⟩
      case measure => have h9 := HQP.out; simp [intOf]; omega
    · obtain rfl : k = L.length := by omega
      rw [List.drop_length]
      have C3 := atLoad_any w.heap.size (L.length : Int) wr q0
      have ht : (((numL [] : Nat) : Int) != 0) = false := rfl
      clear q0 q1
      go_wp2_with fail
      refine C3.mono ?_
      clear C3
      rintro e v2 ⟨rfl, rfl⟩
      go_wp2_with fail
      go_ret
      exact ⟨rfl, B⟩
theorem infoInt16 : (Tryd.prog.info? 3).map (fun i => (i.zero, i.size, i.bytes)) = some (some (.int .i64 0), 1, 8) := by kernel_rfl
theorem mk_int16 (n : Nat) (h : n ≤ 16) (w : World) : (Instr.makeSlice 40 (.int .i64 (n : Int)) (.int .i64 (n : Int))).run Tryd.prog w = .ok (.slice (some ⟨w.heap.size, 0, none⟩) n n) (w.alloc (.cells (madeCells #[.int .i64 0] n) 3)) :=
  run_make_row' 40 3 (.int .i64 0) 8 Tryd.underlying40 infoInt16 rfl .i64 .i64 n (by omega) (by omega) w
theorem row_own {w : World} {b n base : Nat} {L : List Int} (h : w.rowIs b 3 n (fun i => .int .i64 (gI L i))) (hn : L.length = n) (h16 : n ≤ 16) (hb : base ≤ b) : w.ownsRow base 3 1 (.slice (some ⟨b, 0, none⟩) n n) n (irow L) := by
  obtain ⟨c, hc, hs, hv⟩ := h
  have hl : (irow L).length = n := by unfold irow; simp [hn]
  refine ⟨by omega, .inr ⟨b, n, c, rfl, hb, hc, Nat.le_refl _, by unfold maxLen; omega, by omega, ?_⟩⟩
  apply List.ext_getElem?
  intro j
  by_cases hj : j < n
  · rw [List.getElem?_take, if_pos (by omega)]
    have h1 := hv j hj
    have e : c.toList[j]? = c[j]? := by simp
    rw [e, h1]
    unfold irow
    simp [hn, hj]
    first | rfl | (unfold MFInt; simp)
  · rw [List.getElem?_eq_none (by simp; omega), List.getElem?_eq_none (by omega)]
set_option maxRecDepth 100000 in
set_option maxHeartbeats 4000000 in
theorem list_any (L : List Int) (h : ascF 0 L) (w : World) (T : Tb w) :
    Calls Tryd.prog 54 #[.int .u64 (numL L : Int)] w fun e w' => ∃ v, e = .returned v ∧ w'.ownsRow w.heap.size 3 1 v L.length (irow L) ∧ Below w.heap.size w w' := by
  have h16 := asc_le h
  have HL : Hid (ascF 0 L) := h
  have C1 := size_any L h w
  have mk := mk_int16 L.length h16
  clear h
  go_enter Tryd.func54, Tryd.ntmps54
  go_wp2_with fail
  refine C1.mono ?_
  clear C1
  rintro e v1 ⟨rfl, B⟩
  have A1 := Below.nw v1 (.cells (madeCells #[.int .i64 0] L.length) 3)
  have R0 := World.rowIs_made v1 (.int .i64 0) L.length 3
  have hb := B.size
  replace B := B.trans (A1.mono B.size)
  go_upto_region 2 with fail
  clear mk A1
  generalize v1.alloc (.cells (madeCells #[.int .i64 0] L.length) 3) = v2 at *
  generalize v1.heap.size = b at *
  go_wp2_with fail
  go_loopw [0, 10] (fun l i wr => ∃ (k : Nat), k ≤ L.length ∧ l = .int .u64 (numL (L.drop k) : Int) ∧ i = .int .i64 (k : Int) ∧ wr.rowIs b 3 L.length (fun j => .int .i64 (if j < k then gI L j else 0)) ∧ Below w.heap.size w wr) (fun _ i _ => L.length - (intOf i).toNat)
  case atStart => exact ⟨0, Nat.zero_le _, rfl, rfl, by simpa using R0, B⟩
  case round =>
    clear R0 B
    obtain ⟨k, hk, rfl, rfl, R, B⟩ := hrel
    by_cases hlt : k < L.length
    · obtain ⟨Q, hQ⟩ : ∃ Q, Q = numL (L.drop (k + 1)) := ⟨_, rfl⟩
      obtain ⟨P, hP⟩ : ∃ P, P = numL (L.drop k) := ⟨_, rfl⟩
      have hp0 : 0 < P := by rw [hP, drop_cons hlt]; exact num_pos
      have hp1 : P < 65536 := by rw [hP]; exact num_lt (drop_asc (Int.le_refl 0) HL.out k)
      have hpq : P &&& (P - 1) = Q := by
        have h1 := drop_asc (Int.le_refl 0) HL.out k
        rw [hP, hQ]
        rw [drop_cons hlt] at h1 ⊢
        exact num_rest (Int.le_refl 0) h1
      have hpl : ((Go.Lib.ctz 64 P : Nat) : Int) = gI L k := by
        have h1 := drop_asc (Int.le_refl 0) HL.out k
        rw [hP]
        rw [drop_cons hlt] at h1 ⊢
        exact num_least (Int.le_refl 0) h1
      have C1 := tz_any P wr hp1 hp0 (T.below B)
      have C2 := fun w' => less_any P w' hp1 hp0
      rw [hpq] at C2
      rw [hpl] at C1
      have HQ : Hid (Q = numL (L.drop (k + 1))) := hQ
      have HLT : Hid (k < L.length) := hlt
      have hli : (k : Int) < (L.length : Int) := by omega
      have c0 := R.cell hlt
      have f0 := R.frozen k
      have R2 : (wr.setCell ⟨b, k, none⟩ (.int .i64 (gI L k))).rowIs b 3 L.length (fun j => .int .i64 (if j < k + 1 then gI L j else 0)) := (R.set k (.int .i64 (gI L k))).congr fun j hj => by
        by_cases e : j = k
        · subst e; simp
        · simp only [if_neg e]
          by_cases e2 : j < k
          · rw [if_pos e2, if_pos (show j < k + 1 by omega)]
          · rw [if_neg e2, if_neg (show ¬ j < k + 1 by omega)]
      have B2 := B.setCell (p := ⟨b, k, none⟩) hb (.int .i64 (gI L k))
      rw [← hP]
      clear hP hQ hpq hpl HL hlt R B
      generalize gI L k = y at c0 C1 R2 B2
      go_wp2_with fail
      refine C1.mono ?_
      clear C1
      rintro e v1 ⟨rfl, rfl⟩
      go_upto_region 6 with fail
      generalize wr.setCell ⟨b, k, none⟩ (.int .i64 y) = v3 at *
      go_wp2_with fail
      refine (C2 _).mono ?_
      clear C2
      rintro e v2 ⟨rfl, rfl⟩
      go_wp2_with fail
      go_roundw
      case rel => exact ⟨k + 1, HLT.out, by rw [HQ.out], by go_num, R2, B2⟩
      case measure => have hlt' := HLT.out; simp [intOf]; omega
    · obtain rfl : k = L.length := by omega
      have hli : ¬ (L.length : Int) < (L.length : Int) := by omega
      have O := row_own (L := L) (base := w.heap.size) (R.congr (g := fun j => .int .i64 (gI L j)) fun j hj => by simp [hj]) rfl h16 hb
      clear R
      go_wp2_with fail
      go_ret
      exact ⟨_, rfl, O, B⟩
end Go.Proofs.YtdahabbdhjgpdaaDoor
