/- What the draw of strides leaves. -/
import Derived.Test.YtlfbbdeoejafkaaV1
import Derived.Test.YtlfbbdeoejafkaaR0
import Derived.WalkKit
import Derived.WalkSpells
import Derived.WalkLawsBesides
import Derived.Deep.RegionHeld
import Derived.Deep.RegionHeld3
namespace Go.Proofs.Ytlfbbdeoejafkaa
open Go.RowKit
set_option linter.unusedVariables false
theorem Bx.but {p k : Nat} {w w' : World} {x y : Int} (h : Bx w k x y) (hw : But p w w') (hk : k ≠ p) : Bx w' k x y :=
  ⟨Nat.lt_of_lt_of_le h.1 hw.2.2.2.1, by rw [hw.cell h.1 hk]; exact h.2.1, by rw [hw.cell h.1 hk]; exact h.2.2.1, by rw [hw.frozen h.1 hk]; exact h.2.2.2.1, by rw [hw.frozen h.1 hk]; exact h.2.2.2.2⟩
theorem But.grown3 {p : Nat} {w w' : World} (h : But p w w') : w.grownBy w' (some p) := ⟨h.1, h.2.1, h.2.2.1, h.2.2.2.1, fun k hk hp => h.2.2.2.2 k hk (fun e => hp (by rw [e]))⟩
theorem own_but {w w' : World} {base p : Nat} {e : TypeId} {size : Nat} {v : Value} {n : Nat} {xs : List Value} (h : w.ownsRow base e size v n xs) (hb : But p w w') (hp : p < base) : w'.ownsRow base e size v n xs :=
  h.kept hb.grown3 (by
    cases hv : v.ownBlock with
    | none => exact .inl rfl
    | some g => exact .inr (fun he => by have := (h.lt g hv).1; simp at he; omega))
theorem CurOk.belowB {w w' : World} {B p base : Nat} (h : CurOk w B p) (hb : Below base w w') (hp : p < base) : CurOk w' B p := by
  obtain ⟨a, n, c, i, hh, h0, h1, h2, f0, f1, f2, hi, hn, hc, hB, hpw⟩ := h
  refine ⟨a, n, c, i, hh, ?_, ?_, ?_, ?_, ?_, ?_, hi, hn, hc.below (hb.mono (by omega)), hB, Nat.lt_of_lt_of_le hpw hb.size⟩
  · rw [hb.cell (p := ⟨p, 0, none⟩) hp]; exact h0
  · rw [hb.cell (p := ⟨p, 1, none⟩) hp]; exact h1
  · rw [hb.cell (p := ⟨p, 2, none⟩) hp]; exact h2
  · rw [hb.frozen (p := ⟨p, 0, none⟩) hp]; exact f0
  · rw [hb.frozen (p := ⟨p, 1, none⟩) hp]; exact f1
  · rw [hb.frozen (p := ⟨p, 2, none⟩) hp]; exact f2
theorem But.thenBelow {p : Nat} {a w w' : World} (h : But p a w) (hb : Below a.heap.size w w') : But p a w' :=
  ⟨hb.os.trans h.1, hb.tape.trans h.2.1, hb.output.trans h.2.2.1, Nat.le_trans h.2.2.2.1 hb.size, fun k hk hp => (hb.block k hk).trans (h.2.2.2.2 k hk hp)⟩
theorem infoStr : (Try.prog.info? 67).map (fun i => (i.zero, i.size, i.bytes)) = some (some (.agg #[.int .i64 0, .int .i64 0]), 2, 16) := by kernel_rfl
set_option maxHeartbeats 4000000 in
theorem l3DrawStride_any (B p : Nat) (w : World) (hcur : CurOk w B p) :
    Calls Try.prog 58 #[.pointer (some ⟨p, 0, none⟩)] w fun e w' => ∃ x y : Int, e = .returned (.agg #[.int .i64 x, .int .i64 y]) ∧ CurOk w' B p ∧ But p w w' := by
  have hpl := hcur.lt
  have hpw : w.heap.size ≠ p := by omega
  have hBw : B ≤ w.heap.size := by omega
  have A1 := Below.alc w (.cells #[.int .i64 0, .int .i64 0] 67)
  have R0 := Bx.new w 0 0 67
  go_enter Try.func58, Try.ntmps58
  go_wp2_with fail
  refine (l1Below_any B p 90 _ (by exact hcur.below A1)).mono ?_
  rintro e w1 ⟨x0, rfl, -, -, -, -, w1c, w1b⟩
  have R1 := R0.but w1b hpw
  have b1 : But p w w1 := (But.of_below A1).trans w1b
  clear R0 A1 w1b hcur
  go_wp2_with fail
  refine (l1Once_any B p 15 _ w1c).mono ?_
  rintro e w2 ⟨o1, rfl, w2c, w2b⟩
  have R2 := R1.but w2b hpw
  have b2 : But p w w2 := b1.trans w2b
  clear R1 b1 w2b w1c
  cases o1
  · go_wp2_with fail
    refine (l1Below_any B p 30 _ w2c).mono ?_
    rintro e w4 ⟨z, rfl, -, -, -, -, w4c, w4b⟩
    have R4 := R2.but w4b hpw
    have b4 : But p w w4 := b2.trans w4b
    have q4 := w4c.lt
    have hk : w4.heap.size ≠ p := by omega
    have hwk : w.heap.size < w4.heap.size := R4.1
    have hwk' : w.heap.size ≤ w4.heap.size := by omega
    have hBk : B ≤ w4.heap.size := by omega
    have n1 : w.heap.size ≠ w4.heap.size := by omega
    have n2 : w4.heap.size ≠ w.heap.size := by omega
    clear R2 b2 w4b w2c
    go_wp2_with fail
    generalize wrap64 (wrap64 (x0 + z) - 15) = y0 at *
    have A4 := Below.alc w4 (.cells #[.int .i64 x0, .int .i64 y0] 67)
    have N4 := Bx.new w4 x0 y0 67
    refine (l1Once_any B p 12 _ (by exact w4c.below A4)).mono ?_
    rintro e w5 ⟨o2, rfl, w5c, w5b⟩
    have R5 := (R4.below A4).but w5b hpw
    have N5 := N4.but w5b hk
    have b5 : But p w w5 := (b4.alloc _).trans w5b
    clear R4 N4 b4 w5b w4c A4
    generalize w4.heap.size = k at *
    cases o2
    · obtain ⟨g1, g2, g3, g4, g5⟩ := R5; obtain ⟨m1, m2, m3, m4, m5⟩ := N5; go_wp2_with fail; exact bodyPost_ret (v := .agg #[.int .i64 x0, .int .i64 y0]) (by simp (maxDischargeDepth := 6) [results, Try.results58, go_sem, *]) rfl ⟨_, _, rfl, ((w5c).setOther hpw hBw _ _).setOther hpw hBw _ _, ((b5).setNew (Nat.le_refl _) _ _).setNew (Nat.le_refl _) _ _⟩
    · go_wp2_with fail
      have hp := pickLit B p w5 [0, -1, 9223372036854775807, -9223372036854775807] w5c (by decide) (by decide); simp only [List.map_cons, List.map_nil, List.length_cons, List.length_nil, Nat.zero_add, Nat.reduceAdd] at hp; refine hp.mono ?_; clear hp; rintro e w6 ⟨y1, rfl, w6c, w6b⟩
      have R6 := R5.but w6b hpw
      have N6 := N5.but w6b hk
      have b6 : But p w w6 := b5.trans w6b
      clear R5 N5 b5 w6b w5c
      obtain ⟨g1, g2, g3, g4, g5⟩ := R6; obtain ⟨m1, m2, m3, m4, m5⟩ := N6; go_wp2_with fail; exact bodyPost_ret (v := .agg #[.int .i64 x0, .int .i64 y1]) (by simp (maxDischargeDepth := 6) [results, Try.results58, go_sem, *]) rfl ⟨_, _, rfl, (((w6c.setOther hk hBk _ _)).setOther hpw hBw _ _).setOther hpw hBw _ _, (((b6.setNew hwk' _ _)).setNew (Nat.le_refl _) _ _).setNew (Nat.le_refl _) _ _⟩
  · go_wp2_with fail
    refine (l2DrawCount_any B p _ w2c).mono ?_
    rintro e w3 ⟨x1, rfl, w3c, w3b⟩
    have R3 := R2.but w3b hpw
    have b3 : But p w w3 := b2.trans w3b
    clear R2 b2 w3b w2c
    go_wp2_with fail
    refine (l1Below_any B p 30 _ w3c).mono ?_
    rintro e w4 ⟨z, rfl, -, -, -, -, w4c, w4b⟩
    have R4 := R3.but w4b hpw
    have b4 : But p w w4 := b3.trans w4b
    have q4 := w4c.lt
    have hk : w4.heap.size ≠ p := by omega
    have hwk : w.heap.size < w4.heap.size := R4.1
    have hwk' : w.heap.size ≤ w4.heap.size := by omega
    have hBk : B ≤ w4.heap.size := by omega
    have n1 : w.heap.size ≠ w4.heap.size := by omega
    have n2 : w4.heap.size ≠ w.heap.size := by omega
    clear R3 b3 w4b w3c
    go_wp2_with fail
    generalize wrap64 (wrap64 (x1 + z) - 15) = y0 at *
    have A4 := Below.alc w4 (.cells #[.int .i64 x1, .int .i64 y0] 67)
    have N4 := Bx.new w4 x1 y0 67
    refine (l1Once_any B p 12 _ (by exact w4c.below A4)).mono ?_
    rintro e w5 ⟨o2, rfl, w5c, w5b⟩
    have R5 := (R4.below A4).but w5b hpw
    have N5 := N4.but w5b hk
    have b5 : But p w w5 := (b4.alloc _).trans w5b
    clear R4 N4 b4 w5b w4c A4
    generalize w4.heap.size = k at *
    cases o2
    · obtain ⟨g1, g2, g3, g4, g5⟩ := R5; obtain ⟨m1, m2, m3, m4, m5⟩ := N5; go_wp2_with fail; exact bodyPost_ret (v := .agg #[.int .i64 x1, .int .i64 y0]) (by simp (maxDischargeDepth := 6) [results, Try.results58, go_sem, *]) rfl ⟨_, _, rfl, ((w5c).setOther hpw hBw _ _).setOther hpw hBw _ _, ((b5).setNew (Nat.le_refl _) _ _).setNew (Nat.le_refl _) _ _⟩
    · go_wp2_with fail
      have hp := pickLit B p w5 [0, -1, 9223372036854775807, -9223372036854775807] w5c (by decide) (by decide); simp only [List.map_cons, List.map_nil, List.length_cons, List.length_nil, Nat.zero_add, Nat.reduceAdd] at hp; refine hp.mono ?_; clear hp; rintro e w6 ⟨y1, rfl, w6c, w6b⟩
      have R6 := R5.but w6b hpw
      have N6 := N5.but w6b hk
      have b6 : But p w w6 := b5.trans w6b
      clear R5 N5 b5 w6b w5c
      obtain ⟨g1, g2, g3, g4, g5⟩ := R6; obtain ⟨m1, m2, m3, m4, m5⟩ := N6; go_wp2_with fail; exact bodyPost_ret (v := .agg #[.int .i64 x1, .int .i64 y1]) (by simp (maxDischargeDepth := 6) [results, Try.results58, go_sem, *]) rfl ⟨_, _, rfl, (((w6c.setOther hk hBk _ _)).setOther hpw hBw _ _).setOther hpw hBw _ _, (((b6.setNew hwk' _ _)).setNew (Nat.le_refl _) _ _).setNew (Nat.le_refl _) _ _⟩
set_option maxHeartbeats 2000000 in
theorem l3DrawStrides_any (B p : Nat) (m : Int) (w : World) (hcur : CurOk w B p) (h1 : m ≤ 1000) :
    Calls Try.prog 29 #[.pointer (some ⟨p, 0, none⟩), .int .i64 m] w fun e w' => ∃ v : Value, ∃ L : List (Int × Int), e = .returned v ∧ w'.ownsRow w.heap.size 67 2 v L.length (prs L) ∧ L.length ≤ 1000 ∧ CurOk w' B p ∧ But p w w' := by
  obtain ⟨i0, hi, hz0, hz1, hz2⟩ := info_parts infoStr
  have hpl := hcur.lt
  have b0 : But p w (w.alloc (.cells #[] 67)) := But.of_below (Below.alc _ _)
  have O0 : (w.alloc (.cells #[] 67)).ownsRow w.heap.size 67 2 (.slice (some ⟨w.heap.size, 0, none⟩) 0 0) 0 [] := World.ownsRow_made w #[] 0 (Nat.le_refl _) (by simp [maxLen]) (by simp)
  have c0 : CurOk (w.alloc (.cells #[] 67)) B p := hcur.below (Below.alc _ _)
  go_enter Try.func29, Try.ntmps29
  go_wp2_with fail
  generalize w.alloc (.cells #[] 67) = v0 at *
  go_loopw [5, 6] (fun v i wr => ∃ L : List (Int × Int), L.length ≤ 1000 ∧ i = .int .i64 L.length ∧ wr.ownsRow w.heap.size 67 2 v L.length (prs L) ∧ CurOk wr B p ∧ But p w wr) (fun _ i _ => 1001 - (intOf i).toNat)
  case atStart => exact ⟨[], by simp, rfl, O0, c0, b0⟩
  case round =>
    obtain ⟨L, hk, rfl, O, c, bb⟩ := hrel
    clear O0 c0 b0 hcur
    by_cases hlt : (L.length : Int) < m
    · go_wp2_with fail
      refine (l3DrawStride_any B p _ c).mono ?_
      rintro e w7 ⟨x, y, rfl, w7c, w7b⟩
      have O7 := own_but O w7b (by omega)
      have b7 : But p w w7 := bb.trans w7b
      clear O bb c w7b
      have s7 : w.heap.size ≤ w7.heap.size := b7.2.2.2.1
      go_wp2_with (at_builtin; refine wpList_append_own _ rfl _ _ 28 rfl w.heap.size 67 i0 (.agg #[.int .i64 0, .int .i64 0]) 2 16 Try.underlying28 hi hz0 hz1 hz2 rfl (by decide) _ _ _ rfl (World.ownsRow.alloc O7 _) ⟨w7.heap.size, 0, none⟩ 1 1 [.int .i64 x, .int .i64 y] rfl rfl ?c1 ?c2 ?c3 ?c4 ?c5 ?_)
      case c1 => intro j u hj; exact pair_at w7 _ _ 67 j u hj
      case c2 => intro u hu; simp at hu; rcases hu with rfl | rfl <;> rfl
      case c3 => unfold maxLen; omega
      case c4 => omega
      case c5 => simp; omega
      · intro v' w9 hown' hgrow _
        have A9 := Below.alc w7 (.cells #[.int .i64 x, .int .i64 y] 67)
        have hsz : w.heap.size ≤ (w7.alloc (.cells #[.int .i64 x, .int .i64 y] 67)).heap.size := by simp; omega
        have G9 := grown_below (World.ownsRow.alloc O7 _) hgrow hsz
        have w9c : CurOk w9 B p := CurOk.belowB (CurOk.below w7c A9) G9 (by omega)
        have b9 : But p w w9 := But.thenBelow (But.alloc b7 _) G9
        have R9 : w9.ownsRow w.heap.size 67 2 v' (L ++ [(x, y)]).length (prs (L ++ [(x, y)])) := by rw [prs_add]; simpa using hown'
        clear hown' hgrow G9 A9 hsz O7 b7 w7c
        go_wp2
        go_roundw
        case rel => exact ⟨L ++ [(x, y)], by simp; omega, by simp; try go_num, R9, w9c, b9⟩
        case measure => simp [intOf]; omega
    · have hd : decide ((L.length : Int) < m) = false := by simp; omega
      go_wp2_with fail
      exact bodyPost_ret (v := u5) (by simp (maxDischargeDepth := 6) [results, Try.results29, go_sem, *]) rfl ⟨u5, rfl, L, O, hk, c, bb⟩
set_option maxHeartbeats 400000 in
theorem l1Size_m (a : Option Addr) (n c : Nat) (k : Int) (w : World) (hn : n ≤ 1048576) (h0 : 0 ≤ k) (h1 : k ≤ 100) :
    Calls Try.prog 27 #[.slice a n c, .int .i64 k] w fun e w' => ∃ x : Int, e = .returned (.int .i64 x) ∧ 0 ≤ x ∧ x ≤ k ∧ w = w' := by
  have hq : (n : Int).tdiv 20 = (n : Int) / 20 := Int.tdiv_eq_ediv_of_nonneg (by omega)
  go_enter Try.func27, Try.ntmps27
  go_wp2
  all_goals go_ret
  all_goals exact ⟨_, rfl, by omega, by omega, rfl⟩
end Go.Proofs.Ytlfbbdeoejafkaa
