/- What the draws of texts and numbers of chapter 21 leave. -/
import Derived.Test.YtddjiamollfplaaDoorY1
import Derived.WalkKit
import Derived.WalkSpells
import Derived.WalkLawsBesides
import Derived.Deep.QuietTactic
import Derived.BigQuiet
namespace Go.Proofs.YtddjiamollfplaaDoor
open Go.RowKit
set_option linter.unusedVariables false
set_option maxHeartbeats 4000000 in
theorem l5DrawText_any (B p : Nat) (w : World) (hcur : CurOk w B p) :
    Calls Tryd.prog 45 #[.pointer (some ⟨p, 0, none⟩)] w fun e w' => ∃ s : ByteArray, e = .returned (.string s) ∧ s.size ≤ 100 ∧ CurOk w' B p ∧ But p w w' := by
  obtain ⟨i0, hi, hz0, hz1, hz2⟩ := info_parts infoByte
  have hpl := hcur.lt
  go_enter Tryd.func45, Tryd.ntmps45
  go_wp2_with fail
  refine (l1Once_any B p _ _ hcur).mono ?_
  rintro e w1 ⟨bo, rfl, w1c, w1b⟩
  have hp1 := w1c.lt
  have hw1 : w.heap.size ≤ w1.heap.size := w1b.2.2.2.1
  cases bo
  · go_wp2_with fail
    refine (l4DrawBody_any B p 6 _ w1c (by omega) (by omega)).mono ?_
    rintro e w2 ⟨s, rfl, hs, w2c, w2b⟩
    go_wp2_with fail
    go_ret
    exact ⟨s, rfl, hs, w2c, w1b.trans w2b⟩
  have A1 := Below.al w1 (.cells #[] 5)
  have o1 : (w1.alloc (.cells #[] 5)).ownsRow w1.heap.size 5 1 (.slice (some ⟨w1.heap.size, 0, none⟩) 0 0) ([] : List Int).length (bts []) := World.ownsRow_made w1 #[] 0 (Nat.le_refl _) (by simp [maxLen]) (by simp)
  have b1 : But p w (w1.alloc (.cells #[] 5)) := But.alloc w1b _
  have c1 := w1c.below A1
  clear hcur w1c w1b A1
  go_wp2_with fail
  go_loopw [3, 4] (fun v i wr => ∃ L : List Int, L.length ≤ 66 ∧ i = .int .i64 L.length ∧ wr.ownsRow w1.heap.size 5 1 v L.length (bts L) ∧ CurOk wr B p ∧ But p w wr ∧ w1.heap.size ≤ wr.heap.size) (fun _ i _ => 66 - (intOf i).toNat)
  case atStart => exact ⟨[], by simp, rfl, o1, c1, b1, by simp⟩
  case round =>
    obtain ⟨L, hk, rfl, hown, wrc, wrb, hws⟩ := hrel
    clear o1 c1 b1
    go_wp2_with fail
    refine (l1Below_any B p _ _ wrc).mono ?_
    rintro e w3 ⟨x, rfl, xl, xh, xp, xz, w3c, w3b⟩
    have hx := xp (by omega)
    have o3 := own_but hown w3b (by omega)
    have b3 : But p w w3 := wrb.trans w3b
    have hws3 : w1.heap.size ≤ w3.heap.size := Nat.le_trans hws w3b.2.2.2.1
    clear xp xz hown wrc wrb w3b hws
    have hwx : IntKind.i64.wrap (64 + x) = 64 + x := Go.IntWalk.i64_in _ ⟨by omega, by omega⟩
    by_cases hlt : (L.length : Int) < 64 + x
    · have hd : decide ((L.length : Int) < 64 + x) = true := by (rw [decide_eq_true_iff]; exact hlt)
      have A3 := Below.al w3 (.cells #[.int .u8 120] 5)
      have hsz : w1.heap.size ≤ (w3.alloc (.cells #[.int .u8 120] 5)).heap.size := by simp; omega
      go_wp2_with (at_builtin; refine wpList_append_own _ rfl _ _ 22 rfl w1.heap.size 5 i0 (.int .u8 0) 1 1 Tryd.underlying22 hi hz0 hz1 hz2 rfl (by decide) _ _ _ rfl (World.ownsRow.alloc o3 _) ⟨w3.heap.size, 0, none⟩ 1 1 [.int .u8 120] rfl rfl (fun j u hj => byte_at w3 _ 5 j u hj) (by intro u hu; simp at hu; subst hu; rfl) (by unfold maxLen; omega) (by omega) hsz ?_; intro v' w4 hown' hgrow _)
      have G4 := grownB_below (World.ownsRow.alloc o3 _) hgrow hsz
      have w4c : CurOk w4 B p := CurOk.belowB (CurOk.below w3c A3) G4 (by omega)
      have b4 : But p w w4 := But.thenBelow (But.alloc b3 _) (G4.mono hw1)
      have hws4 : w1.heap.size ≤ w4.heap.size := Nat.le_trans hsz G4.size
      have R4 : w4.ownsRow w1.heap.size 5 1 v' (L ++ [120]).length (bts (L ++ [120])) := by rw [bts_add]; simpa using hown'
      clear hown' hgrow G4 A3 hsz o3 b3 w3c
      (try go_wp2_with fail)
      go_roundw
      case rel => exact ⟨L ++ [120], by simp; omega, by simp; try go_num, R4, w4c, b4, hws4⟩
      case measure => simp [intOf]; omega
    · have hd : decide ((L.length : Int) < 64 + x) = false := by (rw [decide_eq_false_iff_not]; exact hlt)
      obtain ⟨a, c, rfl, hc, hcm, hs⟩ := ownB_src o3
      have HCV : ∃ s : ByteArray, s.size ≤ 100 ∧ (convert 22 9 (.slice a L.length c)).run Tryd.prog w3 = .ok (.string s) w3 := by
        rcases o3.2 with ⟨he, h0⟩ | ⟨g, cap, cur, he, _⟩
        · simp at he
          obtain ⟨rfl, _, _⟩ := he
          exact ⟨ByteArray.empty, by simp, run_convert_bytes_nil w3 22 5 Tryd.underlying22 Tryd.underlying5 _ _ 9 Tryd.underlying9⟩
        · simp at he
          obtain ⟨rfl, rfl⟩ := he
          refine ⟨strOfNums L, by rw [strOfNums_size]; omega, run_convert_bytes_arg w3 22 5 Tryd.underlying22 Tryd.underlying5 g 0 L.length c L rfl (fun i hi => ?_) 9 Tryd.underlying9⟩
          rcases hs with q | ⟨b', off', q1, q2⟩
          · omega
          · simp at q1
            obtain ⟨rfl, rfl⟩ := q1
            exact q2.2 i hi
      obtain ⟨s, hs100, hcv⟩ := HCV
      clear hs o3
      go_wp2_with fail
      go_ret
      exact ⟨s, rfl, hs100, w3c, b3⟩
set_option maxHeartbeats 1000000 in
theorem DrawHexOf_any (a : Option Addr) (n c : Nat) (w : World) (hn : n ≤ 1048576) (hcode : CodeB w w.heap.size a n) :
    Calls Tryd.prog 13 #[.slice a n c] w fun e w' => ∃ s : ByteArray, e = .returned (.string s) ∧ s.size ≤ 100 ∧ Below w.heap.size w w' := by
  go_enter Tryd.func13, Tryd.ntmps13
  go_wp2_with fail
  refine (l1New_any a n c _ hn hcode).mono ?_
  rintro e w1 ⟨p, rfl, hc, hb⟩
  have hl := hc.lt
  go_wp2_with fail
  refine (l5DrawText_any _ p _ hc).mono ?_
  rintro e w2 ⟨s, rfl, hs, hc2, hb2⟩
  go_wp2_with fail
  go_ret
  exact ⟨_, rfl, hs, hb.trans (hb2.below hl.2 hb.size)⟩
set_option maxHeartbeats 4000000 in
theorem DrawTextOf_any (a : Option Addr) (n c : Nat) (w : World) (hn : n ≤ 1048576) (hcode : CodeB w w.heap.size a n) :
    Calls Tryd.prog 16 #[.slice a n c] w fun e w' => ∃ x : Int, e = .returned (.int .i64 x) ∧ -9223372036854775808 ≤ x ∧ x ≤ 9223372036854775807 ∧ Below w.heap.size w w' := by
  go_enter Tryd.func16, Tryd.ntmps16
  go_wp2_with fail
  refine (l1New_any a n c _ hn hcode).mono ?_
  rintro e w1 ⟨p, rfl, hc, hb⟩
  have hl := hc.lt
  go_wp2_with fail
  refine (l1Below_any _ p _ _ hc).mono ?_
  rintro e w2 ⟨y, rfl, y0, y1, yp, yz, w2c, w2b⟩
  have hy := yp (by omega)
  clear yp yz
  go_wp2_with fail
  refine (l1Below_any _ p _ _ w2c).mono ?_
  rintro e w3 ⟨z, rfl, z0, z1, zp, zz, w3c, w3b⟩
  have hz := zp (by omega)
  have hwz : IntKind.i64.wrap (-z) = -z := Go.IntWalk.i64_in _ ⟨by omega, by omega⟩
  have b3 := w2b.trans w3b
  clear zp zz w2b w3b w2c hc
  go_wp2_with fail
  have hp := pickIn _ p w3 [0, -1, 10, -10, 9223372036854775807, -9223372036854775808, y, -z, 1000000000000] w3c (by simp) (by simp)
  simp only [List.map_cons, List.map_nil, List.length_cons, List.length_nil, Nat.zero_add, Nat.reduceAdd] at hp
  refine hp.mono ?_
  clear hp
  rintro e w4 ⟨x, rfl, xm, w4c, w4b⟩
  have hx : -9223372036854775808 ≤ x ∧ x ≤ 9223372036854775807 := by simp at xm; omega
  clear xm
  go_wp2_with fail
  go_ret
  exact ⟨_, rfl, hx.1, hx.2, hb.trans ((b3.trans w4b).below hl.2 hb.size)⟩
end Go.Proofs.YtddjiamollfplaaDoor
