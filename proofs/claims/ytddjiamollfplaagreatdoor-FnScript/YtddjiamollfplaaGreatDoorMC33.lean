/- What the laws make of bytes, and whether two rows of them are the same. What the draw of a message of chapter 4 leaves: some text. What the draws of texts and numbers of chapter 21 leave. -/
import Derived.Test.YtddjiamollfplaaGreatDoorMC10
namespace Go.Proofs.YtddjiamollfplaaGreatDoor
open Go.RowKit
set_option linter.unusedVariables false
def iJ (w : World) (b t n k : Nat) (f : Nat → Int) : Prop := ∃ g, w.rowIs b t n g ∧ ∀ j, j < k → g j = .int .u8 (f j)
theorem iJ.below {w w' : World} {B b t n k : Nat} {f : Nat → Int} (h : iJ w b t n k f) (hb : Below B w w') (hB : b < B) : iJ w' b t n k f := by
 obtain ⟨g, hr, hg⟩ := h
 exact ⟨g, hr.of_block (hb.block b hB), hg⟩
theorem iJ.facts {w : World} {b t n k : Nat} {f : Nat → Int} (h : iJ w b t n k f) (hk : k < n) : b < w.heap.size ∧ (∃ v, w.cell? ⟨b, k, none⟩ = some v) ∧ w.frozen? ⟨b, k, none⟩ = false := by
 obtain ⟨g, hr, hg⟩ := h
 exact ⟨hr.lt, ⟨_, hr.cell (by omega)⟩, hr.frozen _⟩
theorem iJ.lt {w : World} {b t n k : Nat} {f : Nat → Int} (h : iJ w b t n k f) : b < w.heap.size := by obtain ⟨g, hr, hg⟩ := h; exact hr.lt
end Go.Proofs.YtddjiamollfplaaGreatDoor
namespace Go.Proofs.YtddjiamollfplaaGreatDoor
open Go.RowKit
set_option linter.unusedVariables false
set_option maxHeartbeats 4000000 in
theorem bI (B p : Nat) (most : Int) (w : World) (hcur : aq w B p) (h0 : 0 ≤ most) (h1 : most ≤ 99) :
 Calls Tryz.prog 77 #[.pointer (some ⟨p, 0, none⟩), .int .i64 most] w fun e w' => ∃ s : ByteArray, e = .returned (.string s) ∧ s.size ≤ 100 ∧ aq w' B p ∧ But p w w' := by
 obtain ⟨i0, hi, hz0, hz1, hz2⟩ := info_parts infoByte
 have hpl := hcur.lt
 have A1 := Below.al w (.cells #[] 5)
 have o0 : (w.alloc (.cells #[] 5)).ownsRow w.heap.size 5 1 (.slice (some ⟨w.heap.size, 0, none⟩) 0 0) 0 [] := World.ownsRow_made w #[] 0 (Nat.le_refl _) (by simp [maxLen]) (by simp)
 go_enter Tryz.func77, Tryz.ntmps77
 go_wp2_with fail
 refine (af B p _ _ (hcur.below A1)).mono ?_
 rintro e w1 ⟨x, rfl, xl, xh, xp, xz, w1c, w1b⟩
 have hx := xp (by omega)
 have o1 := ea o0 w1b (by omega)
 have b1 : But p w w1 := (But.of_below A1).trans w1b
 clear xp xz o0 A1 w1b hcur
 go_wp2_with fail
 go_loopw [5, 7] (fun v i wr => ∃ L : List Int, (L.length : Int) ≤ x ∧ i = .int .i64 L.length ∧ wr.ownsRow w.heap.size 5 1 v L.length (bts L) ∧ aq wr B p ∧ But p w wr) (fun _ i _ => x.toNat - (intOf i).toNat)
 case atStart => exact ⟨[], by simpa using xl, rfl, o1, w1c, b1⟩
 case round =>
  obtain ⟨L, hk, rfl, hown, wrc, wrb⟩ := hrel
  clear o1 w1c b1
  by_cases hlt : (L.length : Int) < x
  ·go_wp2_with fail
   have hp := ga B p wr [97, 98, 99, 32, 48, 0, 255, 128, 34, 92] wrc (by simp) (by simp); simp only [List.map_cons, List.map_nil, List.length_cons, List.length_nil, Nat.zero_add, Nat.reduceAdd] at hp; refine hp.mono ?_; clear hp; rintro e w3 ⟨y, rfl, ym, w3c, w3b⟩
   have y0 : 0 ≤ y ∧ y ≤ 255 := by simp at ym; omega
   have hyw : IntKind.u8.wrap y = y := Go.IntWalk.u8_in _ ⟨by omega, by omega⟩
   have o3 := ea hown w3b (by omega)
   have b3 : But p w w3 := wrb.trans w3b
   clear ym hown wrc wrb w3b
   have hsz : w.heap.size ≤ (w3.alloc (.cells #[.int .u8 y] 5)).heap.size := by have := b3.2.2.2.1; simp; omega
   have A3 := Below.al w3 (.cells #[.int .u8 y] 5)
   go_wp2_with (at_builtin; refine wpList_append_own _ rfl _ _ 22 rfl w.heap.size 5 i0 (.int .u8 0) 1 1 Tryz.underlying22 hi hz0 hz1 hz2 rfl (by decide) _ _ _ rfl (World.ownsRow.alloc o3 _) ⟨w3.heap.size, 0, none⟩ 1 1 [.int .u8 y] rfl rfl (fun j u hj => bU w3 _ 5 j u hj) (by intro u hu; simp at hu; subst hu; rfl) (by unfold maxLen; omega) (by omega) hsz ?_; intro v' w4 hown' hgrow _)
   have G4 := ap (World.ownsRow.alloc o3 _) hgrow hsz
   have w4c : aq w4 B p := aq.belowB (aq.below w3c A3) G4 (by omega)
   have b4 : But p w w4 := But.thenBelow (But.alloc b3 _) G4
   have R4 : w4.ownsRow w.heap.size 5 1 v' (L ++ [y]).length (bts (L ++ [y])) := by rw [cu]; simpa using hown'
   clear hown' hgrow G4 A3 hsz o3 b3 w3c
   (try go_wp2_with fail)
   go_roundw
   case rel => exact ⟨L ++ [y], by simp; omega, by simp; try go_num, R4, w4c, b4⟩
   case measure => simp [intOf]; omega
  ·obtain ⟨a, c, rfl, hc, hcm, hs⟩ := cq hown
   have HCV : ∃ s : ByteArray, s.size ≤ 100 ∧ (convert 22 9 (.slice a L.length c)).run Tryz.prog wr = .ok (.string s) wr := by
    rcases hown.2 with ⟨he, h0⟩ | ⟨g, cap, cur, he, _⟩
    ·simp at he
     obtain ⟨rfl, _, _⟩ := he
     exact ⟨ByteArray.empty, by simp, run_convert_bytes_nil wr 22 5 Tryz.underlying22 Tryz.underlying5 _ _ 9 Tryz.underlying9⟩
    ·simp at he
     obtain ⟨rfl, rfl⟩ := he
     refine ⟨strOfNums L, by rw [strOfNums_size]; omega, run_convert_bytes_arg wr 22 5 Tryz.underlying22 Tryz.underlying5 g 0 L.length c L rfl (fun i hi => ?_) 9 Tryz.underlying9⟩
     rcases hs with q | ⟨b', off', q1, q2⟩
     ·omega
     ·simp at q1
      obtain ⟨rfl, rfl⟩ := q1
      exact q2.2 i hi
   obtain ⟨s, hs100, hcv⟩ := HCV
   clear hs hown
   go_wp2_with fail
   go_ret
   exact ⟨s, rfl, hs100, wrc, wrb⟩
end Go.Proofs.YtddjiamollfplaaGreatDoor
namespace Go.Proofs.YtddjiamollfplaaGreatDoor
open Go.RowKit
set_option linter.unusedVariables false
set_option maxHeartbeats 4000000 in
theorem ev (B p : Nat) (w : World) (hcur : aq w B p) :
 Calls Tryz.prog 80 #[.pointer (some ⟨p, 0, none⟩)] w fun e w' => ∃ s : ByteArray, e = .returned (.string s) ∧ s.size ≤ 100 ∧ aq w' B p ∧ But p w w' := by
 obtain ⟨i0, hi, hz0, hz1, hz2⟩ := info_parts infoByte
 have hpl := hcur.lt
 go_enter Tryz.func80, Tryz.ntmps80
 go_wp2_with fail
 refine (aB B p _ _ hcur).mono ?_
 rintro e w1 ⟨bo, rfl, w1c, w1b⟩
 have hp1 := w1c.lt
 have hw1 : w.heap.size ≤ w1.heap.size := w1b.2.2.2.1
 cases bo
 ·go_wp2_with fail
  refine (bI B p 6 _ w1c (by omega) (by omega)).mono ?_
  rintro e w2 ⟨s, rfl, hs, w2c, w2b⟩
  go_wp2_with fail
  go_ret
  exact ⟨s, rfl, hs, w2c, w1b.trans w2b⟩
 have A1 := Below.al w1 (.cells #[] 5)
 have o1 : (w1.alloc (.cells #[] 5)).ownsRow w1.heap.size 5 1 (.slice (some ⟨w1.heap.size, 0, none⟩) 0 0) ([] : List Int).length (bts []) := World.ownsRow_made w1 #[] 0 (Nat.le_refl _) (by simp [maxLen]) (by simp)
 have b1 : But p w (w1.alloc (.cells #[] 5)) := But.alloc w1b _
 have c1 := w1c.below A1
 clear hcur w1c w1b A1
 go_wp2_with fail
 go_loopw [3, 4] (fun v i wr => ∃ L : List Int, L.length ≤ 66 ∧ i = .int .i64 L.length ∧ wr.ownsRow w1.heap.size 5 1 v L.length (bts L) ∧ aq wr B p ∧ But p w wr ∧ w1.heap.size ≤ wr.heap.size) (fun _ i _ => 66 - (intOf i).toNat)
 case atStart => exact ⟨[], by simp, rfl, o1, c1, b1, by simp⟩
 case round =>
  obtain ⟨L, hk, rfl, hown, wrc, wrb, hws⟩ := hrel
  clear o1 c1 b1
  go_wp2_with fail
  refine (af B p _ _ wrc).mono ?_
  rintro e w3 ⟨x, rfl, xl, xh, xp, xz, w3c, w3b⟩
  have hx := xp (by omega)
  have o3 := ea hown w3b (by omega)
  have b3 : But p w w3 := wrb.trans w3b
  have hws3 : w1.heap.size ≤ w3.heap.size := Nat.le_trans hws w3b.2.2.2.1
  clear xp xz hown wrc wrb w3b hws
  have hwx : IntKind.i64.wrap (64 + x) = 64 + x := Go.IntWalk.i64_in _ ⟨by omega, by omega⟩
  by_cases hlt : (L.length : Int) < 64 + x
  ·have hd : decide ((L.length : Int) < 64 + x) = true := by (rw [decide_eq_true_iff]; exact hlt)
   have A3 := Below.al w3 (.cells #[.int .u8 120] 5)
   have hsz : w1.heap.size ≤ (w3.alloc (.cells #[.int .u8 120] 5)).heap.size := by simp; omega
   go_wp2_with (at_builtin; refine wpList_append_own _ rfl _ _ 22 rfl w1.heap.size 5 i0 (.int .u8 0) 1 1 Tryz.underlying22 hi hz0 hz1 hz2 rfl (by decide) _ _ _ rfl (World.ownsRow.alloc o3 _) ⟨w3.heap.size, 0, none⟩ 1 1 [.int .u8 120] rfl rfl (fun j u hj => bU w3 _ 5 j u hj) (by intro u hu; simp at hu; subst hu; rfl) (by unfold maxLen; omega) (by omega) hsz ?_; intro v' w4 hown' hgrow _)
   have G4 := ap (World.ownsRow.alloc o3 _) hgrow hsz
   have w4c : aq w4 B p := aq.belowB (aq.below w3c A3) G4 (by omega)
   have b4 : But p w w4 := But.thenBelow (But.alloc b3 _) (G4.mono hw1)
   have hws4 : w1.heap.size ≤ w4.heap.size := Nat.le_trans hsz G4.size
   have R4 : w4.ownsRow w1.heap.size 5 1 v' (L ++ [120]).length (bts (L ++ [120])) := by rw [cu]; simpa using hown'
   clear hown' hgrow G4 A3 hsz o3 b3 w3c
   (try go_wp2_with fail)
   go_roundw
   case rel => exact ⟨L ++ [120], by simp; omega, by simp; try go_num, R4, w4c, b4, hws4⟩
   case measure => simp [intOf]; omega
  ·have hd : decide ((L.length : Int) < 64 + x) = false := by (rw [decide_eq_false_iff_not]; exact hlt)
   obtain ⟨a, c, rfl, hc, hcm, hs⟩ := cq o3
   have HCV : ∃ s : ByteArray, s.size ≤ 100 ∧ (convert 22 9 (.slice a L.length c)).run Tryz.prog w3 = .ok (.string s) w3 := by
    rcases o3.2 with ⟨he, h0⟩ | ⟨g, cap, cur, he, _⟩
    ·simp at he
     obtain ⟨rfl, _, _⟩ := he
     exact ⟨ByteArray.empty, by simp, run_convert_bytes_nil w3 22 5 Tryz.underlying22 Tryz.underlying5 _ _ 9 Tryz.underlying9⟩
    ·simp at he
     obtain ⟨rfl, rfl⟩ := he
     refine ⟨strOfNums L, by rw [strOfNums_size]; omega, run_convert_bytes_arg w3 22 5 Tryz.underlying22 Tryz.underlying5 g 0 L.length c L rfl (fun i hi => ?_) 9 Tryz.underlying9⟩
     rcases hs with q | ⟨b', off', q1, q2⟩
     ·omega
     ·simp at q1
      obtain ⟨rfl, rfl⟩ := q1
      exact q2.2 i hi
   obtain ⟨s, hs100, hcv⟩ := HCV
   clear hs o3
   go_wp2_with fail
   go_ret
   exact ⟨s, rfl, hs100, w3c, b3⟩
end Go.Proofs.YtddjiamollfplaaGreatDoor
