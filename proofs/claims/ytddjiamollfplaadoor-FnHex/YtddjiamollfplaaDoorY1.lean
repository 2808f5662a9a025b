/- What the draw of a message of chapter 4 leaves: some text. -/
import Derived.Test.YtddjiamollfplaaDoorL1
import Derived.Test.YtddjiamollfplaaDoorX1
import Derived.Test.YtddjiamollfplaaDoorG13
import Derived.Laws.BytesArg
import Derived.WalkKit
import Derived.WalkSpells
import Derived.WalkLawsBesides
import Derived.Deep.QuietTactic
import Derived.BigQuiet
namespace Go.Proofs.YtddjiamollfplaaDoor
open Go.RowKit
set_option linter.unusedVariables false
set_option maxHeartbeats 4000000 in
theorem l4DrawBody_any (B p : Nat) (most : Int) (w : World) (hcur : CurOk w B p) (h0 : 0 ≤ most) (h1 : most ≤ 99) :
    Calls Tryd.prog 84 #[.pointer (some ⟨p, 0, none⟩), .int .i64 most] w fun e w' => ∃ s : ByteArray, e = .returned (.string s) ∧ s.size ≤ 100 ∧ CurOk w' B p ∧ But p w w' := by
  obtain ⟨i0, hi, hz0, hz1, hz2⟩ := info_parts infoByte
  have hpl := hcur.lt
  have A1 := Below.al w (.cells #[] 5)
  have o0 : (w.alloc (.cells #[] 5)).ownsRow w.heap.size 5 1 (.slice (some ⟨w.heap.size, 0, none⟩) 0 0) 0 [] := World.ownsRow_made w #[] 0 (Nat.le_refl _) (by simp [maxLen]) (by simp)
  go_enter Tryd.func84, Tryd.ntmps84
  go_wp2_with fail
  refine (l1Below_any B p _ _ (hcur.below A1)).mono ?_
  rintro e w1 ⟨x, rfl, xl, xh, xp, xz, w1c, w1b⟩
  have hx := xp (by omega)
  have o1 := own_but o0 w1b (by omega)
  have b1 : But p w w1 := (But.of_below A1).trans w1b
  clear xp xz o0 A1 w1b hcur
  go_wp2_with fail
  go_loopw [5, 7] (fun v i wr => ∃ L : List Int, (L.length : Int) ≤ x ∧ i = .int .i64 L.length ∧ wr.ownsRow w.heap.size 5 1 v L.length (bts L) ∧ CurOk wr B p ∧ But p w wr) (fun _ i _ => x.toNat - (intOf i).toNat)
  case atStart => exact ⟨[], by simpa using xl, rfl, o1, w1c, b1⟩
  case round =>
    obtain ⟨L, hk, rfl, hown, wrc, wrb⟩ := hrel
    clear o1 w1c b1
    by_cases hlt : (L.length : Int) < x
    · go_wp2_with fail
      have hp := pickIn B p wr [97, 98, 99, 32, 48, 0, 255, 128, 34, 92] wrc (by simp) (by simp); simp only [List.map_cons, List.map_nil, List.length_cons, List.length_nil, Nat.zero_add, Nat.reduceAdd] at hp; refine hp.mono ?_; clear hp; rintro e w3 ⟨y, rfl, ym, w3c, w3b⟩
      have y0 : 0 ≤ y ∧ y ≤ 255 := by simp at ym; omega
      have hyw : IntKind.u8.wrap y = y := Go.IntWalk.u8_in _ ⟨by omega, by omega⟩
      have o3 := own_but hown w3b (by omega)
      have b3 : But p w w3 := wrb.trans w3b
      clear ym hown wrc wrb w3b
      have hsz : w.heap.size ≤ (w3.alloc (.cells #[.int .u8 y] 5)).heap.size := by have := b3.2.2.2.1; simp; omega
      have A3 := Below.al w3 (.cells #[.int .u8 y] 5)
      go_wp2_with (at_builtin; refine wpList_append_own _ rfl _ _ 22 rfl w.heap.size 5 i0 (.int .u8 0) 1 1 Tryd.underlying22 hi hz0 hz1 hz2 rfl (by decide) _ _ _ rfl (World.ownsRow.alloc o3 _) ⟨w3.heap.size, 0, none⟩ 1 1 [.int .u8 y] rfl rfl (fun j u hj => byte_at w3 _ 5 j u hj) (by intro u hu; simp at hu; subst hu; rfl) (by unfold maxLen; omega) (by omega) hsz ?_; intro v' w4 hown' hgrow _)
      have G4 := grownB_below (World.ownsRow.alloc o3 _) hgrow hsz
      have w4c : CurOk w4 B p := CurOk.belowB (CurOk.below w3c A3) G4 (by omega)
      have b4 : But p w w4 := But.thenBelow (But.alloc b3 _) G4
      have R4 : w4.ownsRow w.heap.size 5 1 v' (L ++ [y]).length (bts (L ++ [y])) := by rw [bts_add]; simpa using hown'
      clear hown' hgrow G4 A3 hsz o3 b3 w3c
      (try go_wp2_with fail)
      go_roundw
      case rel => exact ⟨L ++ [y], by simp; omega, by simp; try go_num, R4, w4c, b4⟩
      case measure => simp [intOf]; omega
    · obtain ⟨a, c, rfl, hc, hcm, hs⟩ := ownB_src hown
      have HCV : ∃ s : ByteArray, s.size ≤ 100 ∧ (convert 22 9 (.slice a L.length c)).run Tryd.prog wr = .ok (.string s) wr := by
        rcases hown.2 with ⟨he, h0⟩ | ⟨g, cap, cur, he, _⟩
        · simp at he
          obtain ⟨rfl, _, _⟩ := he
          exact ⟨ByteArray.empty, by simp, run_convert_bytes_nil wr 22 5 Tryd.underlying22 Tryd.underlying5 _ _ 9 Tryd.underlying9⟩
        · simp at he
          obtain ⟨rfl, rfl⟩ := he
          refine ⟨strOfNums L, by rw [strOfNums_size]; omega, run_convert_bytes_arg wr 22 5 Tryd.underlying22 Tryd.underlying5 g 0 L.length c L rfl (fun i hi => ?_) 9 Tryd.underlying9⟩
          rcases hs with q | ⟨b', off', q1, q2⟩
          · omega
          · simp at q1
            obtain ⟨rfl, rfl⟩ := q1
            exact q2.2 i hi
      obtain ⟨s, hs100, hcv⟩ := HCV
      clear hs hown
      go_wp2_with fail
      go_ret
      exact ⟨s, rfl, hs100, wrc, wrb⟩
end Go.Proofs.YtddjiamollfplaaDoor
