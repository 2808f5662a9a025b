/- JudgeTally. -/
import Derived.Test.YtbicpkelejjnjaaJ203
import Derived.Test.YtbicpkelejjnjaaG1
import Derived.Test.YtbicpkelejjnjaaI106
import Derived.Deep.RegionHeld3
import Derived.Deep.OwnRows
import Derived.Laws.OwnMore
import Derived.BigRegion
import Derived.WalkKit
import Derived.WalkSpells
import Derived.WalkLawsBesides
import Derived.Deep.RegionHeld
namespace Go.Proofs.Ytbicpkelejjnjaa
open Go.RowKit
set_option linter.unusedVariables false
def bumpF (f : Nat → Int) (q : Nat) (j : Nat) : Int := if j = q then f j + 1 else f j
def tyB (t : TdT) (y : Int) : Bool := decide (t.1 = y) && decide (0 ≤ t.2.2.1 ∧ t.2.2.1 ≤ 14)
def tyS (M : Nat → TdT) (y : Int) : Nat → Nat → Int
  | 0 => fun _ => 0
  | k + 1 => if tyB (M k) y = true then bumpF (tyS M y k) (M k).2.2.1.toNat else tyS M y k
theorem tyS_no {M : Nat → TdT} {y : Int} {k : Nat} (h : tyB (M k) y = false) : tyS M y (k + 1) = tyS M y k := by rw [tyS, if_neg (by rw [h]; simp)]
theorem tyS_yes {M : Nat → TdT} {y : Int} {k : Nat} (h : tyB (M k) y = true) : tyS M y (k + 1) = bumpF (tyS M y k) (M k).2.2.1.toNat := by rw [tyS, if_pos h]
theorem tyS_le (M : Nat → TdT) (y : Int) : ∀ k j, 0 ≤ tyS M y k j ∧ tyS M y k j ≤ k
  | 0, j => ⟨Int.le_refl _, Int.le_refl _⟩
  | k + 1, j => by
    have := tyS_le M y k j
    cases h : tyB (M k) y
    · rw [tyS_no h]; omega
    · rw [tyS_yes h, bumpF]; split <;> omega
def tyL (M : Nat → TdT) (n : Nat) (y : Int) : List Int := if n ≤ 200 then (List.range 15).map (tyS M y n) else []
theorem tyL_t {M : Nat → TdT} {n : Nat} {y : Int} (h : n ≤ 200) : tyL M n y = (List.range 15).map (tyS M y n) := if_pos h
theorem tyL_f {M : Nat → TdT} {n : Nat} {y : Int} (h : ¬ n ≤ 200) : tyL M n y = [] := if_neg h
theorem JudgeTally_len (M : Nat → TdT) (n : Nat) (y : Int) : (tyL M n y).length ≤ 200 := by
  by_cases h : n ≤ 200
  · rw [tyL_t h]; simp
  · rw [tyL_f h]; simp
theorem irow_map15 (f : Nat → Int) : irow ((List.range 15).map f) = (List.range 15).map fun j => .int .i64 (f j) := by
  simp only [irow, List.length_map, List.length_range, Nat.mul_one]
  refine List.map_congr_left fun j hj => ?_
  have hj' : j < 15 := List.mem_range.1 hj
  show Value.int .i64 (gI ((List.range 15).map f) j) = _
  rw [gI, List.getD_eq_getElem?_getD, List.getElem?_map, List.getElem?_range hj']
  rfl

def R15 (f : Nat → Int) : List Value := (List.range 15).map fun j => .int .i64 (f j)
theorem R15_set (f : Nat → Int) (q : Nat) (hq : q < 15) : (R15 f).set q (.int .i64 (f q + 1)) = R15 (bumpF f q) := by
  apply List.ext_getElem?
  intro j
  by_cases hj : j < 15
  · rw [List.getElem?_set]
    simp only [R15, List.length_map, List.length_range, List.getElem?_map, List.getElem?_range hj, Option.map_some, bumpF]
    by_cases e : q = j
    · subst e; simp [hq]
    · rw [if_neg e, if_neg (fun h => e h.symm)]
  · rw [List.getElem?_eq_none (by simp [R15]; omega), List.getElem?_eq_none (by simp [R15]; omega)]
theorem own15 (w : World) : (w.alloc (.cells (madeCells #[.int .i64 0] 15) 3)).ownsRow w.heap.size 3 1 (.slice (some ⟨w.heap.size, 0, none⟩) 15 15) 15 (R15 fun _ => 0) :=
  ⟨by simp [R15], .inr ⟨w.heap.size, 15, madeCells #[.int .i64 0] 15, rfl, Nat.le_refl _, heap_alloc_new w _, Nat.le_refl _, by simp [maxLen], by rw [size_madeCells], by rw [List.take_of_length_le (by simp [madeCells])]; simp [madeCells, R15, Nat.mod_one]⟩⟩
theorem own15_at {w : World} {base g q : Nat} {f : Nat → Int} (h : w.ownsRow base 3 1 (.slice (some ⟨g, 0, none⟩) 15 15) 15 (R15 f)) (hq : q < 15) : w.cell? ⟨g, q, none⟩ = some (.int .i64 (f q)) ∧ w.frozen? ⟨g, q, none⟩ = false := by
  refine ⟨?_, World.ownsRow.frozenAt h _⟩
  rw [World.ownsRow.cellAt h q (by omega), R15, List.getElem?_map, List.getElem?_range hq]
  rfl
theorem own15_put {w : World} {base g q : Nat} {f : Nat → Int} (h : w.ownsRow base 3 1 (.slice (some ⟨g, 0, none⟩) 15 15) 15 (R15 f)) (hq : q < 15) : (w.setCell ⟨g, q, none⟩ (.int .i64 (f q + 1))).ownsRow base 3 1 (.slice (some ⟨g, 0, none⟩) 15 15) 15 (R15 (bumpF f q)) := by
  have := (World.ownsRow.stored h q (.int .i64 (f q + 1))).1
  rw [R15_set f q hq] at this
  exact this
theorem make15 (w : World) : (Instr.makeSlice 32 (.int .i64 15) (.int .i64 15)).run Try.prog w = .ok (.slice (some ⟨w.heap.size, 0, none⟩) 15 15) (w.alloc (.cells (madeCells #[.int .i64 0] 15) 3)) := run_make_row' 32 3 (.int .i64 0) 8 Try.underlying32 info_int rfl .i64 .i64 15 (by omega) (by omega) w
theorem tyL_row {M : Nat → TdT} {n : Nat} {y : Int} (h : n ≤ 200) : (tyL M n y).length = 15 ∧ irow (tyL M n y) = R15 (tyS M y n) := by
  rw [tyL_t h]
  exact ⟨by simp, irow_map15 _⟩
def up14 (x : Int) : Bool := decide (0 ≤ x ∧ x ≤ 14)
theorem isUp14_any (x : Int) (w : World) : Calls Try.prog 32 #[.int .i64 x, .int .i64 14] w fun e w' => e = .returned (.bool (up14 x)) ∧ w = w' := by
  go_enter Try.func32, Try.ntmps32
  go_wp2
  all_goals go_ret
  all_goals exact ⟨ret_bool (by rw [Bool.eq_iff_iff]; simp [up14]; try omega), rfl⟩
theorem l1In14_any (x : Int) (w : World) : Calls Try.prog 31 #[.int .i64 x, .int .i64 0, .int .i64 14] w fun e w' => e = .returned (.bool (up14 x)) ∧ w = w' := l1In_any x 0 14 w
set_option maxRecDepth 100000 in
set_option maxHeartbeats 8000000 in
theorem specJudgeTally_any (a : Option Addr) (n c : Nat) (M : Nat → TdT) (y : Int) (w : World) (hm : n ≤ maxLen) (hs : SrcC w a (n * 10) (MFTold M)) :
    Calls Try.prog 18 #[.slice a n c, .int .i64 y] w fun e w' => ∃ v, e = .returned v ∧ w'.ownsRow w.heap.size 3 1 v (tyL M n y).length (irow (tyL M n y)) ∧ Below w.heap.size w w' := by
  unfold maxLen at hm
  have HS : Hid (SrcC w a (n * 10) (MFTold M)) := hs
  clear hs
  by_cases h2 : n ≤ 200
  · rw [(tyL_row h2).1, (tyL_row h2).2]
    have hd : decide ((n : Int) > 200) = false := by simp; omega
    have hd2 : decide ((200 : Int) < (n : Int)) = false := by simp; omega
    have hmk := make15
    have B0 := Below.nw w (.cells (madeCells #[.int .i64 0] 15) 3)
    have O0 := own15 w
    go_enter Try.func18, Try.ntmps18
    go_upto_region 4 with fail
    generalize hw0 : w.alloc (.cells (madeCells #[.int .i64 0] 15) 3) = w0 at *
    clear hw0 hmk
    go_wp2_with fail
    go_loopw [6] (fun i wr => ∃ k : Nat, k ≤ n ∧ i = .int .i64 k ∧ wr.ownsRow w.heap.size 3 1 (.slice (some ⟨w.heap.size, 0, none⟩) 15 15) 15 (R15 (tyS M y k)) ∧ Below w.heap.size w wr) (fun i _ => n - (intOf i).toNat)
    case atStart => exact ⟨0, Nat.zero_le _, rfl, O0, B0⟩
    case round =>
      obtain ⟨k, hk, rfl, OW, hB⟩ := hrel
      clear O0 B0
      by_cases hlt : k < n
      · obtain ⟨b, off, rfl, hf⟩ := HS.out.someT (by omega)
        obtain ⟨x0, x1, x2, x3, x4, x5, x6, x7, x8, x9, hM⟩ := tupTold M k
        have hli : (k : Int) < (n : Int) := by omega
        have HN : Hid ((decide (x0 = y) && up14 x2) = false → tyS M y (k + 1) = tyS M y k) := fun h => tyS_no (by rw [hM]; exact h)
        have HY : Hid ((decide (x0 = y) && up14 x2) = true → tyS M y (k + 1) = bumpF (tyS M y k) x2.toNat) := fun h => by
          have q := tyS_yes (M := M) (k := k) (y := y) (by rw [hM]; exact h)
          rw [hM] at q
          exact q
        have hle := tyS_le M y k
        obtain ⟨c0, c1, c2, c3, c4, c5, c6, c7, c8, c9⟩ := (hf.below hB hf.1).elTold hlt hM
        have hbr : b < wr.heap.size := Nat.lt_of_lt_of_le hf.1 hB.size
        clear hM
        have hBs := hB.size
        generalize tyS M y k = f at *
        by_cases h3 : x0 = y
        · have h3' : (x0 == y) = true := by simp [h3]
          cases h4 : up14 x2
          · have HJ : Hid (tyS M y (k + 1) = f) := HN.out (by simp [h4])
            clear HN HY h3
            go_wp2_with fail
            refine (l1In14_any _ _).mono ?_
            rintro e w' ⟨rfl, rfl⟩
            rw [h4]
            go_wp2_with fail
            go_roundw
            case rel => exact ⟨k + 1, by omega, by go_num, by rw [HJ.out]; exact OW, hB⟩
            case measure => simp [intOf]; omega
          · have HJ : Hid (tyS M y (k + 1) = bumpF f x2.toNat) := HY.out (by simp [h3, h4])
            have ⟨h40, h41⟩ : 0 ≤ x2 ∧ x2 ≤ 14 := by simpa [up14] using h4
            clear HN HY h3
            obtain ⟨q, hq⟩ : ∃ q : Nat, x2 = (q : Int) := ⟨x2.toNat, by omega⟩
            subst hq
            have hq15 : q < 15 := by omega
            obtain ⟨r1, r2⟩ := own15_at OW hq15
            obtain ⟨hf0, hf1⟩ := hle q
            have hf2 : f q ≤ 200 := by omega
            clear hle
            replace HJ : Hid (tyS M y (k + 1) = bumpF f q) := HJ
            have hgl : w.heap.size < wr.heap.size := (World.ownsRow.lt OW w.heap.size rfl).2
            go_wp2_with fail
            refine (l1In14_any _ _).mono ?_
            rintro e w' ⟨rfl, rfl⟩
            rw [h4]
            go_wp2_with fail
            go_region
            all_goals go_wp2_with fail
            all_goals go_roundw
            all_goals first | (case rel => exact ⟨k + 1, by omega, by go_num, by rw [HJ.out]; exact own15_put OW hq15, (Below.drew hB).setCell (p := ⟨w.heap.size, q, none⟩) (Nat.le_refl _) _⟩) | skip
            all_goals first | (case measure => simp [intOf]; omega) | skip
        · have h3' : (x0 == y) = false := by simp [h3]
          have HJ : Hid (tyS M y (k + 1) = f) := HN.out (by simp [h3])
          clear HN HY h3
          go_wp2_with fail
          go_roundw
          case rel => exact ⟨k + 1, by omega, by go_num, by rw [HJ.out]; exact OW, hB⟩
          case measure => simp [intOf]; omega
      · have hkn : k = n := by omega
        subst hkn
        have hli : ¬ (k : Int) < (k : Int) := by omega
        go_wp2_with fail
        go_ret
        exact ⟨_, rfl, OW, hB⟩
  · rw [tyL_f h2]
    have hd : decide ((n : Int) > 200) = true := by simp; omega
    have hd2 : decide ((200 : Int) < (n : Int)) = true := by simp; omega
    go_enter Try.func18, Try.ntmps18
    go_wp2_with fail
    go_ret
    exact ⟨_, rfl, made_int w, Below.nw w _⟩
set_option maxRecDepth 100000 in
set_option maxHeartbeats 8000000 in
theorem implJudgeTally_any (a : Option Addr) (n c : Nat) (M : Nat → TdT) (y : Int) (w : World) (hm : n ≤ maxLen) (hs : SrcC w a (n * 10) (MFTold M)) (wy : (Lit.int .i64 y).wf = true) :
    Calls Try.prog 19 #[.slice a n c, .int .i64 y] w fun e w' => ∃ v, e = .returned v ∧ w'.ownsRow w.heap.size 3 1 v (tyL M n y).length (irow (tyL M n y)) ∧ Below w.heap.size w w' := by
  unfold maxLen at hm
  have HS : Hid (SrcC w a (n * 10) (MFTold M)) := hs
  clear hs wy
  by_cases h2 : n ≤ 200
  · rw [(tyL_row h2).1, (tyL_row h2).2]
    have hd : decide ((n : Int) > 200) = false := by simp; omega
    have hd2 : decide ((200 : Int) < (n : Int)) = false := by simp; omega
    have hmk := make15
    have B0 := Below.nw w (.cells (madeCells #[.int .i64 0] 15) 3)
    have O0 := own15 w
    go_enter Try.func19, Try.ntmps19
    go_upto_region 4 with fail
    generalize hw0 : w.alloc (.cells (madeCells #[.int .i64 0] 15) 3) = w0 at *
    clear hw0 hmk
    go_wp2_with fail
    go_loopw [14] (fun i wr => ∃ k : Nat, k ≤ n ∧ i = .int .i64 k ∧ wr.ownsRow w.heap.size 3 1 (.slice (some ⟨w.heap.size, 0, none⟩) 15 15) 15 (R15 (tyS M y k)) ∧ Below w.heap.size w wr) (fun i _ => n - (intOf i).toNat)
    case atStart => exact ⟨0, Nat.zero_le _, rfl, O0, B0⟩
    case round =>
      obtain ⟨k, hk, rfl, OW, hB⟩ := hrel
      clear O0 B0
      by_cases hlt : k < n
      · obtain ⟨b, off, rfl, hf⟩ := HS.out.someT (by omega)
        obtain ⟨x0, x1, x2, x3, x4, x5, x6, x7, x8, x9, hM⟩ := tupTold M k
        have hli : (k : Int) < (n : Int) := by omega
        have HN : Hid ((decide (x0 = y) && up14 x2) = false → tyS M y (k + 1) = tyS M y k) := fun h => tyS_no (by rw [hM]; exact h)
        have HY : Hid ((decide (x0 = y) && up14 x2) = true → tyS M y (k + 1) = bumpF (tyS M y k) x2.toNat) := fun h => by
          have q := tyS_yes (M := M) (k := k) (y := y) (by rw [hM]; exact h)
          rw [hM] at q
          exact q
        have hle := tyS_le M y k
        obtain ⟨c0, c1, c2, c3, c4, c5, c6, c7, c8, c9⟩ := (hf.below hB hf.1).elTold hlt hM
        have hbr : b < wr.heap.size := Nat.lt_of_lt_of_le hf.1 hB.size
        clear hM
        have hBs := hB.size
        generalize tyS M y k = f at *
        have P1 := Tx10.new wr (.int .i64 x0) (.int .i64 x1) (.int .i64 x2) (.int .i64 x3) (.bool x4) (.bool x5) (.int .i64 x6) (.int .i64 x7) (.int .i64 x8) (.int .i64 x9) 39
        have B1 := hB.alloc hB.size (.cells #[.int .i64 x0, .int .i64 x1, .int .i64 x2, .int .i64 x3, .bool x4, .bool x5, .int .i64 x6, .int .i64 x7, .int .i64 x8, .int .i64 x9] 39)
        replace OW := World.ownsRow.alloc OW (.cells #[.int .i64 x0, .int .i64 x1, .int .i64 x2, .int .i64 x3, .bool x4, .bool x5, .int .i64 x6, .int .i64 x7, .int .i64 x8, .int .i64 x9] 39)
        go_upto_region 7 with fail
        generalize wr.alloc (.cells #[.int .i64 x0, .int .i64 x1, .int .i64 x2, .int .i64 x3, .bool x4, .bool x5, .int .i64 x6, .int .i64 x7, .int .i64 x8, .int .i64 x9] 39) = w1 at *
        clear hB c0 c1 c2 c3 c4 c5 c6 c7 c8 c9 hbr hBs
        obtain ⟨d0, d1, d2, d3, d4, d5, d6, d7, d8, d9, d10, f1, f2, f3, f4, f5, f6, f7, f8, f9, f10⟩ := id P1
        by_cases h3 : x0 = y
        · have h3' : (x0 == y) = true := by simp [h3]
          cases h4 : up14 x2
          · have HJ : Hid (tyS M y (k + 1) = f) := HN.out (by simp [h4])
            clear HN HY h3
            go_wp2_with fail
            refine (isUp14_any _ _).mono ?_
            rintro e w' ⟨rfl, rfl⟩
            rw [h4]
            go_wp2_with fail
            go_roundw
            case rel => exact ⟨k + 1, by omega, by go_num, by rw [HJ.out]; exact OW, B1⟩
            case measure => simp [intOf]; omega
          · have HJ : Hid (tyS M y (k + 1) = bumpF f x2.toNat) := HY.out (by simp [h3, h4])
            have ⟨h40, h41⟩ : 0 ≤ x2 ∧ x2 ≤ 14 := by simpa [up14] using h4
            clear HN HY h3
            obtain ⟨q, hq⟩ : ∃ q : Nat, x2 = (q : Int) := ⟨x2.toNat, by omega⟩
            subst hq
            have hq15 : q < 15 := by omega
            obtain ⟨r1, r2⟩ := own15_at OW hq15
            obtain ⟨hf0, hf1⟩ := hle q
            have hf2 : f q ≤ 200 := by omega
            clear hle
            replace HJ : Hid (tyS M y (k + 1) = bumpF f q) := HJ
            have hgl : w.heap.size < w1.heap.size := (World.ownsRow.lt OW w.heap.size rfl).2
            go_wp2_with fail
            refine (isUp14_any _ _).mono ?_
            rintro e w' ⟨rfl, rfl⟩
            rw [h4]
            go_wp2_with fail
            go_roundw
            case rel => exact ⟨k + 1, by omega, by go_num, by rw [HJ.out]; exact own15_put OW hq15, B1.setCell (p := ⟨w.heap.size, q, none⟩) (Nat.le_refl _) _⟩
            case measure => simp [intOf]; omega
        · have h3' : (x0 == y) = false := by simp [h3]
          have HJ : Hid (tyS M y (k + 1) = f) := HN.out (by simp [h3])
          clear HN HY h3
          go_wp2_with fail
          go_roundw
          case rel => exact ⟨k + 1, by omega, by go_num, by rw [HJ.out]; exact OW, B1⟩
          case measure => simp [intOf]; omega
      · have hkn : k = n := by omega
        subst hkn
        have hli : ¬ (k : Int) < (k : Int) := by omega
        go_wp2_with fail
        go_ret
        exact ⟨_, rfl, OW, hB⟩
  · rw [tyL_f h2]
    have hd : decide ((n : Int) > 200) = true := by simp; omega
    have hd2 : decide ((200 : Int) < (n : Int)) = true := by simp; omega
    go_enter Try.func19, Try.ntmps19
    go_wp2_with fail
    go_ret
    exact ⟨_, rfl, nil_int w w.heap.size, Below.refl _ _⟩
end Go.Proofs.Ytbicpkelejjnjaa
