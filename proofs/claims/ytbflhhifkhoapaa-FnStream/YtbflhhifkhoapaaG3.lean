/- Contracts of PutNum. -/
import Derived.Test.YtbflhhifkhoapaaG2
import Derived.WalkKit
import Derived.WalkSpells
import Derived.WalkLawsBesides
import Derived.Deep.RegionHeld
namespace Go.Proofs.Ytbflhhifkhoapaa
open Go.RowKit
set_option linter.unusedVariables false
set_option maxHeartbeats 4000000 in
theorem specPutNum_any (x : Int) (w : World) (hx : x ≤ 9223372036854775807) :
    Calls Try.prog 59 #[.int .i64 x] w fun e w' => ∃ v : Value, e = .returned v ∧ w'.ownsRow w.heap.size 5 1 v (putL x).length (bts (putL x)) ∧ Below w.heap.size w w' := by
  obtain ⟨i0, hi, hz0, hz1, hz2⟩ := info_parts infoByte
  by_cases hneg : x < 0
  · have HP : Hid (putL x = []) := by rw [Hid, putL, if_pos hneg]
    have O0 : (w.alloc (.cells #[] 5)).ownsRow w.heap.size 5 1 (.slice (some ⟨w.heap.size, 0, none⟩) 0 0) 0 [] := World.ownsRow_made w #[] 0 (Nat.le_refl _) (by simp [maxLen]) (by simp)
    have B0 := (Below.refl w.heap.size w).alloc (Nat.le_refl _) (.cells #[] 5)
    go_enter Try.func59, Try.ntmps59
    go_wp2_with fail
    go_ret
    exact ⟨_, rfl, by rw [HP.out]; exact O0, B0⟩
  · have HP : Hid (putL x = putN 10 x) := by rw [Hid, putL, if_neg hneg]
    have hx0 : 0 ≤ x := by omega
    have hp9 : x < 128 ^ 9 := by have : (128 : Int) ^ 9 = 9223372036854775808 := by decide
                                 omega
    have HP9 : Hid (x < 128 ^ 9) := hp9
    clear hp9
    have O0 : (w.alloc (.cells #[] 5)).ownsRow w.heap.size 5 1 (.slice (some ⟨w.heap.size, 0, none⟩) 0 0) 0 [] := World.ownsRow_made w #[] 0 (Nat.le_refl _) (by simp [maxLen]) (by simp)
    have B0 := (Below.refl w.heap.size w).alloc (Nat.le_refl _) (.cells #[] 5)
    go_enter Try.func59, Try.ntmps59
    go_wp2_with fail
    go_loopw [0, 3] (fun xv v wr => ∃ (m : Nat) (y : Int) (L : List Int), xv = .int .i64 y ∧ L.length + m = 9 ∧ 0 ≤ y ∧ y ≤ 9223372036854775807 ∧ y < 128 ^ m ∧ L ++ putN (m + 1) y = putN 10 x ∧ wr.ownsRow w.heap.size 5 1 v L.length (bts L) ∧ Below w.heap.size w wr) (fun xv _ _ => (intOf xv).toNat)
    case atStart => exact ⟨9, x, [], rfl, rfl, hx0, hx, HP9.out, rfl, O0, B0⟩
    case round =>
      obtain ⟨m, y, L, rfl, hlm, hy0, hy1, hym, hL, hown, hB⟩ := hrel
      have HY : Hid (y < 128 ^ m) := hym
      have HL : Hid (L ++ putN (m + 1) y = putN 10 x) := hL
      have hbs := hB.size
      clear hym hL O0 B0 HP9
      by_cases hlt : 127 < y
      · obtain ⟨m', rfl⟩ : ∃ m', m = m' + 1 := by
          cases m with
          | zero => have := HY.out; simp at this; omega
          | succ m' => exact ⟨m', rfl⟩
        have hmod0 : 0 ≤ y % 128 := by omega
        have hmod1 : y % 128 ≤ 127 := by omega
        have hw : IntKind.u8.wrap (y % 128 + 128) = y % 128 + 128 := Go.IntWalk.u8_in _ ⟨by omega, by omega⟩
        have A1 := (Below.refl wr.heap.size wr).alloc (Nat.le_refl _) (.cells #[.int .u8 (y % 128 + 128)] 5)
        go_wp2_with (at_builtin; refine wpList_append_own _ rfl _ _ 22 rfl w.heap.size 5 i0 (.int .u8 0) 1 1 Try.underlying22 hi hz0 hz1 hz2 rfl (by decide) _ _ _ rfl (World.ownsRow.alloc hown _) ⟨wr.heap.size, 0, none⟩ 1 1 [.int .u8 (y % 128 + 128)] rfl rfl ?c1 ?c2 ?c3 ?c4 ?c5 ?_)
        case c1 => intro j u hj; exact byte_at wr _ 5 j u hj
        case c2 => intro u hu; simp at hu; subst hu; rfl
        case c3 => unfold maxLen; omega
        case c4 => omega
        case c5 => simp; omega
        · intro v' w1 hown' hgrow _
          have G1 := grownB_below (World.ownsRow.alloc hown _) hgrow (by simp; omega)
          have B1 := (hB.trans (A1.mono hbs)).trans G1
          have R1 : w1.ownsRow w.heap.size 5 1 v' (L ++ [y % 128 + 128]).length (bts (L ++ [y % 128 + 128])) := by rw [bts_add]; simpa using hown'
          clear hown' hgrow G1 A1
          go_wp2_with fail
          go_roundw
          case rel => exact ⟨m', y / 128, L ++ [y % 128 + 128], by go_num, by simp; omega, by omega, by omega, div_pow HY.out, by rw [← HL.out, putN_go hlt]; simp, R1, B1⟩
          case measure => simp [intOf]; omega
      · have hw : IntKind.u8.wrap y = y := Go.IntWalk.u8_in _ ⟨by omega, by omega⟩
        have HE : Hid (putL x = L ++ [y]) := by rw [Hid, HP.out, ← HL.out, putN_end hlt]
        have A1 := (Below.refl wr.heap.size wr).alloc (Nat.le_refl _) (.cells #[.int .u8 y] 5)
        go_wp2_with (at_builtin; refine wpList_append_own _ rfl _ _ 22 rfl w.heap.size 5 i0 (.int .u8 0) 1 1 Try.underlying22 hi hz0 hz1 hz2 rfl (by decide) _ _ _ rfl (World.ownsRow.alloc hown _) ⟨wr.heap.size, 0, none⟩ 1 1 [.int .u8 y] rfl rfl (fun j u hj => byte_at wr _ 5 j u hj) (by intro u hu; simp at hu; subst hu; rfl) (by unfold maxLen; omega) (by omega) (by simp; omega) ?_; intro v' w1 hown' hgrow _)
        have G1 := grownB_below (World.ownsRow.alloc hown _) hgrow (by simp; omega)
        have B1 := (hB.trans (A1.mono hbs)).trans G1
        have R1 : Hid (w1.ownsRow w.heap.size 5 1 v' (putL x).length (bts (putL x))) := by rw [HE.out, Hid, bts_add]; simpa using hown'
        clear hown' hgrow G1 A1
        go_wp2_with fail
        go_ret
        exact ⟨_, rfl, R1.out, B1⟩
set_option maxHeartbeats 4000000 in
theorem implPutNum_any (x : Int) (w : World) (hx : x ≤ 9223372036854775807) :
    Calls Try.prog 37 #[.int .i64 x] w fun e w' => ∃ v : Value, e = .returned v ∧ w'.ownsRow w.heap.size 5 1 v (putL x).length (bts (putL x)) ∧ Below w.heap.size w w' := by
  obtain ⟨i0, hi, hz0, hz1, hz2⟩ := info_parts infoByte
  by_cases hneg : x < 0
  · have HP : Hid (putL x = []) := by rw [Hid, putL, if_pos hneg]
    have O0 : w.ownsRow w.heap.size 5 1 (.slice none 0 0) 0 [] := World.ownsRow_nil w _ _ _
    have B0 := Below.refl w.heap.size w
    go_enter Try.func37, Try.ntmps37
    go_wp2_with fail
    go_ret
    exact ⟨_, rfl, by rw [HP.out]; exact O0, B0⟩
  · have HP : Hid (putL x = putN 10 x) := by rw [Hid, putL, if_neg hneg]
    have hx0 : 0 ≤ x := by omega
    have hp9 : x < 128 ^ 9 := by have : (128 : Int) ^ 9 = 9223372036854775808 := by decide
                                 omega
    have HP9 : Hid (x < 128 ^ 9) := hp9
    clear hp9
    have O0 : w.ownsRow w.heap.size 5 1 (.slice none 0 0) 0 [] := World.ownsRow_nil w _ _ _
    have B0 := Below.refl w.heap.size w
    go_enter Try.func37, Try.ntmps37
    go_wp2_with fail
    go_loopw [0, 3] (fun xv v wr => ∃ (m : Nat) (y : Int) (L : List Int), xv = .int .i64 y ∧ L.length + m = 9 ∧ 0 ≤ y ∧ y ≤ 9223372036854775807 ∧ y < 128 ^ m ∧ L ++ putN (m + 1) y = putN 10 x ∧ wr.ownsRow w.heap.size 5 1 v L.length (bts L) ∧ Below w.heap.size w wr) (fun xv _ _ => (intOf xv).toNat)
    case atStart => exact ⟨9, x, [], rfl, rfl, hx0, hx, HP9.out, rfl, O0, B0⟩
    case round =>
      obtain ⟨m, y, L, rfl, hlm, hy0, hy1, hym, hL, hown, hB⟩ := hrel
      have HY : Hid (y < 128 ^ m) := hym
      have HL : Hid (L ++ putN (m + 1) y = putN 10 x) := hL
      have hbs := hB.size
      clear hym hL O0 B0 HP9
      by_cases hlt : 127 < y
      · obtain ⟨m', rfl⟩ : ∃ m', m = m' + 1 := by
          cases m with
          | zero => have := HY.out; simp at this; omega
          | succ m' => exact ⟨m', rfl⟩
        have hmod0 : 0 ≤ y % 128 := by omega
        have hmod1 : y % 128 ≤ 127 := by omega
        have hA := and127I y hy0 hy1
        have hO := or128 (y % 128) hmod0 hmod1
        have hw : IntKind.u8.wrap (y % 128 + 128) = y % 128 + 128 := Go.IntWalk.u8_in _ ⟨by omega, by omega⟩
        have A1 := (Below.refl wr.heap.size wr).alloc (Nat.le_refl _) (.cells #[.int .u8 (y % 128 + 128)] 5)
        go_wp2_with (at_builtin; refine wpList_append_own _ rfl _ _ 22 rfl w.heap.size 5 i0 (.int .u8 0) 1 1 Try.underlying22 hi hz0 hz1 hz2 rfl (by decide) _ _ _ rfl (World.ownsRow.alloc hown _) ⟨wr.heap.size, 0, none⟩ 1 1 [.int .u8 (y % 128 + 128)] rfl rfl ?c1 ?c2 ?c3 ?c4 ?c5 ?_)
        case c1 => intro j u hj; exact byte_at wr _ 5 j u hj
        case c2 => intro u hu; simp at hu; subst hu; rfl
        case c3 => unfold maxLen; omega
        case c4 => omega
        case c5 => simp; omega
        · intro v' w1 hown' hgrow _
          have G1 := grownB_below (World.ownsRow.alloc hown _) hgrow (by simp; omega)
          have B1 := (hB.trans (A1.mono hbs)).trans G1
          have R1 : w1.ownsRow w.heap.size 5 1 v' (L ++ [y % 128 + 128]).length (bts (L ++ [y % 128 + 128])) := by rw [bts_add]; simpa using hown'
          clear hown' hgrow G1 A1
          go_wp2_with fail
          go_roundw
          case rel => exact ⟨m', y / 128, L ++ [y % 128 + 128], by go_num, by simp; omega, by omega, by omega, div_pow HY.out, by rw [← HL.out, putN_go hlt]; simp, R1, B1⟩
          case measure => simp [intOf]; omega
      · have hw : IntKind.u8.wrap y = y := Go.IntWalk.u8_in _ ⟨by omega, by omega⟩
        have HE : Hid (putL x = L ++ [y]) := by rw [Hid, HP.out, ← HL.out, putN_end hlt]
        have A1 := (Below.refl wr.heap.size wr).alloc (Nat.le_refl _) (.cells #[.int .u8 y] 5)
        go_wp2_with (at_builtin; refine wpList_append_own _ rfl _ _ 22 rfl w.heap.size 5 i0 (.int .u8 0) 1 1 Try.underlying22 hi hz0 hz1 hz2 rfl (by decide) _ _ _ rfl (World.ownsRow.alloc hown _) ⟨wr.heap.size, 0, none⟩ 1 1 [.int .u8 y] rfl rfl (fun j u hj => byte_at wr _ 5 j u hj) (by intro u hu; simp at hu; subst hu; rfl) (by unfold maxLen; omega) (by omega) (by simp; omega) ?_; intro v' w1 hown' hgrow _)
        have G1 := grownB_below (World.ownsRow.alloc hown _) hgrow (by simp; omega)
        have B1 := (hB.trans (A1.mono hbs)).trans G1
        have R1 : Hid (w1.ownsRow w.heap.size 5 1 v' (putL x).length (bts (putL x))) := by rw [HE.out, Hid, bts_add]; simpa using hown'
        clear hown' hgrow G1 A1
        go_wp2_with fail
        go_ret
        exact ⟨_, rfl, R1.out, B1⟩
end Go.Proofs.Ytbflhhifkhoapaa
