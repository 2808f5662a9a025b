/- What the laws of chapter 16 make of their arguments. -/
import Derived.Test.YtdahabbdhjgpdaaDoorS163
import Derived.Test.YtdahabbdhjgpdaaDoorB132
import Derived.WalkKit
import Derived.WalkSpells
import Derived.WalkLawsBesides
import Derived.Deep.RegionHeld
namespace Go.Proofs.YtdahabbdhjgpdaaDoor
open Go.RowKit
set_option linter.unusedVariables false
/- What the laws of chapter 16 make of their arguments, from any number on. -/
theorem szHeardS_le (a : Option Addr) (n c : Nat) (Z : Int) (w : World) (hm : n ≤ maxLen) (h0 : 0 ≤ Z) (h1 : Z ≤ 1048576) :
    Calls Tryd.prog 20 #[.slice a n c, .int .i64 Z] w fun e w' => ∃ L : Int, e = .returned (.int .i64 L) ∧ (0 ≤ L → n ≤ 1048576 ∧ L ≤ 1048576) ∧ Below w.heap.size w w' := by
  refine (szHeardS_any a n c Z w hm h0 h1).mono ?_
  rintro e w' ⟨rfl, rfl⟩
  refine ⟨_, rfl, fun h => ?_, Below.refl _ _⟩
  split at h
  · rename_i hq; rw [if_pos hq]; constructor <;> omega
  · omega
set_option maxHeartbeats 2000000 in
theorem szPlan_at (ep us : Int) (a : Option Addr) (n c : Nat) (Z : Int) (w : World) (hm : n ≤ maxLen) (h0 : 0 ≤ Z) (h1 : Z ≤ 1048576) :
    Calls Tryd.prog 21 #[.agg #[.int .i64 ep, .int .i64 us, .slice a n c], .int .i64 Z] w fun e w' => ∃ L : Int, e = .returned (.int .i64 L) ∧ (0 ≤ L → n ≤ 1048576 ∧ L ≤ 1048576) ∧ Below w.heap.size w w' := by
  have A0 := Below.nw w (.cells #[.int .i64 ep, .int .i64 us, .slice a n c] 49)
  by_cases h : (n : Int) ≤ Z
  · have hneg : ¬ (Z - (n : Int) < 0) := by omega
    go_enter Tryd.func21, Tryd.ntmps21
    go_wp2_with fail
    refine (szSlotS_any _ _ _ _ _ hm h0 h1).mono ?_
    rintro e w1 ⟨rfl, rfl⟩
    rw [if_pos h]
    go_wp2_with fail
    go_ret
    exact ⟨_, rfl, fun _ => ⟨by omega, by omega⟩, A0⟩
  · go_enter Tryd.func21, Tryd.ntmps21
    go_wp2_with fail
    refine (szSlotS_any _ _ _ _ _ hm h0 h1).mono ?_
    rintro e w1 ⟨rfl, rfl⟩
    rw [if_neg (Int.not_le.2 h)]
    go_wp2_with fail
    go_ret
    exact ⟨_, rfl, fun h => absurd h (by decide), A0⟩
set_option maxHeartbeats 2000000 in
theorem markPlan_rowQ (ep us : Int) (b N n c : Nat) (q0 : Int) (w : World) (hn : n ≤ 1048576) (hq : 0 < q0) (hq1 : q0 ≤ 1073741824) (hN : n * 2 ≤ N) (h : RowF w b 72 N 0 (mkSlot q0)) :
    Calls Tryd.prog 30 #[.agg #[.int .i64 ep, .int .i64 us, .slice (some ⟨b, 0, none⟩) n c], .int .i64 q0] w fun e w' => e = .returned (.int .i64 (q0 + (n : Int) * 2)) ∧ RowF w' b 72 N (n * 2) (mkSlot q0) ∧ But b w w' := by
  have A0 := Below.nw w (.cells #[.int .i64 ep, .int .i64 us, .slice (some ⟨b, 0, none⟩) n c] 27)
  have C := markSlotS_row b N n c q0 _ hn hq hq1 hN (RowF.below' A0 h)
  have hk : ¬ (q0 + (n : Int) * 2 < 0) := by omega
  clear h
  go_enter Tryd.func30, Tryd.ntmps30
  go_wp2_with fail
  refine C.mono ?_
  rintro e w1 ⟨rfl, R1, hb⟩
  go_wp2_with fail
  go_ret
  exact ⟨rfl, R1, (But.of_below A0).trans hb⟩
theorem rowF_but {w w' : World} {q b N m : Nat} {T : TypeId} {F : Nat → Value} (h : RowF w b T N m F) (hb : But q w w') (hq : b ≠ q) : RowF w' b T N m F := by
  have hl := h.lt
  obtain ⟨g, hr, hg⟩ := h
  exact ⟨g, hr.of_block (hb.2.2.2.2 b hl hq), hg⟩
theorem nwL_len (M : Nat → VT) (n : Nat) (s g : Int) (PM : Nat → SlT) (m : Nat) (nu de c : Int) : (nwL M n s g PM m nu de c).length ≤ 61 := by
  unfold nwL
  cases h : rtB M n s g PM m nu de c
  · simp
  · have h1 := fiL_len (nwP M s g PM m nu de c) (slS M) n
    have h2 := (hrB_t (rtB_t h).1).1
    simp only
    omega
theorem loL_len (M : Nat → VT) (n : Nat) (s g : Int) (PM : Nat → SlT) (m : Nat) (nu de c : Int) : (loL M n s g PM m nu de c).length ≤ 61 := by
  unfold loL
  cases h : rtB M n s g PM m nu de c
  · simp
  · have h1 := slJ_len (loP (nwL M n s g PM m nu de c)) m
    have h2 := (plB_t (rtB_t h).2.1).2.2.1.2
    simp only
    omega
theorem unL_len (M : Nat → VT) (n : Nat) (W : Nat → VT) (k : Nat) : (unL M n W k).length ≤ 61 := by
  unfold unL
  cases h : hrB M n && hrB W k
  · simp
  · have h1 := slJ_len (unP M n W k) 16
    simp only
    omega
theorem onL_len (M : Nat → VT) (n : Nat) (s g : Int) (PM : Nat → SlT) (m : Nat) : (onL M n s g PM m).length ≤ 61 := by
  unfold onL
  cases h : hrB M n && plB s g PM m
  · simp
  · have h1 := slJ_len (owP M n PM m) 8
    simp only
    omega
theorem Box8.kept {w w' : World} {q : Option Nat} {j : Nat} {k fr tu no lo hi sl : Int} {s : ByteArray} (h : Box8 w j k fr tu no lo hi sl s) (hg : w.grownBy w' q) (hq : some j ≠ q) : Box8 w' j k fr tu no lo hi sl s := by
  obtain ⟨h0, h1, h2, h3, h4, h5, h6, h7, h8⟩ := h
  have cc : ∀ i, w'.cell? ⟨j, i, none⟩ = w.cell? ⟨j, i, none⟩ := fun i => cell_grown hg h0 hq
  exact ⟨Nat.lt_of_lt_of_le h0 hg.size, by rw [cc]; exact h1, by rw [cc]; exact h2, by rw [cc]; exact h3, by rw [cc]; exact h4, by rw [cc]; exact h5, by rw [cc]; exact h6, by rw [cc]; exact h7, by rw [cc]; exact h8⟩
end Go.Proofs.YtdahabbdhjgpdaaDoor
