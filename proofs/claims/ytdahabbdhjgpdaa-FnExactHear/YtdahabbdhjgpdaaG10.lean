/- The walk of the exact law of MsgOk. -/
import Derived.Test.YtdahabbdhjgpdaaG9
import Derived.WalkKit
import Derived.WalkSpells
import Derived.WalkLawsBesides
import Derived.Deep.RegionHeld
namespace Go.Proofs.Ytdahabbdhjgpdaa
open Go.RowKit
set_option linter.unusedVariables false
def Thaw8 (w : World) (j : Nat) : Prop := w.frozen? ⟨j, 0, none⟩ = false ∧ w.frozen? ⟨j, 1, none⟩ = false ∧ w.frozen? ⟨j, 2, none⟩ = false ∧ w.frozen? ⟨j, 3, none⟩ = false ∧ w.frozen? ⟨j, 4, none⟩ = false ∧ w.frozen? ⟨j, 5, none⟩ = false ∧ w.frozen? ⟨j, 6, none⟩ = false ∧ w.frozen? ⟨j, 7, none⟩ = false
theorem Thaw8.belowB {j B : Nat} {w w' : World} (h : Thaw8 w j) (hw : Below B w w') (hk : j < B) : Thaw8 w' j := by
  obtain ⟨h0, h1, h2, h3, h4, h5, h6, h7⟩ := h
  exact ⟨by rw [hw.frozen (p := ⟨j, 0, none⟩) hk]; exact h0, by rw [hw.frozen (p := ⟨j, 1, none⟩) hk]; exact h1, by rw [hw.frozen (p := ⟨j, 2, none⟩) hk]; exact h2, by rw [hw.frozen (p := ⟨j, 3, none⟩) hk]; exact h3, by rw [hw.frozen (p := ⟨j, 4, none⟩) hk]; exact h4, by rw [hw.frozen (p := ⟨j, 5, none⟩) hk]; exact h5, by rw [hw.frozen (p := ⟨j, 6, none⟩) hk]; exact h6, by rw [hw.frozen (p := ⟨j, 7, none⟩) hk]; exact h7⟩
theorem Thaw8.new (w : World) (k fr to no lo hi sl : Int) (s : ByteArray) (T : TypeId) : Thaw8 (w.alloc (.cells #[.int .i64 k, .int .i64 fr, .int .i64 to, .int .i64 no, .int .i64 lo, .int .i64 hi, .int .i64 sl, .string s] T)) w.heap.size := ⟨by simp, by simp, by simp, by simp, by simp, by simp, by simp, by simp⟩
theorem Thaw8.set {w : World} {j : Nat} (h : Thaw8 w j) (p : Addr) (u : Value) : Thaw8 (w.setCell p u) j := by
  obtain ⟨h0, h1, h2, h3, h4, h5, h6, h7⟩ := h
  exact ⟨by simpa using h0, by simpa using h1, by simpa using h2, by simpa using h3, by simpa using h4, by simpa using h5, by simpa using h6, by simpa using h7⟩
theorem Box8.alloc {j : Nat} {w : World} {k fr to no lo hi sl : Int} {s : ByteArray} (h : Box8 w j k fr to no lo hi sl s) (o : Obj) : Box8 (w.alloc o) j k fr to no lo hi sl s := h.below ((Below.refl _ _).alloc (Nat.le_refl _) _)
theorem Box8.setO {j b : Nat} {w : World} {k fr to no lo hi sl : Int} {s : ByteArray} (h : Box8 w j k fr to no lo hi sl s) (hk : b ≠ j) (o : Nat) (u : Value) : Box8 (w.setCell ⟨b, o, none⟩ u) j k fr to no lo hi sl s := by
  have hne : ∀ q, (⟨b, o, none⟩ : Addr) ≠ ⟨j, q, none⟩ := fun q e => hk (congrArg Addr.block e)
  obtain ⟨h0, h1, h2, h3, h4, h5, h6, h7, h8⟩ := h
  exact ⟨by simpa using h0, by rw [World.cell?_setCell_other _ _ _ _ (hne _)]; exact h1, by rw [World.cell?_setCell_other _ _ _ _ (hne _)]; exact h2, by rw [World.cell?_setCell_other _ _ _ _ (hne _)]; exact h3, by rw [World.cell?_setCell_other _ _ _ _ (hne _)]; exact h4, by rw [World.cell?_setCell_other _ _ _ _ (hne _)]; exact h5, by rw [World.cell?_setCell_other _ _ _ _ (hne _)]; exact h6, by rw [World.cell?_setCell_other _ _ _ _ (hne _)]; exact h7, by rw [World.cell?_setCell_other _ _ _ _ (hne _)]; exact h8⟩
theorem cell_set_off (w : World) (j a b : Nat) (u : Value) (h : a ≠ b) : (w.setCell ⟨j, a, none⟩ u).cell? ⟨j, b, none⟩ = w.cell? ⟨j, b, none⟩ := World.cell?_setCell_other _ _ _ _ (by intro e; exact h (congrArg Addr.off e))
theorem Box8.set0 {j : Nat} {w : World} {k fr to no lo hi sl : Int} {s : ByteArray} (h : Box8 w j k fr to no lo hi sl s) (x : Int) : Box8 (w.setCell ⟨j, 0, none⟩ (.int .i64 x)) j x fr to no lo hi sl s := by
  obtain ⟨h0, h1, h2, h3, h4, h5, h6, h7, h8⟩ := h
  exact ⟨by simpa using h0, World.cell?_setCell_same _ _ _ h1, by rw [cell_set_off _ _ _ _ _ (by decide)]; exact h2, by rw [cell_set_off _ _ _ _ _ (by decide)]; exact h3, by rw [cell_set_off _ _ _ _ _ (by decide)]; exact h4, by rw [cell_set_off _ _ _ _ _ (by decide)]; exact h5, by rw [cell_set_off _ _ _ _ _ (by decide)]; exact h6, by rw [cell_set_off _ _ _ _ _ (by decide)]; exact h7, by rw [cell_set_off _ _ _ _ _ (by decide)]; exact h8⟩
theorem Box8.set1 {j : Nat} {w : World} {k fr to no lo hi sl : Int} {s : ByteArray} (h : Box8 w j k fr to no lo hi sl s) (x : Int) : Box8 (w.setCell ⟨j, 1, none⟩ (.int .i64 x)) j k x to no lo hi sl s := by
  obtain ⟨h0, h1, h2, h3, h4, h5, h6, h7, h8⟩ := h
  exact ⟨by simpa using h0, by rw [cell_set_off _ _ _ _ _ (by decide)]; exact h1, World.cell?_setCell_same _ _ _ h2, by rw [cell_set_off _ _ _ _ _ (by decide)]; exact h3, by rw [cell_set_off _ _ _ _ _ (by decide)]; exact h4, by rw [cell_set_off _ _ _ _ _ (by decide)]; exact h5, by rw [cell_set_off _ _ _ _ _ (by decide)]; exact h6, by rw [cell_set_off _ _ _ _ _ (by decide)]; exact h7, by rw [cell_set_off _ _ _ _ _ (by decide)]; exact h8⟩
theorem Box8.set2 {j : Nat} {w : World} {k fr to no lo hi sl : Int} {s : ByteArray} (h : Box8 w j k fr to no lo hi sl s) (x : Int) : Box8 (w.setCell ⟨j, 2, none⟩ (.int .i64 x)) j k fr x no lo hi sl s := by
  obtain ⟨h0, h1, h2, h3, h4, h5, h6, h7, h8⟩ := h
  exact ⟨by simpa using h0, by rw [cell_set_off _ _ _ _ _ (by decide)]; exact h1, by rw [cell_set_off _ _ _ _ _ (by decide)]; exact h2, World.cell?_setCell_same _ _ _ h3, by rw [cell_set_off _ _ _ _ _ (by decide)]; exact h4, by rw [cell_set_off _ _ _ _ _ (by decide)]; exact h5, by rw [cell_set_off _ _ _ _ _ (by decide)]; exact h6, by rw [cell_set_off _ _ _ _ _ (by decide)]; exact h7, by rw [cell_set_off _ _ _ _ _ (by decide)]; exact h8⟩
theorem Box8.set3 {j : Nat} {w : World} {k fr to no lo hi sl : Int} {s : ByteArray} (h : Box8 w j k fr to no lo hi sl s) (x : Int) : Box8 (w.setCell ⟨j, 3, none⟩ (.int .i64 x)) j k fr to x lo hi sl s := by
  obtain ⟨h0, h1, h2, h3, h4, h5, h6, h7, h8⟩ := h
  exact ⟨by simpa using h0, by rw [cell_set_off _ _ _ _ _ (by decide)]; exact h1, by rw [cell_set_off _ _ _ _ _ (by decide)]; exact h2, by rw [cell_set_off _ _ _ _ _ (by decide)]; exact h3, World.cell?_setCell_same _ _ _ h4, by rw [cell_set_off _ _ _ _ _ (by decide)]; exact h5, by rw [cell_set_off _ _ _ _ _ (by decide)]; exact h6, by rw [cell_set_off _ _ _ _ _ (by decide)]; exact h7, by rw [cell_set_off _ _ _ _ _ (by decide)]; exact h8⟩
theorem Box8.set4 {j : Nat} {w : World} {k fr to no lo hi sl : Int} {s : ByteArray} (h : Box8 w j k fr to no lo hi sl s) (x : Int) : Box8 (w.setCell ⟨j, 4, none⟩ (.int .i64 x)) j k fr to no x hi sl s := by
  obtain ⟨h0, h1, h2, h3, h4, h5, h6, h7, h8⟩ := h
  exact ⟨by simpa using h0, by rw [cell_set_off _ _ _ _ _ (by decide)]; exact h1, by rw [cell_set_off _ _ _ _ _ (by decide)]; exact h2, by rw [cell_set_off _ _ _ _ _ (by decide)]; exact h3, by rw [cell_set_off _ _ _ _ _ (by decide)]; exact h4, World.cell?_setCell_same _ _ _ h5, by rw [cell_set_off _ _ _ _ _ (by decide)]; exact h6, by rw [cell_set_off _ _ _ _ _ (by decide)]; exact h7, by rw [cell_set_off _ _ _ _ _ (by decide)]; exact h8⟩
theorem Box8.set5 {j : Nat} {w : World} {k fr to no lo hi sl : Int} {s : ByteArray} (h : Box8 w j k fr to no lo hi sl s) (x : Int) : Box8 (w.setCell ⟨j, 5, none⟩ (.int .i64 x)) j k fr to no lo x sl s := by
  obtain ⟨h0, h1, h2, h3, h4, h5, h6, h7, h8⟩ := h
  exact ⟨by simpa using h0, by rw [cell_set_off _ _ _ _ _ (by decide)]; exact h1, by rw [cell_set_off _ _ _ _ _ (by decide)]; exact h2, by rw [cell_set_off _ _ _ _ _ (by decide)]; exact h3, by rw [cell_set_off _ _ _ _ _ (by decide)]; exact h4, by rw [cell_set_off _ _ _ _ _ (by decide)]; exact h5, World.cell?_setCell_same _ _ _ h6, by rw [cell_set_off _ _ _ _ _ (by decide)]; exact h7, by rw [cell_set_off _ _ _ _ _ (by decide)]; exact h8⟩
theorem Box8.set6 {j : Nat} {w : World} {k fr to no lo hi sl : Int} {s : ByteArray} (h : Box8 w j k fr to no lo hi sl s) (x : Int) : Box8 (w.setCell ⟨j, 6, none⟩ (.int .i64 x)) j k fr to no lo hi x s := by
  obtain ⟨h0, h1, h2, h3, h4, h5, h6, h7, h8⟩ := h
  exact ⟨by simpa using h0, by rw [cell_set_off _ _ _ _ _ (by decide)]; exact h1, by rw [cell_set_off _ _ _ _ _ (by decide)]; exact h2, by rw [cell_set_off _ _ _ _ _ (by decide)]; exact h3, by rw [cell_set_off _ _ _ _ _ (by decide)]; exact h4, by rw [cell_set_off _ _ _ _ _ (by decide)]; exact h5, by rw [cell_set_off _ _ _ _ _ (by decide)]; exact h6, World.cell?_setCell_same _ _ _ h7, by rw [cell_set_off _ _ _ _ _ (by decide)]; exact h8⟩
theorem Box8.set7 {j : Nat} {w : World} {k fr to no lo hi sl : Int} {s : ByteArray} (h : Box8 w j k fr to no lo hi sl s) (x : ByteArray) : Box8 (w.setCell ⟨j, 7, none⟩ (.string x)) j k fr to no lo hi sl x := by
  obtain ⟨h0, h1, h2, h3, h4, h5, h6, h7, h8⟩ := h
  exact ⟨by simpa using h0, by rw [cell_set_off _ _ _ _ _ (by decide)]; exact h1, by rw [cell_set_off _ _ _ _ _ (by decide)]; exact h2, by rw [cell_set_off _ _ _ _ _ (by decide)]; exact h3, by rw [cell_set_off _ _ _ _ _ (by decide)]; exact h4, by rw [cell_set_off _ _ _ _ _ (by decide)]; exact h5, by rw [cell_set_off _ _ _ _ _ (by decide)]; exact h6, by rw [cell_set_off _ _ _ _ _ (by decide)]; exact h7, World.cell?_setCell_same _ _ _ h8⟩
theorem Thaw8.alloc {j : Nat} {w : World} (h : Thaw8 w j) (hj : j < w.heap.size) (o : Obj) : Thaw8 (w.alloc o) j := h.belowB ((Below.refl w.heap.size w).alloc (Nat.le_refl _) _) hj
set_option maxHeartbeats 4000000 in
theorem toMsg_any (k fr to no lo hi sl : Int) (s : ByteArray) (w : World) :
    Calls Try.prog 14 #[.agg #[.int .i64 k, .int .i64 fr, .int .i64 to, .int .i64 no, .int .i64 lo, .int .i64 hi, .int .i64 sl, .string s]] w fun e w' => e = .returned (.agg #[.int .i64 k, .int .i64 fr, .int .i64 to, .int .i64 no, .int .i64 lo, .int .i64 hi, .int .i64 sl, .string s]) ∧ Below w.heap.size w w' := by
  have z1 : (w.alloc (.cells #[.int .i64 k, .int .i64 fr, .int .i64 to, .int .i64 no, .int .i64 lo, .int .i64 hi, .int .i64 sl, .string s] 35)).heap.size = w.heap.size + 1 := by simp
  have z2 : ((w.alloc (.cells #[.int .i64 k, .int .i64 fr, .int .i64 to, .int .i64 no, .int .i64 lo, .int .i64 hi, .int .i64 sl, .string s] 35)).alloc (.cells #[.int .i64 0, .int .i64 0, .int .i64 0, .int .i64 0, .int .i64 0, .int .i64 0, .int .i64 0, .string ⟨#[]⟩] 46)).heap.size = w.heap.size + 1 + 1 := by simp
  have P0 := ((Box8.new w k fr to no lo hi sl s 35).alloc (.cells #[.int .i64 0, .int .i64 0, .int .i64 0, .int .i64 0, .int .i64 0, .int .i64 0, .int .i64 0, .string ⟨#[]⟩] 46)).alloc (.cells #[.int .i64 k, .int .i64 fr, .int .i64 to, .int .i64 no, .int .i64 0, .int .i64 0, .int .i64 0, .string ⟨#[]⟩] 46)
  have P1 := (Box8.new (w.alloc (.cells #[.int .i64 k, .int .i64 fr, .int .i64 to, .int .i64 no, .int .i64 lo, .int .i64 hi, .int .i64 sl, .string s] 35)) 0 0 0 0 0 0 0 ⟨#[]⟩ 46).alloc (.cells #[.int .i64 k, .int .i64 fr, .int .i64 to, .int .i64 no, .int .i64 0, .int .i64 0, .int .i64 0, .string ⟨#[]⟩] 46)
  have P2 := Box8.new ((w.alloc (.cells #[.int .i64 k, .int .i64 fr, .int .i64 to, .int .i64 no, .int .i64 lo, .int .i64 hi, .int .i64 sl, .string s] 35)).alloc (.cells #[.int .i64 0, .int .i64 0, .int .i64 0, .int .i64 0, .int .i64 0, .int .i64 0, .int .i64 0, .string ⟨#[]⟩] 46)) k fr to no 0 0 0 ⟨#[]⟩ 46
  have T1 := (Thaw8.new (w.alloc (.cells #[.int .i64 k, .int .i64 fr, .int .i64 to, .int .i64 no, .int .i64 lo, .int .i64 hi, .int .i64 sl, .string s] 35)) 0 0 0 0 0 0 0 ⟨#[]⟩ 46).alloc (by simp) (.cells #[.int .i64 k, .int .i64 fr, .int .i64 to, .int .i64 no, .int .i64 0, .int .i64 0, .int .i64 0, .string ⟨#[]⟩] 46)
  have T2 := Thaw8.new ((w.alloc (.cells #[.int .i64 k, .int .i64 fr, .int .i64 to, .int .i64 no, .int .i64 lo, .int .i64 hi, .int .i64 sl, .string s] 35)).alloc (.cells #[.int .i64 0, .int .i64 0, .int .i64 0, .int .i64 0, .int .i64 0, .int .i64 0, .int .i64 0, .string ⟨#[]⟩] 46)) k fr to no 0 0 0 ⟨#[]⟩ 46
  rw [z1] at P1 T1
  rw [z2] at P2 T2
  have B0 := (((Below.refl w.heap.size w).alloc (Nat.le_refl _) (.cells #[.int .i64 k, .int .i64 fr, .int .i64 to, .int .i64 no, .int .i64 lo, .int .i64 hi, .int .i64 sl, .string s] 35)).alloc (by simp) (.cells #[.int .i64 0, .int .i64 0, .int .i64 0, .int .i64 0, .int .i64 0, .int .i64 0, .int .i64 0, .string ⟨#[]⟩] 46)).alloc (by simp; omega) (.cells #[.int .i64 k, .int .i64 fr, .int .i64 to, .int .i64 no, .int .i64 0, .int .i64 0, .int .i64 0, .string ⟨#[]⟩] 46)
  clear z1 z2
  go_enter Try.func14, Try.ntmps14
  go_wp2_with fail
  refine (toIval_any _ _ _).mono ?_
  rintro e w1 ⟨rfl, hb⟩
  have Q0 := P0.below hb
  have Q1 := P1.below hb
  have Q2 := P2.below hb
  have U1 := T1.belowB hb P1.1
  have U2 := T2.belowB hb P2.1
  have B1 := B0.trans (hb.mono B0.size)
  clear P0 P1 P2 T1 T2 B0 hb
  obtain ⟨a0, a1, a2, a3, a4, a5, a6, a7, a8⟩ := Q0
  obtain ⟨b0, b1, b2, b3, b4, b5, b6, b7, b8⟩ := Q1
  obtain ⟨c0, c1, c2, c3, c4, c5, c6, c7, c8⟩ := Q2
  obtain ⟨d0, d1, d2, d3, d4, d5, d6, d7⟩ := U1
  obtain ⟨e0, e1, e2, e3, e4, e5, e6, e7⟩ := U2
  go_wp2_with fail
  exact bodyPost_ret (v := .agg #[.int .i64 k, .int .i64 fr, .int .i64 to, .int .i64 no, .int .i64 lo, .int .i64 hi, .int .i64 sl, .string s]) (by simp (maxDischargeDepth := 6) [results, Try.results14, go_sem, *]) rfl ⟨rfl, by repeat (first | refine Below.setCell ?_ (by first | (simp; done) | (simp; omega) | omega) _ | exact B1)⟩
set_option maxHeartbeats 1000000 in
theorem szMsg_any (k fr to no lo hi sl : Int) (s : ByteArray) (w : World) (hs : s.size ≤ maxLen) :
    Calls Try.prog 11 #[.agg #[.int .i64 k, .int .i64 fr, .int .i64 to, .int .i64 no, .int .i64 lo, .int .i64 hi, .int .i64 sl, .string s], .int .i64 1048576] w fun e w' => e = .returned (.int .i64 (if (s.size : Int) ≤ 1048576 then 1048576 - (s.size : Int) else -1)) ∧ Below w.heap.size w w' := by
  unfold maxLen at hs
  have B0 := (Below.refl w.heap.size w).alloc (Nat.le_refl _) (.cells #[.int .i64 k, .int .i64 fr, .int .i64 to, .int .i64 no, .int .i64 lo, .int .i64 hi, .int .i64 sl, .string s] 35)
  by_cases h : (s.size : Int) ≤ 1048576
  · rw [if_pos h]
    have hd : decide (1048576 - (s.size : Int) < 0) = false := by simp; omega
    go_enter Try.func11, Try.ntmps11
    go_wp2
    go_ret
    exact ⟨rfl, B0⟩
  · rw [if_neg h]
    have hd : decide (1048576 - (s.size : Int) < 0) = true := by simp; omega
    go_enter Try.func11, Try.ntmps11
    go_wp2
    go_ret
    exact ⟨rfl, B0⟩
end Go.Proofs.Ytdahabbdhjgpdaa
