/- The walk of the exact law of Unpack. -/
import Derived.Test.YtnhkpbbkappclaaH6
import Derived.Test.YtnhkpbbkappclaaH11
import Derived.Test.YtnhkpbbkappclaaW2
import Derived.WalkKit
import Derived.WalkSpells
import Derived.WalkLawsBesides
import Derived.Deep.RegionHeld
namespace Go.Proofs.Ytnhkpbbkappclaa
open Go.RowKit
set_option linter.unusedVariables false
set_option maxHeartbeats 4000000 in
theorem eqMsg_same (k fr tu no lo hi sl : Int) (s : ByteArray) (w : World) :
    Calls Try.prog 17 #[.agg #[.int .i64 k, .int .i64 fr, .int .i64 tu, .int .i64 no, .int .i64 lo, .int .i64 hi, .int .i64 sl, .string s], .agg #[.int .i64 k, .int .i64 fr, .int .i64 tu, .int .i64 no, .int .i64 lo, .int .i64 hi, .int .i64 sl, .string s]] w fun e w' => e = .returned (.bool true) ∧ Below w.heap.size w w' := by
  have z1 : (w.alloc (.cells #[.int .i64 k, .int .i64 fr, .int .i64 tu, .int .i64 no, .int .i64 lo, .int .i64 hi, .int .i64 sl, .string s] 32)).heap.size = w.heap.size + 1 := by simp
  have P0 := (Box8.new w k fr tu no lo hi sl s 32).alloc (.cells #[.int .i64 k, .int .i64 fr, .int .i64 tu, .int .i64 no, .int .i64 lo, .int .i64 hi, .int .i64 sl, .string s] 32)
  have P1 := Box8.new (w.alloc (.cells #[.int .i64 k, .int .i64 fr, .int .i64 tu, .int .i64 no, .int .i64 lo, .int .i64 hi, .int .i64 sl, .string s] 32)) k fr tu no lo hi sl s 32
  rw [z1] at P1
  have B := ((Below.refl w.heap.size w).alloc (Nat.le_refl _) (.cells #[.int .i64 k, .int .i64 fr, .int .i64 tu, .int .i64 no, .int .i64 lo, .int .i64 hi, .int .i64 sl, .string s] 32)).alloc (by simp) (.cells #[.int .i64 k, .int .i64 fr, .int .i64 tu, .int .i64 no, .int .i64 lo, .int .i64 hi, .int .i64 sl, .string s] 32)
  clear z1
  go_enter Try.func17, Try.ntmps17
  go_wp2_with fail
  refine (eqIval_same _ _ _).mono ?_
  rintro e v ⟨rfl, hb⟩
  replace P0 := P0.below hb
  replace P1 := P1.below hb
  replace B := B.trans (hb.mono B.size)
  clear hb
  obtain ⟨a0, a1, a2, a3, a4, a5, a6, a7, a8⟩ := P0
  obtain ⟨b0, b1, b2, b3, b4, b5, b6, b7, b8⟩ := P1
  go_wp2_with fail
  go_ret
  exact ⟨rfl, B⟩
set_option maxHeartbeats 8000000 in
theorem lawUnpack (a : Option Addr) (n c : Nat) (f : Nat → Int) (w : World) (hm : n ≤ maxLen) (hsrc : SrcB w a n f) (hr : ∀ i, i < n → 0 ≤ f i ∧ f i ≤ 255) :
    Calls Try.prog 4 #[.slice a n c] w fun e w' => e = .returned (.bool true) ∧ Below w.heap.size w w' := by
  by_cases hbig : 1048576 < (n : Int)
  · have hm' : n ≤ 9223372036854775807 := hm
    clear hsrc hr hm
    go_enter Try.func4, Try.ntmps4
    go_wp2_with fail
    exact bodyPost_ret (v := .bool true) (by simp [results, Try.results4, go_sem]) rfl ⟨rfl, Below.refl _ _⟩
  · have hn : n ≤ 1048576 := by omega
    have HS : Hid (SrcB w a n f) := hsrc
    have CS := fun (w' : World) (a' : Option Addr) (h : SrcB w' a' n f) => specUnpack_any a' n n f w' hn (Nat.le_refl _) hm h hr
    have CI := fun (w' : World) (a' : Option Addr) (h : SrcB w' a' n f) => implUnpack_any a' n n f w' hn (Nat.le_refl _) hm h hr
    simp only [uv, mv] at CS CI
    generalize (unp f n).1 = q0 at *
    generalize (unp f n).2.1 = q1 at *
    generalize (unp f n).2.2.1 = q2 at *
    generalize (unp f n).2.2.2.1 = q3 at *
    generalize (unp f n).2.2.2.2.1 = q4 at *
    generalize (unp f n).2.2.2.2.2.1 = q5 at *
    generalize (unp f n).2.2.2.2.2.2.1 = q6 at *
    generalize (unp f n).2.2.2.2.2.2.2.1 = q7 at *
    generalize (unp f n).2.2.2.2.2.2.2.2 = q8 at *
    clear hsrc hr
    go_enter Try.func4, Try.ntmps4
    go_wp2_with fail
    refine (toByteS_any a n c f _ hn HS.out).mono ?_
    rintro e w1 ⟨rfl, R1, B1⟩
    have L1 : Hid (SrcB w1 (some ⟨w.heap.size, 0, none⟩) n f) := .inr ⟨_, _, rfl, R1.byts (Nat.le_refl _)⟩
    clear R1
    go_wp2_with fail
    refine (CS _ _ L1.out).mono ?_
    rintro e w2 ⟨rfl, hb⟩
    have B2 := B1.trans (hb.mono B1.size)
    have A2 := (Below.refl w2.heap.size w2).alloc (Nat.le_refl _) (.cells #[.int .i64 q1, .int .i64 q2, .int .i64 q3, .int .i64 q4, .int .i64 q5, .int .i64 q6, .int .i64 q7, .string q8] 32)
    have P2 := Box8.new w2 q1 q2 q3 q4 q5 q6 q7 q8 32
    have B3 := B2.trans (A2.mono B2.size)
    clear L1 CS hb B1 B2 A2
    go_wp2_with fail
    refine (toByteS_any a n c f _ hn (HS.out.below B3)).mono ?_
    rintro e w4 ⟨rfl, R4, hb⟩
    have B4 := B3.trans (hb.mono B3.size)
    have P4 := P2.below hb
    have L4 : Hid (SrcB w4 (some ⟨(w2.alloc (.cells #[.int .i64 q1, .int .i64 q2, .int .i64 q3, .int .i64 q4, .int .i64 q5, .int .i64 q6, .int .i64 q7, .string q8] 32)).heap.size, 0, none⟩) n f) := .inr ⟨_, _, rfl, R4.byts (Nat.le_refl _)⟩
    clear R4 hb B3 P2
    go_wp2_with fail
    refine (CI _ _ (by simpa using L4.out)).mono ?_
    rintro e w5 ⟨rfl, hb⟩
    have B5 := B4.trans (hb.mono B4.size)
    have P5 := P4.below hb
    have L5 : Hid (SrcB w5 (some ⟨(w2.alloc (.cells #[.int .i64 q1, .int .i64 q2, .int .i64 q3, .int .i64 q4, .int .i64 q5, .int .i64 q6, .int .i64 q7, .string q8] 32)).heap.size, 0, none⟩) n f) := L4.out.below hb
    have A5 := (Below.refl w5.heap.size w5).alloc (Nat.le_refl _) (.cells #[.int .i64 q1, .int .i64 q2, .int .i64 q3, .int .i64 q4, .int .i64 q5, .int .i64 q6, .int .i64 q7, .string q8] 32)
    have P6 := P5.below A5
    have L6 : Hid (SrcB (w5.alloc (.cells #[.int .i64 q1, .int .i64 q2, .int .i64 q3, .int .i64 q4, .int .i64 q5, .int .i64 q6, .int .i64 q7, .string q8] 32)) (some ⟨(w2.alloc (.cells #[.int .i64 q1, .int .i64 q2, .int .i64 q3, .int .i64 q4, .int .i64 q5, .int .i64 q6, .int .i64 q7, .string q8] 32)).heap.size, 0, none⟩) n f) := L5.out.below A5
    have B6 := B5.trans (A5.mono B5.size)
    obtain ⟨a0, a1, a2, a3, a4, a5, a6, a7, a8⟩ := P5
    clear hb B4 P4 L4 CI L5 B5 A5
    go_wp2_with fail
    refine (eqMsg_same _ _ _ _ _ _ _ _ _).mono ?_
    rintro e w7 ⟨rfl, hb⟩
    have B7 := B6.trans (hb.mono B6.size)
    have L7 : Hid (SrcB w7 (some ⟨(w2.alloc (.cells #[.int .i64 q1, .int .i64 q2, .int .i64 q3, .int .i64 q4, .int .i64 q5, .int .i64 q6, .int .i64 q7, .string q8] 32)).heap.size, 0, none⟩) n f) := L6.out.below hb
    clear hb B6 L6 P6 a0 a1 a2 a3 a4 a5 a6 a7 a8
    go_wp2_with fail
    refine (toByteS_any a n c f _ hn (HS.out.below B7)).mono ?_
    rintro e w8 ⟨rfl, R8, hb⟩
    have B8 := B7.trans (hb.mono B7.size)
    have L8 : Hid (SrcB w8 (some ⟨w7.heap.size, 0, none⟩) n f) := .inr ⟨_, _, rfl, R8.byts (Nat.le_refl _)⟩
    have K8 : Hid (SrcB w8 (some ⟨(w2.alloc (.cells #[.int .i64 q1, .int .i64 q2, .int .i64 q3, .int .i64 q4, .int .i64 q5, .int .i64 q6, .int .i64 q7, .string q8] 32)).heap.size, 0, none⟩) n f) := L7.out.below hb
    clear R8 hb B7 L7
    go_wp2_with fail
    refine (eqByteS_src _ _ n n n f _ hm (by simpa using K8.out) L8.out).mono ?_
    rintro e w9 ⟨rfl, hb⟩
    have B9 := B8.trans (hb.mono B8.size)
    clear hb B8 L8 K8
    go_wp2_with fail
    exact bodyPost_ret (v := .bool true) (by simp [results, Try.results4, go_sem]) rfl ⟨rfl, B9⟩
end Go.Proofs.Ytnhkpbbkappclaa
