/- The walk of the exact law of Pack. -/
import Derived.Test.YtnhkpbbkappclaaG14
import Derived.Test.YtnhkpbbkappclaaG15
import Derived.WalkKit
import Derived.WalkSpells
import Derived.WalkLawsBesides
import Derived.Deep.RegionHeld
namespace Go.Proofs.Ytnhkpbbkappclaa
open Go.RowKit
set_option linter.unusedVariables false
theorem ownC_belowB {w w' : World} {B base : Nat} {e : TypeId} {size : Nat} {v : Value} {n : Nat} {xs : List Value} (h : w.ownsRow base e size v n xs) (hb : Below B w w') (hlt : ∀ g, v.ownBlock = some g → g < B) : w'.ownsRow base e size v n xs := by
  refine ⟨h.1, ?_⟩
  rcases h.2 with h | ⟨g, cap, cur, rfl, h2, h3, h4⟩
  · exact .inl h
  · exact .inr ⟨g, cap, cur, rfl, h2, (hb.block g (hlt g rfl)).trans h3, h4⟩
set_option maxHeartbeats 8000000 in
theorem lawPack (k fr tu no lo hi sl : Int) (s : ByteArray) (w : World) (hs : s.size ≤ maxLen) :
    Calls Try.prog 3 #[.agg #[.int .i64 k, .int .i64 fr, .int .i64 tu, .int .i64 no, .int .i64 lo, .int .i64 hi, .int .i64 sl, .string s]] w fun e w' => e = .returned (.bool true) ∧ Below w.heap.size w w' := by
  have B := (Below.refl w.heap.size w).alloc (Nat.le_refl _) (.cells #[.int .i64 k, .int .i64 fr, .int .i64 tu, .int .i64 no, .int .i64 lo, .int .i64 hi, .int .i64 sl, .string s] 25)
  have P := Box8.new w k fr tu no lo hi sl s 25
  by_cases hbig : (s.size : Int) ≤ 1048576
  · have HN : Hid ((if (s.size : Int) ≤ 1048576 then 1048576 - (s.size : Int) else -1) = 1048576 - (s.size : Int)) := by rw [Hid, if_pos hbig]
    have hd : decide (1048576 - (s.size : Int) < 0) = false := by simp; omega
    have hsz : s.size ≤ 1048576 := by omega
    have CS := fun w' => specPack_any k fr tu no lo hi sl s w' hsz
    have CI := fun w' => implPack_any k fr tu no lo hi sl s w' hsz
    have hLen := packR_short k fr tu no lo hi sl s
    generalize packR k fr tu no lo hi sl s = L at *
    generalize msgB k fr tu no lo hi sl s = ok at *
    have hLm : L.length ≤ maxLen := by unfold maxLen; omega
    have hLn : L.length ≤ 1048576 := by omega
    go_enter Try.func3, Try.ntmps3
    go_wp2_with fail
    refine (szMsg_any _ _ _ _ _ _ _ _ _ hs).mono ?_
    rintro e w1 ⟨rfl, hb⟩
    rw [HN.out]
    replace B := B.trans (hb.mono B.size)
    replace P := P.below hb
    clear hb
    obtain ⟨a0, a1, a2, a3, a4, a5, a6, a7, a8⟩ := id P
    go_wp2_with fail
    refine (toMsg_any _ _ _ _ _ _ _ _ _).mono ?_
    rintro e w2 ⟨rfl, hb⟩
    clear a0 a1 a2 a3 a4 a5 a6 a7 a8
    replace B := B.trans (hb.mono B.size)
    replace P := P.below hb
    clear hb
    go_wp2_with fail
    refine (CS _).mono ?_
    rintro e w3 ⟨vs, rfl, V, hb⟩
    replace B := B.trans (hb.mono B.size)
    replace P := P.below hb
    have Vl : ∀ g, vs.ownBlock = some g → g < w3.heap.size := fun g hg => (V.lt g hg).2
    clear hb CS
    obtain ⟨a0, a1, a2, a3, a4, a5, a6, a7, a8⟩ := id P
    go_wp2_with fail
    refine (toMsg_any _ _ _ _ _ _ _ _ _).mono ?_
    rintro e w4 ⟨rfl, hb⟩
    clear a0 a1 a2 a3 a4 a5 a6 a7 a8
    have s4 : w3.heap.size ≤ w4.heap.size := hb.size
    replace B := B.trans (hb.mono B.size)
    replace P := P.below hb
    replace V := ownB_below V hb
    have hP4 : w.heap.size + 1 ≤ w4.heap.size := P.1
    clear hb
    go_wp2_with fail
    refine (CI _).mono ?_
    rintro e w5 ⟨vg, rfl, G, hb⟩
    have s5 : w4.heap.size ≤ w5.heap.size := hb.size
    replace B := B.trans (hb.mono B.size)
    replace P := P.below hb
    replace V := ownB_below V hb
    clear hb
    obtain ⟨az, cz, rfl, _, _, SS⟩ := ownB_src V
    obtain ⟨ag, cg, rfl, _, _, SG⟩ := ownB_src G
    have HS2 : Hid (SrcB w5 az L.length fun i => L.getD i 0) := SS
    have HG2 : Hid (SrcB w5 ag L.length fun i => L.getD i 0) := SG
    clear SS SG
    go_wp2_with fail
    refine (eqByteS_src _ _ _ _ _ _ _ hLm HG2.out HS2.out).mono ?_
    rintro e w6 ⟨rfl, hb⟩
    have s6 : w5.heap.size ≤ w6.heap.size := hb.size
    replace B := B.trans (hb.mono B.size)
    replace P := P.below hb
    replace V := ownB_below V hb
    replace G := ownB_below G hb
    clear hb HS2 HG2
    go_wp2_with fail
    refine (markByteS_any ag L.length cg w4.heap.size _ _ hLn (by omega) G).mono ?_
    rintro e w7 ⟨rfl, hg, hb⟩
    replace B := B.trans (hb.mono (by omega))
    replace P := P.belowB hb (by omega)
    replace V := ownC_belowB V hb (fun g h => Nat.lt_of_lt_of_le (Vl g h) s4)
    have HM : Hid (SrcB w7 ag L.length fmb) := hg
    clear hb G hg
    go_wp2_with fail
    refine (heldByteS_any ag L.length cg _ hLn HM.out).mono ?_
    rintro e w' ⟨rfl, rfl⟩
    obtain ⟨a0, a1, a2, a3, a4, a5, a6, a7, a8⟩ := id P
    go_wp2_with fail
    refine (toMsg_any _ _ _ _ _ _ _ _ _).mono ?_
    rintro e w8 ⟨rfl, hb⟩
    clear a0 a1 a2 a3 a4 a5 a6 a7 a8
    replace B := B.trans (hb.mono B.size)
    replace V := ownB_below V hb
    replace HM : Hid (SrcB w8 ag L.length fmb) := HM.out.below hb
    clear hb P
    go_wp2_with fail
    refine (CI _).mono ?_
    rintro e w9 ⟨vh, rfl, H, hb⟩
    replace B := B.trans (hb.mono B.size)
    replace V := ownB_below V hb
    replace HM : Hid (SrcB w9 ag L.length fmb) := HM.out.below hb
    clear hb CI
    obtain ⟨ah, ch, rfl, _, _, SH⟩ := ownB_src H
    obtain ⟨az', cz', he, _, _, SS⟩ := ownB_src V
    simp at he
    obtain ⟨rfl, rfl⟩ := he
    have HH5 : Hid (SrcB w9 ah L.length fun i => L.getD i 0) := SH
    have HS5 : Hid (SrcB w9 az L.length fun i => L.getD i 0) := SS
    clear SH SS
    go_wp2_with fail
    refine (eqByteS_src _ _ _ _ _ _ _ hLm HH5.out HS5.out).mono ?_
    rintro e w10 ⟨rfl, hb⟩
    replace B := B.trans (hb.mono B.size)
    replace HM : Hid (SrcB w10 ag L.length fmb) := HM.out.below hb
    clear hb V H HS5 HH5
    go_wp2_with fail
    refine (heldByteS_any ag L.length cg _ hLn HM.out).mono ?_
    rintro e w' ⟨rfl, rfl⟩
    go_wp2_with fail
    go_ret
    exact ⟨rfl, B⟩
  · have HN : Hid ((if (s.size : Int) ≤ 1048576 then 1048576 - (s.size : Int) else -1) = -1) := by rw [Hid, if_neg hbig]
    go_enter Try.func3, Try.ntmps3
    go_wp2_with fail
    refine (szMsg_any _ _ _ _ _ _ _ _ _ hs).mono ?_
    rintro e w1 ⟨rfl, hb⟩
    rw [HN.out]
    go_wp2_with fail
    go_ret
    exact ⟨rfl, B.trans (hb.mono B.size)⟩
end Go.Proofs.Ytnhkpbbkappclaa
