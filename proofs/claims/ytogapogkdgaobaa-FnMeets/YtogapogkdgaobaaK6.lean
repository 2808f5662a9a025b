/- The walk of the law of Meet. -/
import Derived.Test.YtogapogkdgaobaaK1
import Derived.Test.YtogapogkdgaobaaD6
import Derived.Test.YtogapogkdgaobaaW4
import Derived.Test.YtogapogkdgaobaaW6
import Derived.Test.YtogapogkdgaobaaW7
import Derived.WalkKit
import Derived.WalkSpells
import Derived.WalkLawsBesides
import Derived.Deep.DeepCutAuto
import Derived.Deep.RegionHeld
import Derived.Deep.RegionHeld3
import Derived.RegionTactic
import Derived.Deep.QuietTactic
import Derived.BigQuiet
namespace Go.Proofs.Ytogapogkdgaobaa
open Go.RowKit
set_option linter.unusedVariables false
theorem Below.undrew {B : Nat} {w w' : World} (h : Below B w.drew w') : Below B w w' := ⟨h.os, h.tape, h.output, h.size, h.block⟩
theorem within_l {al ah bl bh : Int} (ha : okI al ah = true) (hb : okI bl bh = true) : withinI al ah (imn al bl) (imx ah bh) = true ∧ withinI bl bh (imn al bl) (imx ah bh) = true := by
  have hj : okI (imn al bl) (imx ah bh) = true := join_ok (by simp [okII, ha, hb])
  have a1 : imn al bl ≤ al := by unfold imn; split <;> omega
  have a2 : imn al bl ≤ bl := by unfold imn; split <;> omega
  have a3 : ah ≤ imx ah bh := by unfold imx; split <;> omega
  have a4 : bh ≤ imx ah bh := by unfold imx; split <;> omega
  exact ⟨by simp [withinI, okII, ha, hj, a1, a3], by simp [withinI, okII, hb, hj, a2, a4]⟩
theorem meetB_r {al ah bl bh : Int} (ha : okI al ah = true) (hb : okI bl bh = true) : meetB al ah bl bh = okI (imx al bl) (imn ah bh) := by simp [meetB, okII, ha, hb]
theorem meet_rng {al ah bl bh : Int} (ha : okI al ah = true) (hb : okI bl bh = true) : okI (imx al bl) (imn ah bh) = decide (imx al bl ≤ imn ah bh) := by
  have ⟨a1, a2, a3⟩ := okI_t ha
  have ⟨b1, b2, b3⟩ := okI_t hb
  have h1 : -1000000000000 ≤ imx al bl := by unfold imx; split <;> omega
  have h2 : imn ah bh ≤ 1000000000000 := by unfold imn; split <;> omega
  simp [okI, h1, h2]
theorem apart_t {al ah bl bh : Int} (ha : okI al ah = true) (hb : okI bl bh = true) (h : meetB al ah bl bh = true) : apartI al ah bl bh = 0 := by
  rw [meetB_r ha hb, meet_rng ha hb] at h
  have h := of_decide_eq_true h
  rw [apartI_t (by simp [okII, ha, hb])]
  have e : imx 0 (imx al bl - imn ah bh) = (if imx al bl - imn ah bh < 0 then 0 else imx al bl - imn ah bh) := rfl
  rw [e]; split <;> omega
theorem apart_f {al ah bl bh : Int} (ha : okI al ah = true) (hb : okI bl bh = true) (h : meetB al ah bl bh = false) : (apartI al ah bl bh == 0) = false := by
  rw [meetB_r ha hb, meet_rng ha hb] at h
  have h := of_decide_eq_false h
  rw [apartI_t (by simp [okII, ha, hb]), beq_eq_false_iff_ne]
  have e : imx 0 (imx al bl - imn ah bh) = (if imx al bl - imn ah bh < 0 then 0 else imx al bl - imn ah bh) := rfl
  rw [e]; split <;> omega
theorem hold_both {al ah bl bh : Int} (ha : okI al ah = true) (hb : okI bl bh = true) (x : Int) : (holdsI al ah x && holdsI bl bh x) = (meetB al ah bl bh && holdsI (imx al bl) (imn ah bh) x) := by
  rw [meetB_r ha hb]
  have h1 : holdsI (imx al bl) (imn ah bh) x = (okI (imx al bl) (imn ah bh) && decide (imx al bl ≤ x ∧ x ≤ imn ah bh)) := rfl
  rw [h1, meet_rng ha hb, Bool.eq_iff_iff]
  simp [holdsI, ha, hb]
  unfold imx imn
  split <;> split <;> omega
theorem litL (w : World) (L : List Int) (T : TypeId) (k : Nat) (hk : k < L.length) : (w.alloc (.cells (L.map (Value.int .i64)).toArray T)).cell? ⟨w.heap.size, k, none⟩ = some (.int .i64 L[k]) := by simp [hk]
theorem lit8 (w : World) (a b c d e f g h : Int) (T : TypeId) (k : Nat) (hk : k < 8) : ∃ x : Int, (w.alloc (.cells #[.int .i64 a, .int .i64 b, .int .i64 c, .int .i64 d, .int .i64 e, .int .i64 f, .int .i64 g, .int .i64 h] T)).cell? ⟨w.heap.size, k, none⟩ = some (.int .i64 x) :=
  ⟨_, litL w [a, b, c, d, e, f, g, h] T k hk⟩
theorem apart_b {al ah bl bh : Int} (ha : okI al ah = true) (hb : okI bl bh = true) : (apartI al ah bl bh == 0) = meetB al ah bl bh := by
  cases h : meetB al ah bl bh
  · exact apart_f ha hb h
  · rw [apart_t ha hb h]; rfl
theorem implHolds_v (lo hi t : Int) (v : Bool) (w : World) (h : holdsI lo hi t = v) :
    Calls Try.prog 16 #[.agg #[.int .i64 lo, .int .i64 hi], .int .i64 t] w fun e w' => e = .returned (.bool v) ∧ Below w.heap.size w w' := by
  subst h; exact implHolds_any lo hi t w
set_option maxHeartbeats 4000000 in
theorem walkMeets (a : Option Addr) (n c : Nat) (w : World) (hcode : CodeB w w.heap.size a n) :
    Calls Try.prog 3 #[.slice a n c] w fun e w' => e = .returned (.bool true) ∧ Below w.heap.size w w' := by
  by_cases hbig : (1048576 : Int) < (n : Int)
  · go_enter Try.func3, Try.ntmps3
    go_wp2_with (go_at_call 8; refine (big_any _ _ _ _).mono ?_; rintro e w' ⟨rfl, rfl⟩)
    go_ret
    exact ⟨rfl, Below.refl _ _⟩
  have hd : decide ((1048576 : Int) < (n : Int)) = false := by simp; omega
  have hn : n ≤ 1048576 := by omega
  have HC : Hid (CodeB w w.heap.size a n) := hcode
  clear hcode hbig
  go_enter Try.func3, Try.ntmps3
  go_wp2_with (go_at_call 8; refine (big_any _ _ _ _).mono ?_; rintro e w' ⟨rfl, rfl⟩)
  refine (DrawMeet_any a n c _ hn HC.out).mono ?_
  rintro e w1 ⟨al, ah, bl, bh, rfl, w1b⟩
  have A1 : Below w.heap.size w ((w1.alloc (.cells #[.int .i64 al, .int .i64 ah] 25)).alloc (.cells #[.int .i64 bl, .int .i64 bh] 25)) := (w1b.alloc w1b.size _).alloc (by have := w1b.size; simp; omega) _
  have P1 : Box ((w1.alloc (.cells #[.int .i64 al, .int .i64 ah] 25)).alloc (.cells #[.int .i64 bl, .int .i64 bh] 25)) w1.heap.size al ah := (Box.new w1 al ah 25).alloc _
  have R1 : Box ((w1.alloc (.cells #[.int .i64 al, .int .i64 ah] 25)).alloc (.cells #[.int .i64 bl, .int .i64 bh] 25)) (w1.heap.size + 1) bl bh := by
    have := Box.new (w1.alloc (.cells #[.int .i64 al, .int .i64 ah] 25)) bl bh 25
    simpa using this
  clear w1b
  go_wp2_with fail
  refine (specIvalOk_any _ _ _).mono ?_
  rintro e w2 ⟨rfl, w2b⟩
  have P2 := P1.below w2b
  have R2 := R1.below w2b
  have B2 : Below w.heap.size w w2 := A1.trans (w2b.mono A1.size)
  clear P1 R1 A1 w2b
  obtain ⟨g1, g2, g3, g4, g5⟩ := id P2
  obtain ⟨e1, e2, e3, e4, e5⟩ := id R2
  cases ha : okI al ah
  · have hII : okII al ah bl bh = false := by simp [okII, ha]
    have hm : meetB al ah bl bh = false := by simp [meetB, hII]
    have hap : apartI al ah bl bh = -1 := apartI_f hII
    have f12 : okI 1 2 = true := by decide
    go_wp2_with fail
    refine (implMeet_any _ _ _ _ _).mono ?_
    rintro e w6 ⟨rfl, w6b⟩
    have P6 := P2.below w6b
    have R6 := R2.below w6b
    have B6 : Below w.heap.size w w6 := B2.trans (w6b.mono B2.size)
    have A6 := Below.al w6 (.cells #[.int .i64 (sel false (imx al bl)), .int .i64 (sel false (imn ah bh))] 25)
    clear w6b g1 g2 g3 g4 g5 e1 e2 e3 e4 e5 P2 R2 B2
    obtain ⟨g1, g2, g3, g4, g5⟩ := id P6
    obtain ⟨e1, e2, e3, e4, e5⟩ := id R6
    go_wp2_with fail
    refine (implApart_any _ _ _ _ _).mono ?_
    rintro e w7 ⟨rfl, w7b⟩
    have B6' : Below w.heap.size w (w6.alloc (.cells #[.int .i64 (sel false (imx al bl)), .int .i64 (sel false (imn ah bh))] 25)) := B6.trans (A6.mono B6.size)
    have B7 : Below w.heap.size w w7 := B6'.trans (w7b.mono B6'.size)
    clear w7b g1 g2 g3 g4 g5 e1 e2 e3 e4 e5 A6
    go_wp2_with fail
    refine (implIvalOk_any _ _ _).mono ?_
    rintro e w8 ⟨rfl, w8b⟩
    have B8 : Below w.heap.size w w8 := B7.trans (w8b.mono B7.size)
    go_wp2_with fail
    go_ret
    exact ⟨rfl, B8⟩
  go_wp2_with fail
  refine (specIvalOk_any _ _ _).mono ?_
  rintro e w3 ⟨rfl, w3b⟩
  have P3 := P2.below w3b
  have R3 := R2.below w3b
  have B3 : Below w.heap.size w w3 := B2.trans (w3b.mono B2.size)
  clear P2 R2 B2 w3b g1 g2 g3 g4 g5 e1 e2 e3 e4 e5
  obtain ⟨g1, g2, g3, g4, g5⟩ := id P3
  obtain ⟨e1, e2, e3, e4, e5⟩ := id R3
  cases hbb : okI bl bh
  · have hII : okII al ah bl bh = false := by simp [okII, hbb]
    have hm : meetB al ah bl bh = false := by simp [meetB, hII]
    have hap : apartI al ah bl bh = -1 := apartI_f hII
    have f12 : okI 1 2 = true := by decide
    go_wp2_with fail
    refine (implMeet_any _ _ _ _ _).mono ?_
    rintro e w6 ⟨rfl, w6b⟩
    have P6 := P3.below w6b
    have R6 := R3.below w6b
    have B6 : Below w.heap.size w w6 := B3.trans (w6b.mono B3.size)
    have A6 := Below.al w6 (.cells #[.int .i64 (sel false (imx al bl)), .int .i64 (sel false (imn ah bh))] 25)
    clear w6b g1 g2 g3 g4 g5 e1 e2 e3 e4 e5 P3 R3 B3
    obtain ⟨g1, g2, g3, g4, g5⟩ := id P6
    obtain ⟨e1, e2, e3, e4, e5⟩ := id R6
    go_wp2_with fail
    refine (implApart_any _ _ _ _ _).mono ?_
    rintro e w7 ⟨rfl, w7b⟩
    have B6' : Below w.heap.size w (w6.alloc (.cells #[.int .i64 (sel false (imx al bl)), .int .i64 (sel false (imn ah bh))] 25)) := B6.trans (A6.mono B6.size)
    have B7 : Below w.heap.size w w7 := B6'.trans (w7b.mono B6'.size)
    clear w7b g1 g2 g3 g4 g5 e1 e2 e3 e4 e5 A6
    go_wp2_with fail
    refine (implIvalOk_any _ _ _).mono ?_
    rintro e w8 ⟨rfl, w8b⟩
    have B8 : Below w.heap.size w w8 := B7.trans (w8b.mono B7.size)
    go_wp2_with fail
    go_ret
    exact ⟨rfl, B8⟩
  have hj : joinB al ah bl bh = true := by simp [joinB, okII, ha, hbb]
  have ⟨wi1, wi2⟩ := within_l ha hbb
  have HB : Hid (∀ x, (holdsI al ah x && holdsI bl bh x) = (meetB al ah bl bh && holdsI (imx al bl) (imn ah bh) x)) := hold_both ha hbb
  have ⟨r1, r2, r3⟩ := okI_t ha
  have ⟨r4, r5, r6⟩ := okI_t hbb
  have hap := apart_b ha hbb
  have MT := implMeet_any al ah bl bh
  have JN := implJoin_any al ah bl bh
  have hs : Hid (∀ b, b = true → sel b (imx al bl) = imx al bl ∧ sel b (imn ah bh) = imn ah bh) := fun b h => by subst h; exact ⟨rfl, rfl⟩
  rw [hj] at JN
  rw [sel_t rfl, sel_t rfl] at JN
  generalize meetB al ah bl bh = b at *
  have hs : Hid (b = true → sel b (imx al bl) = imx al bl ∧ sel b (imn ah bh) = imn ah bh) := hs.out b
  generalize sel b (imx al bl) = s1 at *
  generalize sel b (imn ah bh) = s2 at *
  generalize imx al bl = m1 at *
  generalize imn ah bh = m2 at *
  generalize imn al bl = j1 at *
  generalize imx ah bh = j2 at *
  go_wp2_with fail
  refine (MT _).mono ?_
  rintro e w4 ⟨rfl, w4b⟩
  have A4 : Below w4.heap.size w4 (w4.alloc (.cells #[.int .i64 s1, .int .i64 s2] 25)) := Below.al _ _
  have P4 := P3.below w4b
  have R4 := R3.below w4b
  have M4 := Box.new w4 s1 s2 25
  have B4 : Below w.heap.size w w4 := B3.trans (w4b.mono B3.size)
  clear P3 R3 B3 w4b g1 g2 g3 g4 g5 e1 e2 e3 e4 e5
  obtain ⟨g1, g2, g3, g4, g5⟩ := id P4
  obtain ⟨e1, e2, e3, e4, e5⟩ := id R4
  go_wp2_with fail
  refine (JN _).mono ?_
  rintro e w5 ⟨rfl, w5b⟩
  have A5 : Below w5.heap.size w5 (w5.alloc (.cells #[.int .i64 j1, .int .i64 j2] 25)) := Below.al _ _
  have P5 := (P4.below A4).below w5b
  have R5 := (R4.below A4).below w5b
  have M5 := M4.below w5b
  have J5 := Box.new w5 j1 j2 25
  have B4' : Below w.heap.size w (w4.alloc (.cells #[.int .i64 s1, .int .i64 s2] 25)) := B4.trans (A4.mono B4.size)
  have B5 : Below w.heap.size w w5 := B4'.trans (w5b.mono B4'.size)
  clear P4 R4 M4 B4 B4' w5b A4 g1 g2 g3 g4 g5 e1 e2 e3 e4 e5
  obtain ⟨g1, g2, g3, g4, g5⟩ := id P5
  obtain ⟨e1, e2, e3, e4, e5⟩ := id R5
  go_wp2_with fail
  refine (implWithin_any _ _ _ _ _).mono ?_
  rintro e w6 ⟨rfl, w6b⟩
  have P6 := (P5.below A5).below w6b
  have R6 := (R5.below A5).below w6b
  have M6 := (M5.below A5).below w6b
  have J6 := J5.below w6b
  have B5' : Below w.heap.size w (w5.alloc (.cells #[.int .i64 j1, .int .i64 j2] 25)) := B5.trans (A5.mono B5.size)
  have B6 : Below w.heap.size w w6 := B5'.trans (w6b.mono B5'.size)
  clear P5 R5 M5 J5 B5 B5' w6b A5 g1 g2 g3 g4 g5 e1 e2 e3 e4 e5
  obtain ⟨g1, g2, g3, g4, g5⟩ := id P6
  obtain ⟨e1, e2, e3, e4, e5⟩ := id R6
  obtain ⟨j1', j2', j3', j4', j5'⟩ := id J6
  go_wp2_with fail
  refine (implWithin_any _ _ _ _ _).mono ?_
  rintro e w7 ⟨rfl, w7b⟩
  have P7 := P6.below w7b
  have R7 := R6.below w7b
  have M7 := M6.below w7b
  have B7 : Below w.heap.size w w7 := B6.trans (w7b.mono B6.size)
  clear P6 R6 M6 J6 B6 w7b j1' j2' j3' j4' j5' g1 g2 g3 g4 g5 e1 e2 e3 e4 e5
  obtain ⟨g1, g2, g3, g4, g5⟩ := id P7
  obtain ⟨e1, e2, e3, e4, e5⟩ := id R7
  go_wp2_with fail
  refine (implApart_any _ _ _ _ _).mono ?_
  rintro e w8 ⟨rfl, w8b⟩
  have P8 := P7.below w8b
  have R8 := R7.below w8b
  have M8 := M7.below w8b
  have B8 : Below w.heap.size w w8 := B7.trans (w8b.mono B7.size)
  clear P7 R7 M7 B7 w8b g1 g2 g3 g4 g5 e1 e2 e3 e4 e5
  obtain ⟨g1, g2, g3, g4, g5⟩ := id P8
  obtain ⟨e1, e2, e3, e4, e5⟩ := id R8
  go_wp2_with fail
  have LIT : Hid (∀ k, k < 8 → ∃ x : Int, (w8.alloc (.cells #[.int .i64 al, .int .i64 ah, .int .i64 bl, .int .i64 bh, .int .i64 (al - 1), .int .i64 (ah + 1), .int .i64 (bl - 1), .int .i64 (bh + 1)] 3)).cell? ⟨w8.heap.size, k, none⟩ = some (.int .i64 x)) := fun k hk => lit8 w8 _ _ _ _ _ _ _ _ _ k hk
  have PV := P8.alloc (.cells #[.int .i64 al, .int .i64 ah, .int .i64 bl, .int .i64 bh, .int .i64 (al - 1), .int .i64 (ah + 1), .int .i64 (bl - 1), .int .i64 (bh + 1)] 3)
  have RV := R8.alloc (.cells #[.int .i64 al, .int .i64 ah, .int .i64 bl, .int .i64 bh, .int .i64 (al - 1), .int .i64 (ah + 1), .int .i64 (bl - 1), .int .i64 (bh + 1)] 3)
  have MV := M8.alloc (.cells #[.int .i64 al, .int .i64 ah, .int .i64 bl, .int .i64 bh, .int .i64 (al - 1), .int .i64 (ah + 1), .int .i64 (bl - 1), .int .i64 (bh + 1)] 3)
  have BV : Below w.heap.size w (w8.alloc (.cells #[.int .i64 al, .int .i64 ah, .int .i64 bl, .int .i64 bh, .int .i64 (al - 1), .int .i64 (ah + 1), .int .i64 (bl - 1), .int .i64 (bh + 1)] 3)) := B8.alloc B8.size _
  have hwV : w8.heap.size < (w8.alloc (.cells #[.int .i64 al, .int .i64 ah, .int .i64 bl, .int .i64 bh, .int .i64 (al - 1), .int .i64 (ah + 1), .int .i64 (bl - 1), .int .i64 (bh + 1)] 3)).heap.size := by simp
  clear g1 g2 g3 g4 g5 e1 e2 e3 e4 e5 P8 R8 M8 B8 MT JN wi1 wi2 hap ha hbb hj
  generalize w8.alloc (.cells #[.int .i64 al, .int .i64 ah, .int .i64 bl, .int .i64 bh, .int .i64 (al - 1), .int .i64 (ah + 1), .int .i64 (bl - 1), .int .i64 (bh + 1)] 3) = V at *
  go_loopw [12] (fun i wr => ∃ k : Nat, k ≤ 8 ∧ i = .int .i64 k ∧ Below V.heap.size V wr) (fun i _ => 8 - (intOf i).toNat)
  case atStart => exact ⟨0, by omega, rfl, Below.refl _ _⟩
  case round =>
    obtain ⟨k, hk, rfl, hB⟩ := hrel
    by_cases hlt : k < 8
    · have hli : (k : Int) < 8 := by omega
      obtain ⟨x, hx⟩ := LIT.out k hlt
      have HX : Hid (V.cell? ⟨w8.heap.size, k, none⟩ = some (.int .i64 x)) := hx
      have hbo : Hid ((holdsI al ah x && holdsI bl bh x) = (b && holdsI m1 m2 x)) := HB.out x
      clear hx
      go_wp2_with fail
      go_cut [13] (fun s13 wx => s13 = .bool (holdsI al ah x && holdsI bl bh x) ∧ Below V.heap.size V wx)
      case first =>
        have Sk := (hB.cell (p := ⟨w8.heap.size, k, none⟩) hwV).trans HX.out
        have Pk := PV.below hB
        have Rk := RV.below hB
        have Mk := MV.below hB
        have hw : w8.heap.size < wr.heap.size := Nat.lt_of_lt_of_le hwV hB.size
        obtain ⟨g1, g2, g3, g4, g5⟩ := id Pk
        obtain ⟨e1, e2, e3, e4, e5⟩ := id Rk
        obtain ⟨h1, h2, h3, h4, h5⟩ := id Mk
        cases hA : holdsI al ah x
        · refine wp_region_held_drew (S := (fun w' => w'.cell? ⟨w1.heap.size, 0, none⟩ = some (.int .i64 al) ∧ w'.cell? ⟨w1.heap.size, 1, none⟩ = some (.int .i64 ah) ∧ w'.cell? ⟨w1.heap.size + 1, 0, none⟩ = some (.int .i64 bl) ∧ w'.cell? ⟨w1.heap.size + 1, 1, none⟩ = some (.int .i64 bh) ∧ w'.cell? ⟨w8.heap.size, k, none⟩ = some (.int .i64 x))) (by kernel_rfl) ?_ (fun hHeld => ?_)
          · simp (maxDischargeDepth := 6) [go_sem, *]
          refine wpAnyH_take (i := 0) (v := ?_) (by rw [List.getElem?_toArray]; rfl) (by kernel_rfl) (by kernel_rfl) (by kernel_rfl) (by intro _ _ _ h; exact h) (Or.inl ⟨by rfl, ?_⟩) (by assumption) ?_
          rotate_left
          · (intro w hSw; (try dsimp only at hSw); go_simp; all_goals with_reducible rfl)
          (try simp only [Act.put, List.setIfInBounds_toArray, List.set_cons_zero, List.set_cons_succ])
          refine wpAnyH_take (i := 1) (v := ?_) (by rw [List.getElem?_toArray]; rfl) (by kernel_rfl) (by kernel_rfl) (by kernel_rfl) (by intro _ _ _ h; exact h) (Or.inl ⟨by rfl, ?_⟩) (by assumption) ?_
          rotate_left
          · (intro w hSw; (try dsimp only at hSw); go_simp; all_goals with_reducible rfl)
          (try simp only [Act.put, List.setIfInBounds_toArray, List.set_cons_zero, List.set_cons_succ])
          refine wpAnyH_take (i := 2) (v := ?_) (by rw [List.getElem?_toArray]; rfl) (by kernel_rfl) (by kernel_rfl) (by kernel_rfl) (by intro _ _ _ h; exact h) (Or.inl ⟨by rfl, ?_⟩) (by assumption) ?_
          rotate_left
          · (intro w hSw; (try dsimp only at hSw); go_simp; all_goals with_reducible rfl)
          (try simp only [Act.put, List.setIfInBounds_toArray, List.set_cons_zero, List.set_cons_succ])
          refine wpAnyH_take (i := 3) (v := ?_) (by rw [List.getElem?_toArray]; rfl) (by kernel_rfl) (by kernel_rfl) (by kernel_rfl) (by intro _ _ _ h; exact h) (Or.inl ⟨by rfl, ?_⟩) (by assumption) ?_
          rotate_left
          · (intro w hSw; (try dsimp only at hSw); go_simp; all_goals with_reducible rfl)
          (try simp only [Act.put, List.setIfInBounds_toArray, List.set_cons_zero, List.set_cons_succ])
          refine wpAnyH_take (i := 4) (v := ?_) (by rw [List.getElem?_toArray]; rfl) (by kernel_rfl) (by kernel_rfl) (by kernel_rfl) (by intro _ _ _ h; exact h) (Or.inl ⟨by rfl, ?_⟩) (by assumption) ?_
          rotate_left
          · (intro w hSw; (try dsimp only at hSw); go_simp; all_goals with_reducible rfl)
          (try simp only [Act.put, List.setIfInBounds_toArray, List.set_cons_zero, List.set_cons_succ])
          refine wpAnyH_ready (rs := [5]) (by kernel_rfl) (by simp) ?_
          refine AllReadyH.cons (by rw [List.getElem?_toArray]; rfl) (fun K hK => ?_) AllReadyH.nil
          go_simp
          refine (implHolds_v _ _ _ _ _ hA).mono ?_; rintro e w' ⟨rfl, hb⟩; (first | have hb := Below.undrew hb | skip); (have Pk := Pk.below hb); (have Rk := Rk.below hb); (have Mk := Mk.below hb); (have Sk := hb.cell (p := ⟨w8.heap.size, k, none⟩) (by first | omega | (simp; omega)) |>.trans Sk); (have hw : w8.heap.size < w'.heap.size := Nat.lt_of_lt_of_le hw hb.size); (have hB : Below V.heap.size V w' := hB.trans (hb.mono hB.size)); clear g1 g2 g3 g4 g5 e1 e2 e3 e4 e5 h1 h2 h3 h4 h5; obtain ⟨g1, g2, g3, g4, g5⟩ := id Pk; obtain ⟨e1, e2, e3, e4, e5⟩ := id Rk; obtain ⟨h1, h2, h3, h4, h5⟩ := id Mk
          (try go_wp2_with fail)
          refine hK.out _ _ ?_ (fun hHeld => ?_)
          · simp (maxDischargeDepth := 6) [go_sem, *]
          clear hK K
          (try simp only [Act.put, List.setIfInBounds_toArray, List.set_cons_zero, List.set_cons_succ])
          refine wpAnyH_take (i := 6) (v := ?_) (by rw [List.getElem?_toArray]; rfl) (by kernel_rfl) (by kernel_rfl) (by kernel_rfl) (by intro _ _ _ h; exact h) (Or.inl ⟨by rfl, ?_⟩) (by assumption) ?_
          rotate_left
          · (intro w hSw; (try dsimp only at hSw); go_simp; all_goals with_reducible rfl)
          (try simp only [Act.put, List.setIfInBounds_toArray, List.set_cons_zero, List.set_cons_succ])
          refine wpAnyH_take (i := 7) (v := undef) (by rw [List.getElem?_toArray]; rfl) (by kernel_rfl) (by kernel_rfl) (by kernel_rfl) (by intro _ _ _ h; exact h) (Or.inr ⟨by rfl, rfl⟩) (by assumption) ?_
          (try simp only [Act.put, List.setIfInBounds_toArray, List.set_cons_zero, List.set_cons_succ])
          refine wpAnyH_take (i := 8) (v := undef) (by rw [List.getElem?_toArray]; rfl) (by kernel_rfl) (by kernel_rfl) (by kernel_rfl) (by intro _ _ _ h; exact h) (Or.inr ⟨by rfl, rfl⟩) (by assumption) ?_
          (try simp only [Act.put, List.setIfInBounds_toArray, List.set_cons_zero, List.set_cons_succ])
          refine wpAnyH_take (i := 9) (v := undef) (by rw [List.getElem?_toArray]; rfl) (by kernel_rfl) (by kernel_rfl) (by kernel_rfl) (by intro _ _ _ h; exact h) (Or.inr ⟨by rfl, rfl⟩) (by assumption) ?_
          (try simp only [Act.put, List.setIfInBounds_toArray, List.set_cons_zero, List.set_cons_succ])
          refine wpAnyH_take (i := 10) (v := undef) (by rw [List.getElem?_toArray]; rfl) (by kernel_rfl) (by kernel_rfl) (by kernel_rfl) (by intro _ _ _ h; exact h) (Or.inr ⟨by rfl, rfl⟩) (by assumption) ?_
          (try simp only [Act.put, List.setIfInBounds_toArray, List.set_cons_zero, List.set_cons_succ])
          refine wpAnyH_take (i := 11) (v := undef) (by rw [List.getElem?_toArray]; rfl) (by kernel_rfl) (by kernel_rfl) (by kernel_rfl) (by intro _ _ _ h; exact h) (Or.inr ⟨by rfl, rfl⟩) (by assumption) ?_
          (try simp only [Act.put, List.setIfInBounds_toArray, List.set_cons_zero, List.set_cons_succ])
          refine wpAnyH_take (i := 12) (v := undef) (by rw [List.getElem?_toArray]; rfl) (by kernel_rfl) (by kernel_rfl) (by kernel_rfl) (by intro _ _ _ h; exact h) (Or.inr ⟨by rfl, rfl⟩) (by assumption) ?_
          (try simp only [Act.put, List.setIfInBounds_toArray, List.set_cons_zero, List.set_cons_succ])
          refine wpAnyH_take (i := 13) (v := ?_) (by rw [List.getElem?_toArray]; rfl) (by kernel_rfl) (by kernel_rfl) (by kernel_rfl) (by intro _ _ _ h; exact h) (Or.inl ⟨by rfl, ?_⟩) (by assumption) ?_
          rotate_left
          · (intro w hSw; (try dsimp only at hSw); go_simp; all_goals with_reducible rfl)
          (try simp only [Act.put, List.setIfInBounds_toArray, List.set_cons_zero, List.set_cons_succ])
          refine wpAnyH_take (i := 14) (v := ?_) (by rw [List.getElem?_toArray]; rfl) (by kernel_rfl) (by kernel_rfl) (by kernel_rfl) (by intro _ _ _ h; exact h) (Or.inl ⟨by rfl, ?_⟩) (by assumption) ?_
          rotate_left
          · (intro w hSw; (try dsimp only at hSw); go_simp; all_goals with_reducible rfl)
          (try simp only [Act.put, List.setIfInBounds_toArray, List.set_cons_zero, List.set_cons_succ])
          refine wpAnyH_done (by kernel_rfl) ?_ _
          go_wp2_with fail
          go_meet
          case rel => exact ⟨by simp [*], hB⟩
        · cases hBv : holdsI bl bh x
          · refine wp_region_held_drew (S := (fun w' => w'.cell? ⟨w1.heap.size, 0, none⟩ = some (.int .i64 al) ∧ w'.cell? ⟨w1.heap.size, 1, none⟩ = some (.int .i64 ah) ∧ w'.cell? ⟨w1.heap.size + 1, 0, none⟩ = some (.int .i64 bl) ∧ w'.cell? ⟨w1.heap.size + 1, 1, none⟩ = some (.int .i64 bh) ∧ w'.cell? ⟨w8.heap.size, k, none⟩ = some (.int .i64 x))) (by kernel_rfl) ?_ (fun hHeld => ?_)
            · simp (maxDischargeDepth := 6) [go_sem, *]
            refine wpAnyH_take (i := 0) (v := ?_) (by rw [List.getElem?_toArray]; rfl) (by kernel_rfl) (by kernel_rfl) (by kernel_rfl) (by intro _ _ _ h; exact h) (Or.inl ⟨by rfl, ?_⟩) (by assumption) ?_
            rotate_left
            · (intro w hSw; (try dsimp only at hSw); go_simp; all_goals with_reducible rfl)
            (try simp only [Act.put, List.setIfInBounds_toArray, List.set_cons_zero, List.set_cons_succ])
            refine wpAnyH_take (i := 1) (v := ?_) (by rw [List.getElem?_toArray]; rfl) (by kernel_rfl) (by kernel_rfl) (by kernel_rfl) (by intro _ _ _ h; exact h) (Or.inl ⟨by rfl, ?_⟩) (by assumption) ?_
            rotate_left
            · (intro w hSw; (try dsimp only at hSw); go_simp; all_goals with_reducible rfl)
            (try simp only [Act.put, List.setIfInBounds_toArray, List.set_cons_zero, List.set_cons_succ])
            refine wpAnyH_take (i := 2) (v := ?_) (by rw [List.getElem?_toArray]; rfl) (by kernel_rfl) (by kernel_rfl) (by kernel_rfl) (by intro _ _ _ h; exact h) (Or.inl ⟨by rfl, ?_⟩) (by assumption) ?_
            rotate_left
            · (intro w hSw; (try dsimp only at hSw); go_simp; all_goals with_reducible rfl)
            (try simp only [Act.put, List.setIfInBounds_toArray, List.set_cons_zero, List.set_cons_succ])
            refine wpAnyH_take (i := 3) (v := ?_) (by rw [List.getElem?_toArray]; rfl) (by kernel_rfl) (by kernel_rfl) (by kernel_rfl) (by intro _ _ _ h; exact h) (Or.inl ⟨by rfl, ?_⟩) (by assumption) ?_
            rotate_left
            · (intro w hSw; (try dsimp only at hSw); go_simp; all_goals with_reducible rfl)
            (try simp only [Act.put, List.setIfInBounds_toArray, List.set_cons_zero, List.set_cons_succ])
            refine wpAnyH_take (i := 4) (v := ?_) (by rw [List.getElem?_toArray]; rfl) (by kernel_rfl) (by kernel_rfl) (by kernel_rfl) (by intro _ _ _ h; exact h) (Or.inl ⟨by rfl, ?_⟩) (by assumption) ?_
            rotate_left
            · (intro w hSw; (try dsimp only at hSw); go_simp; all_goals with_reducible rfl)
            (try simp only [Act.put, List.setIfInBounds_toArray, List.set_cons_zero, List.set_cons_succ])
            refine wpAnyH_ready (rs := [5]) (by kernel_rfl) (by simp) ?_
            refine AllReadyH.cons (by rw [List.getElem?_toArray]; rfl) (fun K hK => ?_) AllReadyH.nil
            go_simp
            refine (implHolds_v _ _ _ _ _ hA).mono ?_; rintro e w' ⟨rfl, hb⟩; (first | have hb := Below.undrew hb | skip); (have Pk := Pk.below hb); (have Rk := Rk.below hb); (have Mk := Mk.below hb); (have Sk := hb.cell (p := ⟨w8.heap.size, k, none⟩) (by first | omega | (simp; omega)) |>.trans Sk); (have hw : w8.heap.size < w'.heap.size := Nat.lt_of_lt_of_le hw hb.size); (have hB : Below V.heap.size V w' := hB.trans (hb.mono hB.size)); clear g1 g2 g3 g4 g5 e1 e2 e3 e4 e5 h1 h2 h3 h4 h5; obtain ⟨g1, g2, g3, g4, g5⟩ := id Pk; obtain ⟨e1, e2, e3, e4, e5⟩ := id Rk; obtain ⟨h1, h2, h3, h4, h5⟩ := id Mk
            (try go_wp2_with fail)
            refine hK.out _ _ ?_ (fun hHeld => ?_)
            · simp (maxDischargeDepth := 6) [go_sem, *]
            clear hK K
            (try simp only [Act.put, List.setIfInBounds_toArray, List.set_cons_zero, List.set_cons_succ])
            refine wpAnyH_take (i := 6) (v := ?_) (by rw [List.getElem?_toArray]; rfl) (by kernel_rfl) (by kernel_rfl) (by kernel_rfl) (by intro _ _ _ h; exact h) (Or.inl ⟨by rfl, ?_⟩) (by assumption) ?_
            rotate_left
            · (intro w hSw; (try dsimp only at hSw); go_simp; all_goals with_reducible rfl)
            (try simp only [Act.put, List.setIfInBounds_toArray, List.set_cons_zero, List.set_cons_succ])
            refine wpAnyH_take (i := 7) (v := ?_) (by rw [List.getElem?_toArray]; rfl) (by kernel_rfl) (by kernel_rfl) (by kernel_rfl) (by intro _ _ _ h; exact h) (Or.inl ⟨by rfl, ?_⟩) (by assumption) ?_
            rotate_left
            · (intro w hSw; (try dsimp only at hSw); go_simp; all_goals with_reducible rfl)
            (try simp only [Act.put, List.setIfInBounds_toArray, List.set_cons_zero, List.set_cons_succ])
            refine wpAnyH_take (i := 8) (v := ?_) (by rw [List.getElem?_toArray]; rfl) (by kernel_rfl) (by kernel_rfl) (by kernel_rfl) (by intro _ _ _ h; exact h) (Or.inl ⟨by rfl, ?_⟩) (by assumption) ?_
            rotate_left
            · (intro w hSw; (try dsimp only at hSw); go_simp; all_goals with_reducible rfl)
            (try simp only [Act.put, List.setIfInBounds_toArray, List.set_cons_zero, List.set_cons_succ])
            refine wpAnyH_take (i := 9) (v := ?_) (by rw [List.getElem?_toArray]; rfl) (by kernel_rfl) (by kernel_rfl) (by kernel_rfl) (by intro _ _ _ h; exact h) (Or.inl ⟨by rfl, ?_⟩) (by assumption) ?_
            rotate_left
            · (intro w hSw; (try dsimp only at hSw); go_simp; all_goals with_reducible rfl)
            (try simp only [Act.put, List.setIfInBounds_toArray, List.set_cons_zero, List.set_cons_succ])
            refine wpAnyH_take (i := 10) (v := ?_) (by rw [List.getElem?_toArray]; rfl) (by kernel_rfl) (by kernel_rfl) (by kernel_rfl) (by intro _ _ _ h; exact h) (Or.inl ⟨by rfl, ?_⟩) (by assumption) ?_
            rotate_left
            · (intro w hSw; (try dsimp only at hSw); go_simp; all_goals with_reducible rfl)
            (try simp only [Act.put, List.setIfInBounds_toArray, List.set_cons_zero, List.set_cons_succ])
            refine wpAnyH_take (i := 11) (v := ?_) (by rw [List.getElem?_toArray]; rfl) (by kernel_rfl) (by kernel_rfl) (by kernel_rfl) (by intro _ _ _ h; exact h) (Or.inl ⟨by rfl, ?_⟩) (by assumption) ?_
            rotate_left
            · (intro w hSw; (try dsimp only at hSw); go_simp; all_goals with_reducible rfl)
            (try simp only [Act.put, List.setIfInBounds_toArray, List.set_cons_zero, List.set_cons_succ])
            refine wpAnyH_ready (rs := [12]) (by kernel_rfl) (by simp) ?_
            refine AllReadyH.cons (by rw [List.getElem?_toArray]; rfl) (fun K hK => ?_) AllReadyH.nil
            go_simp
            refine (implHolds_v _ _ _ _ _ hBv).mono ?_; rintro e w' ⟨rfl, hb⟩; (first | have hb := Below.undrew hb | skip); (have Pk := Pk.below hb); (have Rk := Rk.below hb); (have Mk := Mk.below hb); (have Sk := hb.cell (p := ⟨w8.heap.size, k, none⟩) (by first | omega | (simp; omega)) |>.trans Sk); (have hw : w8.heap.size < w'.heap.size := Nat.lt_of_lt_of_le hw hb.size); (have hB : Below V.heap.size V w' := hB.trans (hb.mono hB.size)); clear g1 g2 g3 g4 g5 e1 e2 e3 e4 e5 h1 h2 h3 h4 h5; obtain ⟨g1, g2, g3, g4, g5⟩ := id Pk; obtain ⟨e1, e2, e3, e4, e5⟩ := id Rk; obtain ⟨h1, h2, h3, h4, h5⟩ := id Mk
            (try go_wp2_with fail)
            refine hK.out _ _ ?_ (fun hHeld => ?_)
            · simp (maxDischargeDepth := 6) [go_sem, *]
            clear hK K
            (try simp only [Act.put, List.setIfInBounds_toArray, List.set_cons_zero, List.set_cons_succ])
            refine wpAnyH_take (i := 13) (v := ?_) (by rw [List.getElem?_toArray]; rfl) (by kernel_rfl) (by kernel_rfl) (by kernel_rfl) (by intro _ _ _ h; exact h) (Or.inl ⟨by rfl, ?_⟩) (by assumption) ?_
            rotate_left
            · (intro w hSw; (try dsimp only at hSw); go_simp; all_goals with_reducible rfl)
            (try simp only [Act.put, List.setIfInBounds_toArray, List.set_cons_zero, List.set_cons_succ])
            refine wpAnyH_take (i := 14) (v := ?_) (by rw [List.getElem?_toArray]; rfl) (by kernel_rfl) (by kernel_rfl) (by kernel_rfl) (by intro _ _ _ h; exact h) (Or.inl ⟨by rfl, ?_⟩) (by assumption) ?_
            rotate_left
            · (intro w hSw; (try dsimp only at hSw); go_simp; all_goals with_reducible rfl)
            (try simp only [Act.put, List.setIfInBounds_toArray, List.set_cons_zero, List.set_cons_succ])
            refine wpAnyH_done (by kernel_rfl) ?_ _
            go_wp2_with fail
            go_meet
            case rel => exact ⟨by simp [*], hB⟩
          · refine wp_region_held_drew (S := (fun w' => w'.cell? ⟨w1.heap.size, 0, none⟩ = some (.int .i64 al) ∧ w'.cell? ⟨w1.heap.size, 1, none⟩ = some (.int .i64 ah) ∧ w'.cell? ⟨w1.heap.size + 1, 0, none⟩ = some (.int .i64 bl) ∧ w'.cell? ⟨w1.heap.size + 1, 1, none⟩ = some (.int .i64 bh) ∧ w'.cell? ⟨w8.heap.size, k, none⟩ = some (.int .i64 x))) (by kernel_rfl) ?_ (fun hHeld => ?_)
            · simp (maxDischargeDepth := 6) [go_sem, *]
            refine wpAnyH_take (i := 0) (v := ?_) (by rw [List.getElem?_toArray]; rfl) (by kernel_rfl) (by kernel_rfl) (by kernel_rfl) (by intro _ _ _ h; exact h) (Or.inl ⟨by rfl, ?_⟩) (by assumption) ?_
            rotate_left
            · (intro w hSw; (try dsimp only at hSw); go_simp; all_goals with_reducible rfl)
            (try simp only [Act.put, List.setIfInBounds_toArray, List.set_cons_zero, List.set_cons_succ])
            refine wpAnyH_take (i := 1) (v := ?_) (by rw [List.getElem?_toArray]; rfl) (by kernel_rfl) (by kernel_rfl) (by kernel_rfl) (by intro _ _ _ h; exact h) (Or.inl ⟨by rfl, ?_⟩) (by assumption) ?_
            rotate_left
            · (intro w hSw; (try dsimp only at hSw); go_simp; all_goals with_reducible rfl)
            (try simp only [Act.put, List.setIfInBounds_toArray, List.set_cons_zero, List.set_cons_succ])
            refine wpAnyH_take (i := 2) (v := ?_) (by rw [List.getElem?_toArray]; rfl) (by kernel_rfl) (by kernel_rfl) (by kernel_rfl) (by intro _ _ _ h; exact h) (Or.inl ⟨by rfl, ?_⟩) (by assumption) ?_
            rotate_left
            · (intro w hSw; (try dsimp only at hSw); go_simp; all_goals with_reducible rfl)
            (try simp only [Act.put, List.setIfInBounds_toArray, List.set_cons_zero, List.set_cons_succ])
            refine wpAnyH_take (i := 3) (v := ?_) (by rw [List.getElem?_toArray]; rfl) (by kernel_rfl) (by kernel_rfl) (by kernel_rfl) (by intro _ _ _ h; exact h) (Or.inl ⟨by rfl, ?_⟩) (by assumption) ?_
            rotate_left
            · (intro w hSw; (try dsimp only at hSw); go_simp; all_goals with_reducible rfl)
            (try simp only [Act.put, List.setIfInBounds_toArray, List.set_cons_zero, List.set_cons_succ])
            refine wpAnyH_take (i := 4) (v := ?_) (by rw [List.getElem?_toArray]; rfl) (by kernel_rfl) (by kernel_rfl) (by kernel_rfl) (by intro _ _ _ h; exact h) (Or.inl ⟨by rfl, ?_⟩) (by assumption) ?_
            rotate_left
            · (intro w hSw; (try dsimp only at hSw); go_simp; all_goals with_reducible rfl)
            (try simp only [Act.put, List.setIfInBounds_toArray, List.set_cons_zero, List.set_cons_succ])
            refine wpAnyH_ready (rs := [5]) (by kernel_rfl) (by simp) ?_
            refine AllReadyH.cons (by rw [List.getElem?_toArray]; rfl) (fun K hK => ?_) AllReadyH.nil
            go_simp
            refine (implHolds_v _ _ _ _ _ hA).mono ?_; rintro e w' ⟨rfl, hb⟩; (first | have hb := Below.undrew hb | skip); (have Pk := Pk.below hb); (have Rk := Rk.below hb); (have Mk := Mk.below hb); (have Sk := hb.cell (p := ⟨w8.heap.size, k, none⟩) (by first | omega | (simp; omega)) |>.trans Sk); (have hw : w8.heap.size < w'.heap.size := Nat.lt_of_lt_of_le hw hb.size); (have hB : Below V.heap.size V w' := hB.trans (hb.mono hB.size)); clear g1 g2 g3 g4 g5 e1 e2 e3 e4 e5 h1 h2 h3 h4 h5; obtain ⟨g1, g2, g3, g4, g5⟩ := id Pk; obtain ⟨e1, e2, e3, e4, e5⟩ := id Rk; obtain ⟨h1, h2, h3, h4, h5⟩ := id Mk
            (try go_wp2_with fail)
            refine hK.out _ _ ?_ (fun hHeld => ?_)
            · simp (maxDischargeDepth := 6) [go_sem, *]
            clear hK K
            (try simp only [Act.put, List.setIfInBounds_toArray, List.set_cons_zero, List.set_cons_succ])
            refine wpAnyH_take (i := 6) (v := ?_) (by rw [List.getElem?_toArray]; rfl) (by kernel_rfl) (by kernel_rfl) (by kernel_rfl) (by intro _ _ _ h; exact h) (Or.inl ⟨by rfl, ?_⟩) (by assumption) ?_
            rotate_left
            · (intro w hSw; (try dsimp only at hSw); go_simp; all_goals with_reducible rfl)
            (try simp only [Act.put, List.setIfInBounds_toArray, List.set_cons_zero, List.set_cons_succ])
            refine wpAnyH_take (i := 7) (v := ?_) (by rw [List.getElem?_toArray]; rfl) (by kernel_rfl) (by kernel_rfl) (by kernel_rfl) (by intro _ _ _ h; exact h) (Or.inl ⟨by rfl, ?_⟩) (by assumption) ?_
            rotate_left
            · (intro w hSw; (try dsimp only at hSw); go_simp; all_goals with_reducible rfl)
            (try simp only [Act.put, List.setIfInBounds_toArray, List.set_cons_zero, List.set_cons_succ])
            refine wpAnyH_take (i := 8) (v := ?_) (by rw [List.getElem?_toArray]; rfl) (by kernel_rfl) (by kernel_rfl) (by kernel_rfl) (by intro _ _ _ h; exact h) (Or.inl ⟨by rfl, ?_⟩) (by assumption) ?_
            rotate_left
            · (intro w hSw; (try dsimp only at hSw); go_simp; all_goals with_reducible rfl)
            (try simp only [Act.put, List.setIfInBounds_toArray, List.set_cons_zero, List.set_cons_succ])
            refine wpAnyH_take (i := 9) (v := ?_) (by rw [List.getElem?_toArray]; rfl) (by kernel_rfl) (by kernel_rfl) (by kernel_rfl) (by intro _ _ _ h; exact h) (Or.inl ⟨by rfl, ?_⟩) (by assumption) ?_
            rotate_left
            · (intro w hSw; (try dsimp only at hSw); go_simp; all_goals with_reducible rfl)
            (try simp only [Act.put, List.setIfInBounds_toArray, List.set_cons_zero, List.set_cons_succ])
            refine wpAnyH_take (i := 10) (v := ?_) (by rw [List.getElem?_toArray]; rfl) (by kernel_rfl) (by kernel_rfl) (by kernel_rfl) (by intro _ _ _ h; exact h) (Or.inl ⟨by rfl, ?_⟩) (by assumption) ?_
            rotate_left
            · (intro w hSw; (try dsimp only at hSw); go_simp; all_goals with_reducible rfl)
            (try simp only [Act.put, List.setIfInBounds_toArray, List.set_cons_zero, List.set_cons_succ])
            refine wpAnyH_take (i := 11) (v := ?_) (by rw [List.getElem?_toArray]; rfl) (by kernel_rfl) (by kernel_rfl) (by kernel_rfl) (by intro _ _ _ h; exact h) (Or.inl ⟨by rfl, ?_⟩) (by assumption) ?_
            rotate_left
            · (intro w hSw; (try dsimp only at hSw); go_simp; all_goals with_reducible rfl)
            (try simp only [Act.put, List.setIfInBounds_toArray, List.set_cons_zero, List.set_cons_succ])
            refine wpAnyH_ready (rs := [12]) (by kernel_rfl) (by simp) ?_
            refine AllReadyH.cons (by rw [List.getElem?_toArray]; rfl) (fun K hK => ?_) AllReadyH.nil
            go_simp
            refine (implHolds_v _ _ _ _ _ hBv).mono ?_; rintro e w' ⟨rfl, hb⟩; (first | have hb := Below.undrew hb | skip); (have Pk := Pk.below hb); (have Rk := Rk.below hb); (have Mk := Mk.below hb); (have Sk := hb.cell (p := ⟨w8.heap.size, k, none⟩) (by first | omega | (simp; omega)) |>.trans Sk); (have hw : w8.heap.size < w'.heap.size := Nat.lt_of_lt_of_le hw hb.size); (have hB : Below V.heap.size V w' := hB.trans (hb.mono hB.size)); clear g1 g2 g3 g4 g5 e1 e2 e3 e4 e5 h1 h2 h3 h4 h5; obtain ⟨g1, g2, g3, g4, g5⟩ := id Pk; obtain ⟨e1, e2, e3, e4, e5⟩ := id Rk; obtain ⟨h1, h2, h3, h4, h5⟩ := id Mk
            (try go_wp2_with fail)
            refine hK.out _ _ ?_ (fun hHeld => ?_)
            · simp (maxDischargeDepth := 6) [go_sem, *]
            clear hK K
            (try simp only [Act.put, List.setIfInBounds_toArray, List.set_cons_zero, List.set_cons_succ])
            refine wpAnyH_take (i := 13) (v := ?_) (by rw [List.getElem?_toArray]; rfl) (by kernel_rfl) (by kernel_rfl) (by kernel_rfl) (by intro _ _ _ h; exact h) (Or.inl ⟨by rfl, ?_⟩) (by assumption) ?_
            rotate_left
            · (intro w hSw; (try dsimp only at hSw); go_simp; all_goals with_reducible rfl)
            (try simp only [Act.put, List.setIfInBounds_toArray, List.set_cons_zero, List.set_cons_succ])
            refine wpAnyH_take (i := 14) (v := ?_) (by rw [List.getElem?_toArray]; rfl) (by kernel_rfl) (by kernel_rfl) (by kernel_rfl) (by intro _ _ _ h; exact h) (Or.inl ⟨by rfl, ?_⟩) (by assumption) ?_
            rotate_left
            · (intro w hSw; (try dsimp only at hSw); go_simp; all_goals with_reducible rfl)
            (try simp only [Act.put, List.setIfInBounds_toArray, List.set_cons_zero, List.set_cons_succ])
            refine wpAnyH_done (by kernel_rfl) ?_ _
            go_wp2_with fail
            go_meet
            case rel => exact ⟨by simp [*], hB⟩
      case rest =>
        obtain ⟨rfl, hBc⟩ := hcut
        have hB := hBc
        have Sk := (hB.cell (p := ⟨w8.heap.size, k, none⟩) hwV).trans HX.out
        have Pk := PV.below hB
        have Rk := RV.below hB
        have Mk := MV.below hB
        have hw : w8.heap.size < wc.heap.size := Nat.lt_of_lt_of_le hwV hB.size
        obtain ⟨g1, g2, g3, g4, g5⟩ := id Pk
        obtain ⟨e1, e2, e3, e4, e5⟩ := id Rk
        obtain ⟨h1, h2, h3, h4, h5⟩ := id Mk
        rw [hbo.out]
        cases b
        · go_wp2_with fail
          refine wp_region_held_drew (S := (fun w' => w'.cell? ⟨w4.heap.size, 0, none⟩ = some (.int .i64 s1) ∧ w'.cell? ⟨w4.heap.size, 1, none⟩ = some (.int .i64 s2) ∧ w'.cell? ⟨w8.heap.size, k, none⟩ = some (.int .i64 x))) (by kernel_rfl) ?_ (fun hHeld => ?_)
          · simp (maxDischargeDepth := 6) [go_sem, *]
          refine wpAnyH_take (i := 0) (v := ?_) (by rw [List.getElem?_toArray]; rfl) (by kernel_rfl) (by kernel_rfl) (by kernel_rfl) (by intro _ _ _ h; exact h) (Or.inl ⟨by rfl, ?_⟩) (by assumption) ?_
          rotate_left
          · (intro w hSw; (try dsimp only at hSw); go_simp; all_goals with_reducible rfl)
          (try simp only [Act.put, List.setIfInBounds_toArray, List.set_cons_zero, List.set_cons_succ])
          refine wpAnyH_take (i := 1) (v := ?_) (by rw [List.getElem?_toArray]; rfl) (by kernel_rfl) (by kernel_rfl) (by kernel_rfl) (by intro _ _ _ h; exact h) (Or.inl ⟨by rfl, ?_⟩) (by assumption) ?_
          rotate_left
          · (intro w hSw; (try dsimp only at hSw); go_simp; all_goals with_reducible rfl)
          (try simp only [Act.put, List.setIfInBounds_toArray, List.set_cons_zero, List.set_cons_succ])
          refine wpAnyH_take (i := 2) (v := ?_) (by rw [List.getElem?_toArray]; rfl) (by kernel_rfl) (by kernel_rfl) (by kernel_rfl) (by intro _ _ _ h; exact h) (Or.inl ⟨by rfl, ?_⟩) (by assumption) ?_
          rotate_left
          · (intro w hSw; (try dsimp only at hSw); go_simp; all_goals with_reducible rfl)
          (try simp only [Act.put, List.setIfInBounds_toArray, List.set_cons_zero, List.set_cons_succ])
          refine wpAnyH_take (i := 3) (v := undef) (by rw [List.getElem?_toArray]; rfl) (by kernel_rfl) (by kernel_rfl) (by kernel_rfl) (by intro _ _ _ h; exact h) (Or.inr ⟨by rfl, rfl⟩) (by assumption) ?_
          (try simp only [Act.put, List.setIfInBounds_toArray, List.set_cons_zero, List.set_cons_succ])
          refine wpAnyH_take (i := 4) (v := undef) (by rw [List.getElem?_toArray]; rfl) (by kernel_rfl) (by kernel_rfl) (by kernel_rfl) (by intro _ _ _ h; exact h) (Or.inr ⟨by rfl, rfl⟩) (by assumption) ?_
          (try simp only [Act.put, List.setIfInBounds_toArray, List.set_cons_zero, List.set_cons_succ])
          refine wpAnyH_take (i := 5) (v := undef) (by rw [List.getElem?_toArray]; rfl) (by kernel_rfl) (by kernel_rfl) (by kernel_rfl) (by intro _ _ _ h; exact h) (Or.inr ⟨by rfl, rfl⟩) (by assumption) ?_
          (try simp only [Act.put, List.setIfInBounds_toArray, List.set_cons_zero, List.set_cons_succ])
          refine wpAnyH_take (i := 6) (v := undef) (by rw [List.getElem?_toArray]; rfl) (by kernel_rfl) (by kernel_rfl) (by kernel_rfl) (by intro _ _ _ h; exact h) (Or.inr ⟨by rfl, rfl⟩) (by assumption) ?_
          (try simp only [Act.put, List.setIfInBounds_toArray, List.set_cons_zero, List.set_cons_succ])
          refine wpAnyH_take (i := 7) (v := undef) (by rw [List.getElem?_toArray]; rfl) (by kernel_rfl) (by kernel_rfl) (by kernel_rfl) (by intro _ _ _ h; exact h) (Or.inr ⟨by rfl, rfl⟩) (by assumption) ?_
          (try simp only [Act.put, List.setIfInBounds_toArray, List.set_cons_zero, List.set_cons_succ])
          refine wpAnyH_take (i := 8) (v := undef) (by rw [List.getElem?_toArray]; rfl) (by kernel_rfl) (by kernel_rfl) (by kernel_rfl) (by intro _ _ _ h; exact h) (Or.inr ⟨by rfl, rfl⟩) (by assumption) ?_
          (try simp only [Act.put, List.setIfInBounds_toArray, List.set_cons_zero, List.set_cons_succ])
          refine wpAnyH_take (i := 9) (v := ?_) (by rw [List.getElem?_toArray]; rfl) (by kernel_rfl) (by kernel_rfl) (by kernel_rfl) (by intro _ _ _ h; exact h) (Or.inl ⟨by rfl, ?_⟩) (by assumption) ?_
          rotate_left
          · (intro w hSw; (try dsimp only at hSw); go_simp; all_goals with_reducible rfl)
          (try simp only [Act.put, List.setIfInBounds_toArray, List.set_cons_zero, List.set_cons_succ])
          refine wpAnyH_take (i := 10) (v := ?_) (by rw [List.getElem?_toArray]; rfl) (by kernel_rfl) (by kernel_rfl) (by kernel_rfl) (by intro _ _ _ h; exact h) (Or.inl ⟨by rfl, ?_⟩) (by assumption) ?_
          rotate_left
          · (intro w hSw; (try dsimp only at hSw); go_simp; all_goals with_reducible rfl)
          (try simp only [Act.put, List.setIfInBounds_toArray, List.set_cons_zero, List.set_cons_succ])
          refine wpAnyH_done (by kernel_rfl) ?_ _
          go_wp2_with fail
          go_roundw
          case rel => exact ⟨k + 1, by omega, by go_num, by first | exact hB | exact Below.drew hB⟩
          case measure => simp [intOf]; omega
        · obtain ⟨rfl, rfl⟩ := hs.out rfl
          cases hMv : holdsI s1 s2 x
          · go_wp2_with fail
            refine wp_region_held_drew (S := (fun w' => w'.cell? ⟨w4.heap.size, 0, none⟩ = some (.int .i64 s1) ∧ w'.cell? ⟨w4.heap.size, 1, none⟩ = some (.int .i64 s2) ∧ w'.cell? ⟨w8.heap.size, k, none⟩ = some (.int .i64 x))) (by kernel_rfl) ?_ (fun hHeld => ?_)
            · simp (maxDischargeDepth := 6) [go_sem, *]
            refine wpAnyH_take (i := 0) (v := ?_) (by rw [List.getElem?_toArray]; rfl) (by kernel_rfl) (by kernel_rfl) (by kernel_rfl) (by intro _ _ _ h; exact h) (Or.inl ⟨by rfl, ?_⟩) (by assumption) ?_
            rotate_left
            · (intro w hSw; (try dsimp only at hSw); go_simp; all_goals with_reducible rfl)
            (try simp only [Act.put, List.setIfInBounds_toArray, List.set_cons_zero, List.set_cons_succ])
            refine wpAnyH_take (i := 1) (v := ?_) (by rw [List.getElem?_toArray]; rfl) (by kernel_rfl) (by kernel_rfl) (by kernel_rfl) (by intro _ _ _ h; exact h) (Or.inl ⟨by rfl, ?_⟩) (by assumption) ?_
            rotate_left
            · (intro w hSw; (try dsimp only at hSw); go_simp; all_goals with_reducible rfl)
            (try simp only [Act.put, List.setIfInBounds_toArray, List.set_cons_zero, List.set_cons_succ])
            refine wpAnyH_take (i := 2) (v := ?_) (by rw [List.getElem?_toArray]; rfl) (by kernel_rfl) (by kernel_rfl) (by kernel_rfl) (by intro _ _ _ h; exact h) (Or.inl ⟨by rfl, ?_⟩) (by assumption) ?_
            rotate_left
            · (intro w hSw; (try dsimp only at hSw); go_simp; all_goals with_reducible rfl)
            (try simp only [Act.put, List.setIfInBounds_toArray, List.set_cons_zero, List.set_cons_succ])
            refine wpAnyH_take (i := 3) (v := ?_) (by rw [List.getElem?_toArray]; rfl) (by kernel_rfl) (by kernel_rfl) (by kernel_rfl) (by intro _ _ _ h; exact h) (Or.inl ⟨by rfl, ?_⟩) (by assumption) ?_
            rotate_left
            · (intro w hSw; (try dsimp only at hSw); go_simp; all_goals with_reducible rfl)
            (try simp only [Act.put, List.setIfInBounds_toArray, List.set_cons_zero, List.set_cons_succ])
            refine wpAnyH_take (i := 4) (v := ?_) (by rw [List.getElem?_toArray]; rfl) (by kernel_rfl) (by kernel_rfl) (by kernel_rfl) (by intro _ _ _ h; exact h) (Or.inl ⟨by rfl, ?_⟩) (by assumption) ?_
            rotate_left
            · (intro w hSw; (try dsimp only at hSw); go_simp; all_goals with_reducible rfl)
            (try simp only [Act.put, List.setIfInBounds_toArray, List.set_cons_zero, List.set_cons_succ])
            refine wpAnyH_take (i := 5) (v := ?_) (by rw [List.getElem?_toArray]; rfl) (by kernel_rfl) (by kernel_rfl) (by kernel_rfl) (by intro _ _ _ h; exact h) (Or.inl ⟨by rfl, ?_⟩) (by assumption) ?_
            rotate_left
            · (intro w hSw; (try dsimp only at hSw); go_simp; all_goals with_reducible rfl)
            (try simp only [Act.put, List.setIfInBounds_toArray, List.set_cons_zero, List.set_cons_succ])
            refine wpAnyH_take (i := 6) (v := ?_) (by rw [List.getElem?_toArray]; rfl) (by kernel_rfl) (by kernel_rfl) (by kernel_rfl) (by intro _ _ _ h; exact h) (Or.inl ⟨by rfl, ?_⟩) (by assumption) ?_
            rotate_left
            · (intro w hSw; (try dsimp only at hSw); go_simp; all_goals with_reducible rfl)
            (try simp only [Act.put, List.setIfInBounds_toArray, List.set_cons_zero, List.set_cons_succ])
            refine wpAnyH_take (i := 7) (v := ?_) (by rw [List.getElem?_toArray]; rfl) (by kernel_rfl) (by kernel_rfl) (by kernel_rfl) (by intro _ _ _ h; exact h) (Or.inl ⟨by rfl, ?_⟩) (by assumption) ?_
            rotate_left
            · (intro w hSw; (try dsimp only at hSw); go_simp; all_goals with_reducible rfl)
            (try simp only [Act.put, List.setIfInBounds_toArray, List.set_cons_zero, List.set_cons_succ])
            refine wpAnyH_ready (rs := [8]) (by kernel_rfl) (by simp) ?_
            refine AllReadyH.cons (by rw [List.getElem?_toArray]; rfl) (fun K hK => ?_) AllReadyH.nil
            go_simp
            refine (implHolds_v _ _ _ _ _ hMv).mono ?_; rintro e w' ⟨rfl, hb⟩; (first | have hb := Below.undrew hb | skip); (have Pk := Pk.below hb); (have Rk := Rk.below hb); (have Mk := Mk.below hb); (have Sk := hb.cell (p := ⟨w8.heap.size, k, none⟩) (by first | omega | (simp; omega)) |>.trans Sk); (have hw : w8.heap.size < w'.heap.size := Nat.lt_of_lt_of_le hw hb.size); (have hB : Below V.heap.size V w' := hB.trans (hb.mono hB.size)); clear g1 g2 g3 g4 g5 e1 e2 e3 e4 e5 h1 h2 h3 h4 h5; obtain ⟨g1, g2, g3, g4, g5⟩ := id Pk; obtain ⟨e1, e2, e3, e4, e5⟩ := id Rk; obtain ⟨h1, h2, h3, h4, h5⟩ := id Mk
            (try go_wp2_with fail)
            refine hK.out _ _ ?_ (fun hHeld => ?_)
            · simp (maxDischargeDepth := 6) [go_sem, *]
            clear hK K
            (try simp only [Act.put, List.setIfInBounds_toArray, List.set_cons_zero, List.set_cons_succ])
            refine wpAnyH_take (i := 9) (v := ?_) (by rw [List.getElem?_toArray]; rfl) (by kernel_rfl) (by kernel_rfl) (by kernel_rfl) (by intro _ _ _ h; exact h) (Or.inl ⟨by rfl, ?_⟩) (by assumption) ?_
            rotate_left
            · (intro w hSw; (try dsimp only at hSw); go_simp; all_goals with_reducible rfl)
            (try simp only [Act.put, List.setIfInBounds_toArray, List.set_cons_zero, List.set_cons_succ])
            refine wpAnyH_take (i := 10) (v := ?_) (by rw [List.getElem?_toArray]; rfl) (by kernel_rfl) (by kernel_rfl) (by kernel_rfl) (by intro _ _ _ h; exact h) (Or.inl ⟨by rfl, ?_⟩) (by assumption) ?_
            rotate_left
            · (intro w hSw; (try dsimp only at hSw); go_simp; all_goals with_reducible rfl)
            (try simp only [Act.put, List.setIfInBounds_toArray, List.set_cons_zero, List.set_cons_succ])
            refine wpAnyH_done (by kernel_rfl) ?_ _
            go_wp2_with fail
            go_roundw
            case rel => exact ⟨k + 1, by omega, by go_num, by first | exact hB | exact Below.drew hB⟩
            case measure => simp [intOf]; omega
          · go_wp2_with fail
            refine wp_region_held_drew (S := (fun w' => w'.cell? ⟨w4.heap.size, 0, none⟩ = some (.int .i64 s1) ∧ w'.cell? ⟨w4.heap.size, 1, none⟩ = some (.int .i64 s2) ∧ w'.cell? ⟨w8.heap.size, k, none⟩ = some (.int .i64 x))) (by kernel_rfl) ?_ (fun hHeld => ?_)
            · simp (maxDischargeDepth := 6) [go_sem, *]
            refine wpAnyH_take (i := 0) (v := ?_) (by rw [List.getElem?_toArray]; rfl) (by kernel_rfl) (by kernel_rfl) (by kernel_rfl) (by intro _ _ _ h; exact h) (Or.inl ⟨by rfl, ?_⟩) (by assumption) ?_
            rotate_left
            · (intro w hSw; (try dsimp only at hSw); go_simp; all_goals with_reducible rfl)
            (try simp only [Act.put, List.setIfInBounds_toArray, List.set_cons_zero, List.set_cons_succ])
            refine wpAnyH_take (i := 1) (v := ?_) (by rw [List.getElem?_toArray]; rfl) (by kernel_rfl) (by kernel_rfl) (by kernel_rfl) (by intro _ _ _ h; exact h) (Or.inl ⟨by rfl, ?_⟩) (by assumption) ?_
            rotate_left
            · (intro w hSw; (try dsimp only at hSw); go_simp; all_goals with_reducible rfl)
            (try simp only [Act.put, List.setIfInBounds_toArray, List.set_cons_zero, List.set_cons_succ])
            refine wpAnyH_take (i := 2) (v := ?_) (by rw [List.getElem?_toArray]; rfl) (by kernel_rfl) (by kernel_rfl) (by kernel_rfl) (by intro _ _ _ h; exact h) (Or.inl ⟨by rfl, ?_⟩) (by assumption) ?_
            rotate_left
            · (intro w hSw; (try dsimp only at hSw); go_simp; all_goals with_reducible rfl)
            (try simp only [Act.put, List.setIfInBounds_toArray, List.set_cons_zero, List.set_cons_succ])
            refine wpAnyH_take (i := 3) (v := ?_) (by rw [List.getElem?_toArray]; rfl) (by kernel_rfl) (by kernel_rfl) (by kernel_rfl) (by intro _ _ _ h; exact h) (Or.inl ⟨by rfl, ?_⟩) (by assumption) ?_
            rotate_left
            · (intro w hSw; (try dsimp only at hSw); go_simp; all_goals with_reducible rfl)
            (try simp only [Act.put, List.setIfInBounds_toArray, List.set_cons_zero, List.set_cons_succ])
            refine wpAnyH_take (i := 4) (v := ?_) (by rw [List.getElem?_toArray]; rfl) (by kernel_rfl) (by kernel_rfl) (by kernel_rfl) (by intro _ _ _ h; exact h) (Or.inl ⟨by rfl, ?_⟩) (by assumption) ?_
            rotate_left
            · (intro w hSw; (try dsimp only at hSw); go_simp; all_goals with_reducible rfl)
            (try simp only [Act.put, List.setIfInBounds_toArray, List.set_cons_zero, List.set_cons_succ])
            refine wpAnyH_take (i := 5) (v := ?_) (by rw [List.getElem?_toArray]; rfl) (by kernel_rfl) (by kernel_rfl) (by kernel_rfl) (by intro _ _ _ h; exact h) (Or.inl ⟨by rfl, ?_⟩) (by assumption) ?_
            rotate_left
            · (intro w hSw; (try dsimp only at hSw); go_simp; all_goals with_reducible rfl)
            (try simp only [Act.put, List.setIfInBounds_toArray, List.set_cons_zero, List.set_cons_succ])
            refine wpAnyH_take (i := 6) (v := ?_) (by rw [List.getElem?_toArray]; rfl) (by kernel_rfl) (by kernel_rfl) (by kernel_rfl) (by intro _ _ _ h; exact h) (Or.inl ⟨by rfl, ?_⟩) (by assumption) ?_
            rotate_left
            · (intro w hSw; (try dsimp only at hSw); go_simp; all_goals with_reducible rfl)
            (try simp only [Act.put, List.setIfInBounds_toArray, List.set_cons_zero, List.set_cons_succ])
            refine wpAnyH_take (i := 7) (v := ?_) (by rw [List.getElem?_toArray]; rfl) (by kernel_rfl) (by kernel_rfl) (by kernel_rfl) (by intro _ _ _ h; exact h) (Or.inl ⟨by rfl, ?_⟩) (by assumption) ?_
            rotate_left
            · (intro w hSw; (try dsimp only at hSw); go_simp; all_goals with_reducible rfl)
            (try simp only [Act.put, List.setIfInBounds_toArray, List.set_cons_zero, List.set_cons_succ])
            refine wpAnyH_ready (rs := [8]) (by kernel_rfl) (by simp) ?_
            refine AllReadyH.cons (by rw [List.getElem?_toArray]; rfl) (fun K hK => ?_) AllReadyH.nil
            go_simp
            refine (implHolds_v _ _ _ _ _ hMv).mono ?_; rintro e w' ⟨rfl, hb⟩; (first | have hb := Below.undrew hb | skip); (have Pk := Pk.below hb); (have Rk := Rk.below hb); (have Mk := Mk.below hb); (have Sk := hb.cell (p := ⟨w8.heap.size, k, none⟩) (by first | omega | (simp; omega)) |>.trans Sk); (have hw : w8.heap.size < w'.heap.size := Nat.lt_of_lt_of_le hw hb.size); (have hB : Below V.heap.size V w' := hB.trans (hb.mono hB.size)); clear g1 g2 g3 g4 g5 e1 e2 e3 e4 e5 h1 h2 h3 h4 h5; obtain ⟨g1, g2, g3, g4, g5⟩ := id Pk; obtain ⟨e1, e2, e3, e4, e5⟩ := id Rk; obtain ⟨h1, h2, h3, h4, h5⟩ := id Mk
            (try go_wp2_with fail)
            refine hK.out _ _ ?_ (fun hHeld => ?_)
            · simp (maxDischargeDepth := 6) [go_sem, *]
            clear hK K
            (try simp only [Act.put, List.setIfInBounds_toArray, List.set_cons_zero, List.set_cons_succ])
            refine wpAnyH_take (i := 9) (v := ?_) (by rw [List.getElem?_toArray]; rfl) (by kernel_rfl) (by kernel_rfl) (by kernel_rfl) (by intro _ _ _ h; exact h) (Or.inl ⟨by rfl, ?_⟩) (by assumption) ?_
            rotate_left
            · (intro w hSw; (try dsimp only at hSw); go_simp; all_goals with_reducible rfl)
            (try simp only [Act.put, List.setIfInBounds_toArray, List.set_cons_zero, List.set_cons_succ])
            refine wpAnyH_take (i := 10) (v := ?_) (by rw [List.getElem?_toArray]; rfl) (by kernel_rfl) (by kernel_rfl) (by kernel_rfl) (by intro _ _ _ h; exact h) (Or.inl ⟨by rfl, ?_⟩) (by assumption) ?_
            rotate_left
            · (intro w hSw; (try dsimp only at hSw); go_simp; all_goals with_reducible rfl)
            (try simp only [Act.put, List.setIfInBounds_toArray, List.set_cons_zero, List.set_cons_succ])
            refine wpAnyH_done (by kernel_rfl) ?_ _
            go_wp2_with fail
            go_roundw
            case rel => exact ⟨k + 1, by omega, by go_num, by first | exact hB | exact Below.drew hB⟩
            case measure => simp [intOf]; omega
    · have hli : decide ((k : Int) < 8) = false := by simp; omega
      go_wp2_with fail
      go_ret
      exact ⟨rfl, BV.trans (hB.mono BV.size)⟩
end Go.Proofs.Ytogapogkdgaobaa
