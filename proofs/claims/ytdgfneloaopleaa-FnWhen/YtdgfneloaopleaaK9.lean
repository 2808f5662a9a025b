/- The walk of FnWhen. -/
import Derived.Test.YtdgfneloaopleaaV3
import Derived.Test.YtdgfneloaopleaaV4
import Derived.Test.YtdgfneloaopleaaN3
import Derived.Test.YtdgfneloaopleaaN4
import Derived.WalkKit
import Derived.WalkSpells
import Derived.WalkLawsBesides
import Derived.Deep.RegionHeld
import Derived.Deep.RegionHeld3
namespace Go.Proofs.Ytdgfneloaopleaa
open Go.RowKit
set_option linter.unusedVariables false
theorem implHolds_v3 (lo hi t : Int) (v : Bool) (w : World) (h : holdsI lo hi t = v) :
    Calls Try.prog 15 #[.agg #[.int .i64 lo, .int .i64 hi], .int .i64 t] w fun e w' => e = .returned (.bool v) ∧ Below w.heap.size w w' := by
  subst h; exact implHolds_any lo hi t w
theorem implOscOk_v3 (n d t c : Int) (v : Bool) (w : World) (h : okO n d t c = v) :
    Calls Try.prog 19 #[.agg #[.int .i64 n, .int .i64 d, .int .i64 t, .int .i64 c]] w fun e w' => e = .returned (.bool v) ∧ Below w.heap.size w w' := by
  subst h; exact implOscOk_any n d t c w
theorem cw_zero (n d : Int) (f : Nat → Int × Int) (x : Int) : cwB n d f 0 x = false := by simp [cwB, mr_zero]
set_option maxRecDepth 100000 in
set_option maxHeartbeats 4000000 in
theorem walkWhen (a0 : Option Addr) (n0 c0 : Nat) (w : World) (hcode : CodeB w w.heap.size a0 n0) :
    Calls Try.prog 5 #[.slice a0 n0 c0] w fun e w' => e = .returned (.bool true) ∧ Below w.heap.size w w' := by
  by_cases hbig : (1048576 : Int) < (n0 : Int)
  · go_enter Try.func5, Try.ntmps5
    go_wp2_with (go_at_call 6; refine (big_any _ _ _ _).mono ?_; rintro e w' ⟨rfl, rfl⟩)
    go_ret
    exact ⟨rfl, Below.refl _ _⟩
  have hd : decide ((1048576 : Int) < (n0 : Int)) = false := by simp; omega
  have hn0 : n0 ≤ 1048576 := by omega
  have HC : Hid (CodeB w w.heap.size a0 n0) := hcode
  clear hcode hbig
  go_enter Try.func5, Try.ntmps5
  go_wp2_with (go_at_call 6; refine (big_any _ _ _ _).mono ?_; rintro e w' ⟨rfl, rfl⟩)
  refine (DrawOscRun_any a0 n0 c0 _ hn0 HC.out).mono ?_
  rintro e w1 ⟨x, y, t, u, vs, LS, rfl, O1, hLS, B1⟩
  obtain ⟨a, cp, rfl, hmc, hcm, hsrc⟩ := own_src O1
  have SR : Hid (Src w1 a LS.length fun i => LS.getD i (0, 0)) := hsrc
  clear O1 hsrc
  generalize (fun i => LS.getD i (0, 0)) = fs at *
  generalize LS.length = m at *
  have hmm : m ≤ maxLen := by unfold maxLen; omega
  have A1 := Below.alc w1 (.cells #[.int .i64 x, .int .i64 y, .int .i64 t, .int .i64 u] 27)
  have N := Box4.new w1 x y t u 27
  have B := B1.trans (A1.mono B1.size)
  have SR' : Hid (Src (w1.alloc (.cells #[.int .i64 x, .int .i64 y, .int .i64 t, .int .i64 u] 27)) a m fs) := SR.out.below A1
  have CS := fun (w' : World) (h : Src w' a m fs) => specOscRun_any x y t u a m cp fs w' hmm h
  have hLen := runL_len x y t u fs m
  clear A1 SR B1
  generalize runL x y t u fs m = L at *
  generalize runD x y t u fs m = D at *
  go_wp2_with fail
  generalize w1.alloc (.cells #[.int .i64 x, .int .i64 y, .int .i64 t, .int .i64 u] 27) = v1 at *
  generalize w1.heap.size = k at *
  refine (CS _ SR'.out).mono ?_
  rintro e v2 ⟨vw, rfl, OW, hb⟩
  replace B := B.trans (hb.mono B.size)
  replace N := N.below hb
  clear hb CS SR'
  obtain ⟨aw, cw, rfl, hwc, hwm, SW⟩ := own_src OW
  have S : Hid (Src v2 aw L.length fun i => L.getD i (0, 0)) := SW
  clear OW SW
  generalize (fun i => L.getD i (0, 0)) = f at *
  generalize L.length = l at *
  obtain ⟨g0, g1, g2, g3, g4, g5, g6, g7, g8⟩ := id N
  by_cases hl : l = 0
  · subst hl
    have C := implCountWhen_any x y aw 0 cw f 0 v2 hwc hwm S.out
    rw [cw_zero, sel_f rfl, sel_f rfl] at C
    go_wp2_with fail
    refine C.mono ?_
    rintro e v3 ⟨rfl, hb⟩
    replace B := B.trans (hb.mono B.size)
    clear hb C
    have B2 := B.alloc B.size (.cells #[.int .i64 0, .int .i64 0] 37)
    go_wp2_with fail
    refine (implOscOk_v3 _ _ _ _ true _ (by decide)).mono ?_
    rintro e v4 ⟨rfl, hb⟩
    have B3 := B2.trans (hb.mono B2.size)
    clear hb
    go_wp2_with fail; go_ret; exact ⟨rfl, B3⟩
  have hl0 : ((l : Int) == 0) = false := by rw [beq_eq_false_iff_ne]; omega
  go_wp2_with fail
  clear g0 g1 g2 g3 g4 g5 g6 g7 g8
  refine (at_any a0 n0 c0 1 w.heap.size _ hn0 (by omega) (HC.out.below B)).mono ?_
  rintro e w' ⟨z, rfl, z0, z1, rfl⟩
  obtain ⟨i, hi, him⟩ := tmod_in z0 (show 1 ≤ l by omega)
  have hi' : (i : Int) < (l : Int) := by omega
  have hlz : ¬ (l : Int) = 0 := by omega
  rcases S.out with h0 | ⟨b, off, rfl, hp⟩
  · omega
  have c1 : v2.cell? ⟨b, off + i * 2, none⟩ = some (.int .i64 (f i).1) := (hp.2 i him).1
  have c2 : v2.cell? ⟨b, off + i * 2 + 1, none⟩ = some (.int .i64 (f i).2) := (hp.2 i him).2
  have HH : Hid (cwB x y f l (f i).1 = true → holdsI (cwL x y f l (f i).1) (cwH x y f l (f i).1) (f i).2 = true) := fun h => when_holds h him
  have HT : Hid (twB x y f l (f i).2 = true → twL x y f l (f i).2 ≤ twH x y f l (f i).2) := tw_le
  have C1 := fun (w' : World) (h : Src w' (some ⟨b, off, none⟩) l f) => implCountWhen_any x y _ l cw f (f i).1 w' hwc hwm h
  have C2 := fun (w' : World) (h : Src w' (some ⟨b, off, none⟩) l f) => specCountWhen_any x y _ l cw f (f i).1 w' hwc hwm h
  have C3 := fun (w' : World) (h : Src w' (some ⟨b, off, none⟩) l f) => implTimeWhen_any x y _ l cw f (f i).2 w' hwc hwm h
  have C4 := fun (w' : World) (h : Src w' (some ⟨b, off, none⟩) l f) => specTimeWhen_any x y _ l cw f (f i).2 w' hwc hwm h
  generalize cwL x y f l (f i).1 = r1 at *
  generalize cwH x y f l (f i).1 = r2 at *
  generalize cwB x y f l (f i).1 = ok at *
  generalize twL x y f l (f i).2 = s1 at *
  generalize twH x y f l (f i).2 = s2 at *
  generalize twB x y f l (f i).2 = fine at *
  have A2 := Below.alc v2 (.cells #[.int .i64 (f i).1, .int .i64 (f i).2] 42)
  have K2 := Bx.new v2 (f i).1 (f i).2 42
  have B2 := B.trans (A2.mono B.size)
  have N2 := N.below A2
  have S2 : Hid (Src (v2.alloc (.cells #[.int .i64 (f i).1, .int .i64 (f i).2] 42)) (some ⟨b, off, none⟩) l f) := S.out.below A2
  clear A2 B N S hp
  obtain ⟨g0, g1, g2, g3, g4, g5, g6, g7, g8⟩ := id N2
  obtain ⟨k0, k1, k2, k3, k4⟩ := id K2
  go_wp2_with fail
  clear c1 c2
  generalize v2.alloc (.cells #[.int .i64 (f i).1, .int .i64 (f i).2] 42) = v3 at *
  generalize v2.heap.size = j at *
  generalize (f i).1 = p1 at *
  generalize (f i).2 = p2 at *
  refine (C1 _ S2.out).mono ?_
  rintro e v4 ⟨rfl, hb⟩
  have A4 := Below.alc v4 (.cells #[.int .i64 (sel ok r1), .int .i64 (sel ok r2)] 37)
  have X4 := Bx.new v4 (sel ok r1) (sel ok r2) 37
  have B4 := (B2.trans (hb.mono B2.size)).trans (A4.mono (Nat.le_trans B2.size hb.size))
  have N4 := (N2.below hb).below A4
  have K4 := (K2.below hb).below A4
  have S4 : Hid (Src (v4.alloc (.cells #[.int .i64 (sel ok r1), .int .i64 (sel ok r2)] 37)) (some ⟨b, off, none⟩) l f) := (S2.out.below hb).below A4
  clear hb A4 B2 N2 K2 S2 C1 g0 g1 g2 g3 g4 g5 g6 g7 g8 k0 k1 k2 k3 k4
  obtain ⟨g0, g1, g2, g3, g4, g5, g6, g7, g8⟩ := id N4
  obtain ⟨k0, k1, k2, k3, k4⟩ := id K4
  go_wp2_with fail
  generalize v4.alloc (.cells #[.int .i64 (sel ok r1), .int .i64 (sel ok r2)] 37) = v5 at *
  generalize v4.heap.size = j4 at *
  refine (C2 _ S4.out).mono ?_
  rintro e v6 ⟨rfl, hb⟩
  have A6 := Below.alc v6 (.cells #[.int .i64 (sel ok r1), .int .i64 (sel ok r2)] 37)
  have X6 := (X4.below hb).below A6
  have B6 := (B4.trans (hb.mono B4.size)).trans (A6.mono (Nat.le_trans B4.size hb.size))
  have N6 := (N4.below hb).below A6
  have K6 := (K4.below hb).below A6
  have S6 : Hid (Src (v6.alloc (.cells #[.int .i64 (sel ok r1), .int .i64 (sel ok r2)] 37)) (some ⟨b, off, none⟩) l f) := (S4.out.below hb).below A6
  clear hb A6 B4 N4 K4 S4 C2 X4 g0 g1 g2 g3 g4 g5 g6 g7 g8 k0 k1 k2 k3 k4
  obtain ⟨g0, g1, g2, g3, g4, g5, g6, g7, g8⟩ := id N6
  obtain ⟨k0, k1, k2, k3, k4⟩ := id K6
  go_wp2_with fail
  generalize v6.alloc (.cells #[.int .i64 (sel ok r1), .int .i64 (sel ok r2)] 37) = v7 at *
  refine (C3 _ S6.out).mono ?_
  rintro e v8 ⟨rfl, hb⟩
  have A8 := Below.alc v8 (.cells #[.int .i64 (sel fine s1), .int .i64 (sel fine s2)] 37)
  have Y8 := Bx.new v8 (sel fine s1) (sel fine s2) 37
  have X8 := (X6.below hb).below A8
  have B8 := (B6.trans (hb.mono B6.size)).trans (A8.mono (Nat.le_trans B6.size hb.size))
  have N8 := (N6.below hb).below A8
  have K8 := (K6.below hb).below A8
  have S8 : Hid (Src (v8.alloc (.cells #[.int .i64 (sel fine s1), .int .i64 (sel fine s2)] 37)) (some ⟨b, off, none⟩) l f) := (S6.out.below hb).below A8
  clear hb A8 B6 N6 K6 S6 C3 X6 g0 g1 g2 g3 g4 g5 g6 g7 g8 k0 k1 k2 k3 k4
  obtain ⟨g0, g1, g2, g3, g4, g5, g6, g7, g8⟩ := id N8
  obtain ⟨k0, k1, k2, k3, k4⟩ := id K8
  go_wp2_with fail
  generalize v8.alloc (.cells #[.int .i64 (sel fine s1), .int .i64 (sel fine s2)] 37) = v9 at *
  generalize v8.heap.size = j8 at *
  refine (C4 _ S8.out).mono ?_
  rintro e v10 ⟨rfl, hb⟩
  have A10 := Below.alc v10 (.cells #[.int .i64 (sel fine s1), .int .i64 (sel fine s2)] 37)
  have Y10 := (Y8.below hb).below A10
  have X10 := (X8.below hb).below A10
  have B10 := (B8.trans (hb.mono B8.size)).trans (A10.mono (Nat.le_trans B8.size hb.size))
  have K10 := (K8.below hb).below A10
  clear hb A10 B8 N8 K8 S8 C4 X8 Y8 g0 g1 g2 g3 g4 g5 g6 g7 g8 k0 k1 k2 k3 k4
  obtain ⟨k0, k1, k2, k3, k4⟩ := id K10
  obtain ⟨y0, y1, y2, y3, y4⟩ := id Y10
  obtain ⟨x0, x1, x2, x3, x4⟩ := id X10
  cases ok
  · cases fine
    · go_wp2_with fail; go_ret; exact ⟨rfl, B10⟩
    · have hle : s1 ≤ s2 := HT.out rfl
      have y5 : (v10.alloc (.cells #[.int .i64 (sel true s1), .int .i64 (sel true s2)] 37)).cell? ⟨j8, 0, none⟩ = some (.int .i64 s1) := y1
      have y6 : (v10.alloc (.cells #[.int .i64 (sel true s1), .int .i64 (sel true s2)] 37)).cell? ⟨j8, 1, none⟩ = some (.int .i64 s2) := y2
      clear y1 y2
      go_wp2_with fail; go_ret; exact ⟨rfl, B10⟩
  · have hho : holdsI r1 r2 p2 = true := HH.out rfl
    cases fine
    · have x5 : (v10.alloc (.cells #[.int .i64 (sel false s1), .int .i64 (sel false s2)] 37)).cell? ⟨j4, 0, none⟩ = some (.int .i64 r1) := x1
      have x6 : (v10.alloc (.cells #[.int .i64 (sel false s1), .int .i64 (sel false s2)] 37)).cell? ⟨j4, 1, none⟩ = some (.int .i64 r2) := x2
      clear x1 x2
      go_wp2_with fail
      refine (implHolds_v3 _ _ _ true _ hho).mono ?_
      rintro e v11 ⟨rfl, hb⟩
      have B11 := B10.trans (hb.mono B10.size)
      clear hb
      go_wp2_with fail; go_ret; exact ⟨rfl, B11⟩
    · have hle : s1 ≤ s2 := HT.out rfl
      have x5 : (v10.alloc (.cells #[.int .i64 (sel true s1), .int .i64 (sel true s2)] 37)).cell? ⟨j4, 0, none⟩ = some (.int .i64 r1) := x1
      have x6 : (v10.alloc (.cells #[.int .i64 (sel true s1), .int .i64 (sel true s2)] 37)).cell? ⟨j4, 1, none⟩ = some (.int .i64 r2) := x2
      clear x1 x2
      go_wp2_with fail
      refine (implHolds_v3 _ _ _ true _ hho).mono ?_
      rintro e v11 ⟨rfl, hb⟩
      have B11 := B10.trans (hb.mono B10.size)
      have Y11 := Y10.below hb
      clear hb y0 y1 y2 y3 y4
      obtain ⟨y0, y1, y2, y3, y4⟩ := id Y11
      have y5 : v11.cell? ⟨j8, 0, none⟩ = some (.int .i64 s1) := y1
      have y6 : v11.cell? ⟨j8, 1, none⟩ = some (.int .i64 s2) := y2
      clear y1 y2
      go_wp2_with fail; go_ret; exact ⟨rfl, B11⟩
end Go.Proofs.Ytdgfneloaopleaa
