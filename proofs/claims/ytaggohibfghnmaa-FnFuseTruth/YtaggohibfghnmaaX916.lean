/- Contracts of Missing. -/
import Derived.Test.YtaggohibfghnmaaX910
import Derived.Test.YtaggohibfghnmaaW6
import Derived.Deep.RegionHeld3
import Derived.Deep.DeepCutAuto
import Derived.WalkKit
import Derived.WalkSpells
import Derived.WalkLawsBesides
import Derived.Deep.RegionHeld
namespace Go.Proofs.Ytaggohibfghnmaa
open Go.RowKit
set_option linter.unusedVariables false
def mi (f : Nat → Int × Int) (lo hi : Int) (k : Nat) : Bool := decide (0 < apartI (f k).1 (f k).2 lo hi)
def msN (f : Nat → Int × Int) (lo hi : Int) : Nat → List Int
  | 0 => []
  | k + 1 => if mi f lo hi k then msN f lo hi k ++ [(k : Int)] else msN f lo hi k
theorem ms_len (f : Nat → Int × Int) (lo hi : Int) : ∀ k, (msN f lo hi k).length ≤ k
  | 0 => Nat.le_refl _
  | k + 1 => by have := ms_len f lo hi k; simp only [msN]; split <;> simp <;> omega
theorem ms_yes {f : Nat → Int × Int} {lo hi : Int} {k : Nat} (h : mi f lo hi k = true) : msN f lo hi (k + 1) = msN f lo hi k ++ [(k : Int)] := by simp [msN, h]
theorem ms_no {f : Nat → Int × Int} {lo hi : Int} {k : Nat} (h : mi f lo hi k = false) : msN f lo hi (k + 1) = msN f lo hi k := by simp [msN, h]
theorem mi_bad {f : Nat → Int × Int} {lo hi : Int} (h : okI lo hi = false) (k : Nat) : mi f lo hi k = false := by
  simp only [mi, decide_eq_false_iff_not]
  rw [apartI_f (by simp [okII, h])]; omega
theorem ms_bad {f : Nat → Int × Int} {lo hi : Int} (h : okI lo hi = false) : ∀ k, msN f lo hi k = []
  | 0 => rfl
  | k + 1 => by rw [ms_no (mi_bad h k), ms_bad h k]
theorem mi_meet {f : Nat → Int × Int} {lo hi : Int} {k : Nat} (h1 : okI (f k).1 (f k).2 = true) (h2 : okI lo hi = true) : meetB (f k).1 (f k).2 lo hi = !(mi f lo hi k) := by
  have hb : okII (f k).1 (f k).2 lo hi = true := by simp [okII, h1, h2]
  have ⟨a1, a2, a3⟩ := okI_t h1
  have ⟨b1, b2, b3⟩ := okI_t h2
  simp only [mi, meetB, hb, Bool.true_and]
  rw [apartI_t hb]
  have q1 : -1000000000000 ≤ imx (f k).1 lo ∧ imn (f k).2 hi ≤ 1000000000000 := by unfold imx imn; split <;> split <;> omega
  unfold okI
  by_cases h : imx (f k).1 lo ≤ imn (f k).2 hi
  · have e : ¬ 0 < imx 0 (imx (f k).1 lo - imn (f k).2 hi) := by unfold imx at h ⊢; split <;> split <;> omega
    simp [h, q1, e]
  · have e : 0 < imx 0 (imx (f k).1 lo - imn (f k).2 hi) := by
      generalize imx (f k).1 lo = u at *
      generalize imn (f k).2 hi = v at *
      unfold imx; split <;> omega
    simp [h, e]
def msL (f : Nat → Int × Int) (n : Nat) (lo hi : Int) : List Int := if srcB f n = true then msN f lo hi n else []
theorem msL_t {f : Nat → Int × Int} {n : Nat} {lo hi : Int} (h : srcB f n = true) : msL f n lo hi = msN f lo hi n := if_pos h
theorem msL_f {f : Nat → Int × Int} {n : Nat} {lo hi : Int} (h : srcB f n = false) : msL f n lo hi = [] := if_neg (by simp [h])
theorem itL_add (L : List Int) (x : Int) : itL (L ++ [x]) = itL L ++ [.int .i64 x] := by simp [itL]
theorem made_none1 (w : World) : (w.alloc (.cells #[] 3)).ownsRow w.heap.size 3 1 (.slice (some ⟨w.heap.size, 0, none⟩) 0 0) 0 (itL []) := World.ownsRow_made w #[] 0 (Nat.le_refl _) (by simp [maxLen]) (by simp)
set_option maxRecDepth 100000 in
set_option maxHeartbeats 4000000 in
theorem implMissing (a : Option Addr) (n c : Nat) (f : Nat → Int × Int) (lo hi : Int) (w : World) (hm : n ≤ maxLen) (hs : Src w a n f) :
    Calls Try.prog 27 #[.slice a n c, .agg #[.int .i64 lo, .int .i64 hi]] w fun e w' => ∃ v, e = .returned v ∧ w'.ownsRow w.heap.size 3 1 v (msL f n lo hi).length (itL (msL f n lo hi)) ∧ Below w.heap.size w w' := by
  obtain ⟨i0, hi9, hz0, hz1, hz2⟩ := info_parts infoInt
  have X := Vb.new w lo hi 25
  have B := Below.al9 w (.cells #[.int .i64 lo, .int .i64 hi] 25)
  have N0 : ∀ (b : Nat) (v : World), v.ownsRow b 3 1 (.slice none 0 0) 0 (itL []) := fun b v => World.ownsRow_nil _ _ _ _
  have HS : Hid (Src w a n f) := hs
  have CS := implSources a n c f (w.alloc (.cells #[.int .i64 lo, .int .i64 hi] 25)) hm (HS.out.below B)
  unfold maxLen at hm
  clear hs
  cases hsb : srcB f n
  · rw [msL_f hsb]
    go_enter Try.func27, Try.ntmps27
    go_wp2_with fail
    refine CS.mono ?_
    rintro e w1 ⟨rfl, hb⟩
    rw [hsb]
    go_wp2_with fail
    go_ret
    exact ⟨_, rfl, N0 _ _, B.trans (hb.mono B.size)⟩
  · rw [msL_t hsb]
    cases hok : okI lo hi
    · rw [ms_bad hok]
      go_enter Try.func27, Try.ntmps27
      go_wp2_with fail
      refine CS.mono ?_
      rintro e w1 ⟨rfl, hb⟩
      rw [hsb]
      replace X := X.below hb
      replace B := B.trans (hb.mono B.size)
      clear hb
      obtain ⟨x0, x1, x2, x3, x4⟩ := id X
      go_wp2_with fail
      refine (ok_any _ _ _).mono ?_
      rintro e w2 ⟨rfl, hb⟩
      rw [hok]
      go_wp2_with fail
      go_ret
      exact ⟨_, rfl, N0 _ _, B.trans (hb.mono B.size)⟩
    · have ⟨hn, ho⟩ := srcB_le hsb
      have HO : Hid (∀ k, k < n → meetB (f k).1 (f k).2 lo hi = !(mi f lo hi k)) := fun k hk => mi_meet (allOk_at ho k hk) hok
      go_enter Try.func27, Try.ntmps27
      go_wp2_with fail
      refine CS.mono ?_
      rintro e w1 ⟨rfl, hb⟩
      rw [hsb]
      replace X := X.below hb
      replace B := B.trans (hb.mono B.size)
      clear hb CS
      obtain ⟨x0, x1, x2, x3, x4⟩ := id X
      go_wp2_with fail
      refine (ok_any _ _ _).mono ?_
      rintro e w2 ⟨rfl, hb⟩
      rw [hok]
      clear x0 x1 x2 x3 x4
      replace X := X.below hb
      replace B := B.trans (hb.mono B.size)
      clear hb ho hok hsb
      go_wp2_with fail
      go_loopw [5, 21] (fun v i wr => ∃ k : Nat, k ≤ n ∧ i = .int .i64 k ∧ wr.ownsRow (w.heap.size + 1) 3 1 v (msN f lo hi k).length (itL (msN f lo hi k)) ∧ Vb wr w.heap.size lo hi ∧ Below w.heap.size w wr) (fun _ i _ => n - (intOf i).toNat)
      case atStart => exact ⟨0, Nat.zero_le _, rfl, N0 _ _, X, B⟩
      case round =>
        clear X B
        obtain ⟨k, hk, rfl, O, X, B⟩ := hrel
        by_cases hlt : k < n
        · have hli : (k : Int) < (n : Int) := by omega
          rcases HS.out.below B with h0 | ⟨b, off, rfl, hp⟩
          · omega
          have c0 := (hp.2 k hlt).1
          have c1 := (hp.2 k hlt).2
          have hml := ms_len f lo hi k
          have CM := fun (v : World) => implMeet_any (f k).1 (f k).2 lo hi v
          rw [HO.out k hlt] at CM
          generalize (f k).1 = fl at *
          generalize (f k).2 = fh at *
          have A := Below.al9 wr (.cells #[.int .i64 fl, .int .i64 fh] 25)
          have Y := Vb.new wr fl fh 25
          have XA := X.below A
          have OA := own_below O A
          have BA := B.trans (A.mono B.size)
          obtain ⟨x0, x1, x2, x3, x4⟩ := id X
          clear hp A O B
          go_upto_region 7 with fail
          clear c0 c1 x0 x1 x2 x3 x4 X
          generalize hj : wr.heap.size = j at *
          generalize wr.alloc (.cells #[.int .i64 fl, .int .i64 fh] 25) = v at *
          clear hj
          obtain ⟨x0, x1, x2, x3, x4⟩ := id XA
          obtain ⟨y0, y1, y2, y3, y4⟩ := id Y
          go_wp2_with fail
          refine (CM _).mono ?_
          rintro e v2 ⟨rfl, hb⟩
          clear x0 x1 x2 x3 x4 y0 y1 y2 y3 y4 Y
          replace XA := XA.below hb
          replace OA := own_below OA hb
          replace BA := BA.trans (hb.mono BA.size)
          clear hb CM
          generalize sel (!mi f lo hi k) (imx fl lo) = ml at *
          generalize sel (!mi f lo hi k) (imn fh hi) = mh at *
          have A := Below.al9 v2 (.cells #[.int .i64 ml, .int .i64 mh] 25)
          have X := XA.below A
          have O := own_below OA A
          have B := BA.trans (A.mono BA.size)
          clear A XA OA BA
          cases hmi : mi f lo hi k
          · have E : Hid (msN f lo hi (k + 1) = msN f lo hi k) := ms_no hmi
            go_wp2_with fail
            go_roundw
            case rel => exact ⟨k + 1, by omega, by go_num, by rw [E.out]; exact O, X, B⟩
            case measure => simp [intOf]; omega
          · have E : Hid (msN f lo hi (k + 1) = msN f lo hi k ++ [(k : Int)]) := ms_yes hmi
            have hvs := X.1
            go_upto_region 8 with fail
            generalize v2.alloc (.cells #[.int .i64 ml, .int .i64 mh] 25) = v3 at *
            go_wp2_with (at_builtin; refine wpList_append_own _ rfl _ _ 47 rfl (w.heap.size + 1) 3 i0 (.int .i64 0) 1 8 Try.underlying47 hi9 hz0 hz1 hz2 rfl (by decide) _ _ _ rfl (World.ownsRow.alloc O _) ⟨v3.heap.size, 0, none⟩ 1 1 [.int .i64 (k : Int)] rfl rfl (one_int v3 (k : Int) 3) (by intro u hu; simp at hu; subst hu; rfl) (by unfold maxLen; omega) (by omega) (by simp; omega) ?_; intro v' w9 O9 hg9 _)
            have G9 := grown_below (World.ownsRow.alloc O _) hg9 (by simp; omega)
            have A9 := Below.al9 v3 (.cells #[.int .i64 (k : Int)] 3)
            have X9 := (X.below A9).belowB G9 (Nat.lt_succ_self _)
            have B9 := (B.trans (A9.mono B.size)).trans (G9.mono (Nat.le_succ _))
            have R9 : w9.ownsRow (w.heap.size + 1) 3 1 v' (msN f lo hi (k + 1)).length (itL (msN f lo hi (k + 1))) := by rw [E.out, itL_add, List.length_append]; exact O9
            clear G9 A9 O9 hg9
            go_wp2
            go_roundw
            case rel => exact ⟨k + 1, by omega, by go_num, R9, X9, B9⟩
            case measure => simp [intOf]; omega
        · have hkn : k = n := by omega
          subst hkn
          have hli : ¬ (k : Int) < (k : Int) := by omega
          go_wp2_with fail
          go_ret
          exact ⟨_, rfl, own_base O (Nat.le_succ _), B⟩
end Go.Proofs.Ytaggohibfghnmaa
