/- The contract of impl.OscRun. -/
import Derived.Test.YtdgfneloaopleaaR0
import Derived.WalkKit
import Derived.WalkSpells
import Derived.WalkLawsBesides
import Derived.Deep.RegionHeld
namespace Go.Proofs.Ytdgfneloaopleaa
open Go.RowKit
set_option linter.unusedVariables false
set_option maxHeartbeats 1000000 in
theorem implOscRun_bad (n d t c : Int) (a : Option Addr) (m cp : Nat) (w : World) (hm : m ≤ maxLen) (h : runG n d t c m = false) :
    Calls Try.prog 8 #[.agg #[.int .i64 n, .int .i64 d, .int .i64 t, .int .i64 c], .slice a m cp] w fun e w' => e = .returned (.tuple #[.slice none 0 0, .int .i64 0]) ∧ Below w.heap.size w w' := by
  unfold maxLen at hm
  have B0 := Below.alc w (.cells #[.int .i64 n, .int .i64 d, .int .i64 t, .int .i64 c] 27)
  cases ho : okO n d t c
  · go_enter Try.func8, Try.ntmps8
    go_wp2_with fail
    refine (implOscOk_any _ _ _ _ _).mono ?_
    rintro e w1 ⟨rfl, hb⟩
    rw [ho]
    have B1 := B0.trans (hb.mono B0.size)
    clear hb
    go_wp2_with fail
    go_ret2
    exact ⟨rfl, B1⟩
  · have hi : decide (200 < (m : Int)) = true := by simp [runG, ho] at h; simp; omega
    go_enter Try.func8, Try.ntmps8
    go_wp2_with fail
    refine (implOscOk_any _ _ _ _ _).mono ?_
    rintro e w1 ⟨rfl, hb⟩
    rw [ho]
    have B1 := B0.trans (hb.mono B0.size)
    clear hb
    go_wp2_with fail
    go_ret2
    exact ⟨rfl, B1⟩
set_option maxHeartbeats 4000000 in
theorem implOscRun_good (n d t c : Int) (a : Option Addr) (m cp : Nat) (f : Nat → Int × Int) (w : World) (ho : okO n d t c = true) (hm : m ≤ 200) (hs : Src w a m f) :
    Calls Try.prog 8 #[.agg #[.int .i64 n, .int .i64 d, .int .i64 t, .int .i64 c], .slice a m cp] w fun e w' => ∃ v, e = .returned (.tuple #[v, .int .i64 (runN n d t c f m)]) ∧ w'.ownsRow w.heap.size 42 2 v (runN n d t c f m + 1) (prs (mkL n d t c f (runN n d t c f m))) ∧ Below w.heap.size w w' := by
  obtain ⟨i0, hi, hz0, hz1, hz2⟩ := info_parts infoMark
  have B0 := Below.alc w (.cells #[.int .i64 n, .int .i64 d, .int .i64 t, .int .i64 c] 27)
  have P0 := Box4.new w n d t c 27
  have HO : Hid (okO n d t c = true) := ho
  have HS : Hid (Src w a m f) := hs
  have hd : decide (200 < (m : Int)) = false := by simp; omega
  clear hs ho
  go_enter Try.func8, Try.ntmps8
  go_wp2_with fail
  refine (implOscOk_any _ _ _ _ _).mono ?_
  rintro e w1 ⟨rfl, hb⟩
  rw [HO.out]
  have B1 := B0.trans (hb.mono B0.size)
  have P1 := P0.below hb
  clear hb B0 P0
  obtain ⟨a0, a1, a2, a3, a4, a5, a6, a7, a8⟩ := id P1
  go_wp2_with fail
  refine (oscMark_any _ _ _ _ _).mono ?_
  rintro e w2 ⟨rfl, hb⟩
  have B2 := B1.trans (hb.mono B1.size)
  have P2 := P1.below hb
  clear hb B1 P1 a0 a1 a2 a3 a4 a5 a6 a7 a8
  have s2 : w.heap.size + 1 ≤ w2.heap.size := P2.1
  have O2 := own_one w2 (w.heap.size + 1) 42 t c s2
  have A2 := Below.alc w2 (.cells #[.int .i64 t, .int .i64 c] 42)
  have P3 := P2.below A2
  have B3 := B2.trans (A2.mono B2.size)
  rw [← mkL_zero n d t c f] at O2
  clear A2 B2 P2
  go_wp2_with fail
  generalize w2.alloc (.cells #[.int .i64 t, .int .i64 c] 42) = v3 at *
  go_loopw [6, 24] (fun v i wr => ∃ k : Nat, k ≤ m ∧ i = .int .i64 k ∧ (∀ i, i < k → stepAt n d t c f i = true) ∧ wr.ownsRow (w.heap.size + 1) 42 2 v (k + 1) (prs (mkL n d t c f k)) ∧ Box4 wr w.heap.size n d (mkM n d t c f k).1 (mkM n d t c f k).2 ∧ Below w.heap.size w wr) (fun _ i _ => m - (intOf i).toNat)
  case atStart => exact ⟨0, Nat.zero_le _, rfl, fun i hi => absurd hi (Nat.not_lt_zero _), O2, P3, B3⟩
  case round =>
    obtain ⟨k, hk, rfl, hall, hown, P, hB⟩ := hrel
    have HA : Hid (∀ i, i < k → stepAt n d t c f i = true) := hall
    clear hall O2 P3 B3
    by_cases hlt : k < m
    · rcases HS.out.below hB with h0 | ⟨b, off, rfl, hp⟩
      · omega
      have e0 : wr.cell? ⟨b, off + k * 2, none⟩ = some (.int .i64 (f k).1) := (hp.2 k hlt).1
      have e1 : wr.cell? ⟨b, off + k * 2 + 1, none⟩ = some (.int .i64 (f k).2) := (hp.2 k hlt).2
      have bwr : b < wr.heap.size := hp.1
      have hli : (k : Int) < (m : Int) := by omega
      have A := Below.alc wr (.cells #[.int .i64 (f k).1, .int .i64 (f k).2] 55)
      have PA := P.below A
      have OA := own_below hown A
      have BA := hB.trans (A.mono hB.size)
      obtain ⟨a0, a1, a2, a3, a4, a5, a6, a7, a8⟩ := id P
      clear hp P hown hB A
      have HK := mkM_ok HO.out HA.out
      cases hst : stepAt n d t c f k
      · have HR : Hid (runN n d t c f m = k) := runN_stop HA.out hst m hlt
        have hst' : stepB n d (mkM n d t c f k).1 (mkM n d t c f k).2 (f k).1 (f k).2 = false := hst
        go_wp2_with fail
        refine (implStep_f _ _ _ _ _ _ _ HK hst').mono ?_
        rintro e w4 ⟨rfl, hb⟩
        have O4 := own_below OA hb
        have B4 := BA.trans (hb.mono BA.size)
        clear hb PA OA BA a0 a1 a2 a3 a4 a5 a6 a7 a8 e0 e1
        have O5 := World.ownsRow.alloc O4 (.cells #[.int .i64 n, .int .i64 d, .int .i64 (mkM n d t c f k).1, .int .i64 (mkM n d t c f k).2] 27)
        have B5 := B4.alloc B4.size (.cells #[.int .i64 n, .int .i64 d, .int .i64 (mkM n d t c f k).1, .int .i64 (mkM n d t c f k).2] 27)
        go_wp2_with fail
        exact bodyPost_ret (v := .tuple #[u6, .int .i64 (k : Int)]) (by simp (maxDischargeDepth := 6) [results, Try.results8, go_sem, *]) rfl ⟨u6, by rw [HR.out], by rw [HR.out]; exact own_base O5 (Nat.le_succ _), B5⟩
      · have hst' : stepB n d (mkM n d t c f k).1 (mkM n d t c f k).2 (f k).1 (f k).2 = true := hst
        have HA2 : Hid (∀ i, i < k + 1 → stepAt n d t c f i = true) := fun i hi => by
          by_cases e : i = k
          · subst e; exact hst
          · exact HA.out i (by omega)
        have E1 : (mkM n d t c f k).1 + (f k).1 = (mkM n d t c f (k + 1)).1 := rfl
        have E2 : (mkM n d t c f k).2 + clI n d (f k).1 (f k).2 = (mkM n d t c f (k + 1)).2 := rfl
        have LA := mkL_add n d t c f k
        go_wp2_with fail
        refine (implStep_t _ _ _ _ _ _ _ hst').mono ?_
        rintro e w4 ⟨rfl, hb⟩
        rw [E1, E2]
        have O4 := own_below OA hb
        have B4 := BA.trans (hb.mono BA.size)
        have P4 := PA.below hb
        clear hb PA OA BA a0 a1 a2 a3 a4 a5 a6 a7 a8 e0 e1 E1 E2 HA hst hst' HK
        generalize hnx : mkM n d t c f (k + 1) = nx at *
        have HX : Hid (mkM n d t c f (k + 1) = nx) := hnx
        clear hnx
        generalize (mkM n d t c f k).1 = ot at *
        generalize (mkM n d t c f k).2 = oc at *
        have P5 := P4.set n d nx.1 nx.2
        have O5 := own_set4 O4 (Nat.lt_succ_self _) n d nx.1 nx.2
        have B5 := Below.set4 B4 (Nat.le_refl _) n d nx.1 nx.2
        have O6 := World.ownsRow.alloc O5 (.cells #[.int .i64 n, .int .i64 d, .int .i64 nx.1, .int .i64 nx.2] 27)
        have B6 := B5.alloc B5.size (.cells #[.int .i64 n, .int .i64 d, .int .i64 nx.1, .int .i64 nx.2] 27)
        have P6 := P5.alloc (.cells #[.int .i64 n, .int .i64 d, .int .i64 nx.1, .int .i64 nx.2] 27)
        obtain ⟨a0, a1, a2, a3, a4, a5, a6, a7, a8⟩ := id P4
        clear O4 B4 O5 B5 P5
        go_wp2_with fail
        refine (oscMark_any _ _ _ _ _).mono ?_
        rintro e w7 ⟨rfl, hb⟩
        have O7 := own_below O6 hb
        have B7 := B6.trans (Below.mono hb B6.size)
        have P7 := P6.below hb
        clear hb O6 B6 P6 P4 a0 a1 a2 a3 a4 a5 a6 a7 a8
        have s7 : w.heap.size + 1 ≤ w7.heap.size := P7.1
        go_wp2_with (at_builtin; refine wpList_append_own _ rfl _ _ 31 rfl (w.heap.size + 1) 42 i0 (.agg #[.int .i64 0, .int .i64 0]) 2 16 Try.underlying31 hi hz0 hz1 hz2 rfl (by decide) _ _ _ rfl (World.ownsRow.alloc O7 _) ⟨w7.heap.size, 0, none⟩ 1 1 [.int .i64 nx.1, .int .i64 nx.2] rfl rfl ?c1 ?c2 ?c3 ?c4 ?c5 ?_)
        case c1 => intro j u hj; exact pair_at w7 _ _ 42 j u hj
        case c2 => intro u hu; simp at hu; rcases hu with rfl | rfl <;> rfl
        case c3 => unfold maxLen; omega
        case c4 => omega
        case c5 => simp; omega
        · intro v' w9 hown' hgrow _
          have A9 := Below.alc w7 (.cells #[.int .i64 nx.1, .int .i64 nx.2] 42)
          have hsz : w.heap.size + 1 ≤ (w7.alloc (.cells #[.int .i64 nx.1, .int .i64 nx.2] 42)).heap.size := by simp; omega
          have G9 := grown_below (World.ownsRow.alloc O7 _) hgrow hsz
          have P9 := (P7.below A9).belowB G9 (Nat.lt_succ_self _)
          have B9 := (B7.trans (A9.mono B7.size)).trans (G9.mono (Nat.le_succ _))
          have R9 : w9.ownsRow (w.heap.size + 1) 42 2 v' (k + 1 + 1) (prs (mkL n d t c f (k + 1))) := by rw [LA, prs_add]; exact hown'
          clear hown' hgrow G9 A9 hsz O7 B7 P7
          go_wp2
          go_roundw
          case rel => exact ⟨k + 1, by omega, by go_num, HA2.out, R9, by rw [HX.out]; exact P9, B9⟩
          case measure => simp [intOf]; omega
    · have hkm : k = m := by omega
      have hli : ¬ (k : Int) < (m : Int) := by omega
      have HR : Hid (runN n d t c f m = m) := runN_all (by subst hkm; exact HA.out)
      have hown' : wr.ownsRow (w.heap.size + 1) 42 2 u6 (m + 1) (prs (mkL n d t c f m)) := by rw [hkm] at hown; exact hown
      clear hown
      go_wp2_with fail
      exact bodyPost_ret (v := .tuple #[u6, .int .i64 (m : Int)]) (by simp (maxDischargeDepth := 6) [results, Try.results8, go_sem, *]) rfl ⟨u6, by rw [HR.out], by rw [HR.out]; exact own_base hown' (Nat.le_succ _), hB⟩
end Go.Proofs.Ytdgfneloaopleaa
