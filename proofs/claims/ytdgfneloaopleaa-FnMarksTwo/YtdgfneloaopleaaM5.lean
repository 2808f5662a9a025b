/- The contract of impl.mayStand. -/
import Derived.Test.YtdgfneloaopleaaO1
import Derived.Test.YtdgfneloaopleaaM1
import Derived.Test.YtdgfneloaopleaaS1
import Derived.WalkKit
import Derived.WalkSpells
import Derived.WalkLawsBesides
import Derived.Deep.RegionHeld
namespace Go.Proofs.Ytdgfneloaopleaa
open Go.RowKit
set_option linter.unusedVariables false
set_option maxHeartbeats 1000000 in
theorem mayStand_bad (n d : Int) (a : Option Addr) (m c : Nat) (bk : Int) (w : World) (hm : m ≤ maxLen) (h : (okD n d && decide (1 ≤ m ∧ m ≤ 201)) = false) :
    Calls Try.prog 33 #[.agg #[.int .i64 n, .int .i64 d], .slice a m c, .int .i64 bk] w fun e w' => e = .returned (.bool false) ∧ Below w.heap.size w w' := by
  unfold maxLen at hm
  have B0 := Below.alc w (.cells #[.int .i64 n, .int .i64 d] 25)
  cases ho : okD n d
  · go_enter Try.func33, Try.ntmps33
    go_wp2_with fail
    refine (okd_any _ _ _).mono ?_
    rintro e w1 ⟨rfl, hb⟩
    rw [ho]
    have B1 := B0.trans (hb.mono B0.size)
    clear hb
    go_wp2_with fail
    go_ret
    exact ⟨rfl, B1⟩
  · have hi : decide ((m : Int) < 1) = true ∨ (decide ((m : Int) < 1) = false ∧ decide (201 < (m : Int)) = true) := by simp [ho] at h; simp; omega
    rcases hi with h1 | ⟨h1, h2⟩
    all_goals
      go_enter Try.func33, Try.ntmps33
      go_wp2_with fail
      refine (okd_any _ _ _).mono ?_
      rintro e w1 ⟨rfl, hb⟩
      rw [ho]
      have B1 := B0.trans (hb.mono B0.size)
      clear hb
      go_wp2_with fail
      go_ret
      exact ⟨rfl, B1⟩
set_option maxHeartbeats 4000000 in
theorem mayStand_some (n d : Int) (b off m c : Nat) (f : Nat → Int × Int) (bk : Nat) (w : World) (ho : okD n d = true) (h1 : 1 ≤ m) (h2 : m ≤ 201) (hmc : m ≤ c) (hcm : c ≤ maxLen) (hk1 : 1 ≤ bk) (hk2 : bk ≤ 1000) (hf : Prs w b off m f) :
    Calls Try.prog 33 #[.agg #[.int .i64 n, .int .i64 d], .slice (some ⟨b, off, none⟩) m c, .int .i64 bk] w fun e w' => e = .returned (.bool (mrB n d f m bk)) ∧ Below w.heap.size w w' := by
  unfold maxLen at hcm
  have B0 := Below.alc w (.cells #[.int .i64 n, .int .i64 d] 25)
  have P0 := Bx.new w n d 25
  have HO : Hid (okD n d = true) := ho
  have HF0 : Hid (Prs (w.alloc (.cells #[.int .i64 n, .int .i64 d] 25)) b off m f) := hf.below B0 hf.1
  have d1 : decide ((m : Int) < 1) = false := by simp; omega
  have d2 : decide (201 < (m : Int)) = false := by simp; omega
  clear hf
  go_enter Try.func33, Try.ntmps33
  go_wp2_with fail
  refine (okd_any _ _ _).mono ?_
  rintro e w1 ⟨rfl, hb⟩
  rw [HO.out]
  have B1 := B0.trans (hb.mono B0.size)
  have P1 := P0.below hb
  have HF1 : Hid (Prs w1 b off m f) := HF0.out.below hb HF0.out.1
  have bw1 : b < w1.heap.size := HF1.out.1
  have sw1 : w.heap.size < w1.heap.size := P1.1
  clear hb P0 HF0 ho B0
  go_wp2_with fail
  go_loopw [28] (fun i wr => ∃ k : Nat, k ≤ m ∧ i = .int .i64 k ∧ (∀ i, i < k → okT (f i).1 = true ∧ okT (f i).2 = true) ∧ (∀ i, i < k → ∀ j, j < i → i ≤ j + bk → two n d f j i = true) ∧ Below w1.heap.size w1 wr) (fun i _ => m - (intOf i).toNat)
  case atStart => exact ⟨0, Nat.zero_le _, rfl, fun i hi => absurd hi (Nat.not_lt_zero _), fun i hi => absurd hi (Nat.not_lt_zero _), Below.refl _ _⟩
  case round =>
    obtain ⟨k, hk, rfl, hall, htwo, hB⟩ := hrel
    have HA : Hid (∀ i, i < k → okT (f i).1 = true ∧ okT (f i).2 = true) := hall
    have HT : Hid (∀ i, i < k → ∀ j, j < i → i ≤ j + bk → two n d f j i = true) := htwo
    clear hall htwo
    by_cases hlt : k < m
    · have e0 : wr.cell? ⟨b, off + k * 2, none⟩ = some (.int .i64 (f k).1) := ((HF1.out.below hB bw1).2 k hlt).1
      have e1 : wr.cell? ⟨b, off + k * 2 + 1, none⟩ = some (.int .i64 (f k).2) := ((HF1.out.below hB bw1).2 k hlt).2
      have bwr : b < wr.heap.size := Nat.lt_of_lt_of_le bw1 hB.size
      have hwr : w.heap.size < wr.heap.size := Nat.lt_of_lt_of_le sw1 hB.size
      have hli : (k : Int) < (m : Int) := by omega
      have A := Below.alc wr (.cells #[.int .i64 (f k).1, .int .i64 (f k).2] 42)
      have K0 := Bx.new wr (f k).1 (f k).2 42
      go_wp2_with fail
      refine (markOk_any _ _ _).mono ?_
      rintro e w2 ⟨rfl, hb⟩
      have K2 := K0.below hb
      have B2 := (hB.trans (A.mono hB.size)).trans (hb.mono (Nat.le_trans hB.size A.size))
      have s2 : wr.heap.size < w2.heap.size := K2.1
      clear hb K0 A e0 e1
      cases hok : okT (f k).1 && okT (f k).2
      · have HN : Hid (mrB n d f m bk = false) := mrB_k (mkB_i hlt hok)
        go_wp2_with fail
        go_ret
        exact ⟨ret_bool HN.out.symm, B1.trans (B2.mono B1.size)⟩
      have hq : okT (f k).1 = true ∧ okT (f k).2 = true := by simpa using hok
      have HQ : Hid (okT (f k).1 = true ∧ okT (f k).2 = true) := hq
      clear hq
      have HA2 : Hid (∀ j, j < k + 1 → okT (f j).1 = true ∧ okT (f j).2 = true) := fun j hj => by
        by_cases e : j = k
        · subst e; exact HQ.out
        · exact HA.out j (by omega)
      have hfr : imx 0 ((k : Int) - (bk : Int)) = ((k - bk : Nat) : Int) := by unfold imx; split <;> omega
      have hfb : k - bk ≤ k := Nat.sub_le _ _
      have hfc : k - bk ≤ 201 := by omega
      have HFR : Hid (∀ j, k ≤ j + bk ↔ k - bk ≤ j) := fun j => by omega
      go_wp2_with fail
      refine (ranked_any _ _ _).mono ?_
      rintro e w' ⟨rfl, rfl⟩
      rw [hfr]
      generalize k - bk = fr at *
      clear hfr
      have f1 : (fr : Int) ≤ (k : Int) := by omega
      have f2 : (k : Int) ≤ (c : Int) := by omega
      have f3 : fr < c := by omega
      have f4 : (fr : Int) < (c : Int) := by omega
      have f5 : ¬ fr = c := by omega
      have f6 : ¬ (fr : Int) = (c : Int) := by omega
      go_wp2_with fail
      have P2 := P1.belowB B2 sw1
      have HF2 : Hid (Prs w2 b off m f) := HF1.out.below B2 bw1
      have hw2 : w.heap.size < w2.heap.size := by omega
      have bw2 : b < w2.heap.size := by omega
      go_loopw [48] (fun q wr => ∃ p : Nat, p ≤ k - fr ∧ q = .int .i64 p ∧ (∀ j, fr ≤ j → j < fr + p → two n d f j k = true) ∧ Below w2.heap.size w2 wr) (fun q _ => k - fr - (intOf q).toNat)
      case atStart => exact ⟨0, Nat.zero_le _, rfl, fun j h1 h2 => absurd h1 (by omega), Below.refl _ _⟩
      case round =>
        obtain ⟨p, hp, rfl, hin, hBq⟩ := hrel
        have HI : Hid (∀ j, fr ≤ j → j < fr + p → two n d f j k = true) := hin
        clear hin
        rename World => wq
        by_cases hlp : p < k - fr
        · have hjm : fr + p < m := by omega
          have c0 : wq.cell? ⟨b, off + fr * 2 + p * 2, none⟩ = some (.int .i64 (f (fr + p)).1) := by
            have := ((HF2.out.below hBq bw2).2 (fr + p) hjm).1
            rw [show off + (fr + p) * 2 = off + fr * 2 + p * 2 by omega] at this
            exact this
          have c1 : wq.cell? ⟨b, off + fr * 2 + p * 2 + 1, none⟩ = some (.int .i64 (f (fr + p)).2) := by
            have := ((HF2.out.below hBq bw2).2 (fr + p) hjm).2
            rw [show off + (fr + p) * 2 = off + fr * 2 + p * 2 by omega] at this
            exact this
          have ⟨xj1, xj2⟩ := okT_t (HA.out (fr + p) (by omega)).1
          have ⟨yj1, yj2⟩ := okT_t (HA.out (fr + p) (by omega)).2
          have ⟨xk1, xk2⟩ := okT_t HQ.out.1
          have ⟨yk1, yk2⟩ := okT_t HQ.out.2
          have hlp' : (p : Int) < ((k - fr : Nat) : Int) := by omega
          have bwq : b < wq.heap.size := Nat.lt_of_lt_of_le bw2 hBq.size
          have hwq : w.heap.size < wq.heap.size := Nat.lt_of_lt_of_le hw2 hBq.size
          have hrq : wr.heap.size < wq.heap.size := Nat.lt_of_lt_of_le s2 hBq.size
          obtain ⟨g0, g1, g2, g3, g4⟩ := P2.belowB hBq hw2
          obtain ⟨v0, v1, v2, v3, v4⟩ := K2.belowB hBq s2
          have A := Below.alc wq (.cells #[.int .i64 (f (fr + p)).1, .int .i64 (f (fr + p)).2] 42)
          cases hv : mcB n d ((f k).1 - (f (fr + p)).1) ((f k).2 - (f (fr + p)).2)
          · have HN : Hid (mrB n d f m bk = false) := mrB_p (prB_f hlt (j := fr + p) (by omega) ((HFR.out _).2 (by omega)) hv)
            clear HI HA2 HA HT HF2 HF1 HFR HO
            generalize (f (fr + p)).1 = x at *
            generalize (f (fr + p)).2 = y at *
            go_wp2_with fail
            refine (implMayCount_any _ _ _ _ _).mono ?_
            rintro e w3 ⟨rfl, hb⟩
            rw [hv]
            have B3 := (hBq.trans (A.mono hBq.size)).trans (hb.mono (Nat.le_trans hBq.size A.size))
            clear hb A
            go_wp2_with fail
            go_ret
            exact ⟨ret_bool HN.out.symm, B1.trans (Below.mono (B2.trans (B3.mono B2.size)) B1.size)⟩
          · have HI2 : Hid (∀ j, fr ≤ j → j < fr + (p + 1) → two n d f j k = true) := fun j h1 h2 => by
              by_cases e : j = fr + p
              · subst e; exact hv
              · exact HI.out j h1 (by omega)
            generalize hQ : (∀ j, fr ≤ j → j < fr + (p + 1) → two n d f j k = true) = Q at HI2
            clear HI HA2 HA HT HF2 HF1 HFR HO
            generalize (f (fr + p)).1 = x at *
            generalize (f (fr + p)).2 = y at *
            go_wp2_with fail
            refine (implMayCount_any _ _ _ _ _).mono ?_
            rintro e w3 ⟨rfl, hb⟩
            rw [hv]
            have B3 := (hBq.trans (A.mono hBq.size)).trans (hb.mono (Nat.le_trans hBq.size A.size))
            clear hb A
            go_wp2_with fail
            go_roundw
            case rel => exact ⟨p + 1, by omega, by go_num, by rw [hQ]; exact HI2.out, B3⟩
            case measure => simp [intOf]; omega
        · have hlp' : ¬ (p : Int) < ((k - fr : Nat) : Int) := by omega
          have HT2 : Hid (∀ i, i < k + 1 → ∀ j, j < i → i ≤ j + bk → two n d f j i = true) := fun i hi j hj hb => by
            by_cases e : i = k
            · subst e; exact HI.out j ((HFR.out _).1 hb) (by omega)
            · exact HT.out i (by omega) j hj hb
          go_wp2_with fail
          go_roundw
          case rel => exact ⟨k + 1, by omega, by go_num, HA2.out, HT2.out, B2.trans (hBq.mono B2.size)⟩
          case measure => simp [intOf]; omega
    · have hli : ¬ (k : Int) < (m : Int) := by omega
      have HN : Hid (mrB n d f m bk = true) := mrB_of (mkB_of HO.out h1 h2 fun i hi => HA.out i (by omega)) (prB_of fun i hi => HT.out i (by omega))
      go_wp2_with fail
      go_ret
      exact ⟨ret_bool HN.out.symm, B1.trans (hB.mono B1.size)⟩
end Go.Proofs.Ytdgfneloaopleaa
