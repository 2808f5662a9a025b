/- Contracts of SourcesOk and CoverAt. -/
import Derived.Test.YtaggohibfghnmaaX91
import Derived.Test.YtaggohibfghnmaaS8
import Derived.WalkKit
import Derived.WalkSpells
import Derived.WalkLawsBesides
import Derived.Deep.RegionHeld
namespace Go.Proofs.Ytaggohibfghnmaa
open Go.RowKit
set_option linter.unusedVariables false
theorem srcB_many {f : Nat → Int × Int} {n : Nat} (h : 12 < n) : srcB f n = false := by simp [srcB]; omega
theorem srcB_in {f : Nat → Int × Int} {n : Nat} (h : n ≤ 12) : srcB f n = allOk f n := by simp [srcB, h]
theorem srcB_le {f : Nat → Int × Int} {n : Nat} (h : srcB f n = true) : n ≤ 12 ∧ allOk f n = true := by simpa [srcB] using h
set_option maxHeartbeats 400000 in
theorem l1All12 (a : Option Addr) (n c : Nat) (f : Nat → Int × Int) (w : World) (hm : n ≤ maxLen) (hs : Src w a n f) :
    Calls Try.prog 50 #[.slice a n c, .int .i64 12] w fun e w' => e = .returned (.bool (srcB f n)) ∧ Below w.heap.size w w' := by
  unfold maxLen at hm
  by_cases h12 : 12 < n
  · rw [srcB_many h12]
    have hd : decide (12 < (n : Int)) = true := by simp; omega
    go_enter Try.func50, Try.ntmps50
    go_wp2_with fail
    go_ret
    exact ⟨rfl, Below.refl _ _⟩
  · rw [srcB_in (by omega)]
    have hd : decide (12 < (n : Int)) = false := by simp; omega
    have HS : Hid (Src w a n f) := hs
    clear hs
    go_enter Try.func50, Try.ntmps50
    go_wp2_with fail
    go_loopw [5] (fun i wr => ∃ k : Nat, k ≤ n ∧ i = .int .i64 k ∧ allOk f k = true ∧ Below w.heap.size w wr) (fun i _ => n - (intOf i).toNat)
    case atStart => exact ⟨0, Nat.zero_le _, rfl, rfl, Below.refl _ _⟩
    case round =>
      obtain ⟨k, hk, rfl, hall, hB⟩ := hrel
      have HA : Hid (allOk f k = true) := hall
      clear hall
      by_cases hlt : k < n
      · rcases HS.out.below hB with h0 | ⟨b, off, rfl, hp⟩
        · omega
        have c0 : wr.cell? ⟨b, off + k * 2, none⟩ = some (.int .i64 (f k).1) := (hp.2 k hlt).1
        have c1 : wr.cell? ⟨b, off + k * 2 + 1, none⟩ = some (.int .i64 (f k).2) := (hp.2 k hlt).2
        have hsz := hB.size
        clear hp
        cases hok : okI (f k).1 (f k).2
        · have HN : Hid (allOk f n = false) := allOk_no hok n hlt
          go_wp2_with (first | (go_at_call 25; refine (specIvalOk_any _ _ _).mono ?_; rintro e w' ⟨rfl, hb⟩))
          go_ret
          exact ⟨ret_bool HN.out.symm, hB.trans (hb.mono hsz)⟩
        · go_wp2_with (first | (go_at_call 25; refine (specIvalOk_any _ _ _).mono ?_; rintro e w' ⟨rfl, hb⟩))
          go_roundw
          case rel => exact ⟨k + 1, by omega, by go_num, by simp [allOk, HA.out, hok], hB.trans (hb.mono hsz)⟩
          case measure => simp [intOf]; omega
      · go_wp2_with fail
        go_ret
        exact ⟨ret_bool (by rw [← HA.out]; congr 1; omega), hB⟩
set_option maxHeartbeats 400000 in
theorem specSources (a : Option Addr) (n c : Nat) (f : Nat → Int × Int) (w : World) (hm : n ≤ maxLen) (hs : Src w a n f) :
    Calls Try.prog 24 #[.slice a n c] w fun e w' => e = .returned (.bool (srcB f n)) ∧ Below w.heap.size w w' := by
  go_enter Try.func24, Try.ntmps24
  go_wp2_with fail
  refine (l1All12 a n c f _ hm hs).mono ?_
  rintro e w1 ⟨rfl, hb⟩
  go_wp2_with fail
  go_ret
  exact ⟨rfl, hb⟩
theorem Below.al9 (w : World) (o : Obj) : Below w.heap.size w (w.alloc o) := (Below.refl _ _).alloc (Nat.le_refl _) _
set_option maxHeartbeats 400000 in
theorem implSources (a : Option Addr) (n c : Nat) (f : Nat → Int × Int) (w : World) (hm : n ≤ maxLen) (hs : Src w a n f) :
    Calls Try.prog 35 #[.slice a n c] w fun e w' => e = .returned (.bool (srcB f n)) ∧ Below w.heap.size w w' := by
  unfold maxLen at hm
  by_cases h12 : 12 < n
  · rw [srcB_many h12]
    have hd : decide (12 < (n : Int)) = true := by simp; omega
    go_enter Try.func35, Try.ntmps35
    go_wp2_with fail
    go_ret
    exact ⟨rfl, Below.refl _ _⟩
  · rw [srcB_in (by omega)]
    have hd : decide (12 < (n : Int)) = false := by simp; omega
    have HS : Hid (Src w a n f) := hs
    clear hs
    go_enter Try.func35, Try.ntmps35
    go_wp2_with fail
    go_loopw [10] (fun i wr => ∃ k : Nat, k ≤ n ∧ i = .int .i64 k ∧ allOk f k = true ∧ Below w.heap.size w wr) (fun i _ => n - (intOf i).toNat)
    case atStart => exact ⟨0, Nat.zero_le _, rfl, rfl, Below.refl _ _⟩
    case round =>
      obtain ⟨k, hk, rfl, hall, hB⟩ := hrel
      have HA : Hid (allOk f k = true) := hall
      clear hall
      by_cases hlt : k < n
      · rcases HS.out.below hB with h0 | ⟨b, off, rfl, hp⟩
        · omega
        have hli : (k : Int) < (n : Int) := by omega
        have c0 : wr.cell? ⟨b, off + k * 2, none⟩ = some (.int .i64 (f k).1) := (hp.2 k hlt).1
        have c1 : wr.cell? ⟨b, off + k * 2 + 1, none⟩ = some (.int .i64 (f k).2) := (hp.2 k hlt).2
        have B1 := hB.trans ((Below.al9 wr (.cells #[.int .i64 (f k).1, .int .i64 (f k).2] 25)).mono hB.size)
        clear hp hB
        cases hok : okI (f k).1 (f k).2
        · have HN : Hid (allOk f n = false) := allOk_no hok n hlt
          go_wp2_with (first | (go_at_call 36; refine (ok_any _ _ _).mono ?_; rintro e w' ⟨rfl, hb⟩))
          go_ret
          exact ⟨ret_bool HN.out.symm, B1.trans (hb.mono B1.size)⟩
        · go_wp2_with (first | (go_at_call 36; refine (ok_any _ _ _).mono ?_; rintro e w' ⟨rfl, hb⟩))
          go_roundw
          case rel => exact ⟨k + 1, by omega, by go_num, by simp [allOk, HA.out, hok], B1.trans (hb.mono B1.size)⟩
          case measure => simp [intOf]; omega
      · have hli : ¬ (k : Int) < (n : Int) := by omega
        go_wp2_with fail
        go_ret
        exact ⟨ret_bool (by rw [← HA.out]; congr 1; omega), hB⟩
theorem cvI_f {f : Nat → Int × Int} {n : Nat} (h : srcB f n = false) (t : Int) : cvI f n t = 0 := by simp [cvI, h]
theorem cvI_t {f : Nat → Int × Int} {n : Nat} (h : srcB f n = true) (t : Int) : cvI f n t = (cov f n t : Int) := by simp [cvI, h]
theorem cov_one {f : Nat → Int × Int} {k : Nat} {t : Int} (h : holdsI (f k).1 (f k).2 t = true) : cov f (k + 1) t = cov f k t + 1 := by simp [cov, h]
theorem cov_no {f : Nat → Int × Int} {k : Nat} {t : Int} (h : holdsI (f k).1 (f k).2 t = false) : cov f (k + 1) t = cov f k t := by simp [cov, h]
set_option maxHeartbeats 1000000 in
theorem specCoverAt (a : Option Addr) (n c : Nat) (f : Nat → Int × Int) (t : Int) (w : World) (hm : n ≤ maxLen) (hs : Src w a n f) :
    Calls Try.prog 48 #[.slice a n c, .int .i64 t] w fun e w' => e = .returned (.int .i64 (cvI f n t)) ∧ Below w.heap.size w w' := by
  have HS : Hid (Src w a n f) := hs
  have CS := fun (v : World) (h : Below w.heap.size w v) => specSources a n c f v hm (HS.out.below h)
  clear hs
  unfold maxLen at hm
  by_cases h0 : n = 0
  · subst h0
    have hz : Hid (cvI f 0 t = 0) := by simp [Hid, cvI, cov]
    rw [hz.out]
    go_enter Try.func48, Try.ntmps48
    go_wp2_with fail
    go_loopw [5, 6] (fun s i wr => s = .int .i64 0 ∧ i = .int .i64 0 ∧ Below w.heap.size w wr) (fun _ i _ => 0)
    case atStart => exact ⟨rfl, rfl, Below.refl _ _⟩
    case round =>
      obtain ⟨rfl, rfl, hB⟩ := hrel
      go_wp2_with fail
      go_ret
      exact ⟨rfl, hB⟩
  · cases hsb : srcB f n
    · have hz : Hid (cvI f n t = 0) := cvI_f hsb t
      rw [hz.out]
      have hpos : (0 : Int) < (n : Int) := by omega
      go_enter Try.func48, Try.ntmps48
      go_wp2_with fail
      go_loopw [5, 6] (fun s i wr => s = .int .i64 0 ∧ i = .int .i64 0 ∧ Below w.heap.size w wr) (fun _ i _ => 0)
      case atStart => exact ⟨rfl, rfl, Below.refl _ _⟩
      case round =>
        obtain ⟨rfl, rfl, hB⟩ := hrel
        go_wp2_with fail
        refine (CS _ hB).mono ?_
        rintro e w1 ⟨rfl, hb⟩
        rw [hsb]
        go_wp2_with fail
        go_ret
        exact ⟨rfl, hB.trans (hb.mono hB.size)⟩
    · have hz : Hid (cvI f n t = (cov f n t : Int)) := cvI_t hsb t
      rw [hz.out]
      have HB : Hid (srcB f n = true) := hsb
      have hn : n ≤ 12 := (srcB_le hsb).1
      clear hsb hm
      go_enter Try.func48, Try.ntmps48
      go_wp2_with fail
      go_loopw [5, 6] (fun s i wr => ∃ k : Nat, k ≤ n ∧ s = .int .i64 (cov f k t : Int) ∧ i = .int .i64 k ∧ Below w.heap.size w wr) (fun _ i _ => n - (intOf i).toNat)
      case atStart => exact ⟨0, Nat.zero_le _, rfl, rfl, Below.refl _ _⟩
      case round =>
        obtain ⟨k, hk, rfl, rfl, hB⟩ := hrel
        by_cases hlt : k < n
        · have hli : (k : Int) < (n : Int) := by omega
          go_wp2_with fail
          refine (CS _ hB).mono ?_
          rintro e w1 ⟨rfl, hb⟩
          rw [HB.out]
          have B1 := hB.trans (hb.mono hB.size)
          clear hb hB
          rcases HS.out.below B1 with h0 | ⟨b, off, rfl, hp⟩
          · omega
          have c0 : w1.cell? ⟨b, off + k * 2, none⟩ = some (.int .i64 (f k).1) := (hp.2 k hlt).1
          have c1 : w1.cell? ⟨b, off + k * 2 + 1, none⟩ = some (.int .i64 (f k).2) := (hp.2 k hlt).2
          have hcl := cov_le f t k
          clear hp
          go_wp2_with fail
          refine (specHolds_any _ _ _ _).mono ?_
          rintro e w2 ⟨rfl, hb⟩
          have B2 := B1.trans (hb.mono B1.size)
          clear hb
          cases hh : holdsI (f k).1 (f k).2 t
          · have E := cov_no hh
            go_wp2_with fail
            go_roundw
            case rel => exact ⟨k + 1, by omega, by rw [E], by go_num, B2⟩
            case measure => simp [intOf]; omega
          · have E := cov_one hh
            go_wp2_with fail
            go_roundw
            case rel => exact ⟨k + 1, by omega, by rw [E]; go_num, by go_num, B2⟩
            case measure => simp [intOf]; omega
        · have hkn : k = n := by omega
          subst hkn
          have hli : ¬ (k : Int) < (k : Int) := by omega
          go_wp2_with fail
          go_ret
          exact ⟨rfl, hB⟩
set_option maxHeartbeats 1000000 in
theorem implCoverAt (a : Option Addr) (n c : Nat) (f : Nat → Int × Int) (t : Int) (w : World) (hm : n ≤ maxLen) (hs : Src w a n f) :
    Calls Try.prog 18 #[.slice a n c, .int .i64 t] w fun e w' => e = .returned (.int .i64 (cvI f n t)) ∧ Below w.heap.size w w' := by
  have HS : Hid (Src w a n f) := hs
  have CS := fun (v : World) (h : Below w.heap.size w v) => implSources a n c f v hm (HS.out.below h)
  clear hs
  unfold maxLen at hm
  cases hsb : srcB f n
  · have hz : Hid (cvI f n t = 0) := cvI_f hsb t
    rw [hz.out]
    go_enter Try.func18, Try.ntmps18
    go_wp2_with fail
    refine (CS _ (Below.refl _ _)).mono ?_
    rintro e w1 ⟨rfl, hb⟩
    rw [hsb]
    go_wp2_with fail
    go_ret
    exact ⟨rfl, hb⟩
  · have hz : Hid (cvI f n t = (cov f n t : Int)) := cvI_t hsb t
    rw [hz.out]
    have HB : Hid (srcB f n = true) := hsb
    have hn : n ≤ 12 := (srcB_le hsb).1
    clear hsb hm
    go_enter Try.func18, Try.ntmps18
    go_wp2_with fail
    refine (CS _ (Below.refl _ _)).mono ?_
    rintro e w1 ⟨rfl, hb1⟩
    rw [HB.out]
    go_wp2_with fail
    go_loopw [5, 13] (fun s i wr => ∃ k : Nat, k ≤ n ∧ s = .int .i64 (cov f k t : Int) ∧ i = .int .i64 k ∧ Below w.heap.size w wr) (fun _ i _ => n - (intOf i).toNat)
    case atStart => exact ⟨0, Nat.zero_le _, rfl, rfl, hb1⟩
    case round =>
      obtain ⟨k, hk, rfl, rfl, hB⟩ := hrel
      by_cases hlt : k < n
      · have hli : (k : Int) < (n : Int) := by omega
        rcases HS.out.below hB with h0 | ⟨b, off, rfl, hp⟩
        · omega
        have c0 : wr.cell? ⟨b, off + k * 2, none⟩ = some (.int .i64 (f k).1) := (hp.2 k hlt).1
        have c1 : wr.cell? ⟨b, off + k * 2 + 1, none⟩ = some (.int .i64 (f k).2) := (hp.2 k hlt).2
        have hcl := cov_le f t k
        have B1 := hB.trans ((Below.al9 wr (.cells #[.int .i64 (f k).1, .int .i64 (f k).2] 25)).mono hB.size)
        clear hp hB
        go_wp2_with fail
        refine (implHolds_any _ _ _ _).mono ?_
        rintro e w2 ⟨rfl, hb⟩
        have B2 := B1.trans (hb.mono B1.size)
        clear hb
        cases hh : holdsI (f k).1 (f k).2 t
        · have E := cov_no hh
          go_wp2_with fail
          go_roundw
          case rel => exact ⟨k + 1, by omega, by rw [E], by go_num, B2⟩
          case measure => simp [intOf]; omega
        · have E := cov_one hh
          go_wp2_with fail
          go_roundw
          case rel => exact ⟨k + 1, by omega, by rw [E]; go_num, by go_num, B2⟩
          case measure => simp [intOf]; omega
      · have hkn : k = n := by omega
        subst hkn
        have hli : ¬ (k : Int) < (k : Int) := by omega
        go_wp2_with fail
        go_ret
        exact ⟨rfl, hB⟩
end Go.Proofs.Ytaggohibfghnmaa
