/- JudgeFuses. -/
import Derived.Test.YtbicpkelejjnjaaJ203
import Derived.Test.YtbicpkelejjnjaaW7
import Derived.Deep.RegionHeld3
import Derived.WalkKit
import Derived.WalkSpells
import Derived.WalkLawsBesides
import Derived.Deep.RegionHeld
namespace Go.Proofs.Ytbicpkelejjnjaa
open Go.RowKit
set_option linter.unusedVariables false
def dnB (x0 x2 y : Int) : Bool := decide (x0 = y) && decide (x2 = 0)
def fwB (k : Bool) (a b c d : Int) : Bool := okI c d && (!k || withinI c d a b)
def jf1 (t : TdT) : Bool := !dnB t.1 t.2.2.1 7 || fwB t.2.2.2.2.2.1 t.2.2.2.2.2.2.1 t.2.2.2.2.2.2.2.1 t.2.2.2.2.2.2.2.2.1 t.2.2.2.2.2.2.2.2.2
def jfA (M : Nat → TdT) : Nat → Bool
  | 0 => true
  | k + 1 => jfA M k && jf1 (M k)
theorem jfA_t {M : Nat → TdT} {k : Nat} (h : jfA M k = true) (h1 : jf1 (M k) = true) : jfA M (k + 1) = true := by rw [jfA, h, h1]; rfl
theorem jfA_f {M : Nat → TdT} : ∀ {n k : Nat}, k < n → jf1 (M k) = false → jfA M n = false
  | 0, _, h, _ => absurd h (Nat.not_lt_zero _)
  | n + 1, k, h, h1 => by
    by_cases e : k = n
    · subst e; rw [jfA, h1]; simp
    · rw [jfA, jfA_f (Nat.lt_of_le_of_ne (Nat.le_of_lt_succ h) e) h1]; rfl
def jfB (M : Nat → TdT) (n : Nat) : Bool := decide (n ≤ 200) && jfA M n
theorem jfB_t {M : Nat → TdT} {n : Nat} (h : n ≤ 200) : jfB M n = jfA M n := by simp [jfB, h]
theorem jfB_f {M : Nat → TdT} {n : Nat} (h : ¬ n ≤ 200) : jfB M n = false := by simp [jfB, h]
set_option maxHeartbeats 1000000 in
theorem isDone_any (x0 x1 x2 x3 : Int) (x4 x5 : Bool) (x6 x7 x8 x9 : Int) (y : Int) (w : World) :
    Calls Try.prog 29 #[.agg #[.int .i64 x0, .int .i64 x1, .int .i64 x2, .int .i64 x3, .bool x4, .bool x5, .int .i64 x6, .int .i64 x7, .int .i64 x8, .int .i64 x9], .int .i64 y] w fun e w' => e = .returned (.bool (dnB x0 x2 y)) ∧ Below w.heap.size w w' := by
  have B := Below.nw w (.cells #[.int .i64 x0, .int .i64 x1, .int .i64 x2, .int .i64 x3, .bool x4, .bool x5, .int .i64 x6, .int .i64 x7, .int .i64 x8, .int .i64 x9] 39)
  by_cases h : x0 = y
  · have h1 : (x0 == y) = true := by simp [h]
    have e : dnB x0 x2 y = (x2 == 0) := by simp only [dnB, h]; rw [Bool.eq_iff_iff]; simp
    rw [e]; clear e h
    go_enter Try.func29, Try.ntmps29
    go_wp2_with fail
    go_ret
    exact ⟨rfl, B⟩
  · have h1 : (x0 == y) = false := by simp [h]
    have e : dnB x0 x2 y = false := by simp [dnB, h]
    rw [e]; clear e h
    go_enter Try.func29, Try.ntmps29
    go_wp2_with fail
    go_ret
    exact ⟨rfl, B⟩
set_option maxHeartbeats 2000000 in
theorem fusedWell_any (x0 x1 x2 x3 : Int) (x4 x5 : Bool) (x6 x7 x8 x9 : Int) (w : World) :
    Calls Try.prog 30 #[.agg #[.int .i64 x0, .int .i64 x1, .int .i64 x2, .int .i64 x3, .bool x4, .bool x5, .int .i64 x6, .int .i64 x7, .int .i64 x8, .int .i64 x9]] w fun e w' => e = .returned (.bool (fwB x5 x6 x7 x8 x9)) ∧ Below w.heap.size w w' := by
  have B := Below.nw w (.cells #[.int .i64 x0, .int .i64 x1, .int .i64 x2, .int .i64 x3, .bool x4, .bool x5, .int .i64 x6, .int .i64 x7, .int .i64 x8, .int .i64 x9] 39)
  have P1 := Tx10.new w (.int .i64 x0) (.int .i64 x1) (.int .i64 x2) (.int .i64 x3) (.bool x4) (.bool x5) (.int .i64 x6) (.int .i64 x7) (.int .i64 x8) (.int .i64 x9) 39
  cases h1 : okI x8 x9
  · have e : fwB x5 x6 x7 x8 x9 = false := by simp [fwB, h1]
    rw [e]; clear e
    go_enter Try.func30, Try.ntmps30
    go_wp2_with fail
    refine (ok_any _ _ _).mono ?_
    rintro e w1 ⟨rfl, hb⟩
    rw [h1]
    go_wp2_with fail
    go_ret
    exact ⟨rfl, B.trans (hb.mono B.size)⟩
  · cases x5
    · have e : fwB false x6 x7 x8 x9 = true := by simp [fwB, h1]
      rw [e]; clear e
      go_enter Try.func30, Try.ntmps30
      go_wp2_with fail
      refine (ok_any _ _ _).mono ?_
      rintro e w1 ⟨rfl, hb⟩
      rw [h1]
      replace P1 := P1.below hb
      obtain ⟨c0, c1, c2, c3, c4, c5, c6, c7, c8, c9, c10, z1, z2, z3, z4, z5, z6, z7, z8, z9, z10⟩ := P1
      replace B := B.trans (hb.mono B.size)
      clear hb
      go_wp2_with fail
      go_ret
      exact ⟨rfl, B⟩
    · have e : fwB true x6 x7 x8 x9 = withinI x8 x9 x6 x7 := by simp [fwB, h1]
      rw [e]; clear e
      go_enter Try.func30, Try.ntmps30
      go_wp2_with fail
      refine (ok_any _ _ _).mono ?_
      rintro e w1 ⟨rfl, hb⟩
      rw [h1]
      replace P1 := P1.below hb
      obtain ⟨c0, c1, c2, c3, c4, c5, c6, c7, c8, c9, c10, z1, z2, z3, z4, z5, z6, z7, z8, z9, z10⟩ := P1
      replace B := B.trans (hb.mono B.size)
      clear hb
      go_wp2_with fail
      refine (implWithin_any _ _ _ _ _).mono ?_
      rintro e w2 ⟨rfl, hb⟩
      replace B := B.trans (hb.mono B.size)
      clear hb
      go_wp2_with fail
      go_ret
      exact ⟨rfl, B⟩
set_option maxRecDepth 100000 in
set_option maxHeartbeats 8000000 in
theorem specJudgeFuses_any (a : Option Addr) (n c : Nat) (M : Nat → TdT) (w : World) (hm : n ≤ maxLen) (hs : SrcC w a (n * 10) (MFTold M)) :
    Calls Try.prog 16 #[.slice a n c] w fun e w' => e = .returned (.bool (jfB M n)) ∧ Below w.heap.size w w' := by
  unfold maxLen at hm
  have HS : Hid (SrcC w a (n * 10) (MFTold M)) := hs
  clear hs
  by_cases h2 : n ≤ 200
  · rw [jfB_t h2]
    have hd : decide ((n : Int) > 200) = false := by simp; omega
    have hd2 : decide ((200 : Int) < (n : Int)) = false := by simp; omega
    go_enter Try.func16, Try.ntmps16
    go_wp2_with fail
    go_loopw [3] (fun i wr => ∃ k : Nat, k ≤ n ∧ i = .int .i64 k ∧ jfA M k = true ∧ Below w.heap.size w wr) (fun i _ => n - (intOf i).toNat)
    case atStart => exact ⟨0, Nat.zero_le _, rfl, rfl, Below.refl _ _⟩
    case round =>
      obtain ⟨k, hk, rfl, hA, hB⟩ := hrel
      have HA : Hid (jfA M k = true) := hA
      clear hA
      by_cases hlt : k < n
      · obtain ⟨b, off, rfl, hf⟩ := HS.out.someT (by omega)
        obtain ⟨x0, x1, x2, x3, x4, x5, x6, x7, x8, x9, hM⟩ := tupTold M k
        have hli : (k : Int) < (n : Int) := by omega
        have HT : Hid ((!dnB x0 x2 7 || fwB x5 x6 x7 x8 x9) = true → jfA M (k + 1) = true) := fun h => jfA_t HA.out (by rw [hM]; exact h)
        have HF : Hid ((!dnB x0 x2 7 || fwB x5 x6 x7 x8 x9) = false → jfA M n = false) := fun h => jfA_f hlt (by rw [hM]; exact h)
        obtain ⟨c0, c1, c2, c3, c4, c5, c6, c7, c8, c9⟩ := (hf.below hB hf.1).elTold hlt hM
        have hbr : b < wr.heap.size := Nat.lt_of_lt_of_le hf.1 hB.size
        clear hM
        have P1 := Tx10.new wr (.int .i64 x0) (.int .i64 x1) (.int .i64 x2) (.int .i64 x3) (.bool x4) (.bool x5) (.int .i64 x6) (.int .i64 x7) (.int .i64 x8) (.int .i64 x9) 39
        have B1 := hB.alloc hB.size (.cells #[.int .i64 x0, .int .i64 x1, .int .i64 x2, .int .i64 x3, .bool x4, .bool x5, .int .i64 x6, .int .i64 x7, .int .i64 x8, .int .i64 x9] 39)
        go_upto_region 7 with fail
        generalize wr.alloc (.cells #[.int .i64 x0, .int .i64 x1, .int .i64 x2, .int .i64 x3, .bool x4, .bool x5, .int .i64 x6, .int .i64 x7, .int .i64 x8, .int .i64 x9] 39) = w1 at *
        clear hB c0 c1 c2 c3 c4 c5 c6 c7 c8 c9 hbr
        by_cases h3 : x0 = 7
        · have h3' : (x0 == 7) = true := by simp [h3]
          by_cases h4 : x2 = 0
          · have h4' : (x2 == 0) = true := by simp [h4]
            have hdn : dnB x0 x2 7 = true := by simp [dnB, h3, h4]
            rw [hdn] at HT HF
            clear hdn h3 h4
            obtain ⟨d0, d1, d2, d3, d4, d5, d6, d7, d8, d9, d10, f1, f2, f3, f4, f5, f6, f7, f8, f9, f10⟩ := id P1
            cases h5 : okI x8 x9
            · have HJ : Hid (jfA M n = false) := HF.out (by simp [fwB, h5])
              clear HT HF
              go_wp2_with fail
              refine (specIvalOk_any _ _ _).mono ?_
              rintro e w2 ⟨rfl, hb⟩
              rw [h5]
              clear d0 d1 d2 d3 d4 d5 d6 d7 d8 d9 d10 f1 f2 f3 f4 f5 f6 f7 f8 f9 f10
              replace P1 := P1.below hb
              replace B1 := B1.trans (hb.mono B1.size)
              clear hb
              obtain ⟨d0, d1, d2, d3, d4, d5, d6, d7, d8, d9, d10, f1, f2, f3, f4, f5, f6, f7, f8, f9, f10⟩ := id P1
              go_wp2_with fail
              go_ret
              exact ⟨ret_bool HJ.out.symm, B1⟩
            · cases x5
              · have HJ : Hid (jfA M (k + 1) = true) := HT.out (by simp [fwB, h5])
                clear HT HF
                go_wp2_with fail
                refine (specIvalOk_any _ _ _).mono ?_
                rintro e w2 ⟨rfl, hb⟩
                rw [h5]
                clear d0 d1 d2 d3 d4 d5 d6 d7 d8 d9 d10 f1 f2 f3 f4 f5 f6 f7 f8 f9 f10
                replace P1 := P1.below hb
                replace B1 := B1.trans (hb.mono B1.size)
                clear hb
                obtain ⟨d0, d1, d2, d3, d4, d5, d6, d7, d8, d9, d10, f1, f2, f3, f4, f5, f6, f7, f8, f9, f10⟩ := id P1
                go_wp2_with fail
                go_roundw
                case rel => exact ⟨k + 1, by omega, by go_num, HJ.out, B1⟩
                case measure => simp [intOf]; omega
              · cases h6 : withinI x8 x9 x6 x7
                · have HJ : Hid (jfA M n = false) := HF.out (by simp [fwB, h5, h6])
                  clear HT HF
                  go_wp2_with fail
                  refine (specIvalOk_any _ _ _).mono ?_
                  rintro e w2 ⟨rfl, hb⟩
                  rw [h5]
                  clear d0 d1 d2 d3 d4 d5 d6 d7 d8 d9 d10 f1 f2 f3 f4 f5 f6 f7 f8 f9 f10
                  replace P1 := P1.below hb
                  replace B1 := B1.trans (hb.mono B1.size)
                  clear hb
                  obtain ⟨d0, d1, d2, d3, d4, d5, d6, d7, d8, d9, d10, f1, f2, f3, f4, f5, f6, f7, f8, f9, f10⟩ := id P1
                  go_wp2_with fail
                  refine (specWithin_any _ _ _ _ _).mono ?_
                  rintro e w3 ⟨rfl, hb⟩
                  rw [h6]
                  clear d0 d1 d2 d3 d4 d5 d6 d7 d8 d9 d10 f1 f2 f3 f4 f5 f6 f7 f8 f9 f10
                  replace P1 := P1.below hb
                  replace B1 := B1.trans (hb.mono B1.size)
                  clear hb
                  obtain ⟨d0, d1, d2, d3, d4, d5, d6, d7, d8, d9, d10, f1, f2, f3, f4, f5, f6, f7, f8, f9, f10⟩ := id P1
                  go_wp2_with fail
                  go_ret
                  exact ⟨ret_bool HJ.out.symm, B1⟩
                · have HJ : Hid (jfA M (k + 1) = true) := HT.out (by simp [fwB, h5, h6])
                  clear HT HF
                  go_wp2_with fail
                  refine (specIvalOk_any _ _ _).mono ?_
                  rintro e w2 ⟨rfl, hb⟩
                  rw [h5]
                  clear d0 d1 d2 d3 d4 d5 d6 d7 d8 d9 d10 f1 f2 f3 f4 f5 f6 f7 f8 f9 f10
                  replace P1 := P1.below hb
                  replace B1 := B1.trans (hb.mono B1.size)
                  clear hb
                  obtain ⟨d0, d1, d2, d3, d4, d5, d6, d7, d8, d9, d10, f1, f2, f3, f4, f5, f6, f7, f8, f9, f10⟩ := id P1
                  go_wp2_with fail
                  refine (specWithin_any _ _ _ _ _).mono ?_
                  rintro e w3 ⟨rfl, hb⟩
                  rw [h6]
                  clear d0 d1 d2 d3 d4 d5 d6 d7 d8 d9 d10 f1 f2 f3 f4 f5 f6 f7 f8 f9 f10
                  replace P1 := P1.below hb
                  replace B1 := B1.trans (hb.mono B1.size)
                  clear hb
                  obtain ⟨d0, d1, d2, d3, d4, d5, d6, d7, d8, d9, d10, f1, f2, f3, f4, f5, f6, f7, f8, f9, f10⟩ := id P1
                  go_wp2_with fail
                  go_roundw
                  case rel => exact ⟨k + 1, by omega, by go_num, HJ.out, B1⟩
                  case measure => simp [intOf]; omega
          · have h4' : (x2 == 0) = false := by simp [h4]
            have HJ : Hid (jfA M (k + 1) = true) := HT.out (by simp [dnB, h4])
            clear HT HF h3 h4
            obtain ⟨d0, d1, d2, d3, d4, d5, d6, d7, d8, d9, d10, f1, f2, f3, f4, f5, f6, f7, f8, f9, f10⟩ := id P1
            go_wp2_with fail
            go_roundw
            case rel => exact ⟨k + 1, by omega, by go_num, HJ.out, B1⟩
            case measure => simp [intOf]; omega
        · have h3' : (x0 == 7) = false := by simp [h3]
          have HJ : Hid (jfA M (k + 1) = true) := HT.out (by simp [dnB, h3])
          clear HT HF h3
          obtain ⟨d0, d1, d2, d3, d4, d5, d6, d7, d8, d9, d10, f1, f2, f3, f4, f5, f6, f7, f8, f9, f10⟩ := id P1
          go_wp2_with fail
          go_roundw
          case rel => exact ⟨k + 1, by omega, by go_num, HJ.out, B1⟩
          case measure => simp [intOf]; omega
      · have hkn : k = n := by omega
        subst hkn
        have hli : ¬ (k : Int) < (k : Int) := by omega
        go_wp2_with fail
        go_ret
        exact ⟨ret_bool HA.out.symm, hB⟩
  · rw [jfB_f h2]
    have hd : decide ((n : Int) > 200) = true := by simp; omega
    have hd2 : decide ((200 : Int) < (n : Int)) = true := by simp; omega
    go_enter Try.func16, Try.ntmps16
    go_wp2_with fail
    go_ret
    exact ⟨rfl, Below.refl _ _⟩
set_option maxRecDepth 100000 in
set_option maxHeartbeats 8000000 in
theorem implJudgeFuses_any (a : Option Addr) (n c : Nat) (M : Nat → TdT) (w : World) (hm : n ≤ maxLen) (hs : SrcC w a (n * 10) (MFTold M)) :
    Calls Try.prog 17 #[.slice a n c] w fun e w' => e = .returned (.bool (jfB M n)) ∧ Below w.heap.size w w' := by
  unfold maxLen at hm
  have HS : Hid (SrcC w a (n * 10) (MFTold M)) := hs
  clear hs
  by_cases h2 : n ≤ 200
  · rw [jfB_t h2]
    have hd : decide ((n : Int) > 200) = false := by simp; omega
    have hd2 : decide ((200 : Int) < (n : Int)) = false := by simp; omega
    go_enter Try.func17, Try.ntmps17
    go_wp2_with fail
    go_loopw [10] (fun i wr => ∃ k : Nat, k ≤ n ∧ i = .int .i64 k ∧ jfA M k = true ∧ Below w.heap.size w wr) (fun i _ => n - (intOf i).toNat)
    case atStart => exact ⟨0, Nat.zero_le _, rfl, rfl, Below.refl _ _⟩
    case round =>
      obtain ⟨k, hk, rfl, hA, hB⟩ := hrel
      have HA : Hid (jfA M k = true) := hA
      clear hA
      by_cases hlt : k < n
      · obtain ⟨b, off, rfl, hf⟩ := HS.out.someT (by omega)
        obtain ⟨x0, x1, x2, x3, x4, x5, x6, x7, x8, x9, hM⟩ := tupTold M k
        have hli : (k : Int) < (n : Int) := by omega
        have HT : Hid ((!dnB x0 x2 7 || fwB x5 x6 x7 x8 x9) = true → jfA M (k + 1) = true) := fun h => jfA_t HA.out (by rw [hM]; exact h)
        have HF : Hid ((!dnB x0 x2 7 || fwB x5 x6 x7 x8 x9) = false → jfA M n = false) := fun h => jfA_f hlt (by rw [hM]; exact h)
        obtain ⟨c0, c1, c2, c3, c4, c5, c6, c7, c8, c9⟩ := (hf.below hB hf.1).elTold hlt hM
        have hbr : b < wr.heap.size := Nat.lt_of_lt_of_le hf.1 hB.size
        clear hM
        have P1 := Tx10.new wr (.int .i64 x0) (.int .i64 x1) (.int .i64 x2) (.int .i64 x3) (.bool x4) (.bool x5) (.int .i64 x6) (.int .i64 x7) (.int .i64 x8) (.int .i64 x9) 39
        have B1 := hB.alloc hB.size (.cells #[.int .i64 x0, .int .i64 x1, .int .i64 x2, .int .i64 x3, .bool x4, .bool x5, .int .i64 x6, .int .i64 x7, .int .i64 x8, .int .i64 x9] 39)
        go_upto_region 6 with fail
        generalize wr.alloc (.cells #[.int .i64 x0, .int .i64 x1, .int .i64 x2, .int .i64 x3, .bool x4, .bool x5, .int .i64 x6, .int .i64 x7, .int .i64 x8, .int .i64 x9] 39) = w1 at *
        clear hB c0 c1 c2 c3 c4 c5 c6 c7 c8 c9 hbr
        cases h3 : dnB x0 x2 7
        · have HJ : Hid (jfA M (k + 1) = true) := HT.out (by simp [h3])
          clear HT HF
          obtain ⟨d0, d1, d2, d3, d4, d5, d6, d7, d8, d9, d10, f1, f2, f3, f4, f5, f6, f7, f8, f9, f10⟩ := id P1
          go_wp2_with fail
          refine (isDone_any _ _ _ _ _ _ _ _ _ _ _ _).mono ?_
          rintro e w2 ⟨rfl, hb⟩
          rw [h3]
          clear d0 d1 d2 d3 d4 d5 d6 d7 d8 d9 d10 f1 f2 f3 f4 f5 f6 f7 f8 f9 f10
          replace P1 := P1.below hb
          replace B1 := B1.trans (hb.mono B1.size)
          clear hb
          obtain ⟨d0, d1, d2, d3, d4, d5, d6, d7, d8, d9, d10, f1, f2, f3, f4, f5, f6, f7, f8, f9, f10⟩ := id P1
          go_wp2_with fail
          go_roundw
          case rel => exact ⟨k + 1, by omega, by go_num, HJ.out, B1⟩
          case measure => simp [intOf]; omega
        · cases h4 : fwB x5 x6 x7 x8 x9
          · have HJ : Hid (jfA M n = false) := HF.out (by simp [h3, h4])
            clear HT HF
            obtain ⟨d0, d1, d2, d3, d4, d5, d6, d7, d8, d9, d10, f1, f2, f3, f4, f5, f6, f7, f8, f9, f10⟩ := id P1
            go_wp2_with fail
            refine (isDone_any _ _ _ _ _ _ _ _ _ _ _ _).mono ?_
            rintro e w2 ⟨rfl, hb⟩
            rw [h3]
            clear d0 d1 d2 d3 d4 d5 d6 d7 d8 d9 d10 f1 f2 f3 f4 f5 f6 f7 f8 f9 f10
            replace P1 := P1.below hb
            replace B1 := B1.trans (hb.mono B1.size)
            clear hb
            obtain ⟨d0, d1, d2, d3, d4, d5, d6, d7, d8, d9, d10, f1, f2, f3, f4, f5, f6, f7, f8, f9, f10⟩ := id P1
            go_wp2_with fail
            refine (fusedWell_any _ _ _ _ _ _ _ _ _ _ _).mono ?_
            rintro e w3 ⟨rfl, hb⟩
            rw [h4]
            clear d0 d1 d2 d3 d4 d5 d6 d7 d8 d9 d10 f1 f2 f3 f4 f5 f6 f7 f8 f9 f10
            replace P1 := P1.below hb
            replace B1 := B1.trans (hb.mono B1.size)
            clear hb
            obtain ⟨d0, d1, d2, d3, d4, d5, d6, d7, d8, d9, d10, f1, f2, f3, f4, f5, f6, f7, f8, f9, f10⟩ := id P1
            go_wp2_with fail
            go_ret
            exact ⟨ret_bool HJ.out.symm, B1⟩
          · have HJ : Hid (jfA M (k + 1) = true) := HT.out (by simp [h3, h4])
            clear HT HF
            obtain ⟨d0, d1, d2, d3, d4, d5, d6, d7, d8, d9, d10, f1, f2, f3, f4, f5, f6, f7, f8, f9, f10⟩ := id P1
            go_wp2_with fail
            refine (isDone_any _ _ _ _ _ _ _ _ _ _ _ _).mono ?_
            rintro e w2 ⟨rfl, hb⟩
            rw [h3]
            clear d0 d1 d2 d3 d4 d5 d6 d7 d8 d9 d10 f1 f2 f3 f4 f5 f6 f7 f8 f9 f10
            replace P1 := P1.below hb
            replace B1 := B1.trans (hb.mono B1.size)
            clear hb
            obtain ⟨d0, d1, d2, d3, d4, d5, d6, d7, d8, d9, d10, f1, f2, f3, f4, f5, f6, f7, f8, f9, f10⟩ := id P1
            go_wp2_with fail
            refine (fusedWell_any _ _ _ _ _ _ _ _ _ _ _).mono ?_
            rintro e w3 ⟨rfl, hb⟩
            rw [h4]
            clear d0 d1 d2 d3 d4 d5 d6 d7 d8 d9 d10 f1 f2 f3 f4 f5 f6 f7 f8 f9 f10
            replace P1 := P1.below hb
            replace B1 := B1.trans (hb.mono B1.size)
            clear hb
            obtain ⟨d0, d1, d2, d3, d4, d5, d6, d7, d8, d9, d10, f1, f2, f3, f4, f5, f6, f7, f8, f9, f10⟩ := id P1
            go_wp2_with fail
            go_roundw
            case rel => exact ⟨k + 1, by omega, by go_num, HJ.out, B1⟩
            case measure => simp [intOf]; omega
      · have hkn : k = n := by omega
        subst hkn
        have hli : ¬ (k : Int) < (k : Int) := by omega
        go_wp2_with fail
        go_ret
        exact ⟨ret_bool HA.out.symm, hB⟩
  · rw [jfB_f h2]
    have hd : decide ((n : Int) > 200) = true := by simp; omega
    have hd2 : decide ((200 : Int) < (n : Int)) = true := by simp; omega
    go_enter Try.func17, Try.ntmps17
    go_wp2_with fail
    go_ret
    exact ⟨rfl, Below.refl _ _⟩
end Go.Proofs.Ytbicpkelejjnjaa
