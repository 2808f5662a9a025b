/- HeardOk in the program. -/
import Derived.Test.YtdahabbdhjgpdaaDoorS161
import Derived.Deep.RegionHeld3
import Derived.Deep.DeepCutAuto
import Derived.WalkKit
import Derived.WalkSpells
import Derived.WalkLawsBesides
import Derived.Deep.RegionHeld
namespace Go.Proofs.YtdahabbdhjgpdaaDoor
open Go.RowKit
set_option linter.unusedVariables false
/- The last slot so far. -/
def lstI (M : Nat → VT) : Nat → Int
  | 0 => -1
  | j + 1 => (M j).1
theorem lst_ge {M : Nat → VT} : ∀ {k : Nat}, hrA M k = true → (k : Int) - 1 ≤ lstI M k
  | 0, _ => by show (0 : Int) - 1 ≤ -1; decide
  | k + 1, h => by
    have h1 := hrA_at h (Nat.lt_succ_self k)
    have h0 : hrA M k = true := by
      cases e : hrA M k
      · rw [hrA, e, Bool.false_and] at h; exact absurd h (by decide)
      · rfl
    have ih := lst_ge h0
    have h2 := hrO_t h1.1
    show ((k + 1 : Nat) : Int) - 1 ≤ (M k).1
    cases k with
    | zero => omega
    | succ j =>
      have h3 : (M j).1 < (M (j + 1)).1 := by
        rcases h1.2 with q | q
        · omega
        · simpa using q
      have ih' : ((j + 1 : Nat) : Int) - 1 ≤ (M j).1 := ih
      omega
theorem hr_sixteen {M : Nat → VT} {n : Nat} (h : hrA M n = true) : hrB M n = true := by
  unfold hrB
  rw [h, Bool.and_true]
  refine decide_eq_true ?_
  cases n with
  | zero => omega
  | succ j =>
    have h1 := lst_ge h
    have h2 := hrO_t (hrA_at h (Nat.lt_succ_self j)).1
    have h3 : ((j + 1 : Nat) : Int) - 1 ≤ (M j).1 := h1
    omega
theorem hr_step {M : Nat → VT} {k : Nat} {x0 x1 : Int} (h : hrA M k = true) (hM : M k = (x0, x1)) : hrA M (k + 1) = (decide (lstI M k < x0) && (decide (x0 < 16) && okT x1)) := by
  have hl := lst_ge h
  rw [hrA, h, Bool.true_and, hM]
  unfold hrO
  cases k with
  | zero =>
    show (decide (0 ≤ x0 ∧ x0 ≤ 15) && okT x1 && (decide (0 = 0) || _)) = (decide ((-1 : Int) < x0) && (decide (x0 < 16) && okT x1))
    rw [Bool.eq_iff_iff]
    simp only [Bool.and_eq_true, Bool.or_eq_true, decide_eq_true_eq]
    constructor
    · rintro ⟨⟨h1, h2⟩, h3⟩; exact ⟨by omega, by omega, h2⟩
    · rintro ⟨h1, h2, h3⟩; exact ⟨⟨by omega, h3⟩, by first | trivial | exact Or.inl trivial | exact Or.inl rfl | simp⟩
  | succ j =>
    have hl' : ((j + 1 : Nat) : Int) - 1 ≤ (M j).1 := hl
    show (decide (0 ≤ x0 ∧ x0 ≤ 15) && okT x1 && (decide (j + 1 = 0) || decide ((M (j + 1 - 1)).1 < x0))) = (decide ((M j).1 < x0) && (decide (x0 < 16) && okT x1))
    rw [Nat.add_sub_cancel]
    generalize (M j).1 = z at *
    rw [Bool.eq_iff_iff]
    simp only [Bool.and_eq_true, Bool.or_eq_true, decide_eq_true_eq]
    constructor
    · rintro ⟨⟨h1, h2⟩, h3⟩; exact ⟨by omega, by omega, h2⟩
    · rintro ⟨h1, h2, h3⟩; exact ⟨⟨by omega, h3⟩, Or.inr h1⟩
set_option maxRecDepth 100000 in
set_option maxHeartbeats 8000000 in
theorem implHeardOk_any (a : Option Addr) (n c : Nat) (M : Nat → VT) (w : World) (hm : n ≤ maxLen) (hs : SrcC w a (n * 2) (MFIval M)) :
    Calls Tryd.prog 43 #[.slice a n c] w fun e w' => e = .returned (.bool (hrB M n)) ∧ Below w.heap.size w w' := by
  have HS : Hid (SrcC w a (n * 2) (MFIval M)) := hs
  clear hs
  unfold maxLen at hm
  go_enter Tryd.func43, Tryd.ntmps43
  go_wp2_with fail
  go_loopw [3, 8] (fun l i wr => ∃ (k : Nat), k ≤ n ∧ l = .int .i64 (lstI M k) ∧ i = .int .i64 k ∧ hrA M k = true ∧ Below w.heap.size w wr) (fun _ i _ => n - (intOf i).toNat)
  case atStart => exact ⟨0, Nat.zero_le _, rfl, rfl, rfl, Below.refl _ _⟩
  case round =>
    obtain ⟨k, hk, rfl, rfl, hA, B⟩ := hrel
    by_cases hlt : k < n
    · obtain ⟨x0, x1, hM⟩ := tupIval M k
      obtain ⟨b, off, rfl, hf⟩ : ∃ b off, a = some ⟨b, off, none⟩ ∧ Cs w b off (n * 2) (MFIval M) := by
        rcases HS.out with q | q
        · exact absurd q (by omega)
        · exact q
      obtain ⟨c0, c1⟩ := (hf.below B hf.1).elIval hlt hM
      have HLT : Hid (k < n) := hlt
      have hli : (k : Int) < (n : Int) := by omega
      have C1 := fun w' => isTime_any x1 w'
      have A1 := Below.nw wr (.cells #[.int .i64 x0, .int .i64 x1] 80)
      replace B := B.trans (A1.mono B.size)
      have HX : Hid (hrA M (k + 1) = (decide (lstI M k < x0) && (decide (x0 < 16) && okT x1))) := hr_step hA hM
      have HNX : Hid (lstI M (k + 1) = x0) := by rw [Hid, lstI, hM]
      generalize lstI M k = la at *
      clear hM hA hf A1 HS
      by_cases h1 : x0 ≤ la
      · have HN : Hid (hrA M (k + 1) = false) := by rw [Hid, HX.out, decide_eq_false (by omega)]; rfl
        clear HX HNX C1
        go_wp2_with fail
        go_ret
        exact ⟨ret_bool (hrB_no HN.out HLT.out).symm, B⟩
      by_cases h2 : 16 ≤ x0
      · have HN : Hid (hrA M (k + 1) = false) := by rw [Hid, HX.out, decide_eq_false (p := x0 < 16) (by omega)]; simp
        clear HX HNX C1
        go_wp2_with fail
        go_ret
        exact ⟨ret_bool (hrB_no HN.out HLT.out).symm, B⟩
      replace HX : Hid (hrA M (k + 1) = okT x1) := by rw [Hid, HX.out, decide_eq_true (p := x0 < 16) (by omega), decide_eq_true (p := la < x0) (by omega)]; rfl
      go_wp2_with fail
      refine (C1 _).mono ?_
      rintro e v1 ⟨rfl, rfl⟩
      cases h3 : okT x1
      · have HN : Hid (hrA M (k + 1) = false) := by rw [Hid, HX.out, h3]
        clear HX HNX C1
        go_wp2_with fail
        go_ret
        exact ⟨ret_bool (hrB_no HN.out HLT.out).symm, B⟩
      · have HT : Hid (hrA M (k + 1) = true) := by rw [Hid, HX.out, h3]
        clear HX C1
        go_wp2_with fail
        go_roundw
        case rel => exact ⟨k + 1, HLT.out, by rw [HNX.out], by go_num, HT.out, B⟩
        case measure => have hlt' := HLT.out; simp [intOf]; omega
    · have hkn : k = n := by omega
      subst hkn
      have hli : ¬ (k : Int) < (k : Int) := by omega
      have HR : Hid (hrB M k = true) := hr_sixteen hA
      clear hA
      go_wp2_with fail
      go_ret
      exact ⟨ret_bool HR.out.symm, B⟩
end Go.Proofs.YtdahabbdhjgpdaaDoor
