/- Contracts of WidthAt and KnownFor. -/
import Derived.Test.YtlfbbdeoejafkaaQ2b
import Derived.Test.YtlfbbdeoejafkaaQ3
import Derived.WalkKit
import Derived.WalkSpells
import Derived.WalkLawsBesides
import Derived.Deep.RegionHeld
namespace Go.Proofs.Ytlfbbdeoejafkaa
open Go.RowKit
set_option linter.unusedVariables false
def wdI (kn : Bool) (lo hi a n d c : Int) : Int := if crC kn lo hi a n d c = 0 then wideI (crL kn lo hi a n d c) (crH kn lo hi a n d c) else -1
set_option maxHeartbeats 4000000 in
theorem specWidthAt_any (kn : Bool) (lo hi a n d c : Int) (w : World) :
    Calls Try.prog 53 #[.agg #[.bool kn, .int .i64 lo, .int .i64 hi, .int .i64 a], .agg #[.int .i64 n, .int .i64 d], .int .i64 c] w fun e w' => e = .returned (.int .i64 (wdI kn lo hi a n d c)) ∧ Below w.heap.size w w' := by
  have CC := fun w' => specCarryOn_any kn lo hi a n d c w'
  by_cases hz : crC kn lo hi a n d c = 0
  · have e : wdI kn lo hi a n d c = wideI (crL kn lo hi a n d c) (crH kn lo hi a n d c) := by simp [wdI, hz]
    rw [e]
    rw [hz] at CC
    clear e hz
    generalize crL kn lo hi a n d c = X at *
    generalize crH kn lo hi a n d c = Y at *
    go_enter Try.func53, Try.ntmps53
    go_wp2_with (first | (go_at_call 11; refine (CC _).mono ?_; rintro e w' ⟨rfl, hb⟩; obtain ⟨hc, hf⟩ := bcell hb; (first | have hB := Below.trans (Below.trans hB (by repeat (first | exact Below.refl _ _ | refine Below.drew ?_ | refine Below.alloc ?_ (by first | (simp; done) | (simp; omega) | omega) _ | refine Below.setCell ?_ (by first | (simp; done) | (simp; omega) | omega) _ | refine Below.trans ?_ (Below.mono (by assumption) (by first | (simp; done) | (simp; omega) | omega))))) (Below.mono hb (by first | (simp; done) | (simp; omega) | omega)) | have hB := hb); obtain ⟨hC, hF⟩ := bcell hB; have hz := hb.size; (try simp at hz); (try (have hz0 : w.heap.size < w'.heap.size := by omega)); (try (have hz1 : w.heap.size + 1 < w'.heap.size := by omega)); (try (have hz2 : w.heap.size + 1 + 1 < w'.heap.size := by omega)); (try (have hz3 : w.heap.size + 1 + 1 + 1 < w'.heap.size := by omega))) | (go_at_call 73; refine (specWide_any _ _ _).mono ?_; rintro e w' ⟨rfl, hb⟩; obtain ⟨hc, hf⟩ := bcell hb; (first | have hB := Below.trans (Below.trans hB (by repeat (first | exact Below.refl _ _ | refine Below.drew ?_ | refine Below.alloc ?_ (by first | (simp; done) | (simp; omega) | omega) _ | refine Below.setCell ?_ (by first | (simp; done) | (simp; omega) | omega) _ | refine Below.trans ?_ (Below.mono (by assumption) (by first | (simp; done) | (simp; omega) | omega))))) (Below.mono hb (by first | (simp; done) | (simp; omega) | omega)) | have hB := hb); obtain ⟨hC, hF⟩ := bcell hB; have hz := hb.size; (try simp at hz); (try (have hz0 : w.heap.size < w'.heap.size := by omega)); (try (have hz1 : w.heap.size + 1 < w'.heap.size := by omega)); (try (have hz2 : w.heap.size + 1 + 1 < w'.heap.size := by omega)); (try (have hz3 : w.heap.size + 1 + 1 + 1 < w'.heap.size := by omega))))
    go_ret
    exact ⟨rfl, by repeat (first | exact Below.refl _ _ | refine Below.drew ?_ | refine Below.alloc ?_ (by first | (simp; done) | (simp; omega) | omega) _ | refine Below.setCell ?_ (by first | (simp; done) | (simp; omega) | omega) _ | refine Below.trans ?_ (Below.mono (by assumption) (by first | (simp; done) | (simp; omega) | omega)))⟩
  have e : wdI kn lo hi a n d c = -1 := by simp [wdI, hz]
  rw [e]
  clear e
  generalize crL kn lo hi a n d c = X at *
  generalize crH kn lo hi a n d c = Y at *
  generalize crC kn lo hi a n d c = Z at *
  go_enter Try.func53, Try.ntmps53
  go_wp2_with (first | (go_at_call 11; refine (CC _).mono ?_; rintro e w' ⟨rfl, hb⟩; obtain ⟨hc, hf⟩ := bcell hb; (first | have hB := Below.trans (Below.trans hB (by repeat (first | exact Below.refl _ _ | refine Below.drew ?_ | refine Below.alloc ?_ (by first | (simp; done) | (simp; omega) | omega) _ | refine Below.setCell ?_ (by first | (simp; done) | (simp; omega) | omega) _ | refine Below.trans ?_ (Below.mono (by assumption) (by first | (simp; done) | (simp; omega) | omega))))) (Below.mono hb (by first | (simp; done) | (simp; omega) | omega)) | have hB := hb); obtain ⟨hC, hF⟩ := bcell hB; have hz := hb.size; (try simp at hz); (try (have hz0 : w.heap.size < w'.heap.size := by omega)); (try (have hz1 : w.heap.size + 1 < w'.heap.size := by omega)); (try (have hz2 : w.heap.size + 1 + 1 < w'.heap.size := by omega)); (try (have hz3 : w.heap.size + 1 + 1 + 1 < w'.heap.size := by omega))) | (go_at_call 73; refine (specWide_any _ _ _).mono ?_; rintro e w' ⟨rfl, hb⟩; obtain ⟨hc, hf⟩ := bcell hb; (first | have hB := Below.trans (Below.trans hB (by repeat (first | exact Below.refl _ _ | refine Below.drew ?_ | refine Below.alloc ?_ (by first | (simp; done) | (simp; omega) | omega) _ | refine Below.setCell ?_ (by first | (simp; done) | (simp; omega) | omega) _ | refine Below.trans ?_ (Below.mono (by assumption) (by first | (simp; done) | (simp; omega) | omega))))) (Below.mono hb (by first | (simp; done) | (simp; omega) | omega)) | have hB := hb); obtain ⟨hC, hF⟩ := bcell hB; have hz := hb.size; (try simp at hz); (try (have hz0 : w.heap.size < w'.heap.size := by omega)); (try (have hz1 : w.heap.size + 1 < w'.heap.size := by omega)); (try (have hz2 : w.heap.size + 1 + 1 < w'.heap.size := by omega)); (try (have hz3 : w.heap.size + 1 + 1 + 1 < w'.heap.size := by omega))))
  go_ret
  exact ⟨rfl, by repeat (first | exact Below.refl _ _ | refine Below.drew ?_ | refine Below.alloc ?_ (by first | (simp; done) | (simp; omega) | omega) _ | refine Below.setCell ?_ (by first | (simp; done) | (simp; omega) | omega) _ | refine Below.trans ?_ (Below.mono (by assumption) (by first | (simp; done) | (simp; omega) | omega)))⟩
set_option maxHeartbeats 4000000 in
theorem widthBy_any (k : Nat) (kn : Bool) (lo hi a n d c : Int) (w : World) (H : BoxL w k kn lo hi a) :
    Calls Try.prog 54 #[.func (.func 32) #[.pointer (some ⟨k, 0, none⟩)] #[], .agg #[.int .i64 n, .int .i64 d], .int .i64 c] w fun e w' => e = .returned (.int .i64 (wdI kn lo hi a n d c)) ∧ Below w.heap.size w w' := by
  have CC := fun v H' => carry_any k kn lo hi a n d c v H'
  have B : Below w.heap.size w (w.alloc (.cells #[.int .i64 n, .int .i64 d] 25)) := Below.alc _ _
  replace H := H.below B
  by_cases hz : crC kn lo hi a n d c = 0
  · have e : wdI kn lo hi a n d c = wideI (crL kn lo hi a n d c) (crH kn lo hi a n d c) := by simp [wdI, hz]
    rw [e]
    rw [hz] at CC
    clear e hz
    generalize crL kn lo hi a n d c = X at *
    generalize crH kn lo hi a n d c = Y at *
    go_enter Try.func54, Try.ntmps54
    go_wp2_with fail
    refine (CC _ H).mono ?_
    rintro e v ⟨rfl, hb⟩
    replace B := B.trans (hb.mono B.size)
    clear hb H CC
    have B1 := B.alloc B.size (.cells #[.int .i64 X, .int .i64 Y] 35)
    go_wp2_with fail
    refine (implWide_any _ _ _).mono ?_
    rintro e v2 ⟨rfl, hb⟩
    replace B1 := B1.trans (hb.mono B1.size)
    clear hb
    go_wp2
    go_ret
    exact ⟨rfl, B1⟩
  have e : wdI kn lo hi a n d c = -1 := by simp [wdI, hz]
  rw [e]
  clear e
  generalize crL kn lo hi a n d c = X at *
  generalize crH kn lo hi a n d c = Y at *
  generalize crC kn lo hi a n d c = Z at *
  go_enter Try.func54, Try.ntmps54
  go_wp2_with fail
  refine (CC _ H).mono ?_
  rintro e v ⟨rfl, hb⟩
  replace B := B.trans (hb.mono B.size)
  clear hb H CC
  have B1 := B.alloc B.size (.cells #[.int .i64 X, .int .i64 Y] 35)
  go_wp2
  go_ret
  exact ⟨rfl, B1⟩
set_option maxHeartbeats 4000000 in
theorem implWidthAt_any (kn : Bool) (lo hi a n d c : Int) (w : World) :
    Calls Try.prog 23 #[.agg #[.bool kn, .int .i64 lo, .int .i64 hi, .int .i64 a], .agg #[.int .i64 n, .int .i64 d], .int .i64 c] w fun e w' => e = .returned (.int .i64 (wdI kn lo hi a n d c)) ∧ Below w.heap.size w w' := by
  have B : Below w.heap.size w ((w.alloc (.cells #[.bool kn, .int .i64 lo, .int .i64 hi, .int .i64 a] 39)).alloc (.cells #[.int .i64 n, .int .i64 d] 25)) := (Below.alc _ _).alloc (by first | (simp; done) | (simp; omega) | omega) _
  have H := (BoxL.new w kn lo hi a 39).alloc (.cells #[.int .i64 n, .int .i64 d] 25)
  have CC := fun v H' => widthBy_any w.heap.size kn lo hi a n d c v H'
  generalize wdI kn lo hi a n d c = X at *
  go_enter Try.func23, Try.ntmps23
  go_wp2_with fail
  refine (CC _ H).mono ?_
  rintro e v ⟨rfl, hb⟩
  replace B := B.trans (hb.mono B.size)
  clear hb H CC
  go_wp2
  go_ret
  exact ⟨rfl, B⟩
def bst (g : Nat → Bool) : Nat → Int | 0 => -1 | k + 1 => if g k then (k : Int) else bst g k
theorem bst_t {g : Nat → Bool} {k : Nat} (h : g k = true) : bst g (k + 1) = (k : Int) := by simp [bst, h]
theorem bst_f {g : Nat → Bool} {k : Nat} (h : g k = false) : bst g (k + 1) = bst g k := by simp [bst, h]
theorem bst_rng (g : Nat → Bool) : ∀ k, -1 ≤ bst g k ∧ bst g k < (k : Int) ∨ k = 0 ∧ bst g k = -1 := by
  intro k; induction k with
  | zero => exact .inr ⟨rfl, rfl⟩
  | succ k ih => left; cases h : g k
                 · rw [bst_f h]; omega
                 · rw [bst_t h]; omega
def kfG (lo hi a n d m : Int) (k : Nat) : Bool := decide (0 ≤ wdI true lo hi a n d (a + k) ∧ wdI true lo hi a n d (a + k) ≤ m)
def kfO (kn : Bool) (lo hi a : Int) : Bool := kn && okL kn lo hi a
def kfB (kn : Bool) (lo hi a n d m : Int) : Bool := kfO kn lo hi a && decide (0 ≤ bst (kfG lo hi a n d m) 4001)
def kfN (kn : Bool) (lo hi a n d m : Int) : Int := if kfB kn lo hi a n d m then bst (kfG lo hi a n d m) 4001 else 0
theorem kf_no {kn : Bool} {lo hi a n d m : Int} (h : kfO kn lo hi a = false) : kfB kn lo hi a n d m = false ∧ kfN kn lo hi a n d m = 0 := by
  have e : kfB kn lo hi a n d m = false := by simp [kfB, h]
  exact ⟨e, by simp [kfN, e]⟩
theorem kf_lt {kn : Bool} {lo hi a n d m : Int} (h : bst (kfG lo hi a n d m) 4001 < 0) : kfB kn lo hi a n d m = false ∧ kfN kn lo hi a n d m = 0 := by
  have e : kfB kn lo hi a n d m = false := by simp [kfB]; intro _; omega
  exact ⟨e, by simp [kfN, e]⟩
theorem kf_ge {kn : Bool} {lo hi a n d m z : Int} (ho : kfO kn lo hi a = true) (e : bst (kfG lo hi a n d m) 4001 = z) (h : 0 ≤ z) : kfB kn lo hi a n d m = true ∧ kfN kn lo hi a n d m = z := by
  have e1 : kfB kn lo hi a n d m = true := by simp [kfB, ho, e, h]
  exact ⟨e1, by simp [kfN, e1, e]⟩
set_option maxRecDepth 100000 in
set_option maxHeartbeats 4000000 in
theorem specKnownFor_any (kn : Bool) (lo hi a n d m : Int) (w : World) :
    Calls Try.prog 22 #[.agg #[.bool kn, .int .i64 lo, .int .i64 hi, .int .i64 a], .agg #[.int .i64 n, .int .i64 d], .int .i64 m] w fun e w' => e = .returned (.tuple #[.int .i64 (kfN kn lo hi a n d m), .bool (kfB kn lo hi a n d m)]) ∧ Below w.heap.size w w' := by
  have B : Below w.heap.size w ((w.alloc (.cells #[.bool kn, .int .i64 lo, .int .i64 hi, .int .i64 a] 39)).alloc (.cells #[.int .i64 n, .int .i64 d] 25)) := (Below.alc _ _).alloc (by first | (simp; done) | (simp; omega) | omega) _
  have H := (BoxL.new w kn lo hi a 39).alloc (.cells #[.int .i64 n, .int .i64 d] 25)
  have Q := Bx.new (w.alloc (.cells #[.bool kn, .int .i64 lo, .int .i64 hi, .int .i64 a] 39)) n d 25
  simp only [World.size_alloc] at Q
  cases kn
  · obtain ⟨e1, e2⟩ := kf_no (n := n) (d := d) (m := m) (show kfO false lo hi a = false from rfl)
    rw [e1, e2]
    clear e1 e2
    go_enter Try.func22, Try.ntmps22
    go_wp2
    go_ret2
    exact ⟨rfl, B⟩
  have CO := fun w' => specLocalOk_any true lo hi a w'
  cases ho : okL true lo hi a
  · obtain ⟨e1, e2⟩ := kf_no (n := n) (d := d) (m := m) (show kfO true lo hi a = false by simp [kfO, ho])
    rw [e1, e2]
    rw [ho] at CO
    clear e1 e2 ho
    go_enter Try.func22, Try.ntmps22
    go_wp2_with fail
    refine (CO _).mono ?_
    rintro e v ⟨rfl, hb⟩
    replace B := B.trans (hb.mono B.size)
    clear hb
    go_wp2
    go_ret2
    exact ⟨rfl, B⟩
  have HO : Hid (kfO true lo hi a = true) := by show kfO true lo hi a = true; simp [kfO, ho]
  obtain ⟨a1, a2⟩ := okT_t (okL_t ho).2
  rw [ho] at CO
  clear ho
  have CW : ∀ (z : Int) w', Calls Try.prog 53 #[.agg #[.bool true, .int .i64 lo, .int .i64 hi, .int .i64 a], .agg #[.int .i64 n, .int .i64 d], .int .i64 z] w' fun e w'' => e = .returned (.int .i64 (wdI true lo hi a n d z)) ∧ Below w'.heap.size w' w'' := fun z w' => specWidthAt_any true lo hi a n d z w'
  go_enter Try.func22, Try.ntmps22
  go_wp2_with fail
  refine (CO _).mono ?_
  rintro e v ⟨rfl, hb⟩
  replace B := B.trans (hb.mono B.size)
  replace H := H.below hb
  replace Q := Q.below hb
  clear hb CO
  go_wp2_with fail
  go_loopw [8, 9] (fun s8 s9 wr => ∃ k : Nat, k ≤ 4001 ∧ s9 = .int .i64 (k : Int) ∧ s8 = .int .i64 (bst (kfG lo hi a n d m) k) ∧ BoxL wr w.heap.size true lo hi a ∧ Bx wr (w.heap.size + 1) n d ∧ Below w.heap.size w wr) (fun _ i _ => 4001 - (intOf i).toNat)
  case atStart => exact ⟨0, by omega, rfl, rfl, H, Q, B⟩
  case round =>
    clear H Q B
    obtain ⟨k, hk, rfl, rfl, H, Q, B⟩ := hrel
    by_cases hlt : k < 4001
    · have hl : decide ((k : Int) ≤ 4000) = true := decide_eq_true (by omega)
      obtain ⟨h0, h1, h2, h3, h4, h5, h6, h7, h8⟩ := id H
      obtain ⟨q0, q1, q2, q3, q4⟩ := id Q
      go_wp2_with fail
      refine (CW _ _).mono ?_
      rintro e v2 ⟨rfl, hb⟩
      replace B := B.trans (hb.mono B.size)
      replace H := H.below hb
      replace Q := Q.below hb
      clear hb h0 h1 h2 h3 h4 h5 h6 h7 h8 q0 q1 q2 q3 q4
      have HG : Hid (kfG lo hi a n d m k = decide (0 ≤ wdI true lo hi a n d (a + k) ∧ wdI true lo hi a n d (a + k) ≤ m)) := rfl
      generalize wdI true lo hi a n d (a + (k : Int)) = W at *
      by_cases c1 : 0 ≤ W
      · have d1 : decide (0 ≤ W) = true := decide_eq_true c1
        by_cases c2 : W ≤ m
        · have d2 : decide (W ≤ m) = true := decide_eq_true c2
          have E := bst_t (HG.out.trans (decide_eq_true ⟨c1, c2⟩))
          replace E : Hid (bst (kfG lo hi a n d m) (k + 1) = (k : Int)) := E
          clear HG
          go_wp2
          go_roundw
          case rel => exact ⟨k + 1, by omega, by go_num, by rw [E.out], H, Q, B⟩
          case measure => simp [intOf]; omega
        · have d2 : decide (W ≤ m) = false := decide_eq_false c2
          have E := bst_f (HG.out.trans (decide_eq_false (fun h => c2 h.2)))
          replace E : Hid (bst (kfG lo hi a n d m) (k + 1) = bst (kfG lo hi a n d m) k) := E
          clear HG
          go_wp2
          go_roundw
          case rel => exact ⟨k + 1, by omega, by go_num, by rw [E.out], H, Q, B⟩
          case measure => simp [intOf]; omega
      · have d1 : decide (0 ≤ W) = false := decide_eq_false c1
        have E := bst_f (HG.out.trans (decide_eq_false (fun h => c1 h.1)))
        replace E : Hid (bst (kfG lo hi a n d m) (k + 1) = bst (kfG lo hi a n d m) k) := E
        clear HG
        go_wp2
        go_roundw
        case rel => exact ⟨k + 1, by omega, by go_num, by rw [E.out], H, Q, B⟩
        case measure => simp [intOf]; omega
    · have hkm : k = 4001 := by omega
      subst hkm
      by_cases hz : bst (kfG lo hi a n d m) 4001 < 0
      · have F := kf_lt (kn := true) hz
        have F1 : Hid (kfB true lo hi a n d m = false ∧ kfN true lo hi a n d m = 0) := F
        clear F
        generalize bst (kfG lo hi a n d m) 4001 = z at *
        go_wp2
        go_ret2
        obtain ⟨e1, e2⟩ := F1.out
        rw [e1, e2]
        exact ⟨rfl, B⟩
      · have F := kf_ge HO.out rfl (Int.not_lt.mp hz)
        have F1 : Hid (kfB true lo hi a n d m = true ∧ kfN true lo hi a n d m = bst (kfG lo hi a n d m) 4001) := F
        clear F
        generalize bst (kfG lo hi a n d m) 4001 = z at *
        go_wp2
        go_ret2
        obtain ⟨e1, e2⟩ := F1.out
        rw [e1, e2]
        exact ⟨rfl, B⟩
set_option maxRecDepth 100000 in
set_option maxHeartbeats 4000000 in
theorem longestBy_any (k0 : Nat) (lo hi a n d m : Int) (w : World) (H : BoxL w k0 true lo hi a) (ho : kfO true lo hi a = true) :
    Calls Try.prog 52 #[.func (.func 32) #[.pointer (some ⟨k0, 0, none⟩)] #[], .agg #[.int .i64 n, .int .i64 d], .int .i64 a, .int .i64 m] w fun e w' => e = .returned (.tuple #[.int .i64 (kfN true lo hi a n d m), .bool (kfB true lo hi a n d m)]) ∧ Below w.heap.size w w' := by
  have B : Below w.heap.size w (w.alloc (.cells #[.int .i64 n, .int .i64 d] 25)) := Below.alc _ _
  have Q := Bx.new w n d 25
  replace H := H.below B
  have HO : Hid (kfO true lo hi a = true) := ho
  have h1 : okL true lo hi a = true := by simpa [kfO] using ho
  obtain ⟨a1, a2⟩ := okT_t (okL_t h1).2
  clear ho h1
  have CW : ∀ (z : Int) w', BoxL w' k0 true lo hi a → Calls Try.prog 54 #[.func (.func 32) #[.pointer (some ⟨k0, 0, none⟩)] #[], .agg #[.int .i64 n, .int .i64 d], .int .i64 z] w' fun e w'' => e = .returned (.int .i64 (wdI true lo hi a n d z)) ∧ Below w'.heap.size w' w'' := fun z w' H' => widthBy_any k0 true lo hi a n d z w' H'
  go_enter Try.func52, Try.ntmps52
  go_wp2_with fail
  go_loopw [10] (fun s10 wr => ∃ k : Nat, k ≤ 4001 ∧ s10 = .int .i64 ((k : Int) - 1) ∧ bst (kfG lo hi a n d m) 4001 = bst (kfG lo hi a n d m) k ∧ BoxL wr k0 true lo hi a ∧ Bx wr w.heap.size n d ∧ Below w.heap.size w wr) (fun i _ => (intOf i + 1).toNat)
  case atStart => exact ⟨4001, by omega, by go_num, rfl, H, Q, B⟩
  case round =>
    clear H Q B
    obtain ⟨k, hk, rfl, hE, H, Q, B⟩ := hrel
    have HE : Hid (bst (kfG lo hi a n d m) 4001 = bst (kfG lo hi a n d m) k) := hE
    clear hE
    cases k with
    | zero =>
      have F := kf_lt (kn := true) (lo := lo) (hi := hi) (a := a) (n := n) (d := d) (m := m) (by rw [HE.out]; show (-1 : Int) < 0; decide)
      have F1 : Hid (kfB true lo hi a n d m = false ∧ kfN true lo hi a n d m = 0) := F
      clear F
      go_wp2
      go_ret2
      obtain ⟨e1, e2⟩ := F1.out
      rw [e1, e2]
      exact ⟨rfl, B⟩
    | succ k =>
      have ek : ((k + 1 : Nat) : Int) - 1 = (k : Int) := by omega
      rw [ek]
      have hl : decide (0 ≤ (k : Int)) = true := decide_eq_true (by omega)
      obtain ⟨q0, q1, q2, q3, q4⟩ := id Q
      go_wp2_with fail
      refine (CW _ _ H).mono ?_
      rintro e v2 ⟨rfl, hb⟩
      replace B := B.trans (hb.mono B.size)
      replace H := H.below hb
      replace Q := Q.below hb
      clear hb q0 q1 q2 q3 q4
      have HG : Hid (kfG lo hi a n d m k = decide (0 ≤ wdI true lo hi a n d (a + k) ∧ wdI true lo hi a n d (a + k) ≤ m)) := rfl
      generalize wdI true lo hi a n d (a + (k : Int)) = W at *
      by_cases c1 : 0 ≤ W
      · have d1 : decide (0 ≤ W) = true := decide_eq_true c1
        by_cases c2 : W ≤ m
        · have d2 : decide (W ≤ m) = true := decide_eq_true c2
          have E := bst_t (HG.out.trans (decide_eq_true ⟨c1, c2⟩))
          have F := kf_ge HO.out (HE.out.trans E) (by omega)
          have F1 : Hid (kfB true lo hi a n d m = true ∧ kfN true lo hi a n d m = (k : Int)) := F
          clear HG E HE F
          go_wp2
          go_ret2
          obtain ⟨e1, e2⟩ := F1.out
          rw [e1, e2]
          exact ⟨rfl, B⟩
        · have d2 : decide (W ≤ m) = false := decide_eq_false c2
          have E := bst_f (HG.out.trans (decide_eq_false (fun h => c2 h.2)))
          replace E : Hid (bst (kfG lo hi a n d m) 4001 = bst (kfG lo hi a n d m) k) := HE.out.trans E
          clear HG HE
          go_wp2
          go_roundw
          case rel => exact ⟨k, by omega, by go_num, E.out, H, Q, B⟩
          case measure => simp [intOf]
      · have d1 : decide (0 ≤ W) = false := decide_eq_false c1
        have E := bst_f (HG.out.trans (decide_eq_false (fun h => c1 h.1)))
        replace E : Hid (bst (kfG lo hi a n d m) 4001 = bst (kfG lo hi a n d m) k) := HE.out.trans E
        clear HG HE
        go_wp2
        go_roundw
        case rel => exact ⟨k, by omega, by go_num, E.out, H, Q, B⟩
        case measure => simp [intOf]
set_option maxHeartbeats 4000000 in
theorem implKnownFor_any (kn : Bool) (lo hi a n d m : Int) (w : World) :
    Calls Try.prog 21 #[.agg #[.bool kn, .int .i64 lo, .int .i64 hi, .int .i64 a], .agg #[.int .i64 n, .int .i64 d], .int .i64 m] w fun e w' => e = .returned (.tuple #[.int .i64 (kfN kn lo hi a n d m), .bool (kfB kn lo hi a n d m)]) ∧ Below w.heap.size w w' := by
  have B : Below w.heap.size w ((w.alloc (.cells #[.bool kn, .int .i64 lo, .int .i64 hi, .int .i64 a] 39)).alloc (.cells #[.int .i64 n, .int .i64 d] 25)) := (Below.alc _ _).alloc (by first | (simp; done) | (simp; omega) | omega) _
  have H := (BoxL.new w kn lo hi a 39).alloc (.cells #[.int .i64 n, .int .i64 d] 25)
  have Q := Bx.new (w.alloc (.cells #[.bool kn, .int .i64 lo, .int .i64 hi, .int .i64 a] 39)) n d 25
  simp only [World.size_alloc] at Q
  cases kn
  · obtain ⟨e1, e2⟩ := kf_no (n := n) (d := d) (m := m) (show kfO false lo hi a = false from rfl)
    rw [e1, e2]
    clear e1 e2
    go_enter Try.func21, Try.ntmps21
    go_wp2
    go_ret2
    exact ⟨rfl, B⟩
  have CO := fun w' H' => ptrOk_any w.heap.size true lo hi a w' H'
  cases ho : okL true lo hi a
  · obtain ⟨e1, e2⟩ := kf_no (n := n) (d := d) (m := m) (show kfO true lo hi a = false by simp [kfO, ho])
    rw [e1, e2]
    rw [ho] at CO
    clear e1 e2 ho
    go_enter Try.func21, Try.ntmps21
    go_wp2_with fail
    refine (CO _ H).mono ?_
    rintro e v ⟨rfl, hb⟩
    replace B := B.trans (hb.mono B.size)
    clear hb
    go_wp2
    go_ret2
    exact ⟨rfl, B⟩
  have CL := fun w' H' => longestBy_any w.heap.size lo hi a n d m w' H' (show kfO true lo hi a = true by simp [kfO, ho])
  rw [ho] at CO
  clear ho
  generalize kfN true lo hi a n d m = X at *
  generalize kfB true lo hi a n d m = Y at *
  go_enter Try.func21, Try.ntmps21
  go_wp2_with fail
  refine (CO _ H).mono ?_
  rintro e v ⟨rfl, hb⟩
  replace B := B.trans (hb.mono B.size)
  replace H := H.below hb
  replace Q := Q.below hb
  clear hb CO
  obtain ⟨h0, h1, h2, h3, h4, h5, h6, h7, h8⟩ := id H
  obtain ⟨q0, q1, q2, q3, q4⟩ := id Q
  go_wp2_with fail
  refine (CL _ H).mono ?_
  rintro e v2 ⟨rfl, hb⟩
  replace B := B.trans (hb.mono B.size)
  clear hb
  go_wp2
  go_ret2
  exact ⟨rfl, B⟩
end Go.Proofs.Ytlfbbdeoejafkaa
