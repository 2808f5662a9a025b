/- Sets of slots in the program: what was heard lately. -/
import Derived.Test.YtdahabbdhjgpdaaDoorS178
import Derived.Test.YtdahabbdhjgpdaaDoorS172
import Derived.Test.YtdahabbdhjgpdaaDoorS163
import Derived.Test.YtdahabbdhjgpdaaDoorB141
import Derived.Test.YtdahabbdhjgpdaaDoorE2
import Derived.Deep.RegionHeld3
import Derived.Deep.DeepCutAuto
import Derived.WalkKit
import Derived.WalkSpells
import Derived.WalkLawsBesides
import Derived.Deep.RegionHeld
namespace Go.Proofs.YtdahabbdhjgpdaaDoor
open Go.RowKit
set_option linter.unusedVariables false
/- The bits of the numbers of a row that are so. -/
def foN (P : Nat → Bool) (g : Nat → Int) : Nat → Nat
  | 0 => 0
  | k + 1 => match P k with | true => foN P g k ||| 2 ^ (g k).toNat | false => foN P g k
theorem foN_yes {P : Nat → Bool} {g : Nat → Int} {k : Nat} (h : P k = true) : foN P g (k + 1) = foN P g k ||| 2 ^ (g k).toNat := by rw [foN, h]
theorem foN_no {P : Nat → Bool} {g : Nat → Int} {k : Nat} (h : P k = false) : foN P g (k + 1) = foN P g k := by rw [foN, h]
theorem foN_lt {P : Nat → Bool} {g : Nat → Int} : ∀ {k : Nat}, (∀ i, i < k → P i = true → 0 ≤ g i ∧ g i ≤ 15) → foN P g k < 65536
  | 0, _ => by show (0 : Nat) < 65536; decide
  | k + 1, h => by
    have ih := foN_lt (P := P) (g := g) (k := k) fun i hi => h i (by omega)
    cases e : P k
    · rw [foN_no e]; exact ih
    · rw [foN_yes e]; have := h k (by omega) e; exact or_lt ih (by omega)
theorem foN_bit {P : Nat → Bool} {g : Nat → Int} : ∀ {k : Nat}, (∀ i, i < k → P i = true → 0 ≤ g i ∧ g i ≤ 15) → ∀ i : Nat, (foN P g k).testBit i = true ↔ ∃ j, j < k ∧ P j = true ∧ g j = (i : Int)
  | 0, _, i => by simp [foN]
  | k + 1, h, i => by
    have ih := foN_bit (P := P) (g := g) (k := k) (fun i hi => h i (by omega)) i
    cases e : P k
    · rw [foN_no e, ih]
      constructor
      · rintro ⟨j, h1, h2, h3⟩; exact ⟨j, by omega, h2, h3⟩
      · rintro ⟨j, h1, h2, h3⟩
        refine ⟨j, ?_, h2, h3⟩
        by_cases q : j = k
        · subst q; rw [e] at h2; exact absurd h2 (by decide)
        · omega
    · have hk := h k (by omega) e
      rw [foN_yes e, Nat.testBit_or, Nat.testBit_two_pow, Bool.or_eq_true, ih, decide_eq_true_eq]
      constructor
      · rintro (⟨j, h1, h2, h3⟩ | h3)
        · exact ⟨j, by omega, h2, h3⟩
        · exact ⟨k, by omega, e, by omega⟩
      · rintro ⟨j, h1, h2, h3⟩
        by_cases q : j = k
        · subst q; right; omega
        · exact Or.inl ⟨j, by omega, h2, h3⟩
def yes (_ : Nat) : Bool := true
theorem slS_in {M : Nat → VT} {n i : Nat} (h : hrA M n = true) (hi : i < n) : 0 ≤ slS M i ∧ slS M i ≤ 15 := (hrO_t (hrA_at h hi).1).1
set_option maxRecDepth 100000 in
set_option maxHeartbeats 4000000 in
theorem slotsHeard_any (a : Option Addr) (n c : Nat) (M : Nat → VT) (w : World) (hH : hrA M n = true) (hn : n ≤ 16) (hs : SrcC w a (n * 2) (MFIval M)) :
    Calls Tryd.prog 58 #[.slice a n c] w fun e w' => e = .returned (.int .u64 (foN yes (slS M) n : Int)) ∧ Below w.heap.size w w' := by
  have HS : Hid (SrcC w a (n * 2) (MFIval M)) := hs
  have HH : Hid (hrA M n = true) := hH
  clear hs hH
  go_enter Tryd.func58, Tryd.ntmps58
  go_wp2_with fail
  go_loopw [3, 8] (fun l i wr => ∃ (k : Nat), k ≤ n ∧ l = .int .u64 (foN yes (slS M) k : Int) ∧ i = .int .i64 (k : Int) ∧ Below w.heap.size w wr) (fun _ i _ => n - (intOf i).toNat)
  case atStart => exact ⟨0, Nat.zero_le _, rfl, rfl, Below.refl _ _⟩
  case round =>
    obtain ⟨k, hk, rfl, rfl, B⟩ := hrel
    by_cases hlt : k < n
    · obtain ⟨x0, x1, hM⟩ := tupIval M k
      obtain ⟨b, off, rfl, hf⟩ : ∃ b off, a = some ⟨b, off, none⟩ ∧ Cs w b off (n * 2) (MFIval M) := by
        rcases HS.out with q | q
        · exact absurd q (by omega)
        · exact q
      obtain ⟨c0, c1⟩ := (hf.below B hf.1).elIval hlt hM
      have HLT : Hid (k < n) := hlt
      have hli : (k : Int) < (n : Int) := by omega
      have h0 := slS_in HH.out hlt
      have e0 : slS M k = x0 := by unfold slS; rw [hM]
      rw [e0] at h0
      have HF : Hid (foN yes (slS M) (k + 1) = foN yes (slS M) k ||| 2 ^ x0.toNat) := by rw [Hid, foN_yes rfl, e0]
      have hfl := foN_lt (P := yes) (g := slS M) (k := k) fun i hi _ => slS_in HH.out (by omega)
      generalize foN yes (slS M) k = S at *
      have A1 := Below.nw wr (.cells #[.int .i64 x0, .int .i64 x1] 80)
      replace B := B.trans (A1.mono B.size)
      have C1 := fun w' => with_any S x0.toNat w' hfl (by omega)
      rw [show ((x0.toNat : Nat) : Int) = x0 by omega] at C1
      clear hM hf A1 HS HH e0 hfl h0
      go_wp2_with fail
      refine (C1 _).mono ?_
      clear C1
      rintro e v1 ⟨rfl, rfl⟩
      rw [← HF.out]
      go_wp2_with fail
      go_roundw
      case rel => exact ⟨k + 1, HLT.out, rfl, by go_num, B⟩
      case measure => have hlt' := HLT.out; simp [intOf]; omega
    · have hkn : k = n := by omega
      subst hkn
      have hli : ¬ (k : Int) < (k : Int) := by omega
      go_wp2_with fail
      go_ret
      exact ⟨rfl, B⟩
set_option maxRecDepth 100000 in
set_option maxHeartbeats 4000000 in
theorem slotSet_any (s g : Int) (p : Option Addr) (m d : Nat) (w : World) (hm : m ≤ 12) :
    Calls Tryd.prog 55 #[.agg #[.int .i64 s, .int .i64 g, .slice p m d]] w fun e w' => e = .returned (.int .u64 (foN yes (fun i => (i : Int)) m : Int)) ∧ Below w.heap.size w w' := by
  have B := Below.nw w (.cells #[.int .i64 s, .int .i64 g, .slice p m d] 27)
  have N := Tx3.new w (.int .i64 s) (.int .i64 g) (.slice p m d) 27
  go_enter Tryd.func55, Tryd.ntmps55
  go_upto_region 1 with fail
  generalize w.alloc (.cells #[.int .i64 s, .int .i64 g, .slice p m d] 27) = v at *
  obtain ⟨n0, n1, n2, n3, n4, n5, n6⟩ := id N
  go_wp2_with fail
  clear n0 n1 n2 n3 n4 n5 n6
  go_loopw [3, 8] (fun l i wr => ∃ (k : Nat), k ≤ m ∧ l = .int .u64 (foN yes (fun i => (i : Int)) k : Int) ∧ i = .int .i64 (k : Int) ∧ wr = v) (fun _ i _ => m - (intOf i).toNat)
  case atStart => exact ⟨0, Nat.zero_le _, rfl, rfl, rfl⟩
  case round =>
    obtain ⟨k, hk, rfl, rfl, rfl⟩ := hrel
    by_cases hlt : k < m
    · have HLT : Hid (k < m) := hlt
      have hli : (k : Int) < (m : Int) := by omega
      have HF : Hid (foN yes (fun i => (i : Int)) (k + 1) = foN yes (fun i => (i : Int)) k ||| 2 ^ k) := by rw [Hid, foN_yes rfl]; simp
      have hfl := foN_lt (P := yes) (g := fun i => (i : Int)) (k := k) fun i hi _ => ⟨by omega, by omega⟩
      generalize foN yes (fun i => (i : Int)) k = S at *
      have C1 := fun w' => with_any S k w' hfl (by omega)
      clear hfl N
      go_wp2_with fail
      refine (C1 _).mono ?_
      clear C1
      rintro e v1 ⟨rfl, rfl⟩
      rw [← HF.out]
      go_wp2_with fail
      go_roundw
      case rel => exact ⟨k + 1, HLT.out, rfl, by go_num, by first | rfl | trivial⟩
      case measure => have hlt' := HLT.out; simp [intOf]; omega
    · have hkn : k = m := by omega
      subst hkn
      have hli : ¬ (k : Int) < (k : Int) := by omega
      go_wp2_with fail
      go_ret
      exact ⟨rfl, B⟩
/- Whether one was heard a round ago at most. -/
def wiB (nu de x r : Int) : Bool := lsB nu de x && decide (lsT nu de x ≤ r)
set_option maxRecDepth 100000 in
set_option maxHeartbeats 4000000 in
theorem within16_any (x0 x1 r nu de c : Int) (w : World) (h1 : 0 ≤ x1 ∧ x1 ≤ 1000000000000) (h2 : 0 ≤ c ∧ c ≤ 1000000000000) :
    Calls Tryd.prog 83 #[.agg #[.int .i64 x0, .int .i64 x1], .int .i64 r, .agg #[.int .i64 nu, .int .i64 de], .int .i64 c] w fun e w' => e = .returned (.bool (wiB nu de (c - x1) r)) ∧ Below w.heap.size w w' := by
  have A0 := Below.nw w (.cells #[.int .i64 x0, .int .i64 x1] 80)
  have A1 := Below.nw (w.alloc (.cells #[.int .i64 x0, .int .i64 x1] 80)) (.cells #[.int .i64 nu, .int .i64 de] 39)
  have Z := (Bx2.new w (.int .i64 x0) (.int .i64 x1) 80).below A1
  have D := Bx2.new (w.alloc (.cells #[.int .i64 x0, .int .i64 x1] 80)) (.int .i64 nu) (.int .i64 de) 39
  have B := A0.trans (A1.mono A0.size)
  simp only [World.size_alloc] at D
  clear A0 A1
  have C1 : ∀ w' : World, Calls Tryd.prog 101 #[.agg #[.int .i64 nu, .int .i64 de], .int .i64 (c - x1)] w' fun e w'' => e = .returned (.tuple #[.int .i64 (lsT nu de (c - x1)), .bool (lsB nu de (c - x1))]) ∧ Below w'.heap.size w' w'' := fun w' => implLeastTime_any nu de (c - x1) w'
  unfold wiB
  generalize lsT nu de (c - x1) = T at *
  generalize lsB nu de (c - x1) = O at *
  go_enter Tryd.func83, Tryd.ntmps83
  go_upto_region 1 with fail
  generalize (w.alloc (.cells #[.int .i64 x0, .int .i64 x1] 80)).alloc (.cells #[.int .i64 nu, .int .i64 de] 39) = v at *
  obtain ⟨z0, z1, z2, z3, z4⟩ := id Z
  obtain ⟨d0, d1, d2, d3, d4⟩ := id D
  go_wp2_with fail
  refine (C1 _).mono ?_
  rintro e v1 ⟨rfl, hb⟩
  replace B := B.trans (hb.mono B.size)
  clear hb Z D z0 z1 z2 z3 z4 d0 d1 d2 d3 d4 C1
  cases O
  · go_wp2_with fail
    go_ret
    exact ⟨rfl, B⟩
  · go_wp2_with fail
    go_ret
    exact ⟨ret_bool (by simp), B⟩
theorem nw_is {M : Nat → VT} {s g : Int} {PM : Nat → SlT} {m : Nat} {nu de c : Int} {i : Nat} {x0 x1 : Int} (hp : plB s g PM m = true) (hM : M i = (x0, x1)) : nwP M s g PM m nu de c i = wiB nu de (c - x1) (upS g PM m) := by
  unfold nwP wiB
  have e : rnI s g PM m = upS g PM m := by unfold rnI; rw [hp]
  rw [hM, e]
  by_cases h : x1 ≤ c
  · rw [decide_eq_true h, Bool.true_and]
  · have e2 : lsB nu de (c - x1) = false := by unfold lsB rB okT; rw [decide_eq_false (p := 0 ≤ c - x1 ∧ c - x1 ≤ 1000000000000) (by omega)]; simp
    rw [e2]; simp
/- The slots that were heard a round ago at most. -/
def laN (M : Nat → VT) (n : Nat) (s g : Int) (PM : Nat → SlT) (m : Nat) (nu de c : Int) : Nat := match rtB M n s g PM m nu de c with | true => foN (nwP M s g PM m nu de c) (slS M) n | false => 0
set_option maxRecDepth 100000 in
set_option maxHeartbeats 8000000 in
theorem lately_any (a : Option Addr) (n k : Nat) (M : Nat → VT) (s g : Int) (p : Option Addr) (m d : Nat) (PM : Nat → SlT) (nu de c : Int) (w : World) (hm : n ≤ maxLen) (hs : SrcC w a (n * 2) (MFIval M)) (hpm : m ≤ maxLen) (hp : SrcC w p (m * 2) (MFSlot PM)) :
    Calls Tryd.prog 53 #[.slice a n k, .agg #[.int .i64 s, .int .i64 g, .slice p m d], .agg #[.int .i64 nu, .int .i64 de], .int .i64 c] w fun e w' => e = .returned (.tuple #[.int .u64 (laN M n s g PM m nu de c : Int), .bool (rtB M n s g PM m nu de c)]) ∧ Below w.heap.size w w' := by
  have A0 := Below.nw w (.cells #[.int .i64 s, .int .i64 g, .slice p m d] 27)
  have A1 := Below.nw (w.alloc (.cells #[.int .i64 s, .int .i64 g, .slice p m d] 27)) (.cells #[.int .i64 nu, .int .i64 de] 39)
  have N := (Tx3.new w (.int .i64 s) (.int .i64 g) (.slice p m d) 27).below A1
  have D := Bx2.new (w.alloc (.cells #[.int .i64 s, .int .i64 g, .slice p m d] 27)) (.int .i64 nu) (.int .i64 de) 39
  have B := A0.trans (A1.mono A0.size)
  simp only [World.size_alloc] at D
  clear A0 A1
  have HS : Hid (SrcC w a (n * 2) (MFIval M)) := hs
  have HP : Hid (SrcC w p (m * 2) (MFSlot PM)) := hp
  have C1 := fun w' h => implHeardOk_any a n k M w' hm h
  have C2 := fun w' h => planOk_any s g p m d PM w' hpm h
  have C3 := fun w' => okd_any nu de w'
  have C4 := fun w' => isTime_any c w'
  clear hs hp
  cases h1 : hrB M n
  · (have HR : Hid (rtB M n s g PM m nu de c = false) := by (unfold rtB; rw [h1]; try rfl)); (have HL : Hid (laN M n s g PM m nu de c = 0) := by rw [Hid, laN, HR.out])
    go_enter Tryd.func53, Tryd.ntmps53; go_upto_region 1 with fail; generalize (w.alloc (.cells #[.int .i64 s, .int .i64 g, .slice p m d] 27)).alloc (.cells #[.int .i64 nu, .int .i64 de] 39) = v at *
    go_wp2_with fail; refine (C1 _ (HS.out.below B)).mono ?_; rintro e v1 ⟨rfl, hb⟩; rw [h1]; replace B := B.trans (hb.mono B.size); replace N := N.below hb; replace D := D.below hb; clear hb
    go_wp2_with fail; exact bodyPost_ret (v := (.tuple #[.int .u64 0, .bool false])) (by simp (maxDischargeDepth := 6) [results, Tryd.results53, go_sem, *]) rfl ⟨by rw [HR.out, HL.out]; rfl, B⟩
  cases h2 : plB s g PM m
  · (have HR : Hid (rtB M n s g PM m nu de c = false) := by (unfold rtB; rw [h1, h2]; try rfl)); (have HL : Hid (laN M n s g PM m nu de c = 0) := by rw [Hid, laN, HR.out])
    go_enter Tryd.func53, Tryd.ntmps53; go_upto_region 1 with fail; generalize (w.alloc (.cells #[.int .i64 s, .int .i64 g, .slice p m d] 27)).alloc (.cells #[.int .i64 nu, .int .i64 de] 39) = v at *
    go_wp2_with fail; refine (C1 _ (HS.out.below B)).mono ?_; rintro e v1 ⟨rfl, hb⟩; rw [h1]; replace B := B.trans (hb.mono B.size); replace N := N.below hb; replace D := D.below hb; clear hb
    obtain ⟨n0, n1, n2, n3, n4, n5, n6⟩ := id N; go_wp2_with fail; refine (C2 _ (HP.out.below B)).mono ?_; rintro e v2 ⟨rfl, hb⟩; clear n0 n1 n2 n3 n4 n5 n6; rw [h2]; replace B := B.trans (hb.mono B.size); replace N := N.below hb; replace D := D.below hb; clear hb
    go_wp2_with fail; exact bodyPost_ret (v := (.tuple #[.int .u64 0, .bool false])) (by simp (maxDischargeDepth := 6) [results, Tryd.results53, go_sem, *]) rfl ⟨by rw [HR.out, HL.out]; rfl, B⟩
  cases h3 : okD nu de
  · (have HR : Hid (rtB M n s g PM m nu de c = false) := by (unfold rtB; rw [h1, h2, h3]; try rfl)); (have HL : Hid (laN M n s g PM m nu de c = 0) := by rw [Hid, laN, HR.out])
    go_enter Tryd.func53, Tryd.ntmps53; go_upto_region 1 with fail; generalize (w.alloc (.cells #[.int .i64 s, .int .i64 g, .slice p m d] 27)).alloc (.cells #[.int .i64 nu, .int .i64 de] 39) = v at *
    go_wp2_with fail; refine (C1 _ (HS.out.below B)).mono ?_; rintro e v1 ⟨rfl, hb⟩; rw [h1]; replace B := B.trans (hb.mono B.size); replace N := N.below hb; replace D := D.below hb; clear hb
    obtain ⟨n0, n1, n2, n3, n4, n5, n6⟩ := id N; go_wp2_with fail; refine (C2 _ (HP.out.below B)).mono ?_; rintro e v2 ⟨rfl, hb⟩; clear n0 n1 n2 n3 n4 n5 n6; rw [h2]; replace B := B.trans (hb.mono B.size); replace N := N.below hb; replace D := D.below hb; clear hb
    obtain ⟨d0, d1, d2, d3, d4⟩ := id D; go_wp2_with fail; refine (C3 _).mono ?_; rintro e v3 ⟨rfl, hb⟩; clear d0 d1 d2 d3 d4; rw [h3]; replace B := B.trans (hb.mono B.size); replace N := N.below hb; replace D := D.below hb; clear hb
    go_wp2_with fail; exact bodyPost_ret (v := (.tuple #[.int .u64 0, .bool false])) (by simp (maxDischargeDepth := 6) [results, Tryd.results53, go_sem, *]) rfl ⟨by rw [HR.out, HL.out]; rfl, B⟩
  cases h4 : okT c
  · (have HR : Hid (rtB M n s g PM m nu de c = false) := by (unfold rtB; rw [h1, h2, h3, h4]; try rfl)); (have HL : Hid (laN M n s g PM m nu de c = 0) := by rw [Hid, laN, HR.out])
    go_enter Tryd.func53, Tryd.ntmps53; go_upto_region 1 with fail; generalize (w.alloc (.cells #[.int .i64 s, .int .i64 g, .slice p m d] 27)).alloc (.cells #[.int .i64 nu, .int .i64 de] 39) = v at *
    go_wp2_with fail; refine (C1 _ (HS.out.below B)).mono ?_; rintro e v1 ⟨rfl, hb⟩; rw [h1]; replace B := B.trans (hb.mono B.size); replace N := N.below hb; replace D := D.below hb; clear hb
    obtain ⟨n0, n1, n2, n3, n4, n5, n6⟩ := id N; go_wp2_with fail; refine (C2 _ (HP.out.below B)).mono ?_; rintro e v2 ⟨rfl, hb⟩; clear n0 n1 n2 n3 n4 n5 n6; rw [h2]; replace B := B.trans (hb.mono B.size); replace N := N.below hb; replace D := D.below hb; clear hb
    obtain ⟨d0, d1, d2, d3, d4⟩ := id D; go_wp2_with fail; refine (C3 _).mono ?_; rintro e v3 ⟨rfl, hb⟩; clear d0 d1 d2 d3 d4; rw [h3]; replace B := B.trans (hb.mono B.size); replace N := N.below hb; replace D := D.below hb; clear hb
    go_wp2_with fail; refine (C4 _).mono ?_; rintro e v4 ⟨rfl, hv4⟩; subst hv4; rw [h4]
    go_wp2_with fail; exact bodyPost_ret (v := (.tuple #[.int .u64 0, .bool false])) (by simp (maxDischargeDepth := 6) [results, Tryd.results53, go_sem, *]) rfl ⟨by rw [HR.out, HL.out]; rfl, B⟩
  have HR : Hid (rtB M n s g PM m nu de c = true) := by unfold rtB; rw [h1, h2, h3, h4]; rfl
  have HL : Hid (laN M n s g PM m nu de c = foN (nwP M s g PM m nu de c) (slS M) n) := by rw [Hid, laN, HR.out]
  have HH : Hid (hrA M n = true) := (hrB_t h1).2
  have HPL : Hid (plB s g PM m = true) := h2
  have hn16 := (hrB_t h1).1
  have hc : 0 ≤ c ∧ c ≤ 1000000000000 := by unfold okT at h4; simpa using h4
  go_enter Tryd.func53, Tryd.ntmps53; go_upto_region 1 with fail; generalize (w.alloc (.cells #[.int .i64 s, .int .i64 g, .slice p m d] 27)).alloc (.cells #[.int .i64 nu, .int .i64 de] 39) = v at *
  go_wp2_with fail; refine (C1 _ (HS.out.below B)).mono ?_; rintro e v1 ⟨rfl, hb⟩; rw [h1]; replace B := B.trans (hb.mono B.size); replace N := N.below hb; replace D := D.below hb; clear hb
  obtain ⟨n0, n1, n2, n3, n4, n5, n6⟩ := id N; go_wp2_with fail; refine (C2 _ (HP.out.below B)).mono ?_; rintro e v2 ⟨rfl, hb⟩; clear n0 n1 n2 n3 n4 n5 n6; rw [h2]; replace B := B.trans (hb.mono B.size); replace N := N.below hb; replace D := D.below hb; clear hb
  obtain ⟨d0, d1, d2, d3, d4⟩ := id D; go_wp2_with fail; refine (C3 _).mono ?_; rintro e v3 ⟨rfl, hb⟩; clear d0 d1 d2 d3 d4; rw [h3]; replace B := B.trans (hb.mono B.size); replace N := N.below hb; replace D := D.below hb; clear hb
  go_wp2_with fail; refine (C4 _).mono ?_; rintro e v4 ⟨rfl, hv4⟩; subst hv4; rw [h4]
  clear C1 C2 C3 C4 h1 h2 h3 h4
  go_wp2_with fail
  go_loopw [10, 33] (fun l i wr => ∃ (q : Nat), q ≤ n ∧ l = .int .u64 (foN (nwP M s g PM m nu de c) (slS M) q : Int) ∧ i = .int .i64 (q : Int) ∧ Below w.heap.size w wr ∧ Tx3 wr w.heap.size (.int .i64 s) (.int .i64 g) (.slice p m d) ∧ Bx2 wr (w.heap.size + 1) (.int .i64 nu) (.int .i64 de)) (fun _ i _ => n - (intOf i).toNat)
  case atStart => exact ⟨0, Nat.zero_le _, rfl, rfl, B, N, D⟩
  case round =>
    clear B N D
    obtain ⟨q, hq, rfl, rfl, B, N, D⟩ := hrel
    by_cases hlt : q < n
    · obtain ⟨x0, x1, hM⟩ := tupIval M q
      obtain ⟨b, off, rfl, hf⟩ : ∃ b off, a = some ⟨b, off, none⟩ ∧ Cs w b off (n * 2) (MFIval M) := by
        rcases HS.out with q | q
        · exact absurd q (by omega)
        · exact q
      obtain ⟨c0, c1⟩ := (hf.below B hf.1).elIval hlt hM
      have HLT : Hid (q < n) := hlt
      have hli : (q : Int) < (n : Int) := by omega
      have h0 := slS_in HH.out hlt
      have hx1 := (hrO_t (hrA_at HH.out hlt).1).2
      rw [hM] at hx1
      have e0 : slS M q = x0 := by unfold slS; rw [hM]
      rw [e0] at h0
      have HF : ∀ u, nwP M s g PM m nu de c q = u → Hid (foN (nwP M s g PM m nu de c) (slS M) (q + 1) = match u with | true => foN (nwP M s g PM m nu de c) (slS M) q ||| 2 ^ x0.toNat | false => foN (nwP M s g PM m nu de c) (slS M) q) := fun u hu => by rw [Hid, foN, hu, e0]
      rw [nw_is HPL.out hM] at HF
      have hfl := foN_lt (P := nwP M s g PM m nu de c) (g := slS M) (k := q) fun i hi _ => slS_in HH.out (by omega)
      generalize foN (nwP M s g PM m nu de c) (slS M) q = S at *
      have C5 := fun w' => with_any S x0.toNat w' hfl (by omega)
      rw [show ((x0.toNat : Nat) : Int) = x0 by omega] at C5
      have CR := fun w' h => planRound_any s g p m d PM w' HPL.out h
      have CW := fun w' => within16_any x0 x1 (upS g PM m) nu de c w' hx1 hc
      generalize upS g PM m = r at *
      generalize hwi : wiB nu de (c - x1) r = u at *
      replace HF := HF u rfl
      clear hwi hM hf e0 hfl h0 hx1
      have A1 := Below.nw wr (.cells #[.int .i64 x0, .int .i64 x1] 80)
      have Z := Bx2.new wr (.int .i64 x0) (.int .i64 x1) 80
      replace B := B.trans (A1.mono B.size)
      replace N := N.below A1
      replace D := D.below A1
      clear A1
      go_upto_region 7 with fail
      clear c0 c1
      generalize wr.alloc (.cells #[.int .i64 x0, .int .i64 x1] 80) = v9 at *
      generalize wr.heap.size = jo at *
      clear v2
      generalize v9 = v2 at *
      have SK : Hid (∀ w', Below v2.heap.size v2 w' → ((fun w' => w'.cell? ⟨w.heap.size, 0, none⟩ = some (.int .i64 s) ∧ w'.cell? ⟨w.heap.size, 1, none⟩ = some (.int .i64 g) ∧ w'.cell? ⟨w.heap.size, 2, none⟩ = some (.slice p m d) ∧ w'.cell? ⟨w.heap.size + 1, 0, none⟩ = some (.int .i64 nu) ∧ w'.cell? ⟨w.heap.size + 1, 1, none⟩ = some (.int .i64 de) ∧ w'.cell? ⟨jo, 0, none⟩ = some (.int .i64 x0) ∧ w'.cell? ⟨jo, 1, none⟩ = some (.int .i64 x1))) w') := fun w' hw => ⟨(N.below hw).2.1, (N.below hw).2.2.1, (N.below hw).2.2.2.1, (D.below hw).2.1, (D.below hw).2.2.1, (Z.below hw).2.1, (Z.below hw).2.2.1⟩
      refine wp_region_held_drew (S := (fun w' => w'.cell? ⟨w.heap.size, 0, none⟩ = some (.int .i64 s) ∧ w'.cell? ⟨w.heap.size, 1, none⟩ = some (.int .i64 g) ∧ w'.cell? ⟨w.heap.size, 2, none⟩ = some (.slice p m d) ∧ w'.cell? ⟨w.heap.size + 1, 0, none⟩ = some (.int .i64 nu) ∧ w'.cell? ⟨w.heap.size + 1, 1, none⟩ = some (.int .i64 de) ∧ w'.cell? ⟨jo, 0, none⟩ = some (.int .i64 x0) ∧ w'.cell? ⟨jo, 1, none⟩ = some (.int .i64 x1))) (by kernel_rfl) ?_ (fun hHeld => ?_)
      · first | exact SK.out _ XB | exact SK.out _ (Below.drew (Below.refl _ _))
      have XB : Below v2.heap.size v2 v2.drew := Below.drew (Below.refl _ _)
      generalize v2.drew = vx at *
      refine wpAnyH_take (i := 0) (v := ?_) (by rw [List.getElem?_toArray]; rfl) (by kernel_rfl) (by kernel_rfl) (by kernel_rfl) (by intro _ _ _ h; exact h) (Or.inl ⟨by rfl, ?_⟩) (by assumption) ?_
      rotate_left
      · (intro w hSw; (try dsimp only at hSw); go_simp; all_goals with_reducible rfl)
      (try simp only [Act.put, List.setIfInBounds_toArray, List.set_cons_zero, List.set_cons_succ])
      refine wpAnyH_take (i := 1) (v := ?_) (by rw [List.getElem?_toArray]; rfl) (by kernel_rfl) (by kernel_rfl) (by kernel_rfl) (by intro _ _ _ h; exact h) (Or.inl ⟨by rfl, ?_⟩) (by assumption) ?_
      rotate_left
      · (intro w hSw; (try dsimp only at hSw); go_simp; all_goals with_reducible rfl)
      (try simp only [Act.put, List.setIfInBounds_toArray, List.set_cons_zero, List.set_cons_succ])
      refine wpAnyH_take (i := 3) (v := ?_) (by rw [List.getElem?_toArray]; rfl) (by kernel_rfl) (by kernel_rfl) (by kernel_rfl) (by intro _ _ _ h; exact h) (Or.inl ⟨by rfl, ?_⟩) (by assumption) ?_
      rotate_left
      · (intro w hSw; (try dsimp only at hSw); go_simp; all_goals with_reducible rfl)
      (try simp only [Act.put, List.setIfInBounds_toArray, List.set_cons_zero, List.set_cons_succ])
      refine wpAnyH_take (i := 4) (v := ?_) (by rw [List.getElem?_toArray]; rfl) (by kernel_rfl) (by kernel_rfl) (by kernel_rfl) (by intro _ _ _ h; exact h) (Or.inl ⟨by rfl, ?_⟩) (by assumption) ?_
      rotate_left
      · (intro w hSw; (try dsimp only at hSw); go_simp; all_goals with_reducible rfl)
      (try simp only [Act.put, List.setIfInBounds_toArray, List.set_cons_zero, List.set_cons_succ])
      refine wpAnyH_ready (rs := [2]) (by kernel_rfl) (by simp) ?_
      refine AllReadyH.cons (by rw [List.getElem?_toArray]; rfl) (fun K hK => ?_) AllReadyH.nil
      go_simp
      refine (CR vx (HP.out.below (B.trans (XB.mono B.size)))).mono ?_; rintro ee vx ⟨rfl, hbl⟩; (replace XB := XB.trans (hbl.mono XB.size)); (clear hbl)
      (try go_wp2_with fail)
      refine hK.out _ _ ?_ (fun hHeld => ?_)
      · first | exact SK.out _ XB | exact SK.out _ (Below.drew (Below.refl _ _))
      clear hK K
      (try simp only [Act.put, List.setIfInBounds_toArray, List.set_cons_zero, List.set_cons_succ])
      refine wpAnyH_ready (rs := [5]) (by kernel_rfl) (by simp) ?_
      refine AllReadyH.cons (by rw [List.getElem?_toArray]; rfl) (fun K hK => ?_) AllReadyH.nil
      go_simp
      refine (CW vx).mono ?_; rintro ee vx ⟨rfl, hbl⟩; (replace XB := XB.trans (hbl.mono XB.size)); (clear hbl)
      (try go_wp2_with fail)
      refine hK.out _ _ ?_ (fun hHeld => ?_)
      · first | exact SK.out _ XB | exact SK.out _ (Below.drew (Below.refl _ _))
      clear hK K
      (try simp only [Act.put, List.setIfInBounds_toArray, List.set_cons_zero, List.set_cons_succ])
      refine wpAnyH_done (by kernel_rfl) ?_ _
      replace B := B.trans (XB.mono B.size)
      replace N := N.below XB
      replace D := D.below XB
      replace Z := Z.below XB
      clear SK XB CR CW
      cases u
      · replace HF : Hid (foN (nwP M s g PM m nu de c) (slS M) (q + 1) = S) := HF
        clear C5
        go_wp2_with fail
        go_roundw
        case rel => exact ⟨q + 1, HLT.out, by rw [HF.out], by go_num, B, N, D⟩
        case measure => have hlt' := HLT.out; simp [intOf]; omega
      · replace HF : Hid (foN (nwP M s g PM m nu de c) (slS M) (q + 1) = S ||| 2 ^ x0.toNat) := HF
        obtain ⟨z0, z1, z2, z3, z4⟩ := id Z
        go_wp2_with fail
        refine (C5 _).mono ?_
        rintro e v5 ⟨rfl, rfl⟩
        clear C5
        rw [← HF.out]
        go_wp2_with fail
        go_roundw
        case rel => exact ⟨q + 1, HLT.out, rfl, by go_num, B, N, D⟩
        case measure => have hlt' := HLT.out; simp [intOf]; omega
    · have hkn : q = n := by omega
      subst hkn
      have hli : ¬ (q : Int) < (q : Int) := by omega
      go_wp2_with fail
      exact bodyPost_ret (v := (.tuple #[.int .u64 (foN (nwP M s g PM m nu de c) (slS M) q : Int), .bool true])) (by simp (maxDischargeDepth := 6) [results, Tryd.results53, go_sem, *]) rfl ⟨by rw [HR.out, HL.out], B⟩
end Go.Proofs.YtdahabbdhjgpdaaDoor
