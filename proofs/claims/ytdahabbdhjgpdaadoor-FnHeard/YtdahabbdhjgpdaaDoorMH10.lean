/- Hear in the program. Sets of slots in the program: what was heard lately. HeardNow, HeardLost, HeardUnlike, HeardOwners in the program. The walk of FnHeard. -/
import Derived.Test.YtdahabbdhjgpdaaDoorMH9
import Derived.Deep.RegionHeld3
import Derived.Deep.DeepCutAuto
import Derived.WalkKit
import Derived.WalkSpells
import Derived.WalkLawsBesides
import Derived.Deep.RegionHeld
import Derived.Test.YtdahabbdhjgpdaaDoorMH2
import Derived.Test.YtdahabbdhjgpdaaDoorMH8
import Derived.Test.YtdahabbdhjgpdaaDoorMH4
import Derived.Test.YtdahabbdhjgpdaaDoorMH6
namespace Go.Proofs.YtdahabbdhjgpdaaDoor
open Go.RowKit
set_option linter.unusedVariables false
set_option maxRecDepth 100000 in
set_option maxHeartbeats 16000000 in
theorem implHear_any (a : Option Addr) (n c : Nat) (M : Nat → VT) (s g : Int) (p : Option Addr) (m d : Nat) (PM : Nat → SlT) (k fr tu no lo hi sl : Int) (bo : ByteArray) (ct : Int) (w : World) (hm : n ≤ maxLen) (hs : SrcC w a (n * 2) (MFIval M)) (ha : (a = none ∧ n = 0 ∧ c = 0) ∨ ∃ b off, a = some ⟨b, off, none⟩) (hpm : m ≤ maxLen) (hp : SrcC w p (m * 2) (MFSlot PM)) (hbo : bo.size ≤ 1048576) :
    Calls Tryd.prog 10 #[.slice a n c, .agg #[.int .i64 s, .int .i64 g, .slice p m d], .agg #[.int .i64 k, .int .i64 fr, .int .i64 tu, .int .i64 no, .int .i64 lo, .int .i64 hi, .int .i64 sl, .string bo], .int .i64 ct] w fun e w' => ∃ v, e = .returned (.tuple #[v, .int .i64 (heC M n s g PM m k fr tu no lo hi sl bo ct)]) ∧ w'.ownsRow w.heap.size 80 2 v (heV M n s g PM m k fr tu no lo hi sl bo ct).length (vrow (heV M n s g PM m k fr tu no lo hi sl bo ct)) ∧ Below w.heap.size w w' := by
  have A0 := Below.nw w (.cells #[.int .i64 s, .int .i64 g, .slice p m d] 27)
  have A1 := Below.nw (w.alloc (.cells #[.int .i64 s, .int .i64 g, .slice p m d] 27)) (.cells #[.int .i64 k, .int .i64 fr, .int .i64 tu, .int .i64 no, .int .i64 lo, .int .i64 hi, .int .i64 sl, .string bo] 31)
  have N := (Tx3.new w (.int .i64 s) (.int .i64 g) (.slice p m d) 27).below A1
  have P := Box8.new (w.alloc (.cells #[.int .i64 s, .int .i64 g, .slice p m d] 27)) k fr tu no lo hi sl bo 31
  have B := A0.trans (A1.mono A0.size)
  simp only [World.size_alloc] at P
  clear A0 A1
  have HS : Hid (SrcC w a (n * 2) (MFIval M)) := hs
  have HP : Hid (SrcC w p (m * 2) (MFSlot PM)) := hp
  have HA : Hid (∀ w', SrcC w' a (n * 2) (MFIval M) → (a = none ∧ n = 0 ∧ c = 0) ∨ ∃ b off, a = some ⟨b, off, none⟩ ∧ (n = 0 ∨ Cs w' b off (n * 2) (MFIval M))) := fun w' h => by
    rcases ha with q | ⟨b, off, e⟩
    · exact .inl q
    · refine .inr ⟨b, off, e, ?_⟩
      rcases h with q | ⟨b', off', e', hc⟩
      · exact .inl (by omega)
      · rw [e] at e'
        simp at e'
        obtain ⟨rfl, rfl⟩ := e'
        exact .inr hc
  have C1 := fun w' h => implHeardOk_any a n c M w' hm h
  have C2 := fun w' h => planOk_any s g p m d PM w' hpm h
  have C3 := fun w' => isTime_any ct w'
  clear hs hp ha
  cases h1 : hrB M n
  · have e0 : hgB M n s g PM m ct = false := by unfold hgB; rw [h1]; rfl
    have HC : Hid (heC M n s g PM m k fr tu no lo hi sl bo ct = 1) := by rw [Hid, heC, e0]
    have HV : Hid (heV M n s g PM m k fr tu no lo hi sl bo ct = []) := by rw [Hid, heV, e0]
    clear e0
    go_enter Tryd.func10, Tryd.ntmps10; go_upto_region 1 with fail; generalize (w.alloc (.cells #[.int .i64 s, .int .i64 g, .slice p m d] 27)).alloc (.cells #[.int .i64 k, .int .i64 fr, .int .i64 tu, .int .i64 no, .int .i64 lo, .int .i64 hi, .int .i64 sl, .string bo] 31) = v at *
    go_wp2_with fail; refine (C1 _ (HS.out.below B)).mono ?_; rintro e v1 ⟨rfl, hb⟩; rw [h1]; replace B := B.trans (hb.mono B.size); replace N := N.below hb; replace P := P.below hb; clear hb
    go_wp2_with fail; exact bodyPost_ret (v := (.tuple #[.slice none 0 0, .int .i64 1])) (by simp (maxDischargeDepth := 6) [results, Tryd.results10, go_sem, *]) rfl ⟨_, by rw [HC.out], by rw [HV.out]; exact nil_heard _ _, B⟩
  cases h2 : plB s g PM m
  · have e0 : hgB M n s g PM m ct = false := by unfold hgB; rw [h1, h2]; rfl
    have HC : Hid (heC M n s g PM m k fr tu no lo hi sl bo ct = 1) := by rw [Hid, heC, e0]
    have HV : Hid (heV M n s g PM m k fr tu no lo hi sl bo ct = []) := by rw [Hid, heV, e0]
    clear e0
    go_enter Tryd.func10, Tryd.ntmps10; go_upto_region 1 with fail; generalize (w.alloc (.cells #[.int .i64 s, .int .i64 g, .slice p m d] 27)).alloc (.cells #[.int .i64 k, .int .i64 fr, .int .i64 tu, .int .i64 no, .int .i64 lo, .int .i64 hi, .int .i64 sl, .string bo] 31) = v at *
    go_wp2_with fail; refine (C1 _ (HS.out.below B)).mono ?_; rintro e v1 ⟨rfl, hb⟩; rw [h1]; replace B := B.trans (hb.mono B.size); replace N := N.below hb; replace P := P.below hb; clear hb
    obtain ⟨n0, n1, n2, n3, n4, n5, n6⟩ := id N; go_wp2_with fail; refine (C2 _ (HP.out.below B)).mono ?_; rintro e v2 ⟨rfl, hb⟩; clear n0 n1 n2 n3 n4 n5 n6; rw [h2]; replace B := B.trans (hb.mono B.size); replace N := N.below hb; replace P := P.below hb; clear hb
    go_wp2_with fail; exact bodyPost_ret (v := (.tuple #[.slice none 0 0, .int .i64 1])) (by simp (maxDischargeDepth := 6) [results, Tryd.results10, go_sem, *]) rfl ⟨_, by rw [HC.out], by rw [HV.out]; exact nil_heard _ _, B⟩
  cases h3 : okT ct
  · have e0 : hgB M n s g PM m ct = false := by unfold hgB; rw [h1, h2, h3]; rfl
    have HC : Hid (heC M n s g PM m k fr tu no lo hi sl bo ct = 1) := by rw [Hid, heC, e0]
    have HV : Hid (heV M n s g PM m k fr tu no lo hi sl bo ct = []) := by rw [Hid, heV, e0]
    clear e0
    go_enter Tryd.func10, Tryd.ntmps10; go_upto_region 1 with fail; generalize (w.alloc (.cells #[.int .i64 s, .int .i64 g, .slice p m d] 27)).alloc (.cells #[.int .i64 k, .int .i64 fr, .int .i64 tu, .int .i64 no, .int .i64 lo, .int .i64 hi, .int .i64 sl, .string bo] 31) = v at *
    go_wp2_with fail; refine (C1 _ (HS.out.below B)).mono ?_; rintro e v1 ⟨rfl, hb⟩; rw [h1]; replace B := B.trans (hb.mono B.size); replace N := N.below hb; replace P := P.below hb; clear hb
    obtain ⟨n0, n1, n2, n3, n4, n5, n6⟩ := id N; go_wp2_with fail; refine (C2 _ (HP.out.below B)).mono ?_; rintro e v2 ⟨rfl, hb⟩; clear n0 n1 n2 n3 n4 n5 n6; rw [h2]; replace B := B.trans (hb.mono B.size); replace N := N.below hb; replace P := P.below hb; clear hb
    go_wp2_with fail; refine (C3 _).mono ?_; rintro e v3 ⟨rfl, hv3⟩; subst hv3; rw [h3]; (try generalize v2 = v3 at *)
    go_wp2_with fail; exact bodyPost_ret (v := (.tuple #[.slice none 0 0, .int .i64 1])) (by simp (maxDischargeDepth := 6) [results, Tryd.results10, go_sem, *]) rfl ⟨_, by rw [HC.out], by rw [HV.out]; exact nil_heard _ _, B⟩
  have e0 : hgB M n s g PM m ct = true := by unfold hgB; rw [h1, h2, h3]; rfl
  have hn16 := (hrB_t h1).1
  have HR : Hid (hrA M n = true) := (hrB_t h1).2
  have CT := fun w' h => takes_any s g p m d PM k fr tu no lo hi sl bo w' hpm h hbo h2
  have CC := fun w' h => clone16_any a n c M w' (by omega) h
  have CP := fun w' h => putHeard_any a n c M sl ct w' HR.out hn16 h
  cases h4 : hmB PM m k fr tu no lo hi sl bo
  · have HC : Hid (heC M n s g PM m k fr tu no lo hi sl bo ct = 2) := by rw [Hid, heC, e0, h4]
    have HV : Hid (heV M n s g PM m k fr tu no lo hi sl bo ct = lsV M n) := by rw [Hid, heV, e0, h4]
    clear e0 CP
    go_enter Tryd.func10, Tryd.ntmps10; go_upto_region 1 with fail; generalize (w.alloc (.cells #[.int .i64 s, .int .i64 g, .slice p m d] 27)).alloc (.cells #[.int .i64 k, .int .i64 fr, .int .i64 tu, .int .i64 no, .int .i64 lo, .int .i64 hi, .int .i64 sl, .string bo] 31) = v at *
    go_wp2_with fail; refine (C1 _ (HS.out.below B)).mono ?_; rintro e v1 ⟨rfl, hb⟩; rw [h1]; replace B := B.trans (hb.mono B.size); replace N := N.below hb; replace P := P.below hb; clear hb
    obtain ⟨n0, n1, n2, n3, n4, n5, n6⟩ := id N; go_wp2_with fail; refine (C2 _ (HP.out.below B)).mono ?_; rintro e v2 ⟨rfl, hb⟩; clear n0 n1 n2 n3 n4 n5 n6; rw [h2]; replace B := B.trans (hb.mono B.size); replace N := N.below hb; replace P := P.below hb; clear hb
    go_wp2_with fail; refine (C3 _).mono ?_; rintro e v3 ⟨rfl, hv3⟩; subst hv3; rw [h3]; (try generalize v2 = v3 at *)
    obtain ⟨n0, n1, n2, n3, n4, n5, n6⟩ := id N; obtain ⟨p0, p1, p2, p3, p4, p5, p6, p7, p8⟩ := id P; go_wp2_with fail; refine (CT _ (HP.out.below B)).mono ?_; rintro e v4 ⟨rfl, hb⟩; clear n0 n1 n2 n3 n4 n5 n6; clear p0 p1 p2 p3 p4 p5 p6 p7 p8; rw [h4]; replace B := B.trans (hb.mono B.size); replace N := N.below hb; replace P := P.below hb; clear hb
    go_wp2_with fail
    refine (CC _ (HA.out _ (HS.out.below B))).mono ?_
    rintro e v5 ⟨v', rfl, OW, hb⟩
    have HO : Hid (v5.ownsRow w.heap.size 80 2 v' n (vrow (lsV M n))) := by rw [Hid, lsV_row]; exact own_baseI16 OW B.size
    replace B := B.trans (hb.mono B.size)
    clear OW hb CC HS HA
    go_wp2_with fail
    exact bodyPost_ret (v := (.tuple #[v', .int .i64 2])) (by simp (maxDischargeDepth := 6) [results, Tryd.results10, go_sem, *]) rfl ⟨_, by rw [HC.out], by rw [HV.out, lsV_len]; exact HO.out, B⟩
  · have HC : Hid (heC M n s g PM m k fr tu no lo hi sl bo ct = 0) := by rw [Hid, heC, e0, h4]
    have HV : Hid (heV M n s g PM m k fr tu no lo hi sl bo ct = hpL M n sl ct) := by rw [Hid, heV, e0, h4]
    clear e0 CC
    go_enter Tryd.func10, Tryd.ntmps10; go_upto_region 1 with fail; generalize (w.alloc (.cells #[.int .i64 s, .int .i64 g, .slice p m d] 27)).alloc (.cells #[.int .i64 k, .int .i64 fr, .int .i64 tu, .int .i64 no, .int .i64 lo, .int .i64 hi, .int .i64 sl, .string bo] 31) = v at *
    go_wp2_with fail; refine (C1 _ (HS.out.below B)).mono ?_; rintro e v1 ⟨rfl, hb⟩; rw [h1]; replace B := B.trans (hb.mono B.size); replace N := N.below hb; replace P := P.below hb; clear hb
    obtain ⟨n0, n1, n2, n3, n4, n5, n6⟩ := id N; go_wp2_with fail; refine (C2 _ (HP.out.below B)).mono ?_; rintro e v2 ⟨rfl, hb⟩; clear n0 n1 n2 n3 n4 n5 n6; rw [h2]; replace B := B.trans (hb.mono B.size); replace N := N.below hb; replace P := P.below hb; clear hb
    go_wp2_with fail; refine (C3 _).mono ?_; rintro e v3 ⟨rfl, hv3⟩; subst hv3; rw [h3]; (try generalize v2 = v3 at *)
    obtain ⟨n0, n1, n2, n3, n4, n5, n6⟩ := id N; obtain ⟨p0, p1, p2, p3, p4, p5, p6, p7, p8⟩ := id P; go_wp2_with fail; refine (CT _ (HP.out.below B)).mono ?_; rintro e v4 ⟨rfl, hb⟩; clear n0 n1 n2 n3 n4 n5 n6; clear p0 p1 p2 p3 p4 p5 p6 p7 p8; rw [h4]; replace B := B.trans (hb.mono B.size); replace N := N.below hb; replace P := P.below hb; clear hb
    obtain ⟨p0, p1, p2, p3, p4, p5, p6, p7, p8⟩ := id P
    go_wp2_with fail
    refine (CP _ (HA.out _ (HS.out.below B))).mono ?_
    rintro e v5 ⟨v', rfl, OW, hb⟩
    have HO : Hid (v5.ownsRow w.heap.size 80 2 v' (hpL M n sl ct).length (vrow (hpL M n sl ct))) := own_baseI16 OW B.size
    replace B := B.trans (hb.mono B.size)
    clear p0 p1 p2 p3 p4 p5 p6 p7 p8
    clear OW hb CP HS HA
    go_wp2_with fail
    exact bodyPost_ret (v := (.tuple #[v', .int .i64 0])) (by simp (maxDischargeDepth := 6) [results, Tryd.results10, go_sem, *]) rfl ⟨_, by rw [HC.out], by rw [HV.out]; exact HO.out, B⟩
end Go.Proofs.YtdahabbdhjgpdaaDoor
namespace Go.Proofs.YtdahabbdhjgpdaaDoor
open Go.RowKit
set_option linter.unusedVariables false
/- The bits of the numbers of a row that are so. -/
def foN (P : Nat → Bool) (g : Nat → Int) : Nat → Nat
  | 0 => 0
  | k + 1 => match P k with | true => foN P g k ||| 2 ^ (g k).toNat | false => foN P g k
theorem foN_yes {P : Nat → Bool} {g : Nat → Int} {k : Nat} (h : P k = true) : foN P g (k + 1) = foN P g k ||| 2 ^ (g k).toNat := by rw [foN, h]
theorem foN_no {P : Nat → Bool} {g : Nat → Int} {k : Nat} (h : P k = false) : foN P g (k + 1) = foN P g k := by rw [foN, h]
theorem foN_lt {P : Nat → Bool} {g : Nat → Int} : ∀ {k : Nat}, (∀ i, i < k → P i = true → 0 ≤ g i ∧ g i ≤ 15) → foN P g k < 65536
  | 0, _ => by show (0 : Nat) < 65536; decide
  | k + 1, h => by
    have ih := foN_lt (P := P) (g := g) (k := k) fun i hi => h i (by omega)
    cases e : P k
    · rw [foN_no e]; exact ih
    · rw [foN_yes e]; have := h k (by omega) e; exact or_lt ih (by omega)
theorem foN_bit {P : Nat → Bool} {g : Nat → Int} : ∀ {k : Nat}, (∀ i, i < k → P i = true → 0 ≤ g i ∧ g i ≤ 15) → ∀ i : Nat, (foN P g k).testBit i = true ↔ ∃ j, j < k ∧ P j = true ∧ g j = (i : Int)
  | 0, _, i => by simp [foN]
  | k + 1, h, i => by
    have ih := foN_bit (P := P) (g := g) (k := k) (fun i hi => h i (by omega)) i
    cases e : P k
    · rw [foN_no e, ih]
      constructor
      · rintro ⟨j, h1, h2, h3⟩; exact ⟨j, by omega, h2, h3⟩
      · rintro ⟨j, h1, h2, h3⟩
        refine ⟨j, ?_, h2, h3⟩
        by_cases q : j = k
        · subst q; rw [e] at h2; exact absurd h2 (by decide)
        · omega
    · have hk := h k (by omega) e
      rw [foN_yes e, Nat.testBit_or, Nat.testBit_two_pow, Bool.or_eq_true, ih, decide_eq_true_eq]
      constructor
      · rintro (⟨j, h1, h2, h3⟩ | h3)
        · exact ⟨j, by omega, h2, h3⟩
        · exact ⟨k, by omega, e, by omega⟩
      · rintro ⟨j, h1, h2, h3⟩
        by_cases q : j = k
        · subst q; right; omega
        · exact Or.inl ⟨j, by omega, h2, h3⟩
def yes (_ : Nat) : Bool := true
theorem slS_in {M : Nat → VT} {n i : Nat} (h : hrA M n = true) (hi : i < n) : 0 ≤ slS M i ∧ slS M i ≤ 15 := (hrO_t (hrA_at h hi).1).1
set_option maxRecDepth 100000 in
set_option maxHeartbeats 4000000 in
theorem slotsHeard_any (a : Option Addr) (n c : Nat) (M : Nat → VT) (w : World) (hH : hrA M n = true) (hn : n ≤ 16) (hs : SrcC w a (n * 2) (MFIval M)) :
    Calls Tryd.prog 58 #[.slice a n c] w fun e w' => e = .returned (.int .u64 (foN yes (slS M) n : Int)) ∧ Below w.heap.size w w' := by
  have HS : Hid (SrcC w a (n * 2) (MFIval M)) := hs
  have HH : Hid (hrA M n = true) := hH
  clear hs hH
  go_enter Tryd.func58, Tryd.ntmps58
  go_wp2_with fail
  go_loopw [3, 8] (fun l i wr => ∃ (k : Nat), k ≤ n ∧ l = .int .u64 (foN yes (slS M) k : Int) ∧ i = .int .i64 (k : Int) ∧ Below w.heap.size w wr) (fun _ i _ => n - (intOf i).toNat)
  case atStart => exact ⟨0, Nat.zero_le _, rfl, rfl, Below.refl _ _⟩
  case round =>
    obtain ⟨k, hk, rfl, rfl, B⟩ := hrel
    by_cases hlt : k < n
    · obtain ⟨x0, x1, hM⟩ := tupIval M k
      obtain ⟨b, off, rfl, hf⟩ : ∃ b off, a = some ⟨b, off, none⟩ ∧ Cs w b off (n * 2) (MFIval M) := by
        rcases HS.out with q | q
        · exact absurd q (by omega)
        · exact q
      obtain ⟨c0, c1⟩ := (hf.below B hf.1).elIval hlt hM
      have HLT : Hid (k < n) := hlt
      have hli : (k : Int) < (n : Int) := by omega
      have h0 := slS_in HH.out hlt
      have e0 : slS M k = x0 := by unfold slS; rw [hM]
      rw [e0] at h0
      have HF : Hid (foN yes (slS M) (k + 1) = foN yes (slS M) k ||| 2 ^ x0.toNat) := by rw [Hid, foN_yes rfl, e0]
      have hfl := foN_lt (P := yes) (g := slS M) (k := k) fun i hi _ => slS_in HH.out (by omega)
      generalize foN yes (slS M) k = S at *
      have A1 := Below.nw wr (.cells #[.int .i64 x0, .int .i64 x1] 80)
      replace B := B.trans (A1.mono B.size)
      have C1 := fun w' => with_any S x0.toNat w' hfl (by omega)
      rw [show ((x0.toNat : Nat) : Int) = x0 by omega] at C1
      clear hM hf A1 HS HH e0 hfl h0
      go_wp2_with fail
      refine (C1 _).mono ?_
      clear C1
      rintro e v1 ⟨rfl, rfl⟩
      rw [← HF.out]
      go_wp2_with fail
      go_roundw
      case rel => exact ⟨k + 1, HLT.out, rfl, by go_num, B⟩
      case measure => have hlt' := HLT.out; simp [intOf]; omega
    · have hkn : k = n := by omega
      subst hkn
      have hli : ¬ (k : Int) < (k : Int) := by omega
      go_wp2_with fail
      go_ret
      exact ⟨rfl, B⟩
set_option maxRecDepth 100000 in
set_option maxHeartbeats 4000000 in
theorem slotSet_any (s g : Int) (p : Option Addr) (m d : Nat) (w : World) (hm : m ≤ 12) :
    Calls Tryd.prog 55 #[.agg #[.int .i64 s, .int .i64 g, .slice p m d]] w fun e w' => e = .returned (.int .u64 (foN yes (fun i => (i : Int)) m : Int)) ∧ Below w.heap.size w w' := by
  have B := Below.nw w (.cells #[.int .i64 s, .int .i64 g, .slice p m d] 27)
  have N := Tx3.new w (.int .i64 s) (.int .i64 g) (.slice p m d) 27
  go_enter Tryd.func55, Tryd.ntmps55
  go_upto_region 1 with fail
  generalize w.alloc (.cells #[.int .i64 s, .int .i64 g, .slice p m d] 27) = v at *
  obtain ⟨n0, n1, n2, n3, n4, n5, n6⟩ := id N
  go_wp2_with fail
  clear n0 n1 n2 n3 n4 n5 n6
  go_loopw [3, 8] (fun l i wr => ∃ (k : Nat), k ≤ m ∧ l = .int .u64 (foN yes (fun i => (i : Int)) k : Int) ∧ i = .int .i64 (k : Int) ∧ wr = v) (fun _ i _ => m - (intOf i).toNat)
  case atStart => exact ⟨0, Nat.zero_le _, rfl, rfl, rfl⟩
  case round =>
    obtain ⟨k, hk, rfl, rfl, rfl⟩ := hrel
    by_cases hlt : k < m
    · have HLT : Hid (k < m) := hlt
      have hli : (k : Int) < (m : Int) := by omega
      have HF : Hid (foN yes (fun i => (i : Int)) (k + 1) = foN yes (fun i => (i : Int)) k ||| 2 ^ k) := by rw [Hid, foN_yes rfl]; simp
      have hfl := foN_lt (P := yes) (g := fun i => (i : Int)) (k := k) fun i hi _ => ⟨by omega, by omega⟩
      generalize foN yes (fun i => (i : Int)) k = S at *
      have C1 := fun w' => with_any S k w' hfl (by omega)
      clear hfl N
      go_wp2_with fail
      refine (C1 _).mono ?_
      clear C1
      rintro e v1 ⟨rfl, rfl⟩
      rw [← HF.out]
      go_wp2_with fail
      go_roundw
      case rel => exact ⟨k + 1, HLT.out, rfl, by go_num, by first | rfl | trivial⟩
      case measure => have hlt' := HLT.out; simp [intOf]; omega
    · have hkn : k = m := by omega
      subst hkn
      have hli : ¬ (k : Int) < (k : Int) := by omega
      go_wp2_with fail
      go_ret
      exact ⟨rfl, B⟩
/- Whether one was heard a round ago at most. -/
def wiB (nu de x r : Int) : Bool := lsB nu de x && decide (lsT nu de x ≤ r)
set_option maxRecDepth 100000 in
set_option maxHeartbeats 4000000 in
theorem within16_any (x0 x1 r nu de c : Int) (w : World) (h1 : 0 ≤ x1 ∧ x1 ≤ 1000000000000) (h2 : 0 ≤ c ∧ c ≤ 1000000000000) :
    Calls Tryd.prog 83 #[.agg #[.int .i64 x0, .int .i64 x1], .int .i64 r, .agg #[.int .i64 nu, .int .i64 de], .int .i64 c] w fun e w' => e = .returned (.bool (wiB nu de (c - x1) r)) ∧ Below w.heap.size w w' := by
  have A0 := Below.nw w (.cells #[.int .i64 x0, .int .i64 x1] 80)
  have A1 := Below.nw (w.alloc (.cells #[.int .i64 x0, .int .i64 x1] 80)) (.cells #[.int .i64 nu, .int .i64 de] 39)
  have Z := (Bx2.new w (.int .i64 x0) (.int .i64 x1) 80).below A1
  have D := Bx2.new (w.alloc (.cells #[.int .i64 x0, .int .i64 x1] 80)) (.int .i64 nu) (.int .i64 de) 39
  have B := A0.trans (A1.mono A0.size)
  simp only [World.size_alloc] at D
  clear A0 A1
  have C1 : ∀ w' : World, Calls Tryd.prog 101 #[.agg #[.int .i64 nu, .int .i64 de], .int .i64 (c - x1)] w' fun e w'' => e = .returned (.tuple #[.int .i64 (lsT nu de (c - x1)), .bool (lsB nu de (c - x1))]) ∧ Below w'.heap.size w' w'' := fun w' => implLeastTime_any nu de (c - x1) w'
  unfold wiB
  generalize lsT nu de (c - x1) = T at *
  generalize lsB nu de (c - x1) = O at *
  go_enter Tryd.func83, Tryd.ntmps83
  go_upto_region 1 with fail
  generalize (w.alloc (.cells #[.int .i64 x0, .int .i64 x1] 80)).alloc (.cells #[.int .i64 nu, .int .i64 de] 39) = v at *
  obtain ⟨z0, z1, z2, z3, z4⟩ := id Z
  obtain ⟨d0, d1, d2, d3, d4⟩ := id D
  go_wp2_with fail
  refine (C1 _).mono ?_
  rintro e v1 ⟨rfl, hb⟩
  replace B := B.trans (hb.mono B.size)
  clear hb Z D z0 z1 z2 z3 z4 d0 d1 d2 d3 d4 C1
  cases O
  · go_wp2_with fail
    go_ret
    exact ⟨rfl, B⟩
  · go_wp2_with fail
    go_ret
    exact ⟨ret_bool (by simp), B⟩
theorem nw_is {M : Nat → VT} {s g : Int} {PM : Nat → SlT} {m : Nat} {nu de c : Int} {i : Nat} {x0 x1 : Int} (hp : plB s g PM m = true) (hM : M i = (x0, x1)) : nwP M s g PM m nu de c i = wiB nu de (c - x1) (upS g PM m) := by
  unfold nwP wiB
  have e : rnI s g PM m = upS g PM m := by unfold rnI; rw [hp]
  rw [hM, e]
  by_cases h : x1 ≤ c
  · rw [decide_eq_true h, Bool.true_and]
  · have e2 : lsB nu de (c - x1) = false := by unfold lsB rB okT; rw [decide_eq_false (p := 0 ≤ c - x1 ∧ c - x1 ≤ 1000000000000) (by omega)]; simp
    rw [e2]; simp
/- The slots that were heard a round ago at most. -/
def laN (M : Nat → VT) (n : Nat) (s g : Int) (PM : Nat → SlT) (m : Nat) (nu de c : Int) : Nat := match rtB M n s g PM m nu de c with | true => foN (nwP M s g PM m nu de c) (slS M) n | false => 0
set_option maxRecDepth 100000 in
set_option maxHeartbeats 8000000 in
theorem lately_any (a : Option Addr) (n k : Nat) (M : Nat → VT) (s g : Int) (p : Option Addr) (m d : Nat) (PM : Nat → SlT) (nu de c : Int) (w : World) (hm : n ≤ maxLen) (hs : SrcC w a (n * 2) (MFIval M)) (hpm : m ≤ maxLen) (hp : SrcC w p (m * 2) (MFSlot PM)) :
    Calls Tryd.prog 53 #[.slice a n k, .agg #[.int .i64 s, .int .i64 g, .slice p m d], .agg #[.int .i64 nu, .int .i64 de], .int .i64 c] w fun e w' => e = .returned (.tuple #[.int .u64 (laN M n s g PM m nu de c : Int), .bool (rtB M n s g PM m nu de c)]) ∧ Below w.heap.size w w' := by
  have A0 := Below.nw w (.cells #[.int .i64 s, .int .i64 g, .slice p m d] 27)
  have A1 := Below.nw (w.alloc (.cells #[.int .i64 s, .int .i64 g, .slice p m d] 27)) (.cells #[.int .i64 nu, .int .i64 de] 39)
  have N := (Tx3.new w (.int .i64 s) (.int .i64 g) (.slice p m d) 27).below A1
  have D := Bx2.new (w.alloc (.cells #[.int .i64 s, .int .i64 g, .slice p m d] 27)) (.int .i64 nu) (.int .i64 de) 39
  have B := A0.trans (A1.mono A0.size)
  simp only [World.size_alloc] at D
  clear A0 A1
  have HS : Hid (SrcC w a (n * 2) (MFIval M)) := hs
  have HP : Hid (SrcC w p (m * 2) (MFSlot PM)) := hp
  have C1 := fun w' h => implHeardOk_any a n k M w' hm h
  have C2 := fun w' h => planOk_any s g p m d PM w' hpm h
  have C3 := fun w' => okd_any nu de w'
  have C4 := fun w' => isTime_any c w'
  clear hs hp
  cases h1 : hrB M n
  · (have HR : Hid (rtB M n s g PM m nu de c = false) := by (unfold rtB; rw [h1]; try rfl)); (have HL : Hid (laN M n s g PM m nu de c = 0) := by rw [Hid, laN, HR.out])
    go_enter Tryd.func53, Tryd.ntmps53; go_upto_region 1 with fail; generalize (w.alloc (.cells #[.int .i64 s, .int .i64 g, .slice p m d] 27)).alloc (.cells #[.int .i64 nu, .int .i64 de] 39) = v at *
    go_wp2_with fail; refine (C1 _ (HS.out.below B)).mono ?_; rintro e v1 ⟨rfl, hb⟩; rw [h1]; replace B := B.trans (hb.mono B.size); replace N := N.below hb; replace D := D.below hb; clear hb
    go_wp2_with fail; exact bodyPost_ret (v := (.tuple #[.int .u64 0, .bool false])) (by simp (maxDischargeDepth := 6) [results, Tryd.results53, go_sem, *]) rfl ⟨by rw [HR.out, HL.out]; rfl, B⟩
  cases h2 : plB s g PM m
  · (have HR : Hid (rtB M n s g PM m nu de c = false) := by (unfold rtB; rw [h1, h2]; try rfl)); (have HL : Hid (laN M n s g PM m nu de c = 0) := by rw [Hid, laN, HR.out])
    go_enter Tryd.func53, Tryd.ntmps53; go_upto_region 1 with fail; generalize (w.alloc (.cells #[.int .i64 s, .int .i64 g, .slice p m d] 27)).alloc (.cells #[.int .i64 nu, .int .i64 de] 39) = v at *
    go_wp2_with fail; refine (C1 _ (HS.out.below B)).mono ?_; rintro e v1 ⟨rfl, hb⟩; rw [h1]; replace B := B.trans (hb.mono B.size); replace N := N.below hb; replace D := D.below hb; clear hb
    obtain ⟨n0, n1, n2, n3, n4, n5, n6⟩ := id N; go_wp2_with fail; refine (C2 _ (HP.out.below B)).mono ?_; rintro e v2 ⟨rfl, hb⟩; clear n0 n1 n2 n3 n4 n5 n6; rw [h2]; replace B := B.trans (hb.mono B.size); replace N := N.below hb; replace D := D.below hb; clear hb
    go_wp2_with fail; exact bodyPost_ret (v := (.tuple #[.int .u64 0, .bool false])) (by simp (maxDischargeDepth := 6) [results, Tryd.results53, go_sem, *]) rfl ⟨by rw [HR.out, HL.out]; rfl, B⟩
  cases h3 : okD nu de
  · (have HR : Hid (rtB M n s g PM m nu de c = false) := by (unfold rtB; rw [h1, h2, h3]; try rfl)); (have HL : Hid (laN M n s g PM m nu de c = 0) := by rw [Hid, laN, HR.out])
    go_enter Tryd.func53, Tryd.ntmps53; go_upto_region 1 with fail; generalize (w.alloc (.cells #[.int .i64 s, .int .i64 g, .slice p m d] 27)).alloc (.cells #[.int .i64 nu, .int .i64 de] 39) = v at *
    go_wp2_with fail; refine (C1 _ (HS.out.below B)).mono ?_; rintro e v1 ⟨rfl, hb⟩; rw [h1]; replace B := B.trans (hb.mono B.size); replace N := N.below hb; replace D := D.below hb; clear hb
    obtain ⟨n0, n1, n2, n3, n4, n5, n6⟩ := id N; go_wp2_with fail; refine (C2 _ (HP.out.below B)).mono ?_; rintro e v2 ⟨rfl, hb⟩; clear n0 n1 n2 n3 n4 n5 n6; rw [h2]; replace B := B.trans (hb.mono B.size); replace N := N.below hb; replace D := D.below hb; clear hb
    obtain ⟨d0, d1, d2, d3, d4⟩ := id D; go_wp2_with fail; refine (C3 _).mono ?_; rintro e v3 ⟨rfl, hb⟩; clear d0 d1 d2 d3 d4; rw [h3]; replace B := B.trans (hb.mono B.size); replace N := N.below hb; replace D := D.below hb; clear hb
    go_wp2_with fail; exact bodyPost_ret (v := (.tuple #[.int .u64 0, .bool false])) (by simp (maxDischargeDepth := 6) [results, Tryd.results53, go_sem, *]) rfl ⟨by rw [HR.out, HL.out]; rfl, B⟩
  cases h4 : okT c
  · (have HR : Hid (rtB M n s g PM m nu de c = false) := by (unfold rtB; rw [h1, h2, h3, h4]; try rfl)); (have HL : Hid (laN M n s g PM m nu de c = 0) := by rw [Hid, laN, HR.out])
    go_enter Tryd.func53, Tryd.ntmps53; go_upto_region 1 with fail; generalize (w.alloc (.cells #[.int .i64 s, .int .i64 g, .slice p m d] 27)).alloc (.cells #[.int .i64 nu, .int .i64 de] 39) = v at *
    go_wp2_with fail; refine (C1 _ (HS.out.below B)).mono ?_; rintro e v1 ⟨rfl, hb⟩; rw [h1]; replace B := B.trans (hb.mono B.size); replace N := N.below hb; replace D := D.below hb; clear hb
    obtain ⟨n0, n1, n2, n3, n4, n5, n6⟩ := id N; go_wp2_with fail; refine (C2 _ (HP.out.below B)).mono ?_; rintro e v2 ⟨rfl, hb⟩; clear n0 n1 n2 n3 n4 n5 n6; rw [h2]; replace B := B.trans (hb.mono B.size); replace N := N.below hb; replace D := D.below hb; clear hb
    obtain ⟨d0, d1, d2, d3, d4⟩ := id D; go_wp2_with fail; refine (C3 _).mono ?_; rintro e v3 ⟨rfl, hb⟩; clear d0 d1 d2 d3 d4; rw [h3]; replace B := B.trans (hb.mono B.size); replace N := N.below hb; replace D := D.below hb; clear hb
    go_wp2_with fail; refine (C4 _).mono ?_; rintro e v4 ⟨rfl, hv4⟩; subst hv4; rw [h4]
    go_wp2_with fail; exact bodyPost_ret (v := (.tuple #[.int .u64 0, .bool false])) (by simp (maxDischargeDepth := 6) [results, Tryd.results53, go_sem, *]) rfl ⟨by rw [HR.out, HL.out]; rfl, B⟩
  have HR : Hid (rtB M n s g PM m nu de c = true) := by unfold rtB; rw [h1, h2, h3, h4]; rfl
  have HL : Hid (laN M n s g PM m nu de c = foN (nwP M s g PM m nu de c) (slS M) n) := by rw [Hid, laN, HR.out]
  have HH : Hid (hrA M n = true) := (hrB_t h1).2
  have HPL : Hid (plB s g PM m = true) := h2
  have hn16 := (hrB_t h1).1
  have hc : 0 ≤ c ∧ c ≤ 1000000000000 := by unfold okT at h4; simpa using h4
  go_enter Tryd.func53, Tryd.ntmps53; go_upto_region 1 with fail; generalize (w.alloc (.cells #[.int .i64 s, .int .i64 g, .slice p m d] 27)).alloc (.cells #[.int .i64 nu, .int .i64 de] 39) = v at *
  go_wp2_with fail; refine (C1 _ (HS.out.below B)).mono ?_; rintro e v1 ⟨rfl, hb⟩; rw [h1]; replace B := B.trans (hb.mono B.size); replace N := N.below hb; replace D := D.below hb; clear hb
  obtain ⟨n0, n1, n2, n3, n4, n5, n6⟩ := id N; go_wp2_with fail; refine (C2 _ (HP.out.below B)).mono ?_; rintro e v2 ⟨rfl, hb⟩; clear n0 n1 n2 n3 n4 n5 n6; rw [h2]; replace B := B.trans (hb.mono B.size); replace N := N.below hb; replace D := D.below hb; clear hb
  obtain ⟨d0, d1, d2, d3, d4⟩ := id D; go_wp2_with fail; refine (C3 _).mono ?_; rintro e v3 ⟨rfl, hb⟩; clear d0 d1 d2 d3 d4; rw [h3]; replace B := B.trans (hb.mono B.size); replace N := N.below hb; replace D := D.below hb; clear hb
  go_wp2_with fail; refine (C4 _).mono ?_; rintro e v4 ⟨rfl, hv4⟩; subst hv4; rw [h4]
  clear C1 C2 C3 C4 h1 h2 h3 h4
  go_wp2_with fail
  go_loopw [10, 33] (fun l i wr => ∃ (q : Nat), q ≤ n ∧ l = .int .u64 (foN (nwP M s g PM m nu de c) (slS M) q : Int) ∧ i = .int .i64 (q : Int) ∧ Below w.heap.size w wr ∧ Tx3 wr w.heap.size (.int .i64 s) (.int .i64 g) (.slice p m d) ∧ Bx2 wr (w.heap.size + 1) (.int .i64 nu) (.int .i64 de)) (fun _ i _ => n - (intOf i).toNat)
  case atStart => exact ⟨0, Nat.zero_le _, rfl, rfl, B, N, D⟩
  case round =>
    clear B N D
    obtain ⟨q, hq, rfl, rfl, B, N, D⟩ := hrel
    by_cases hlt : q < n
    · obtain ⟨x0, x1, hM⟩ := tupIval M q
      obtain ⟨b, off, rfl, hf⟩ : ∃ b off, a = some ⟨b, off, none⟩ ∧ Cs w b off (n * 2) (MFIval M) := by
        rcases HS.out with q | q
        · exact absurd q (by omega)
        · exact q
      obtain ⟨c0, c1⟩ := (hf.below B hf.1).elIval hlt hM
      have HLT : Hid (q < n) := hlt
      have hli : (q : Int) < (n : Int) := by omega
      have h0 := slS_in HH.out hlt
      have hx1 := (hrO_t (hrA_at HH.out hlt).1).2
      rw [hM] at hx1
      have e0 : slS M q = x0 := by unfold slS; rw [hM]
      rw [e0] at h0
      have HF : ∀ u, nwP M s g PM m nu de c q = u → Hid (foN (nwP M s g PM m nu de c) (slS M) (q + 1) = match u with | true => foN (nwP M s g PM m nu de c) (slS M) q ||| 2 ^ x0.toNat | false => foN (nwP M s g PM m nu de c) (slS M) q) := fun u hu => by rw [Hid, foN, hu, e0]
      rw [nw_is HPL.out hM] at HF
      have hfl := foN_lt (P := nwP M s g PM m nu de c) (g := slS M) (k := q) fun i hi _ => slS_in HH.out (by omega)
      generalize foN (nwP M s g PM m nu de c) (slS M) q = S at *
      have C5 := fun w' => with_any S x0.toNat w' hfl (by omega)
      rw [show ((x0.toNat : Nat) : Int) = x0 by omega] at C5
      have CR := fun w' h => planRound_any s g p m d PM w' HPL.out h
      have CW := fun w' => within16_any x0 x1 (upS g PM m) nu de c w' hx1 hc
      generalize upS g PM m = r at *
      generalize hwi : wiB nu de (c - x1) r = u at *
      replace HF := HF u rfl
      clear hwi hM hf e0 hfl h0 hx1
      have A1 := Below.nw wr (.cells #[.int .i64 x0, .int .i64 x1] 80)
      have Z := Bx2.new wr (.int .i64 x0) (.int .i64 x1) 80
      replace B := B.trans (A1.mono B.size)
      replace N := N.below A1
      replace D := D.below A1
      clear A1
      go_upto_region 7 with fail
      clear c0 c1
      generalize wr.alloc (.cells #[.int .i64 x0, .int .i64 x1] 80) = v9 at *
      generalize wr.heap.size = jo at *
      clear v2
      generalize v9 = v2 at *
      have SK : Hid (∀ w', Below v2.heap.size v2 w' → ((fun w' => w'.cell? ⟨w.heap.size, 0, none⟩ = some (.int .i64 s) ∧ w'.cell? ⟨w.heap.size, 1, none⟩ = some (.int .i64 g) ∧ w'.cell? ⟨w.heap.size, 2, none⟩ = some (.slice p m d) ∧ w'.cell? ⟨w.heap.size + 1, 0, none⟩ = some (.int .i64 nu) ∧ w'.cell? ⟨w.heap.size + 1, 1, none⟩ = some (.int .i64 de) ∧ w'.cell? ⟨jo, 0, none⟩ = some (.int .i64 x0) ∧ w'.cell? ⟨jo, 1, none⟩ = some (.int .i64 x1))) w') := fun w' hw => ⟨(N.below hw).2.1, (N.below hw).2.2.1, (N.below hw).2.2.2.1, (D.below hw).2.1, (D.below hw).2.2.1, (Z.below hw).2.1, (Z.below hw).2.2.1⟩
      refine wp_region_held_drew (S := (fun w' => w'.cell? ⟨w.heap.size, 0, none⟩ = some (.int .i64 s) ∧ w'.cell? ⟨w.heap.size, 1, none⟩ = some (.int .i64 g) ∧ w'.cell? ⟨w.heap.size, 2, none⟩ = some (.slice p m d) ∧ w'.cell? ⟨w.heap.size + 1, 0, none⟩ = some (.int .i64 nu) ∧ w'.cell? ⟨w.heap.size + 1, 1, none⟩ = some (.int .i64 de) ∧ w'.cell? ⟨jo, 0, none⟩ = some (.int .i64 x0) ∧ w'.cell? ⟨jo, 1, none⟩ = some (.int .i64 x1))) (by kernel_rfl) ?_ (fun hHeld => ?_)
      · first | exact SK.out _ XB | exact SK.out _ (Below.drew (Below.refl _ _))
      have XB : Below v2.heap.size v2 v2.drew := Below.drew (Below.refl _ _)
      generalize v2.drew = vx at *
      refine wpAnyH_take (i := 0) (v := ?_) (by rw [List.getElem?_toArray]; rfl) (by kernel_rfl) (by kernel_rfl) (by kernel_rfl) (by intro _ _ _ h; exact h) (Or.inl ⟨by rfl, ?_⟩) (by assumption) ?_
      rotate_left
      · (intro w hSw; (try dsimp only at hSw); go_simp; all_goals with_reducible rfl)
      (try simp only [Act.put, List.setIfInBounds_toArray, List.set_cons_zero, List.set_cons_succ])
      refine wpAnyH_take (i := 1) (v := ?_) (by rw [List.getElem?_toArray]; rfl) (by kernel_rfl) (by kernel_rfl) (by kernel_rfl) (by intro _ _ _ h; exact h) (Or.inl ⟨by rfl, ?_⟩) (by assumption) ?_
      rotate_left
      · (intro w hSw; (try dsimp only at hSw); go_simp; all_goals with_reducible rfl)
      (try simp only [Act.put, List.setIfInBounds_toArray, List.set_cons_zero, List.set_cons_succ])
      refine wpAnyH_take (i := 3) (v := ?_) (by rw [List.getElem?_toArray]; rfl) (by kernel_rfl) (by kernel_rfl) (by kernel_rfl) (by intro _ _ _ h; exact h) (Or.inl ⟨by rfl, ?_⟩) (by assumption) ?_
      rotate_left
      · (intro w hSw; (try dsimp only at hSw); go_simp; all_goals with_reducible rfl)
      (try simp only [Act.put, List.setIfInBounds_toArray, List.set_cons_zero, List.set_cons_succ])
      refine wpAnyH_take (i := 4) (v := ?_) (by rw [List.getElem?_toArray]; rfl) (by kernel_rfl) (by kernel_rfl) (by kernel_rfl) (by intro _ _ _ h; exact h) (Or.inl ⟨by rfl, ?_⟩) (by assumption) ?_
      rotate_left
      · (intro w hSw; (try dsimp only at hSw); go_simp; all_goals with_reducible rfl)
      (try simp only [Act.put, List.setIfInBounds_toArray, List.set_cons_zero, List.set_cons_succ])
      refine wpAnyH_ready (rs := [2]) (by kernel_rfl) (by simp) ?_
      refine AllReadyH.cons (by rw [List.getElem?_toArray]; rfl) (fun K hK => ?_) AllReadyH.nil
      go_simp
      refine (CR vx (HP.out.below (B.trans (XB.mono B.size)))).mono ?_; rintro ee vx ⟨rfl, hbl⟩; (replace XB := XB.trans (hbl.mono XB.size)); (clear hbl)
      (try go_wp2_with fail)
      refine hK.out _ _ ?_ (fun hHeld => ?_)
      · first | exact SK.out _ XB | exact SK.out _ (Below.drew (Below.refl _ _))
      clear hK K
      (try simp only [Act.put, List.setIfInBounds_toArray, List.set_cons_zero, List.set_cons_succ])
      refine wpAnyH_ready (rs := [5]) (by kernel_rfl) (by simp) ?_
      refine AllReadyH.cons (by rw [List.getElem?_toArray]; rfl) (fun K hK => ?_) AllReadyH.nil
      go_simp
      refine (CW vx).mono ?_; rintro ee vx ⟨rfl, hbl⟩; (replace XB := XB.trans (hbl.mono XB.size)); (clear hbl)
      (try go_wp2_with fail)
      refine hK.out _ _ ?_ (fun hHeld => ?_)
      · first | exact SK.out _ XB | exact SK.out _ (Below.drew (Below.refl _ _))
      clear hK K
      (try simp only [Act.put, List.setIfInBounds_toArray, List.set_cons_zero, List.set_cons_succ])
      refine wpAnyH_done (by kernel_rfl) ?_ _
      replace B := B.trans (XB.mono B.size)
      replace N := N.below XB
      replace D := D.below XB
      replace Z := Z.below XB
      clear SK XB CR CW
      cases u
      · replace HF : Hid (foN (nwP M s g PM m nu de c) (slS M) (q + 1) = S) := HF
        clear C5
        go_wp2_with fail
        go_roundw
        case rel => exact ⟨q + 1, HLT.out, by rw [HF.out], by go_num, B, N, D⟩
        case measure => have hlt' := HLT.out; simp [intOf]; omega
      · replace HF : Hid (foN (nwP M s g PM m nu de c) (slS M) (q + 1) = S ||| 2 ^ x0.toNat) := HF
        obtain ⟨z0, z1, z2, z3, z4⟩ := id Z
        go_wp2_with fail
        refine (C5 _).mono ?_
        rintro e v5 ⟨rfl, rfl⟩
        clear C5
        rw [← HF.out]
        go_wp2_with fail
        go_roundw
        case rel => exact ⟨q + 1, HLT.out, rfl, by go_num, B, N, D⟩
        case measure => have hlt' := HLT.out; simp [intOf]; omega
    · have hkn : q = n := by omega
      subst hkn
      have hli : ¬ (q : Int) < (q : Int) := by omega
      go_wp2_with fail
      exact bodyPost_ret (v := (.tuple #[.int .u64 (foN (nwP M s g PM m nu de c) (slS M) q : Int), .bool true])) (by simp (maxDischargeDepth := 6) [results, Tryd.results53, go_sem, *]) rfl ⟨by rw [HR.out, HL.out], B⟩
end Go.Proofs.YtdahabbdhjgpdaaDoor
namespace Go.Proofs.YtdahabbdhjgpdaaDoor
open Go.RowKit
set_option linter.unusedVariables false
/- The sets, as the lists that the specification tells. -/
theorem hasJ_iff {g : Nat → Int} {x : Int} {n : Nat} : hasJ g x n = true ↔ ∃ j, j < n ∧ g j = x := ⟨hasJ_t, fun ⟨j, h1, h2⟩ => hasJ_yes h2 h1⟩
theorem gI_mem {L : List Int} {x : Int} : hasJ (gI L) x L.length = true ↔ x ∈ L := by
  rw [hasJ_iff, List.mem_iff_getElem?]
  constructor
  · rintro ⟨j, h1, h2⟩
    refine ⟨j, ?_⟩
    rw [← h2]; unfold gI; simp [h1]
  · rintro ⟨j, h⟩
    obtain ⟨h1, h2⟩ := List.getElem?_eq_some_iff.1 h
    refine ⟨j, h1, ?_⟩
    unfold gI; simp [h1, h2]
theorem nwL_asc {M : Nat → VT} {n : Nat} {s g : Int} {PM : Nat → SlT} {m : Nat} {nu de c : Int} : ascF 0 (nwL M n s g PM m nu de c) := by
  unfold nwL
  cases h : rtB M n s g PM m nu de c
  · trivial
  · have h1 : hrB M n = true := by unfold rtB at h; simp only [Bool.and_eq_true] at h; exact h.1
    exact fiL_asc (hrB_t h1).2 (Nat.le_refl n)
theorem la_bit {M : Nat → VT} {n : Nat} {s g : Int} {PM : Nat → SlT} {m : Nat} {nu de c : Int} (i : Nat) : (laN M n s g PM m nu de c).testBit i = true ↔ (i : Int) ∈ nwL M n s g PM m nu de c := by
  unfold laN nwL
  cases h : rtB M n s g PM m nu de c
  · simp
  · have h1 : hrB M n = true := by unfold rtB at h; simp only [Bool.and_eq_true] at h; exact h.1
    have h2 := (hrB_t h1).2
    show (foN (nwP M s g PM m nu de c) (slS M) n).testBit i = true ↔ (i : Int) ∈ fiL (nwP M s g PM m nu de c) (slS M) n
    rw [foN_bit fun i hi _ => slS_in h2 hi, fiL_in]
    constructor
    · rintro ⟨j, a, b, e⟩; exact ⟨j, a, b, e.symm⟩
    · rintro ⟨j, a, b, e⟩; exact ⟨j, a, b, e.symm⟩
theorem la_lt {M : Nat → VT} {n : Nat} {s g : Int} {PM : Nat → SlT} {m : Nat} {nu de c : Int} : laN M n s g PM m nu de c < 65536 := by
  unfold laN
  cases h : rtB M n s g PM m nu de c
  · show (0 : Nat) < 65536; decide
  · have h1 : hrB M n = true := by unfold rtB at h; simp only [Bool.and_eq_true] at h; exact h.1
    exact foN_lt fun i hi _ => slS_in (hrB_t h1).2 hi
theorem la_num {M : Nat → VT} {n : Nat} {s g : Int} {PM : Nat → SlT} {m : Nat} {nu de c : Int} : laN M n s g PM m nu de c = numL (nwL M n s g PM m nu de c) :=
  num_eq nwL_asc fun i => by
    rw [Bool.eq_iff_iff, la_bit, decide_eq_true_eq]
theorem id_bit (m i : Nat) (hm : m ≤ 12) : (foN yes (fun i => (i : Int)) m).testBit i = decide (i < m) := by
  rw [Bool.eq_iff_iff, foN_bit fun j hj _ => ⟨by omega, by omega⟩, decide_eq_true_eq]
  constructor
  · rintro ⟨j, h1, _, h3⟩; omega
  · intro h; exact ⟨i, h, rfl, rfl⟩
theorem id_lt (m : Nat) (hm : m ≤ 12) : foN yes (fun i => (i : Int)) m < 65536 := foN_lt fun j hj _ => ⟨by omega, by omega⟩
theorem not_bit (a b i : Nat) (hb : b < 65536) (ha : a < 65536) : (a &&& (18446744073709551615 - b)).testBit i = (a.testBit i && !b.testBit i) := by
  rw [Nat.testBit_and, show 18446744073709551615 - b = 2 ^ 64 - (b + 1) by omega, Nat.testBit_two_pow_sub_succ (by omega)]
  by_cases h : i < 64
  · rw [decide_eq_true h, Bool.true_and]
  · have : a.testBit i = false := Nat.testBit_lt_two_pow (Nat.lt_of_lt_of_le ha (Nat.pow_le_pow_right (n := 2) (i := 16) (by decide) (by omega)))
    rw [this]; simp
theorem lo_num {M : Nat → VT} {n : Nat} {s g : Int} {PM : Nat → SlT} {m : Nat} {nu de c : Int} (hm : m ≤ 12) : foN yes (fun i => (i : Int)) m &&& (18446744073709551615 - laN M n s g PM m nu de c) = numL (slJ (loP (nwL M n s g PM m nu de c)) m) :=
  slJ_num (by omega) fun i => by
    rw [not_bit _ _ _ la_lt (id_lt m hm), id_bit m i hm]
    congr 1
    unfold loP
    congr 1
    rw [Bool.eq_iff_iff, la_bit, gI_mem]
theorem sh_bit {M : Nat → VT} {n : Nat} (h : hrA M n = true) (i : Nat) : (foN yes (slS M) n).testBit i = hasJ (slS M) (i : Int) n := by
  rw [Bool.eq_iff_iff, foN_bit fun j hj _ => slS_in h hj, hasJ_iff]
  constructor
  · rintro ⟨j, h1, _, h3⟩; exact ⟨j, h1, h3⟩
  · rintro ⟨j, h1, h3⟩; exact ⟨j, h1, rfl, h3⟩
theorem sh_lt {M : Nat → VT} {n : Nat} (h : hrA M n = true) : foN yes (slS M) n < 65536 := foN_lt fun j hj _ => slS_in h hj
theorem has_low {M : Nat → VT} {n i : Nat} (h : hrA M n = true) (hi : ¬ i < 16) : hasJ (slS M) (i : Int) n = false := by
  cases e : hasJ (slS M) (i : Int) n
  · rfl
  · obtain ⟨j, h1, h2⟩ := hasJ_iff.1 e
    have := slS_in h h1
    omega
theorem un_num {M W : Nat → VT} {n k : Nat} (h : hrA M n = true) (h' : hrA W k = true) : foN yes (slS M) n ^^^ foN yes (slS W) k = numL (slJ (unP M n W k) 16) :=
  slJ_num (Nat.le_refl _) fun i => by
    rw [Nat.testBit_xor, sh_bit h, sh_bit h']
    unfold unP
    by_cases hi : i < 16
    · rw [decide_eq_true hi, Bool.true_and]; try rfl
    · rw [has_low h hi, has_low h' hi, decide_eq_false hi]; try rfl
/- Owners. -/
def ownP (M : Nat → VT) (m : Nat) (i : Nat) : Bool := decide (slS M i < (m : Int))
def ownG (M : Nat → VT) (PM : Nat → SlT) (i : Nat) : Int := (PM (slS M i).toNat).1
theorem ownG_in {M : Nat → VT} {n : Nat} {s g : Int} {PM : Nat → SlT} {m i : Nat} (h : hrA M n = true) (hp : plB s g PM m = true) (hi : i < n) (ho : ownP M m i = true) : 0 ≤ ownG M PM i ∧ ownG M PM i ≤ 7 := by
  have h1 := slS_in h hi
  have h2 : slS M i < (m : Int) := of_decide_eq_true ho
  exact (slB_t (slA_at (plB_t hp).2.2.2 (show (slS M i).toNat < m by omega))).1
theorem ofS_iff {M : Nat → VT} {n : Nat} {PM : Nat → SlT} {o : Int} : ∀ {m : Nat}, ofS M n PM o m = true ↔ ∃ i, i < m ∧ (PM i).1 = o ∧ hasJ (slS M) (i : Int) n = true
  | 0 => by simp [ofS]
  | m + 1 => by
    rw [ofS, Bool.or_eq_true, ofS_iff (m := m), Bool.and_eq_true, beq_iff_eq]
    constructor
    · rintro (⟨i, h1, h2, h3⟩ | ⟨h2, h3⟩)
      · exact ⟨i, by omega, h2, h3⟩
      · exact ⟨m, by omega, h2, h3⟩
    · rintro ⟨i, h1, h2, h3⟩
      by_cases e : i = m
      · subst e; exact Or.inr ⟨h2, h3⟩
      · exact Or.inl ⟨i, by omega, h2, h3⟩
theorem ow_num {M : Nat → VT} {n : Nat} {s g : Int} {PM : Nat → SlT} {m : Nat} (h : hrA M n = true) (hp : plB s g PM m = true) : foN (ownP M m) (ownG M PM) n = numL (slJ (owP M n PM m) 8) :=
  slJ_num (by omega) fun i => by
    rw [Bool.eq_iff_iff, foN_bit fun j hj ho => ⟨(ownG_in h hp hj ho).1, by have := (ownG_in h hp hj ho).2; omega⟩, Bool.and_eq_true, decide_eq_true_eq]
    unfold owP
    rw [ofS_iff]
    constructor
    · rintro ⟨j, h1, h2, h3⟩
      have h4 := ownG_in h hp h1 h2
      have h5 := slS_in h h1
      have h6 : slS M j < (m : Int) := of_decide_eq_true h2
      refine ⟨by omega, (slS M j).toNat, by omega, h3, hasJ_iff.2 ⟨j, h1, by omega⟩⟩
    · rintro ⟨_, q, h1, h2, h3⟩
      obtain ⟨j, h4, h5⟩ := hasJ_iff.1 h3
      refine ⟨j, h4, decide_eq_true (by omega), ?_⟩
      unfold ownG
      rw [h5]; exact h2
set_option maxRecDepth 100000 in
set_option maxHeartbeats 8000000 in
theorem implHeardNow_any (a : Option Addr) (n k : Nat) (M : Nat → VT) (s g : Int) (p : Option Addr) (m d : Nat) (PM : Nat → SlT) (nu de c : Int) (w : World) (T : Tb w) (hm : n ≤ maxLen) (hs : SrcC w a (n * 2) (MFIval M)) (hpm : m ≤ maxLen) (hp : SrcC w p (m * 2) (MFSlot PM)) :
    Calls Tryd.prog 14 #[.slice a n k, .agg #[.int .i64 s, .int .i64 g, .slice p m d], .agg #[.int .i64 nu, .int .i64 de], .int .i64 c] w fun e w' => ∃ v, e = .returned v ∧ w'.ownsRow w.heap.size 3 1 v (nwL M n s g PM m nu de c).length (irow (nwL M n s g PM m nu de c)) ∧ Below w.heap.size w w' := by
  have A0 := Below.nw w (.cells #[.int .i64 s, .int .i64 g, .slice p m d] 27)
  have A1 := Below.nw (w.alloc (.cells #[.int .i64 s, .int .i64 g, .slice p m d] 27)) (.cells #[.int .i64 nu, .int .i64 de] 39)
  have N := (Tx3.new w (.int .i64 s) (.int .i64 g) (.slice p m d) 27).below A1
  have D := Bx2.new (w.alloc (.cells #[.int .i64 s, .int .i64 g, .slice p m d] 27)) (.int .i64 nu) (.int .i64 de) 39
  have B := A0.trans (A1.mono A0.size)
  simp only [World.size_alloc] at D
  clear A0 A1
  have C1 := fun (w' : World) (h : Below w.heap.size w w') => lately_any a n k M s g p m d PM nu de c w' hm (hs.below h) hpm (hp.below h)
  have HT : Hid (Tb w) := T
  rw [la_num] at C1
  have C2 := fun (w' : World) (h : Below w.heap.size w w') => list_any (nwL M n s g PM m nu de c) nwL_asc w' (HT.out.below h)
  clear T hs hp
  generalize nwL M n s g PM m nu de c = L at *
  generalize rtB M n s g PM m nu de c = R at *
  go_enter Tryd.func14, Tryd.ntmps14
  go_upto_region 1 with fail
  generalize (w.alloc (.cells #[.int .i64 s, .int .i64 g, .slice p m d] 27)).alloc (.cells #[.int .i64 nu, .int .i64 de] 39) = v at *
  obtain ⟨n0, n1, n2, n3, n4, n5, n6⟩ := id N
  obtain ⟨d0, d1, d2, d3, d4⟩ := id D
  go_wp2_with fail
  refine (C1 _ B).mono ?_
  rintro e v1 ⟨rfl, hb⟩
  clear n0 n1 n2 n3 n4 n5 n6
  clear d0 d1 d2 d3 d4
  replace B := B.trans (hb.mono B.size)
  clear hb N D C1
  go_wp2_with fail
  refine (C2 _ B).mono ?_
  rintro e v2 ⟨v', rfl, OW, hb⟩
  have HO : Hid (v2.ownsRow w.heap.size 3 1 v' L.length (irow L)) := own_baseI16 OW B.size
  replace B := B.trans (hb.mono B.size)
  clear OW hb C2
  go_wp2_with fail
  go_ret
  exact ⟨_, rfl, HO.out, B⟩
set_option maxRecDepth 100000 in
set_option maxHeartbeats 8000000 in
theorem implHeardLost_any (a : Option Addr) (n k : Nat) (M : Nat → VT) (s g : Int) (p : Option Addr) (m d : Nat) (PM : Nat → SlT) (nu de c : Int) (w : World) (T : Tb w) (hm : n ≤ maxLen) (hs : SrcC w a (n * 2) (MFIval M)) (hpm : m ≤ maxLen) (hp : SrcC w p (m * 2) (MFSlot PM)) :
    Calls Tryd.prog 15 #[.slice a n k, .agg #[.int .i64 s, .int .i64 g, .slice p m d], .agg #[.int .i64 nu, .int .i64 de], .int .i64 c] w fun e w' => ∃ v, e = .returned v ∧ w'.ownsRow w.heap.size 3 1 v (loL M n s g PM m nu de c).length (irow (loL M n s g PM m nu de c)) ∧ Below w.heap.size w w' := by
  have A0 := Below.nw w (.cells #[.int .i64 s, .int .i64 g, .slice p m d] 27)
  have A1 := Below.nw (w.alloc (.cells #[.int .i64 s, .int .i64 g, .slice p m d] 27)) (.cells #[.int .i64 nu, .int .i64 de] 39)
  have N := (Tx3.new w (.int .i64 s) (.int .i64 g) (.slice p m d) 27).below A1
  have D := Bx2.new (w.alloc (.cells #[.int .i64 s, .int .i64 g, .slice p m d] 27)) (.int .i64 nu) (.int .i64 de) 39
  have B := A0.trans (A1.mono A0.size)
  simp only [World.size_alloc] at D
  clear A0 A1
  have C1 := fun (w' : World) (h : Below w.heap.size w w') => lately_any a n k M s g p m d PM nu de c w' hm (hs.below h) hpm (hp.below h)
  have HT : Hid (Tb w) := T
  clear T hs hp
  cases hR : rtB M n s g PM m nu de c
  · have HV : Hid (loL M n s g PM m nu de c = []) := by rw [Hid, loL, hR]
    rw [hR] at C1
    generalize laN M n s g PM m nu de c = la at *
    clear HT hR
    go_enter Tryd.func15, Tryd.ntmps15
    go_upto_region 1 with fail
    generalize (w.alloc (.cells #[.int .i64 s, .int .i64 g, .slice p m d] 27)).alloc (.cells #[.int .i64 nu, .int .i64 de] 39) = v at *
    obtain ⟨n0, n1, n2, n3, n4, n5, n6⟩ := id N
    obtain ⟨d0, d1, d2, d3, d4⟩ := id D
    go_wp2_with fail
    refine (C1 _ B).mono ?_
    rintro e v1 ⟨rfl, hb⟩
    clear n0 n1 n2 n3 n4 n5 n6
    clear d0 d1 d2 d3 d4
    replace B := B.trans (hb.mono B.size)
    clear hb N D C1
    go_wp2_with fail
    go_ret
    exact ⟨_, rfl, by rw [HV.out]; exact World.ownsRow_nil _ _ _ _, B⟩
  · have hpl : plB s g PM m = true := by unfold rtB at hR; simp only [Bool.and_eq_true] at hR; exact hR.2.1
    have hm12 : m ≤ 12 := (plB_t hpl).2.2.1.2
    have HV : Hid (loL M n s g PM m nu de c = slJ (loP (nwL M n s g PM m nu de c)) m) := by rw [Hid, loL, hR]
    have hlo := lo_num (M := M) (n := n) (s := s) (g := g) (PM := PM) (nu := nu) (de := de) (c := c) hm12
    have hla := la_lt (M := M) (n := n) (s := s) (g := g) (PM := PM) (m := m) (nu := nu) (de := de) (c := c)
    have hid := id_lt m hm12
    have C2 := fun w' => slotSet_any s g p m d w' hm12
    have C3 := fun (w' : World) (h : Below w.heap.size w w') => list_any (slJ (loP (nwL M n s g PM m nu de c)) m) (slJ_asc (by omega)) w' (HT.out.below h)
    rw [hR] at C1
    rw [← hlo] at C3
    clear hlo hR hpl hm12 HT
    generalize slJ (loP (nwL M n s g PM m nu de c)) m = L at *
    generalize laN M n s g PM m nu de c = la at *
    generalize foN yes (fun i => (i : Int)) m = id0 at *
    rw [← u64_andNot_nat id0 la (by omega) (by omega)] at C3
    go_enter Tryd.func15, Tryd.ntmps15
    go_upto_region 1 with fail
    generalize (w.alloc (.cells #[.int .i64 s, .int .i64 g, .slice p m d] 27)).alloc (.cells #[.int .i64 nu, .int .i64 de] 39) = v at *
    obtain ⟨n0, n1, n2, n3, n4, n5, n6⟩ := id N
    obtain ⟨d0, d1, d2, d3, d4⟩ := id D
    go_wp2_with fail
    refine (C1 _ B).mono ?_
    rintro e v1 ⟨rfl, hb⟩
    clear n0 n1 n2 n3 n4 n5 n6
    clear d0 d1 d2 d3 d4
    replace B := B.trans (hb.mono B.size)
    replace N := N.below hb
    clear hb D C1
    obtain ⟨n0, n1, n2, n3, n4, n5, n6⟩ := id N
    go_wp2_with fail
    refine (C2 _).mono ?_
    rintro e v2 ⟨rfl, hb⟩
    clear n0 n1 n2 n3 n4 n5 n6
    replace B := B.trans (hb.mono B.size)
    clear hb N C2
    go_wp2_with fail
    refine (C3 _ B).mono ?_
    rintro e v3 ⟨v', rfl, OW, hb⟩
    have HO : Hid (v3.ownsRow w.heap.size 3 1 v' L.length (irow L)) := own_baseI16 OW B.size
    replace B := B.trans (hb.mono B.size)
    clear OW hb C3
    go_wp2_with fail
    go_ret
    exact ⟨_, rfl, by rw [HV.out]; exact HO.out, B⟩
set_option maxRecDepth 100000 in
set_option maxHeartbeats 8000000 in
theorem implHeardUnlike_any (a : Option Addr) (n k : Nat) (M : Nat → VT) (a' : Option Addr) (n' k' : Nat) (M' : Nat → VT) (w : World) (T : Tb w) (hm : n ≤ maxLen) (hs : SrcC w a (n * 2) (MFIval M)) (hm' : n' ≤ maxLen) (hs' : SrcC w a' (n' * 2) (MFIval M')) :
    Calls Tryd.prog 19 #[.slice a n k, .slice a' n' k'] w fun e w' => ∃ v, e = .returned v ∧ w'.ownsRow w.heap.size 3 1 v (unL M n M' n').length (irow (unL M n M' n')) ∧ Below w.heap.size w w' := by
  have HT : Hid (Tb w) := T
  have HS : Hid (SrcC w a (n * 2) (MFIval M)) := hs
  have HS' : Hid (SrcC w a' (n' * 2) (MFIval M')) := hs'
  have C1 := fun (w' : World) (h : Below w.heap.size w w') => implHeardOk_any a n k M w' hm (HS.out.below h)
  have C2 := fun (w' : World) (h : Below w.heap.size w w') => implHeardOk_any a' n' k' M' w' hm' (HS'.out.below h)
  have B := Below.refl w.heap.size w
  clear T hs hs'
  cases h1 : hrB M n
  · have HV : Hid (unL M n M' n' = []) := by rw [Hid, unL, h1, Bool.false_and]
    clear C2 HT
    go_enter Tryd.func19, Tryd.ntmps19
    go_wp2_with fail
    refine (C1 _ B).mono ?_
    rintro e v1 ⟨rfl, hb⟩
    rw [h1]
    clear C1 B
    go_wp2_with fail
    go_ret
    exact ⟨_, rfl, by rw [HV.out]; exact World.ownsRow_nil _ _ _ _, hb⟩
  cases h2 : hrB M' n'
  · have HV : Hid (unL M n M' n' = []) := by rw [Hid, unL, h1, h2, Bool.and_false]
    clear HT
    go_enter Tryd.func19, Tryd.ntmps19
    go_wp2_with fail
    refine (C1 _ B).mono ?_
    rintro e v1 ⟨rfl, hb⟩
    rw [h1]
    clear C1 B
    go_wp2_with fail
    refine (C2 _ hb).mono ?_
    rintro e v2 ⟨rfl, hb2⟩
    rw [h2]
    replace hb := hb.trans (hb2.mono hb.size)
    clear C2 hb2
    go_wp2_with fail
    go_ret
    exact ⟨_, rfl, by rw [HV.out]; exact World.ownsRow_nil _ _ _ _, hb⟩
  have HV : Hid (unL M n M' n' = slJ (unP M n M' n') 16) := by (rw [Hid, unL, h1, h2]; try rfl)
  have r1 := hrB_t h1
  have r2 := hrB_t h2
  have hun := un_num r1.2 r2.2
  have l1 := sh_lt r1.2
  have l2 := sh_lt r2.2
  have C3 := fun (w' : World) (h : Below w.heap.size w w') => slotsHeard_any a n k M w' r1.2 r1.1 (HS.out.below h)
  have C4 := fun (w' : World) (h : Below w.heap.size w w') => slotsHeard_any a' n' k' M' w' r2.2 r2.1 (HS'.out.below h)
  have C5 := fun (w' : World) (h : Below w.heap.size w w') => list_any (slJ (unP M n M' n') 16) (slJ_asc (Nat.le_refl _)) w' (HT.out.below h)
  rw [← hun] at C5
  clear hun r1 r2 HT HS HS'
  generalize slJ (unP M n M' n') 16 = L at *
  generalize foN yes (slS M) n = X at *
  generalize foN yes (slS M') n' = Y at *
  rw [← u64_xor_nat X Y (by omega) (by omega)] at C5
  go_enter Tryd.func19, Tryd.ntmps19
  go_wp2_with fail
  refine (C1 _ B).mono ?_
  rintro e v1 ⟨rfl, hb⟩
  rw [h1]
  clear C1 B
  go_wp2_with fail
  refine (C2 _ hb).mono ?_
  rintro e v2 ⟨rfl, hb2⟩
  rw [h2]
  replace hb := hb.trans (hb2.mono hb.size)
  clear C2 hb2 h1 h2
  go_wp2_with fail
  refine (C3 _ hb).mono ?_
  rintro e v3 ⟨rfl, hb2⟩
  replace hb := hb.trans (hb2.mono hb.size)
  clear C3 hb2
  go_wp2_with fail
  refine (C4 _ hb).mono ?_
  rintro e v4 ⟨rfl, hb2⟩
  replace hb := hb.trans (hb2.mono hb.size)
  clear C4 hb2
  go_wp2_with fail
  refine (C5 _ hb).mono ?_
  rintro e v5 ⟨v', rfl, OW, hb2⟩
  have HO : Hid (v5.ownsRow w.heap.size 3 1 v' L.length (irow L)) := own_baseI16 OW hb.size
  replace hb := hb.trans (hb2.mono hb.size)
  clear OW hb2 C5
  go_wp2_with fail
  go_ret
  exact ⟨_, rfl, by rw [HV.out]; exact HO.out, hb⟩
set_option maxRecDepth 100000 in
set_option maxHeartbeats 8000000 in
theorem implHeardOwners_any (a : Option Addr) (n k : Nat) (M : Nat → VT) (s g : Int) (p : Option Addr) (m d : Nat) (PM : Nat → SlT) (w : World) (T : Tb w) (hm : n ≤ maxLen) (hs : SrcC w a (n * 2) (MFIval M)) (hpm : m ≤ maxLen) (hp : SrcC w p (m * 2) (MFSlot PM)) :
    Calls Tryd.prog 18 #[.slice a n k, .agg #[.int .i64 s, .int .i64 g, .slice p m d]] w fun e w' => ∃ v, e = .returned v ∧ w'.ownsRow w.heap.size 3 1 v (onL M n s g PM m).length (irow (onL M n s g PM m)) ∧ Below w.heap.size w w' := by
  have B := Below.nw w (.cells #[.int .i64 s, .int .i64 g, .slice p m d] 27)
  have N := Tx3.new w (.int .i64 s) (.int .i64 g) (.slice p m d) 27
  have HS : Hid (SrcC w a (n * 2) (MFIval M)) := hs
  have HP : Hid (SrcC w p (m * 2) (MFSlot PM)) := hp
  have HT : Hid (Tb w) := T
  have C1 := fun w' h => implHeardOk_any a n k M w' hm h
  have C2 := fun w' h => planOk_any s g p m d PM w' hpm h
  clear T hs hp
  cases h1 : hrB M n
  · have HV : Hid (onL M n s g PM m = []) := by rw [Hid, onL, h1, Bool.false_and]
    go_enter Tryd.func18, Tryd.ntmps18; go_upto_region 1 with fail; generalize w.alloc (.cells #[.int .i64 s, .int .i64 g, .slice p m d] 27) = v at *
    go_wp2_with fail; refine (C1 _ (HS.out.below B)).mono ?_; rintro e v1 ⟨rfl, hb⟩; rw [h1]; replace B := B.trans (hb.mono B.size); replace N := N.below hb; clear hb
    go_wp2_with fail
    go_ret
    exact ⟨_, rfl, by rw [HV.out]; exact World.ownsRow_nil _ _ _ _, B⟩
  cases h2 : plB s g PM m
  · have HV : Hid (onL M n s g PM m = []) := by rw [Hid, onL, h1, h2, Bool.and_false]
    go_enter Tryd.func18, Tryd.ntmps18; go_upto_region 1 with fail; generalize w.alloc (.cells #[.int .i64 s, .int .i64 g, .slice p m d] 27) = v at *
    go_wp2_with fail; refine (C1 _ (HS.out.below B)).mono ?_; rintro e v1 ⟨rfl, hb⟩; rw [h1]; replace B := B.trans (hb.mono B.size); replace N := N.below hb; clear hb
    obtain ⟨n0, n1, n2, n3, n4, n5, n6⟩ := id N; go_wp2_with fail; refine (C2 _ (HP.out.below B)).mono ?_; rintro e v2 ⟨rfl, hb⟩; clear n0 n1 n2 n3 n4 n5 n6; rw [h2]; replace B := B.trans (hb.mono B.size); replace N := N.below hb; clear hb
    go_wp2_with fail
    go_ret
    exact ⟨_, rfl, by rw [HV.out]; exact World.ownsRow_nil _ _ _ _, B⟩
  have HV : Hid (onL M n s g PM m = slJ (owP M n PM m) 8) := by rw [Hid, onL, h1, h2]; rfl
  have HH : Hid (hrA M n = true) := (hrB_t h1).2
  have HPL : Hid (plB s g PM m = true) := h2
  have hn16 := (hrB_t h1).1
  have hm12 : 1 ≤ m ∧ m ≤ 12 := (plB_t h2).2.2.1
  have C3 := fun (w' : World) (h : Below w.heap.size w w') => list_any (slJ (owP M n PM m) 8) (slJ_asc (by omega)) w' (HT.out.below h)
  rw [← ow_num HH.out HPL.out] at C3
  go_enter Tryd.func18, Tryd.ntmps18; go_upto_region 1 with fail; generalize w.alloc (.cells #[.int .i64 s, .int .i64 g, .slice p m d] 27) = v at *
  go_wp2_with fail; refine (C1 _ (HS.out.below B)).mono ?_; rintro e v1 ⟨rfl, hb⟩; rw [h1]; replace B := B.trans (hb.mono B.size); replace N := N.below hb; clear hb
  obtain ⟨n0, n1, n2, n3, n4, n5, n6⟩ := id N; go_wp2_with fail; refine (C2 _ (HP.out.below B)).mono ?_; rintro e v2 ⟨rfl, hb⟩; clear n0 n1 n2 n3 n4 n5 n6; rw [h2]; replace B := B.trans (hb.mono B.size); replace N := N.below hb; clear hb
  clear C1 C2 h1 h2 HT hm hpm
  go_wp2_with fail
  go_loopw [5, 18] (fun l i wr => ∃ (q : Nat), q ≤ n ∧ l = .int .u64 (foN (ownP M m) (ownG M PM) q : Int) ∧ i = .int .i64 (q : Int) ∧ Below w.heap.size w wr ∧ Tx3 wr w.heap.size (.int .i64 s) (.int .i64 g) (.slice p m d)) (fun _ i _ => n - (intOf i).toNat)
  case atStart => exact ⟨0, Nat.zero_le _, rfl, rfl, B, N⟩
  case round =>
    clear B N
    obtain ⟨q, hq, rfl, rfl, B, N⟩ := hrel
    by_cases hlt : q < n
    · obtain ⟨x0, x1, hM⟩ := tupIval M q
      obtain ⟨b, off, rfl, hf⟩ : ∃ b off, a = some ⟨b, off, none⟩ ∧ Cs w b off (n * 2) (MFIval M) := by
        rcases HS.out with q | q
        · exact absurd q (by omega)
        · exact q
      obtain ⟨c0, c1⟩ := (hf.below B hf.1).elIval hlt hM
      have HLT : Hid (q < n) := hlt
      have hli : (q : Int) < (n : Int) := by omega
      have h0 := slS_in HH.out hlt
      have e0 : slS M q = x0 := by unfold slS; rw [hM]
      have HIN := fun (ho : ownP M m q = true) => ownG_in HH.out HPL.out hlt ho
      have hfl := foN_lt (P := ownP M m) (g := ownG M PM) (k := q) fun i hi ho => by have := ownG_in HH.out HPL.out (show i < n by omega) ho; omega
      have HF1 : ownP M m q = false → Hid (foN (ownP M m) (ownG M PM) (q + 1) = foN (ownP M m) (ownG M PM) q) := fun h => foN_no h
      have HF2 : ownP M m q = true → Hid (foN (ownP M m) (ownG M PM) (q + 1) = foN (ownP M m) (ownG M PM) q ||| 2 ^ (PM x0.toNat).1.toNat) := fun h => by rw [Hid, foN_yes h, ownG, e0]
      have hoP : ownP M m q = decide (x0 < (m : Int)) := by unfold ownP; rw [e0]
      have hoG : ownG M PM q = (PM x0.toNat).1 := by unfold ownG; rw [e0]
      rw [hoP] at HF1 HF2 HIN
      rw [hoG] at HIN
      rw [e0] at h0
      generalize foN (ownP M m) (ownG M PM) q = S at *
      have A1 := Below.nw wr (.cells #[.int .i64 x0, .int .i64 x1] 80)
      have Z := Bx2.new wr (.int .i64 x0) (.int .i64 x1) 80
      replace B := B.trans (A1.mono B.size)
      replace N := N.below A1
      clear A1 hM hf e0 hoP hoG
      go_upto_region 7 with fail
      clear c0 c1
      generalize wr.alloc (.cells #[.int .i64 x0, .int .i64 x1] 80) = v9 at *
      generalize wr.heap.size = jo at *
      obtain ⟨z0, z1, z2, z3, z4⟩ := id Z
      obtain ⟨n0, n1, n2, n3, n4, n5, n6⟩ := id N
      by_cases hx : x0 < (m : Int)
      · replace HF2 := HF2 (decide_eq_true hx)
        replace HIN := HIN (decide_eq_true hx)
        obtain ⟨b', off', rfl, hf'⟩ : ∃ b off, p = some ⟨b, off, none⟩ ∧ Cs w b off (m * 2) (MFSlot PM) := by
          rcases HP.out with q | q
          · exact absurd q (by omega)
          · exact q
        obtain ⟨q', hq'⟩ : ∃ q' : Nat, x0 = (q' : Int) := ⟨x0.toNat, by omega⟩
        subst hq'
        rw [Int.toNat_natCast] at HF2 HIN
        obtain ⟨o, l, hO⟩ := tupSlot PM q'
        obtain ⟨o0, -⟩ := (hf'.below B hf'.1).elSlot (show q' < m by omega) hO
        rw [hO] at HF2 HIN
        have C5 := fun w' => with_any S o.toNat w' hfl (by have := HIN; omega)
        rw [show ((o.toNat : Nat) : Int) = o by have := HIN; omega] at C5
        clear HF1 hO hf' HIN hfl h0
        go_wp2_with fail
        refine (C5 _).mono ?_
        rintro e v5 ⟨rfl, rfl⟩
        clear C5
        have HF2' : Hid (foN (ownP M m) (ownG M PM) (q + 1) = S ||| 2 ^ o.toNat) := HF2
        rw [← HF2'.out]
        clear HF2 HF2'
        go_wp2_with fail
        go_roundw
        case rel => exact ⟨q + 1, HLT.out, rfl, by go_num, B, N⟩
        case measure => have hlt' := HLT.out; simp [intOf]; omega
      · replace HF1 := HF1 (decide_eq_false hx)
        clear HF2 HIN hfl h0
        go_wp2_with fail
        go_roundw
        case rel => exact ⟨q + 1, HLT.out, by rw [HF1.out], by go_num, B, N⟩
        case measure => have hlt' := HLT.out; simp [intOf]; omega
    · have hkn : q = n := by omega
      subst hkn
      have hli : ¬ (q : Int) < (q : Int) := by omega
      go_wp2_with fail
      refine (C3 _ B).mono ?_
      rintro e v3 ⟨v', rfl, OW, hb⟩
      have HO : Hid (v3.ownsRow w.heap.size 3 1 v' (slJ (owP M q PM m) 8).length (irow (slJ (owP M q PM m) 8))) := own_baseI16 OW B.size
      replace B := B.trans (hb.mono B.size)
      clear OW hb C3
      go_wp2_with fail
      go_ret
      exact ⟨_, rfl, by rw [HV.out]; exact HO.out, B⟩
end Go.Proofs.YtdahabbdhjgpdaaDoor
namespace Go.Proofs.YtdahabbdhjgpdaaDoor
open Go.RowKit
set_option linter.unusedVariables false
theorem own_form16 {w : World} {base s n' : Nat} {T : TypeId} {v : Value} {xs : List Value} (h : w.ownsRow base T s v n' xs) : ∃ a c, v = .slice a n' c ∧ ((a = none ∧ n' = 0 ∧ c = 0) ∨ ∃ b off, a = some ⟨b, off, none⟩) := by
  rcases h.2 with ⟨he, h0⟩ | ⟨g, cap, cur, he, _⟩
  · exact ⟨none, 0, by rw [he, h0], .inl ⟨rfl, h0, rfl⟩⟩
  · exact ⟨_, cap, he, .inr ⟨g, 0, rfl⟩⟩
theorem drift_at {x y : Int} (x0 : 0 ≤ x) (x1 : x ≤ 255) (y0 : 0 ≤ y) (y1 : y ≤ 255) : okD (x % 3) (10 + y) = true := by
  unfold okD
  rw [decide_eq_true]
  omega
theorem late_w {c R : Int} (h1 : 0 ≤ c ∧ c ≤ 1000000000000) (h2 : 1 ≤ R ∧ R ≤ 13200000) : wrap64 (2 * R) = 2 * R ∧ wrap64 (c + 2 * R) = c + 2 * R ∧ wrap64 (c + 2 * R + 2) = c + 2 * R + 2 := ⟨Go.IntWalk.wrap64_in _ ⟨by omega, by omega⟩, Go.IntWalk.wrap64_in _ ⟨by omega, by omega⟩, Go.IntWalk.wrap64_in _ ⟨by omega, by omega⟩⟩
/- A row, and the library's table. -/
def SrcT (w : World) (a : Option Addr) (n : Nat) (F : Nat → Value) : Prop := SrcC w a n F ∧ Tb w
theorem SrcT.below {w w' : World} {a : Option Addr} {n : Nat} {F : Nat → Value} (h : SrcT w a n F) (hb : Below w.heap.size w w') : SrcT w' a n F := ⟨h.1.below hb, h.2.below hb⟩
set_option maxRecDepth 100000 in
set_option maxHeartbeats 16000000 in
theorem walkHeard (a0 : Option Addr) (l0 c0 : Nat) (w : World) (E : Tb w) (hcode : CodeB w w.heap.size a0 l0) :
    Calls Tryd.prog 3 #[.slice a0 l0 c0] w fun e w' => e = .returned (.bool true) ∧ Below w.heap.size w w' := by
  have HC : Hid (CodeB w w.heap.size a0 l0) := hcode
  have HT : Hid (Tb w) := E
  clear hcode E
  go_enter Tryd.func3, Tryd.ntmps3
  go_wp2_with fail
  refine (big_any _ _ _ _).mono ?_
  rintro e w' ⟨rfl, rfl⟩
  by_cases hbg : 1048576 < (l0 : Int)
  · have hbd : decide (1048576 < (l0 : Int)) = true := decide_eq_true hbg
    go_wp2
    go_ret
    exact ⟨rfl, Below.refl _ _⟩
  have hbd : decide (1048576 < (l0 : Int)) = false := decide_eq_false hbg
  have hl0 : l0 ≤ 1048576 := by omega
  go_wp2_with fail
  refine (DrawHear_any a0 l0 c0 w hl0 HC.out).mono ?_
  rintro e w1 ⟨v, L, s, g, pa, pm, pc, PM, k, fr, tu, no, lo, hi, sl, bo, ct, rfl, hL, hpm, hbo, OL, SP, B⟩
  obtain ⟨la, lc, rfl, hla⟩ := own_form16 OL
  have HLS : Hid (SrcC w1 la (L.length * 2) (MFIval (gV L))) := ownS OL
  have HPS : Hid (SrcC w1 pa (pm * 2) (MFSlot PM)) := SP
  have hmL : L.length ≤ maxLen := by unfold maxLen; omega
  have hmP : pm ≤ maxLen := by unfold maxLen; omega
  have CI := fun w' h h' => implHear_any la L.length lc (gV L) s g pa pm pc PM k fr tu no lo hi sl bo ct w' hmL h hla hmP h' (by omega)
  have CS := fun w' h h' => specHear_any la L.length lc (gV L) s g pa pm pc PM k fr tu no lo hi sl bo ct w' hmL h hla hmP h' (by omega)
  clear OL SP hbd hbg
  have hb := (Below.nw w1 (.cells #[.int .i64 s, .int .i64 g, .slice pa pm pc] 27)).alloc (by simp) (.cells #[.int .i64 k, .int .i64 fr, .int .i64 tu, .int .i64 no, .int .i64 lo, .int .i64 hi, .int .i64 sl, .string bo] 31)
  have N := (Tx3.new w1 (.int .i64 s) (.int .i64 g) (.slice pa pm pc) 27).below (Below.nw _ (.cells #[.int .i64 k, .int .i64 fr, .int .i64 tu, .int .i64 no, .int .i64 lo, .int .i64 hi, .int .i64 sl, .string bo] 31))
  have P := Box8.new (w1.alloc (.cells #[.int .i64 s, .int .i64 g, .slice pa pm pc] 27)) k fr tu no lo hi sl bo 31
  simp only [World.size_alloc] at P
  go_upto_region 4 with fail
  replace B := B.trans (hb.mono B.size)
  replace HLS : Hid (SrcC _ la (L.length * 2) (MFIval (gV L))) := HLS.out.below hb
  replace HPS : Hid (SrcC _ pa (pm * 2) (MFSlot PM)) := HPS.out.below hb
  clear hb
  generalize (w1.alloc (.cells #[.int .i64 s, .int .i64 g, .slice pa pm pc] 27)).alloc (.cells #[.int .i64 k, .int .i64 fr, .int .i64 tu, .int .i64 no, .int .i64 lo, .int .i64 hi, .int .i64 sl, .string bo] 31) = w2 at *
  generalize w1.heap.size = jx at *
  obtain ⟨n0, n1, n2, n3, n4, n5, n6⟩ := id N
  obtain ⟨p0, p1, p2, p3, p4, p5, p6, p7, p8⟩ := id P
  go_wp2_with fail
  refine (CI _ HLS.out HPS.out).mono ?_
  rintro e w3 ⟨vo, rfl, OO, hb⟩
  clear n0 n1 n2 n3 n4 n5 n6
  clear p0 p1 p2 p3 p4 p5 p6 p7 p8
  replace B := B.trans (hb.mono B.size)
  replace N := N.below hb
  replace P := P.below hb
  replace HLS : Hid (SrcC _ la (L.length * 2) (MFIval (gV L))) := HLS.out.below hb
  replace HPS : Hid (SrcC _ pa (pm * 2) (MFSlot PM)) := HPS.out.below hb
  clear hb CI
  obtain ⟨n0, n1, n2, n3, n4, n5, n6⟩ := id N
  obtain ⟨p0, p1, p2, p3, p4, p5, p6, p7, p8⟩ := id P
  go_wp2_with fail
  refine (CS _ HLS.out HPS.out).mono ?_
  rintro e w4 ⟨vq, rfl, _, hb⟩
  clear n0 n1 n2 n3 n4 n5 n6
  clear p0 p1 p2 p3 p4 p5 p6 p7 p8
  replace B := B.trans (hb.mono B.size)
  replace N := N.below hb
  replace P := P.below hb
  replace HLS : Hid (SrcC _ la (L.length * 2) (MFIval (gV L))) := HLS.out.below hb
  replace HPS : Hid (SrcC _ pa (pm * 2) (MFSlot PM)) := HPS.out.below hb
  replace OO := own_belK' OO hb
  clear hb CS
  have HLM : Hid (L.length ≤ 8) := hL
  generalize hMM : gV L = M at *
  generalize hnn : L.length = n at *
  clear hMM hnn
  cases h1 : hgB M n s g PM pm ct
  · have e0 : heC M n s g PM pm k fr tu no lo hi sl bo ct = 1 := by rw [heC, h1]
    rw [e0]
    clear e0 OO N P HLS HPS hla h1
    go_wp2_with fail
    go_ret
    exact ⟨rfl, B⟩
  cases h2 : hmB PM pm k fr tu no lo hi sl bo
  · have e0 : heC M n s g PM pm k fr tu no lo hi sl bo ct = 2 := by rw [heC, h1, h2]
    have e1 : heV M n s g PM pm k fr tu no lo hi sl bo ct = lsV M n := by rw [heV, h1, h2]
    rw [e0]
    rw [e1, lsV_row, lsV_len] at OO
    obtain ⟨oa, oc, rfl, _⟩ := own_form16 OO
    have CQ := sameHeard_src (c := oc) (c' := lc) (show n ≤ 900 by have := HLM.out; omega) (ownS OO) HLS.out
    clear e0 e1 N P HPS hla h1 h2 OO HLS
    go_wp2_with fail
    refine CQ.mono ?_
    rintro e w5 ⟨rfl, hb⟩
    replace B := B.trans (hb.mono B.size)
    clear hb CQ
    go_wp2_with fail
    go_ret
    exact ⟨rfl, B⟩
  have e0 : heC M n s g PM pm k fr tu no lo hi sl bo ct = 0 := by rw [heC, h1, h2]
  have e1 : heV M n s g PM pm k fr tu no lo hi sl bo ct = hpL M n sl ct := by rw [heV, h1, h2]
  rw [e0]
  rw [e1] at OO
  obtain ⟨r1, r2, r3⟩ := hg_t h1
  have hO16 := hO_right h1 h2
  have hcb := okT_t16 r3
  have hRb := rn_bd r2
  rw [← rnI_t r2] at hRb
  have HF : Hid (∀ nu de, okD nu de = true → HFacts (hpL M n sl ct) s g PM pm nu de ct sl fr) := fun nu de hd => heard_facts h1 h2 hd
  generalize hpL M n sl ct = O at *
  obtain ⟨oa, oc, rfl, _⟩ := own_form16 OO
  have HOS : Hid (SrcT w4 oa (O.length * 2) (MFIval (gV O))) := ⟨ownS OO, HT.out.below B⟩
  clear HT
  clear e0 e1 OO HLS hla h1 h2 r1 r3
  have hmO : O.length ≤ maxLen := by unfold maxLen; omega
  go_wp2_with fail
  refine (at_any a0 l0 c0 1 w.heap.size _ hl0 (by decide) (HC.out.below B)).mono ?_
  rintro e w' ⟨x, rfl, x0, x1, rfl⟩
  go_wp2_with fail
  refine (at_any a0 l0 c0 2 w.heap.size _ hl0 (by decide) (HC.out.below B)).mono ?_
  rintro e w' ⟨y, rfl, y0, y1, rfl⟩
  have hd := drift_at x0 x1 y0 y1
  have hwy : wrap64 (10 + y) = 10 + y := Go.IntWalk.wrap64_in _ ⟨by omega, by omega⟩
  have hwy' : IntKind.i64.wrap (10 + y) = 10 + y := Go.IntWalk.i64_in _ ⟨by omega, by omega⟩
  have F := HF.out _ _ hd
  clear HF
  have hb := Below.nw w4 (.cells #[.int .i64 (x % 3), .int .i64 (10 + y)] 39)
  have D := Bx2.new w4 (.int .i64 (x % 3)) (.int .i64 (10 + y)) 39
  go_upto_region 11 with fail
  replace B := B.trans (hb.mono B.size)
  replace N := N.below hb
  replace P := P.below hb
  replace HOS : Hid (SrcT _ oa (O.length * 2) (MFIval (gV O))) := HOS.out.below hb
  replace HPS : Hid (SrcC _ pa (pm * 2) (MFSlot PM)) := HPS.out.below hb
  clear hb hwy hwy' x0 x1 y0 y1
  generalize w4.alloc (.cells #[.int .i64 (x % 3), .int .i64 (10 + y)] 39) = w5 at *
  generalize w4.heap.size = jd at *
  generalize x % 3 = nu at *
  generalize 10 + y = de at *
  have CNow := fun w' (h : SrcT w' oa (O.length * 2) (MFIval (gV O))) h' => implHeardNow_any oa O.length oc (gV O) s g pa pm pc PM nu de ct w' h.2 hmO h.1 hmP h'
  have CLost := fun w' (h : SrcT w' oa (O.length * 2) (MFIval (gV O))) h' => implHeardLost_any oa O.length oc (gV O) s g pa pm pc PM nu de ct w' h.2 hmO h.1 hmP h'
  have CLater := fun w' (h : SrcT w' oa (O.length * 2) (MFIval (gV O))) h' => implHeardLost_any oa O.length oc (gV O) s g pa pm pc PM nu de (ct + 2 * rnI s g PM pm + 2) w' h.2 hmO h.1 hmP h'
  have COwn := fun w' (h : SrcT w' oa (O.length * 2) (MFIval (gV O))) h' => implHeardOwners_any oa O.length oc (gV O) s g pa pm pc PM w' h.2 hmO h.1 hmP h'
  have CUn := fun w' (h : SrcT w' oa (O.length * 2) (MFIval (gV O))) => implHeardUnlike_any oa O.length oc (gV O) oa O.length oc (gV O) w' h.2 hmO h.1 hmO h.1
  have CR := fun w' h => implRoundOf_any s g pa pm pc PM w' hmP h
  have hLN := nwL_len (gV O) O.length s g PM pm nu de ct
  have hLL := loL_len (gV O) O.length s g PM pm nu de ct
  have hLL2 := loL_len (gV O) O.length s g PM pm nu de (ct + 2 * rnI s g PM pm + 2)
  have hLOw := onL_len (gV O) O.length s g PM pm
  have HNow : Hid (hasJ (gI (nwL (gV O) O.length s g PM pm nu de ct)) sl (nwL (gV O) O.length s g PM pm nu de ct).length = true) := F.now
  have HLost : Hid (hasJ (gI (loL (gV O) O.length s g PM pm nu de ct)) sl (loL (gV O) O.length s g PM pm nu de ct).length = false) := F.lost
  have HAll : Hid (∀ i : Nat, i < pm → hasJ (gI (nwL (gV O) O.length s g PM pm nu de ct)) (i : Int) (nwL (gV O) O.length s g PM pm nu de ct).length = !hasJ (gI (loL (gV O) O.length s g PM pm nu de ct)) (i : Int) (loL (gV O) O.length s g PM pm nu de ct).length) := F.all
  have HLat : Hid (ct + 2 * rnI s g PM pm + 2 ≤ 1000000000000 → hasJ (gI (loL (gV O) O.length s g PM pm nu de (ct + 2 * rnI s g PM pm + 2))) sl (loL (gV O) O.length s g PM pm nu de (ct + 2 * rnI s g PM pm + 2)).length = true) := F.later
  have HOwn : Hid (hasJ (gI (onL (gV O) O.length s g PM pm)) fr (onL (gV O) O.length s g PM pm).length = true) := F.own
  rw [F.same] at CUn
  clear F hd
  generalize nwL (gV O) O.length s g PM pm nu de ct = LN at *
  generalize loL (gV O) O.length s g PM pm nu de ct = LL0 at *
  generalize loL (gV O) O.length s g PM pm nu de (ct + 2 * rnI s g PM pm + 2) = LL at *
  generalize onL (gV O) O.length s g PM pm = LO at *
  generalize rnI s g PM pm = RR at *
  obtain ⟨n0, n1, n2, n3, n4, n5, n6⟩ := id N
  obtain ⟨d0, d1, d2, d3, d4⟩ := id D
  go_wp2_with fail
  refine (CNow _ HOS.out HPS.out).mono ?_
  rintro e w6 ⟨vn, rfl, OW, hb⟩
  clear n0 n1 n2 n3 n4 n5 n6
  clear d0 d1 d2 d3 d4
  obtain ⟨na, nc, rfl, _, _, QN⟩ := ownF_src OW
  have HNW : Hid (SrcC w6 na (LN.length * 1) (MFInt (gI LN))) := QN
  clear OW QN CNow
  replace B := B.trans (hb.mono B.size)
  replace N := N.below hb
  replace P := P.below hb
  replace HOS : Hid (SrcT _ oa (O.length * 2) (MFIval (gV O))) := HOS.out.below hb
  replace HPS : Hid (SrcC _ pa (pm * 2) (MFSlot PM)) := HPS.out.below hb
  replace D := D.below hb
  clear hb
  obtain ⟨n0, n1, n2, n3, n4, n5, n6⟩ := id N
  obtain ⟨d0, d1, d2, d3, d4⟩ := id D
  go_wp2_with fail
  refine (CLost _ HOS.out HPS.out).mono ?_
  rintro e w7 ⟨vl, rfl, OW, hb⟩
  clear n0 n1 n2 n3 n4 n5 n6
  clear d0 d1 d2 d3 d4
  obtain ⟨ya, yc, rfl, _, _, QL⟩ := ownF_src OW
  have HLO : Hid (SrcC w7 ya (LL0.length * 1) (MFInt (gI LL0))) := QL
  clear OW QL CLost
  replace B := B.trans (hb.mono B.size)
  replace N := N.below hb
  replace P := P.below hb
  replace HOS : Hid (SrcT _ oa (O.length * 2) (MFIval (gV O))) := HOS.out.below hb
  replace HPS : Hid (SrcC _ pa (pm * 2) (MFSlot PM)) := HPS.out.below hb
  replace D := D.below hb
  replace HNW : Hid (SrcC _ na (LN.length * 1) (MFInt (gI LN))) := HNW.out.below hb
  clear hb
  obtain ⟨p0, p1, p2, p3, p4, p5, p6, p7, p8⟩ := id P
  go_wp2_with fail
  refine (wth_any _ _ _ (gI LN) sl _ (by omega) HNW.out).mono ?_
  rintro e w' ⟨rfl, rfl⟩
  rw [HNow.out]
  go_wp2_with fail
  refine (wth_any _ _ _ (gI LL0) sl _ (by omega) HLO.out).mono ?_
  rintro e w' ⟨rfl, rfl⟩
  rw [HLost.out]
  clear p0 p1 p2 p3 p4 p5 p6 p7 p8
  clear HNow HLost
  have HN7 : Hid (Tx3 w7 jx (.int .i64 s) (.int .i64 g) (.slice pa pm pc)) := N
  have HP7 : Hid (Box8 w7 (jx + 1) k fr tu no lo hi sl bo) := P
  have HD7 : Hid (Bx2 w7 jd (.int .i64 nu) (.int .i64 de)) := D
  have HB7 : Hid (Below w.heap.size w w7) := B
  clear N P D B
  go_wp2_with fail
  go_loopw [14] (fun i wr => ∃ (q : Nat), q ≤ pm ∧ i = .int .i64 q ∧ w7 = wr) (fun i _ => pm - (intOf i).toNat)
  case atStart => exact ⟨0, Nat.zero_le _, rfl, by first | rfl | trivial⟩
  case round =>
    obtain ⟨q, hq, rfl, hwr⟩ := hrel
    subst hwr
    have N := HN7.out
    by_cases hlt : q < pm
    · have hli : (q : Int) < (pm : Int) := by omega
      have HQ : Hid (q < pm) := hlt
      have hal := HAll.out q hlt
      have K1 := wth_any na LN.length nc (gI LN) (q : Int) w7 (by omega) HNW.out
      have K2 := wth_any ya LL0.length yc (gI LL0) (q : Int) w7 (by omega) HLO.out
      rw [hal] at K1
      generalize hasJ (gI LL0) (q : Int) LL0.length = bb at *
      clear hal HAll hlt hq
      obtain ⟨n0, n1, n2, n3, n4, n5, n6⟩ := id N
      go_wp2_with fail
      refine K1.mono ?_
      rintro e w' ⟨rfl, rfl⟩
      go_wp2_with fail
      refine K2.mono ?_
      rintro e w' ⟨rfl, rfl⟩
      clear K1 K2
      cases bb
      · go_wp2_with fail
        go_roundw
        case rel => exact ⟨q + 1, HQ.out, by go_num, by first | rfl | trivial⟩
        case measure => have hlt' := HQ.out; simp [intOf]; omega
      · go_wp2_with fail
        go_roundw
        case rel => exact ⟨q + 1, HQ.out, by go_num, by first | rfl | trivial⟩
        case measure => have hlt' := HQ.out; simp [intOf]; omega
    · have hkn : q = pm := by omega
      subst hkn
      have hli : ¬ (q : Int) < (q : Int) := by omega
      obtain ⟨hw1, hw2, hw3⟩ := late_w hcb hRb
      clear HAll hlt hq HNW HLO
      obtain ⟨n0, n1, n2, n3, n4, n5, n6⟩ := id N
      go_wp2_with fail
      refine (CR _ HPS.out).mono ?_
      rintro e w8 ⟨rfl, hb⟩
      clear n0 n1 n2 n3 n4 n5 n6
      have B := HB7.out.trans (hb.mono HB7.out.size)
      replace N := N.below hb
      have P := HP7.out.below hb
      have D := HD7.out.below hb
      replace HOS : Hid (SrcT _ oa (O.length * 2) (MFIval (gV O))) := HOS.out.below hb
      replace HPS : Hid (SrcC _ pa (q * 2) (MFSlot PM)) := HPS.out.below hb
      clear hb CR HN7 HP7 HD7 HB7
      by_cases hlate : 1000000000000 < ct + 2 * RR + 2
      · clear CLater COwn CUn HOS HPS N P D HLat HOwn
        go_wp2_with fail
        go_ret
        exact ⟨rfl, B⟩
      have HLate : Hid (hasJ (gI LL) sl LL.length = true) := HLat.out (by omega)
      clear HLat
      have hd1 : decide (1000000000000 < ct + 2 * RR + 2) = false := decide_eq_false hlate
      go_upto_region 23 with fail
      have SK : Hid (∀ w', Below w8.heap.size w8 w' → (fun w' => w'.cell? ⟨jx, 0, none⟩ = some (.int .i64 s) ∧ w'.cell? ⟨jx, 1, none⟩ = some (.int .i64 g) ∧ w'.cell? ⟨jx, 2, none⟩ = some (.slice pa q pc) ∧ w'.cell? ⟨jd, 0, none⟩ = some (.int .i64 nu) ∧ w'.cell? ⟨jd, 1, none⟩ = some (.int .i64 de) ∧ w'.cell? ⟨jx + 1, 1, none⟩ = some (.int .i64 fr) ∧ w'.cell? ⟨jx + 1, 6, none⟩ = some (.int .i64 sl)) w') := fun w' hw => ⟨(N.below hw).2.1, (N.below hw).2.2.1, (N.below hw).2.2.2.1, (D.below hw).2.1, (D.below hw).2.2.1, (P.below hw).2.2.1, (P.below hw).2.2.2.2.2.2.2.1⟩
      have HB8 : Hid (Below w.heap.size w w8) := B
      clear N P D B hw1 hw2 hw3 hd1 hlate HLM
      refine wp_region_held_drew (S := (fun w' => w'.cell? ⟨jx, 0, none⟩ = some (.int .i64 s) ∧ w'.cell? ⟨jx, 1, none⟩ = some (.int .i64 g) ∧ w'.cell? ⟨jx, 2, none⟩ = some (.slice pa q pc) ∧ w'.cell? ⟨jd, 0, none⟩ = some (.int .i64 nu) ∧ w'.cell? ⟨jd, 1, none⟩ = some (.int .i64 de) ∧ w'.cell? ⟨jx + 1, 1, none⟩ = some (.int .i64 fr) ∧ w'.cell? ⟨jx + 1, 6, none⟩ = some (.int .i64 sl))) (by kernel_rfl) ?_ (fun hHeld => ?_)
      · first | exact SK.out _ XB | exact SK.out _ (Below.drew (Below.refl _ _))
      have XB : Below w8.heap.size w8 w8.drew := Below.drew (Below.refl _ _)
      generalize w8.drew = vx at *
      refine wpAnyH_take (i := 0) (v := ?_) (by rw [List.getElem?_toArray]; rfl) (by kernel_rfl) (by kernel_rfl) (by kernel_rfl) (by intro _ _ _ h; exact h) (Or.inl ⟨by rfl, ?_⟩) (by assumption) ?_
      rotate_left
      · (intro w hSw; (try dsimp only at hSw); go_simp; all_goals with_reducible rfl)
      (try simp only [Act.put, List.setIfInBounds_toArray, List.set_cons_zero, List.set_cons_succ])
      refine wpAnyH_take (i := 1) (v := ?_) (by rw [List.getElem?_toArray]; rfl) (by kernel_rfl) (by kernel_rfl) (by kernel_rfl) (by intro _ _ _ h; exact h) (Or.inl ⟨by rfl, ?_⟩) (by assumption) ?_
      rotate_left
      · (intro w hSw; (try dsimp only at hSw); go_simp; all_goals with_reducible rfl)
      (try simp only [Act.put, List.setIfInBounds_toArray, List.set_cons_zero, List.set_cons_succ])
      refine wpAnyH_take (i := 2) (v := ?_) (by rw [List.getElem?_toArray]; rfl) (by kernel_rfl) (by kernel_rfl) (by kernel_rfl) (by intro _ _ _ h; exact h) (Or.inl ⟨by rfl, ?_⟩) (by assumption) ?_
      rotate_left
      · (intro w hSw; (try dsimp only at hSw); go_simp; all_goals with_reducible rfl)
      (try simp only [Act.put, List.setIfInBounds_toArray, List.set_cons_zero, List.set_cons_succ])
      refine wpAnyH_take (i := 3) (v := ?_) (by rw [List.getElem?_toArray]; rfl) (by kernel_rfl) (by kernel_rfl) (by kernel_rfl) (by intro _ _ _ h; exact h) (Or.inl ⟨by rfl, ?_⟩) (by assumption) ?_
      rotate_left
      · (intro w hSw; (try dsimp only at hSw); go_simp; all_goals with_reducible rfl)
      (try simp only [Act.put, List.setIfInBounds_toArray, List.set_cons_zero, List.set_cons_succ])
      refine wpAnyH_take (i := 5) (v := ?_) (by rw [List.getElem?_toArray]; rfl) (by kernel_rfl) (by kernel_rfl) (by kernel_rfl) (by intro _ _ _ h; exact h) (Or.inl ⟨by rfl, ?_⟩) (by assumption) ?_
      rotate_left
      · (intro w hSw; (try dsimp only at hSw); go_simp; all_goals with_reducible rfl)
      (try simp only [Act.put, List.setIfInBounds_toArray, List.set_cons_zero, List.set_cons_succ])
      refine wpAnyH_take (i := 6) (v := ?_) (by rw [List.getElem?_toArray]; rfl) (by kernel_rfl) (by kernel_rfl) (by kernel_rfl) (by intro _ _ _ h; exact h) (Or.inl ⟨by rfl, ?_⟩) (by assumption) ?_
      rotate_left
      · (intro w hSw; (try dsimp only at hSw); go_simp; all_goals with_reducible rfl)
      (try simp only [Act.put, List.setIfInBounds_toArray, List.set_cons_zero, List.set_cons_succ])
      refine wpAnyH_ready (rs := [4]) (by kernel_rfl) (by simp) ?_
      refine AllReadyH.cons (by rw [List.getElem?_toArray]; rfl) (fun K hK => ?_) AllReadyH.nil
      go_simp
      refine (CLater vx (HOS.out.below XB) (HPS.out.below XB)).mono ?_; rintro ee vx ⟨vr, rfl, OR1, hbl⟩; (replace XB := XB.trans (hbl.mono XB.size)); (clear hbl); (obtain ⟨ra, rc, rfl, _, _, QR⟩ := ownF_src OR1)
      (try go_wp2_with fail)
      refine hK.out _ _ ?_ (fun hHeld => ?_)
      · first | exact SK.out _ XB | exact SK.out _ (Below.drew (Below.refl _ _))
      clear hK K
      (try simp only [Act.put, List.setIfInBounds_toArray, List.set_cons_zero, List.set_cons_succ])
      refine wpAnyH_ready (rs := [7]) (by kernel_rfl) (by simp) ?_
      refine AllReadyH.cons (by rw [List.getElem?_toArray]; rfl) (fun K hK => ?_) AllReadyH.nil
      go_simp
      refine (wth_any _ _ _ (gI LL) sl vx (by omega) QR).mono ?_; rintro ee vy ⟨rfl, hvy⟩; (subst hvy); rw [HLate.out]
      (try go_wp2_with fail)
      refine hK.out _ _ ?_ (fun hHeld => ?_)
      · first | exact SK.out _ XB | exact SK.out _ (Below.drew (Below.refl _ _))
      clear hK K
      (try simp only [Act.put, List.setIfInBounds_toArray, List.set_cons_zero, List.set_cons_succ])
      refine wpAnyH_take (i := 8) (v := ?_) (by rw [List.getElem?_toArray]; rfl) (by kernel_rfl) (by kernel_rfl) (by kernel_rfl) (by intro _ _ _ h; exact h) (Or.inl ⟨by rfl, ?_⟩) (by assumption) ?_
      rotate_left
      · (intro w hSw; (try dsimp only at hSw); go_simp; all_goals with_reducible rfl)
      (try simp only [Act.put, List.setIfInBounds_toArray, List.set_cons_zero, List.set_cons_succ])
      refine wpAnyH_take (i := 9) (v := ?_) (by rw [List.getElem?_toArray]; rfl) (by kernel_rfl) (by kernel_rfl) (by kernel_rfl) (by intro _ _ _ h; exact h) (Or.inl ⟨by rfl, ?_⟩) (by assumption) ?_
      rotate_left
      · (intro w hSw; (try dsimp only at hSw); go_simp; all_goals with_reducible rfl)
      (try simp only [Act.put, List.setIfInBounds_toArray, List.set_cons_zero, List.set_cons_succ])
      refine wpAnyH_take (i := 10) (v := ?_) (by rw [List.getElem?_toArray]; rfl) (by kernel_rfl) (by kernel_rfl) (by kernel_rfl) (by intro _ _ _ h; exact h) (Or.inl ⟨by rfl, ?_⟩) (by assumption) ?_
      rotate_left
      · (intro w hSw; (try dsimp only at hSw); go_simp; all_goals with_reducible rfl)
      (try simp only [Act.put, List.setIfInBounds_toArray, List.set_cons_zero, List.set_cons_succ])
      refine wpAnyH_take (i := 12) (v := ?_) (by rw [List.getElem?_toArray]; rfl) (by kernel_rfl) (by kernel_rfl) (by kernel_rfl) (by intro _ _ _ h; exact h) (Or.inl ⟨by rfl, ?_⟩) (by assumption) ?_
      rotate_left
      · (intro w hSw; (try dsimp only at hSw); go_simp; all_goals with_reducible rfl)
      (try simp only [Act.put, List.setIfInBounds_toArray, List.set_cons_zero, List.set_cons_succ])
      refine wpAnyH_take (i := 13) (v := ?_) (by rw [List.getElem?_toArray]; rfl) (by kernel_rfl) (by kernel_rfl) (by kernel_rfl) (by intro _ _ _ h; exact h) (Or.inl ⟨by rfl, ?_⟩) (by assumption) ?_
      rotate_left
      · (intro w hSw; (try dsimp only at hSw); go_simp; all_goals with_reducible rfl)
      (try simp only [Act.put, List.setIfInBounds_toArray, List.set_cons_zero, List.set_cons_succ])
      refine wpAnyH_ready (rs := [11]) (by kernel_rfl) (by simp) ?_
      refine AllReadyH.cons (by rw [List.getElem?_toArray]; rfl) (fun K hK => ?_) AllReadyH.nil
      go_simp
      refine (COwn vx (HOS.out.below XB) (HPS.out.below XB)).mono ?_; rintro ee vx ⟨vr, rfl, OR2, hbl⟩; (replace XB := XB.trans (hbl.mono XB.size)); (clear hbl); (obtain ⟨sa, sc, rfl, _, _, QS⟩ := ownF_src OR2)
      (try go_wp2_with fail)
      refine hK.out _ _ ?_ (fun hHeld => ?_)
      · first | exact SK.out _ XB | exact SK.out _ (Below.drew (Below.refl _ _))
      clear hK K
      (try simp only [Act.put, List.setIfInBounds_toArray, List.set_cons_zero, List.set_cons_succ])
      refine wpAnyH_ready (rs := [14]) (by kernel_rfl) (by simp) ?_
      refine AllReadyH.cons (by rw [List.getElem?_toArray]; rfl) (fun K hK => ?_) AllReadyH.nil
      go_simp
      refine (wth_any _ _ _ (gI LO) fr vx (by omega) QS).mono ?_; rintro ee vy ⟨rfl, hvy⟩; (subst hvy); rw [HOwn.out]
      (try go_wp2_with fail)
      refine hK.out _ _ ?_ (fun hHeld => ?_)
      · first | exact SK.out _ XB | exact SK.out _ (Below.drew (Below.refl _ _))
      clear hK K
      (try simp only [Act.put, List.setIfInBounds_toArray, List.set_cons_zero, List.set_cons_succ])
      refine wpAnyH_take (i := 15) (v := ?_) (by rw [List.getElem?_toArray]; rfl) (by kernel_rfl) (by kernel_rfl) (by kernel_rfl) (by intro _ _ _ h; exact h) (Or.inl ⟨by rfl, ?_⟩) (by assumption) ?_
      rotate_left
      · (intro w hSw; (try dsimp only at hSw); go_simp; all_goals with_reducible rfl)
      (try simp only [Act.put, List.setIfInBounds_toArray, List.set_cons_zero, List.set_cons_succ])
      refine wpAnyH_take (i := 16) (v := ?_) (by rw [List.getElem?_toArray]; rfl) (by kernel_rfl) (by kernel_rfl) (by kernel_rfl) (by intro _ _ _ h; exact h) (Or.inl ⟨by rfl, ?_⟩) (by assumption) ?_
      rotate_left
      · (intro w hSw; (try dsimp only at hSw); go_simp; all_goals with_reducible rfl)
      (try simp only [Act.put, List.setIfInBounds_toArray, List.set_cons_zero, List.set_cons_succ])
      refine wpAnyH_take (i := 17) (v := ?_) (by rw [List.getElem?_toArray]; rfl) (by kernel_rfl) (by kernel_rfl) (by kernel_rfl) (by intro _ _ _ h; exact h) (Or.inl ⟨by rfl, ?_⟩) (by assumption) ?_
      rotate_left
      · (intro w hSw; (try dsimp only at hSw); go_simp; all_goals with_reducible rfl)
      (try simp only [Act.put, List.setIfInBounds_toArray, List.set_cons_zero, List.set_cons_succ])
      refine wpAnyH_take (i := 18) (v := ?_) (by rw [List.getElem?_toArray]; rfl) (by kernel_rfl) (by kernel_rfl) (by kernel_rfl) (by intro _ _ _ h; exact h) (Or.inl ⟨by rfl, ?_⟩) (by assumption) ?_
      rotate_left
      · (intro w hSw; (try dsimp only at hSw); go_simp; all_goals with_reducible rfl)
      (try simp only [Act.put, List.setIfInBounds_toArray, List.set_cons_zero, List.set_cons_succ])
      refine wpAnyH_ready (rs := [19]) (by kernel_rfl) (by simp) ?_
      refine AllReadyH.cons (by rw [List.getElem?_toArray]; rfl) (fun K hK => ?_) AllReadyH.nil
      go_simp
      refine (CUn vx (HOS.out.below XB)).mono ?_; rintro ee vx ⟨vr, rfl, OR3, hbl⟩; (replace XB := XB.trans (hbl.mono XB.size)); (clear hbl); (obtain ⟨ta, tc, rfl, _, _, QT⟩ := ownF_src OR3)
      (try go_wp2_with fail)
      refine hK.out _ _ ?_ (fun hHeld => ?_)
      · first | exact SK.out _ XB | exact SK.out _ (Below.drew (Below.refl _ _))
      clear hK K
      (try simp only [Act.put, List.setIfInBounds_toArray, List.set_cons_zero, List.set_cons_succ])
      refine wpAnyH_take (i := 20) (v := ?_) (by rw [List.getElem?_toArray]; rfl) (by kernel_rfl) (by kernel_rfl) (by kernel_rfl) (by intro _ _ _ h; exact h) (Or.inl ⟨by rfl, ?_⟩) (by assumption) ?_
      rotate_left
      · (intro w hSw; (try dsimp only at hSw); go_simp; all_goals with_reducible rfl)
      (try simp only [Act.put, List.setIfInBounds_toArray, List.set_cons_zero, List.set_cons_succ])
      refine wpAnyH_take (i := 21) (v := ?_) (by rw [List.getElem?_toArray]; rfl) (by kernel_rfl) (by kernel_rfl) (by kernel_rfl) (by intro _ _ _ h; exact h) (Or.inl ⟨by rfl, ?_⟩) (by assumption) ?_
      rotate_left
      · (intro w hSw; (try dsimp only at hSw); go_simp; all_goals with_reducible rfl)
      (try simp only [Act.put, List.setIfInBounds_toArray, List.set_cons_zero, List.set_cons_succ])
      refine wpAnyH_take (i := 22) (v := ?_) (by rw [List.getElem?_toArray]; rfl) (by kernel_rfl) (by kernel_rfl) (by kernel_rfl) (by intro _ _ _ h; exact h) (Or.inl ⟨by rfl, ?_⟩) (by assumption) ?_
      rotate_left
      · (intro w hSw; (try dsimp only at hSw); go_simp; all_goals with_reducible rfl)
      (try simp only [Act.put, List.setIfInBounds_toArray, List.set_cons_zero, List.set_cons_succ])
      refine wpAnyH_take (i := 23) (v := ?_) (by rw [List.getElem?_toArray]; rfl) (by kernel_rfl) (by kernel_rfl) (by kernel_rfl) (by intro _ _ _ h; exact h) (Or.inl ⟨by rfl, ?_⟩) (by assumption) ?_
      rotate_left
      · (intro w hSw; (try dsimp only at hSw); go_simp; all_goals with_reducible rfl)
      (try simp only [Act.put, List.setIfInBounds_toArray, List.set_cons_zero, List.set_cons_succ])
      refine wpAnyH_done (by kernel_rfl) ?_ _
      go_wp2_with fail
      go_ret
      exact ⟨rfl, HB8.out.trans (XB.mono HB8.out.size)⟩
end Go.Proofs.YtdahabbdhjgpdaaDoor
