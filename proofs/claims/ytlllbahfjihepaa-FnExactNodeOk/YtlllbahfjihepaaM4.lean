/- The contract of impl.TableOk. Contracts of Waits. Plans: numbers. A block of three cells of any values. Slots and rows of slots: what the laws make of them, and whether two are the same. PlanOk in the specification. -/
import Derived.Deep.RegionHeld3
import Derived.Deep.DeepCutAuto
import Derived.Deep.QuietTactic
import Derived.BigQuiet
import Derived.WalkSmall
import Derived.WalkKit
import Derived.WalkSpells
import Derived.WalkLawsBesides
import Derived.Deep.RegionHeld
import Derived.Test.YtlllbahfjihepaaM2
import Derived.Test.YtlllbahfjihepaaM3
import Derived.Test.YtlllbahfjihepaaM1
namespace Go.Proofs.Ytlllbahfjihepaa
open Go.RowKit
set_option linter.unusedVariables false
set_option maxHeartbeats 1000000 in
theorem implTab_ep (ep us : Int) (a : Option Addr) (n c : Nat) (M : Nat → KT) (w : World) (h : epB ep = false) :
    Calls Try.prog 92 #[.agg #[.int .i64 ep, .int .i64 us, .slice a n c]] w fun e w' => e = .returned (.bool (tabB ep us M n)) ∧ Below w.heap.size w w' := by
  have HB : Hid (tabB ep us M n = false) := tabB_ep h
  have A0 := Below.nw w (.cells #[.int .i64 ep, .int .i64 us, .slice a n c] 63)
  go_enter Try.func92, Try.ntmps92
  go_wp2_with fail
  refine (isEpoch_any _ _).mono ?_
  rintro e w' ⟨rfl, rfl⟩
  rw [h]
  go_wp2_with fail
  go_ret
  exact ⟨ret_bool HB.out.symm, A0⟩
set_option maxHeartbeats 1000000 in
theorem implTab_us (ep us : Int) (a : Option Addr) (n c : Nat) (M : Nat → KT) (w : World) (h : epB ep = true) (h1 : usB us = false) :
    Calls Try.prog 92 #[.agg #[.int .i64 ep, .int .i64 us, .slice a n c]] w fun e w' => e = .returned (.bool (tabB ep us M n)) ∧ Below w.heap.size w w' := by
  have HB : Hid (tabB ep us M n = false) := tabB_us h1
  have A0 := Below.nw w (.cells #[.int .i64 ep, .int .i64 us, .slice a n c] 63)
  by_cases hu : us < 0
  · clear h1
    go_enter Try.func92, Try.ntmps92
    go_wp2_with fail
    refine (isEpoch_any _ _).mono ?_
    rintro e w' ⟨rfl, rfl⟩
    rw [h]
    go_wp2_with fail
    go_ret
    exact ⟨ret_bool HB.out.symm, A0⟩
  · have hu2 : 1000 < us := by have := of_decide_eq_false h1; omega
    clear h1
    go_enter Try.func92, Try.ntmps92
    go_wp2_with fail
    refine (isEpoch_any _ _).mono ?_
    rintro e w' ⟨rfl, rfl⟩
    rw [h]
    go_wp2_with fail
    go_ret
    exact ⟨ret_bool HB.out.symm, A0⟩
set_option maxHeartbeats 1000000 in
theorem implTab_long (ep us : Int) (a : Option Addr) (n c : Nat) (M : Nat → KT) (w : World) (hm : n ≤ maxLen) (h : epB ep = true) (h1 : usB us = true) (hl : ¬ n ≤ 16) :
    Calls Try.prog 92 #[.agg #[.int .i64 ep, .int .i64 us, .slice a n c]] w fun e w' => e = .returned (.bool (tabB ep us M n)) ∧ Below w.heap.size w w' := by
  unfold maxLen at hm
  have HB : Hid (tabB ep us M n = false) := tabB_long hl
  have hi : (16 : Int) < (n : Int) := by omega
  have hu0 : ¬ us < 0 := by have := of_decide_eq_true h1; omega
  have hu1 : ¬ 1000 < us := by have := of_decide_eq_true h1; omega
  have A0 := Below.nw w (.cells #[.int .i64 ep, .int .i64 us, .slice a n c] 63)
  go_enter Try.func92, Try.ntmps92
  go_wp2_with fail
  refine (isEpoch_any _ _).mono ?_
  rintro e w' ⟨rfl, rfl⟩
  rw [h]
  go_wp2_with fail
  go_ret
  exact ⟨ret_bool HB.out.symm, A0⟩
set_option maxHeartbeats 1000000 in
theorem implTab_zero (ep us : Int) (a : Option Addr) (c : Nat) (M : Nat → KT) (w : World) (h : epB ep = true) (h1 : usB us = true) :
    Calls Try.prog 92 #[.agg #[.int .i64 ep, .int .i64 us, .slice a 0 c]] w fun e w' => e = .returned (.bool (tabB ep us M 0)) ∧ Below w.heap.size w w' := by
  have HB : Hid (tabB ep us M 0 = true) := tabB_ok h h1 (by omega) rfl
  have hu0 : ¬ us < 0 := by have := of_decide_eq_true h1; omega
  have hu1 : ¬ 1000 < us := by have := of_decide_eq_true h1; omega
  have A0 := Below.nw w (.cells #[.int .i64 ep, .int .i64 us, .slice a 0 c] 63)
  go_enter Try.func92, Try.ntmps92
  go_wp2_with fail
  refine (isEpoch_any _ _).mono ?_
  rintro e w' ⟨rfl, rfl⟩
  rw [h]
  go_wp2_with fail
  go_loopw [3, 32] (fun l i wr => i = .int .i64 0 ∧ w.alloc (.cells #[.int .i64 ep, .int .i64 us, .slice a 0 c] 63) = wr) (fun _ i _ => 0)
  case atStart => exact ⟨rfl, by first | rfl | trivial⟩
  case round =>
    obtain ⟨rfl, rfl⟩ := hrel
    go_wp2_with fail
    go_ret
    exact ⟨ret_bool HB.out.symm, A0⟩
set_option maxRecDepth 100000 in
set_option maxHeartbeats 8000000 in
theorem implTab_some (ep us : Int) (b off n c : Nat) (M : Nat → KT) (w : World) (h : epB ep = true) (h1 : usB us = true) (hn : n ≤ 16) (hf : Cs w b off (n * 4) (MFAsk M)) (hw : ∀ i, i < n → (Lit.int .i64 (M i).1).wf = true) :
    Calls Try.prog 92 #[.agg #[.int .i64 ep, .int .i64 us, .slice (some ⟨b, off, none⟩) n c]] w fun e w' => e = .returned (.bool (tabB ep us M n)) ∧ Below w.heap.size w w' := by
  have HE : Hid (epB ep = true) := h
  have HU : Hid (usB us = true) := h1
  have HW : Hid (∀ i, i < n → (Lit.int .i64 (M i).1).wf = true) := hw
  clear hw
  have hi : ¬ (16 : Int) < (n : Int) := by omega
  have hu0 : ¬ us < 0 := by have := of_decide_eq_true h1; omega
  have hu1 : ¬ 1000 < us := by have := of_decide_eq_true h1; omega
  have A0 := Below.nw w (.cells #[.int .i64 ep, .int .i64 us, .slice (some ⟨b, off, none⟩) n c] 63)
  have N := IB3.new w ep us (some ⟨b, off, none⟩) n c 63
  have HF := hf.below A0 hf.1
  have hb0 := HF.1
  clear hf
  go_enter Try.func92, Try.ntmps92
  go_wp2_with fail
  refine (isEpoch_any _ _).mono ?_
  rintro e w' ⟨rfl, rfl⟩
  rw [h]
  go_wp2_with fail
  clear h h1 hi hu0 hu1
  generalize w.alloc (.cells #[.int .i64 ep, .int .i64 us, .slice (some ⟨b, off, none⟩) n c] 63) = w0 at *
  go_loopw [3, 32] (fun l i wr => ∃ k : Nat, k ≤ n ∧ i = .int .i64 k ∧ l = .int .i64 (lastK M k) ∧ tOk ep us M k = true ∧ Below w0.heap.size w0 wr) (fun _ i _ => n - (intOf i).toNat)
  case atStart => exact ⟨0, Nat.zero_le _, rfl, rfl, rfl, Below.refl _ _⟩
  case round =>
    obtain ⟨k, hk, rfl, rfl, hok, hB⟩ := hrel
    have HOK : Hid (tOk ep us M k = true) := hok
    clear hok
    have hBw := A0.trans (hB.mono A0.size)
    by_cases hlt : k < n
    · obtain ⟨x0, x1, x2, x3, hM⟩ := tupAsk M k
      obtain ⟨c0, c1, c2, c3⟩ := (HF.below hB hb0).elAsk hlt hM
      obtain ⟨n9, n0, n1, n2⟩ := id (N.below hB)
      have hli : (k : Int) < (n : Int) := by omega
      have HM : Hid (M k = (x0, x1, x2, x3)) := hM
      have HEL : Hid (elB ep us M k = (npB x0 && decide (npE x0 = ep) && decide (npK x0 < us) && lsBk M k && akB x1 x2 x3)) := by rw [Hid, elB, hM]
      have hbr : b < wr.heap.size := Nat.lt_of_lt_of_le hb0 hB.size
      have hwf : (Lit.int .i64 x0).wf = true := by have := HW.out k hlt; rw [hM] at this; exact this
      clear hM
      have A1 := Below.nw wr (.cells #[.int .i64 x0, .int .i64 x1, .int .i64 x2, .int .i64 x3] 118)
      have K := Bk4.new wr x0 x1 x2 x3 118
      have B1 := hBw.trans (A1.mono hBw.size)
      have B0 := hB.trans (A1.mono hB.size)
      have HNO : Hid (elB ep us M k = false → tabB ep us M n = false) := fun h => tabB_bad (tOk_no h n hlt)
      go_upto_region 7 with fail
      clear c0 c1 c2 c3 n9 n0 n1 n2
      have N1 := N.below B0
      generalize hbk : wr.heap.size = bk at *
      generalize wr.alloc (.cells #[.int .i64 x0, .int .i64 x1, .int .i64 x2, .int .i64 x3] 118) = w1 at *
      clear A1
      obtain ⟨n9, n0, n1, n2⟩ := id N1
      obtain ⟨k9, k0, k1, k2, k3⟩ := id K
      have HX : Hid (npK (M k).1 = npK x0) := show npK (M k).1 = npK x0 from by rw [HM.out]
      have HLL : Hid (npB x0 = true → npE x0 = ep → (lastK M k < npK x0 ↔ lsBk M k = true)) := fun h1 h2 => by have := last_ls HOK.out (by rw [HM.out]; exact h1) (by rw [HM.out]; exact h2); rw [HX.out] at this; exact this
      go_wp2_with fail
      refine (implNonceParts_any _ _ hwf).mono ?_
      rintro e w' ⟨rfl, rfl⟩
      clear hwf
      cases g1 : npB x0
      · have HB' : Hid (tabB ep us M n = false) := HNO.out (by rw [HEL.out, g1]; rfl)
        go_wp2_with fail
        go_ret
        exact ⟨ret_bool HB'.out.symm, B1⟩
      · cases g2 : decide (npE x0 = ep)
        · have HB' : Hid (tabB ep us M n = false) := HNO.out (by rw [HEL.out, g2]; simp)
          have g2' := of_decide_eq_false g2
          go_wp2_with fail
          go_ret
          exact ⟨ret_bool HB'.out.symm, B1⟩
        · have g2' := of_decide_eq_true g2
          have HL2 := HLL.out g1 g2'
          by_cases g4 : npK x0 ≤ lastK M k
          · have HB' : Hid (tabB ep us M n = false) := HNO.out (by
              have : lsBk M k = false := by
                cases q : lsBk M k
                · rfl
                · exact absurd (HL2.2 q) (by omega)
              rw [HEL.out, this]; simp)
            clear HL2
            go_wp2_with fail
            go_ret
            exact ⟨ret_bool HB'.out.symm, B1⟩
          · have HLS : Hid (lsBk M k = true) := HL2.1 (by omega)
            clear HL2
            cases g3 : decide (npK x0 < us)
            · have HB' : Hid (tabB ep us M n = false) := HNO.out (by rw [HEL.out, g3]; simp)
              have g3' : us ≤ npK x0 := by have := of_decide_eq_false g3; omega
              go_wp2_with fail
              go_ret
              exact ⟨ret_bool HB'.out.symm, B1⟩
            · have g3' : ¬ us ≤ npK x0 := by have := of_decide_eq_true g3; omega
              go_wp2_with fail
              refine (askOk_any _ _ _ _ _).mono ?_
              rintro e w2 ⟨rfl, hb⟩
              replace B0 := B0.trans (hb.mono B0.size)
              replace B1 := B1.trans (hb.mono B1.size)
              cases g5 : akB x1 x2 x3
              · have HB' : Hid (tabB ep us M n = false) := HNO.out (by rw [HEL.out, g5, Bool.and_false])
                go_wp2_with fail
                go_ret
                exact ⟨ret_bool HB'.out.symm, B1⟩
              · have HG : Hid (tOk ep us M (k + 1) = true) := by rw [Hid, tOk, HOK.out, HEL.out, g1, g2, g3, HLS.out, g5]; rfl
                go_wp2_with fail
                go_roundw
                case rel => exact ⟨k + 1, by omega, by go_num, by rw [lastK, HX.out], HG.out, B0⟩
                case measure => simp [intOf]; omega
    · have hkn : k = n := by omega
      subst hkn
      have hli : ¬ (k : Int) < (k : Int) := by omega
      have HB : Hid (tabB ep us M k = true) := tabB_ok HE.out HU.out hn HOK.out
      obtain ⟨n9, n0, n1, n2⟩ := id (N.below hB)
      go_wp2_with fail
      go_ret
      exact ⟨ret_bool HB.out.symm, hBw⟩
theorem implTab_any (ep us : Int) (a : Option Addr) (n c : Nat) (M : Nat → KT) (w : World) (hm : n ≤ maxLen) (hf : SrcC w a (n * 4) (MFAsk M)) (hw : ∀ i, i < n → (Lit.int .i64 (M i).1).wf = true) :
    Calls Try.prog 92 #[.agg #[.int .i64 ep, .int .i64 us, .slice a n c]] w fun e w' => e = .returned (.bool (tabB ep us M n)) ∧ Below w.heap.size w w' := by
  cases h : epB ep
  · exact implTab_ep ep us a n c M w h
  · cases h1 : usB us
    · exact implTab_us ep us a n c M w h h1
    · by_cases hl : n ≤ 16
      · rcases hf with h0 | ⟨b, off, rfl, hf⟩
        · have hn0 : n = 0 := by omega
          subst hn0
          exact implTab_zero ep us a c M w h h1
        · exact implTab_some ep us b off n c M w h h1 hl hf hw
      · exact implTab_long ep us a n c M w hm h h1 hl
end Go.Proofs.Ytlllbahfjihepaa
namespace Go.Proofs.Ytlllbahfjihepaa
open Go.RowKit
set_option linter.unusedVariables false
def wtN (x : Int) (M : Nat → KT) : Nat → Nat
  | 0 => 0
  | k + 1 => wtN x M k + (if (M k).2.1 = x then 1 else 0)
theorem wtN_le {x : Int} {M : Nat → KT} : ∀ k, wtN x M k ≤ k
  | 0 => Nat.le_refl _
  | k + 1 => by
    have := wtN_le (x := x) (M := M) k
    rw [wtN]
    split <;> omega
def wtI (ep us : Int) (M : Nat → KT) (n : Nat) (x : Int) : Int := bif tabB ep us M n then (wtN x M n : Int) else 0
theorem tabB_len {ep us : Int} {M : Nat → KT} {n : Nat} (h : tabB ep us M n = true) : n ≤ 16 := by
  rw [tabB] at h
  simp only [Bool.and_eq_true, decide_eq_true_eq] at h
  exact h.1.2
set_option maxHeartbeats 1000000 in
theorem specWaits_zero (ep us : Int) (a : Option Addr) (c : Nat) (M : Nat → KT) (x : Int) (w : World) :
    Calls Try.prog 41 #[.agg #[.int .i64 ep, .int .i64 us, .slice a 0 c], .int .i64 x] w fun e w' => e = .returned (.int .i64 (wtI ep us M 0 x)) ∧ Below w.heap.size w w' := by
  have HI : Hid (wtI ep us M 0 x = 0) := by rw [Hid, wtI]; cases tabB ep us M 0 <;> rfl
  have A0 := Below.nw w (.cells #[.int .i64 ep, .int .i64 us, .slice a 0 c] 63)
  go_enter Try.func41, Try.ntmps41
  go_wp2_with fail
  go_loopw [5, 6] (fun q i wr => q = .int .i64 0 ∧ i = .int .i64 0 ∧ w.alloc (.cells #[.int .i64 ep, .int .i64 us, .slice a 0 c] 63) = wr) (fun _ i _ => 0)
  case atStart => exact ⟨rfl, rfl, by first | rfl | trivial⟩
  case round =>
    obtain ⟨rfl, rfl, rfl⟩ := hrel
    go_wp2_with fail
    go_ret
    exact ⟨congrArg (fun z => Ending.returned (Value.int .i64 z)) HI.out.symm, A0⟩
set_option maxHeartbeats 4000000 in
theorem specWaits_bad (ep us : Int) (b off n c : Nat) (M : Nat → KT) (x : Int) (w : World) (hm : n ≤ maxLen) (h0 : 0 < n) (hf : Cs w b off (n * 4) (MFAsk M)) (ht : tabB ep us M n = false) :
    Calls Try.prog 41 #[.agg #[.int .i64 ep, .int .i64 us, .slice (some ⟨b, off, none⟩) n c], .int .i64 x] w fun e w' => e = .returned (.int .i64 (wtI ep us M n x)) ∧ Below w.heap.size w w' := by
  have HI : Hid (wtI ep us M n x = 0) := by rw [Hid, wtI, ht]; rfl
  have A0 := Below.nw w (.cells #[.int .i64 ep, .int .i64 us, .slice (some ⟨b, off, none⟩) n c] 63)
  have N := IB3.new w ep us (some ⟨b, off, none⟩) n c 63
  have C := specTab_any ep us (some ⟨b, off, none⟩) n c M _ hm (.inr ⟨_, _, rfl, hf.below A0 hf.1⟩)
  rw [ht] at C
  have hli : (0 : Int) < (n : Int) := by omega
  clear hf ht
  go_enter Try.func41, Try.ntmps41
  go_wp2_with fail
  generalize w.alloc (.cells #[.int .i64 ep, .int .i64 us, .slice (some ⟨b, off, none⟩) n c] 63) = w0 at *
  go_loopw [5, 6] (fun q i wr => q = .int .i64 0 ∧ i = .int .i64 0 ∧ w0 = wr) (fun _ i _ => 0)
  case atStart => exact ⟨rfl, rfl, by first | rfl | trivial⟩
  case round =>
    obtain ⟨rfl, rfl, rfl⟩ := hrel
    obtain ⟨n9, n0, n1, n2⟩ := id N
    go_wp2_with fail
    refine C.mono ?_
    rintro e w1 ⟨rfl, hb⟩
    have B := A0.trans (hb.mono A0.size)
    go_wp2_with fail
    go_ret
    exact ⟨congrArg (fun z => Ending.returned (Value.int .i64 z)) HI.out.symm, B⟩
set_option maxHeartbeats 4000000 in
theorem specWaits_good (ep us : Int) (b off n c : Nat) (M : Nat → KT) (x : Int) (w : World) (hm : n ≤ maxLen) (hf : Cs w b off (n * 4) (MFAsk M)) (ht : tabB ep us M n = true) :
    Calls Try.prog 41 #[.agg #[.int .i64 ep, .int .i64 us, .slice (some ⟨b, off, none⟩) n c], .int .i64 x] w fun e w' => e = .returned (.int .i64 (wtI ep us M n x)) ∧ Below w.heap.size w w' := by
  have HI : Hid (wtI ep us M n x = (wtN x M n : Int)) := by rw [Hid, wtI, ht]; rfl
  have hn := tabB_len ht
  have A0 := Below.nw w (.cells #[.int .i64 ep, .int .i64 us, .slice (some ⟨b, off, none⟩) n c] 63)
  have N := IB3.new w ep us (some ⟨b, off, none⟩) n c 63
  have HF := hf.below A0 hf.1
  have hb0 := HF.1
  have HC : Hid (∀ w' : World, Cs w' b off (n * 4) (MFAsk M) → Calls Try.prog 36 #[.agg #[.int .i64 ep, .int .i64 us, .slice (some ⟨b, off, none⟩) n c]] w' fun e w'' => e = .returned (.bool true) ∧ Below w'.heap.size w' w'') := fun w' h => by have := specTab_any ep us (some ⟨b, off, none⟩) n c M w' hm (.inr ⟨_, _, rfl, h⟩); rw [ht] at this; exact this
  clear hf ht
  go_enter Try.func41, Try.ntmps41
  go_wp2_with fail
  generalize w.alloc (.cells #[.int .i64 ep, .int .i64 us, .slice (some ⟨b, off, none⟩) n c] 63) = w0 at *
  go_loopw [5, 6] (fun q i wr => ∃ k : Nat, k ≤ n ∧ i = .int .i64 k ∧ q = .int .i64 (wtN x M k) ∧ Below w0.heap.size w0 wr) (fun _ i _ => n - (intOf i).toNat)
  case atStart => exact ⟨0, Nat.zero_le _, rfl, rfl, Below.refl _ _⟩
  case round =>
    obtain ⟨k, hk, rfl, rfl, hB⟩ := hrel
    have hwl := wtN_le (x := x) (M := M) k
    by_cases hlt : k < n
    · have hli : (k : Int) < (n : Int) := by omega
      obtain ⟨n9, n0, n1, n2⟩ := id (N.below hB)
      go_wp2_with fail
      refine (HC.out _ (HF.below hB hb0)).mono ?_
      rintro e w1 ⟨rfl, hb⟩
      clear n9 n0 n1 n2
      have B := hB.trans (hb.mono hB.size)
      clear hb hB
      obtain ⟨x0, x1, x2, x3, hM⟩ := tupAsk M k
      obtain ⟨c0, c1, c2, c3⟩ := (HF.below B hb0).elAsk hlt hM
      obtain ⟨n9, n0, n1, n2⟩ := id (N.below B)
      have hbr : b < w1.heap.size := Nat.lt_of_lt_of_le hb0 B.size
      have HW : Hid (wtN x M (k + 1) = wtN x M k + (if x1 = x then 1 else 0)) := by rw [Hid, wtN, hM]
      clear hM
      generalize wtN x M k = q at *
      by_cases hx : x1 = x
      · go_wp2_with fail
        go_roundw
        case rel => exact ⟨k + 1, by omega, by go_num, by rw [HW.out, if_pos hx]; simp, B⟩
        case measure => simp [intOf]; omega
      · go_wp2_with fail
        go_roundw
        case rel => exact ⟨k + 1, by omega, by go_num, by rw [HW.out, if_neg hx]; simp, B⟩
        case measure => simp [intOf]; omega
    · have hkn : k = n := by omega
      subst hkn
      have hli : ¬ (k : Int) < (k : Int) := by omega
      obtain ⟨n9, n0, n1, n2⟩ := id (N.below hB)
      go_wp2_with fail
      go_ret
      exact ⟨congrArg (fun z => Ending.returned (Value.int .i64 z)) HI.out.symm, A0.trans (hB.mono A0.size)⟩
theorem specWaits_any (ep us : Int) (a : Option Addr) (n c : Nat) (M : Nat → KT) (x : Int) (w : World) (hm : n ≤ maxLen) (hf : SrcC w a (n * 4) (MFAsk M)) :
    Calls Try.prog 41 #[.agg #[.int .i64 ep, .int .i64 us, .slice a n c], .int .i64 x] w fun e w' => e = .returned (.int .i64 (wtI ep us M n x)) ∧ Below w.heap.size w w' := by
  by_cases h0 : n = 0
  · subst h0; exact specWaits_zero ep us a c M x w
  · rcases hf with h | ⟨b, off, rfl, hf⟩
    · omega
    · cases ht : tabB ep us M n
      · exact specWaits_bad ep us b off n c M x w hm (by omega) hf ht
      · exact specWaits_good ep us b off n c M x w hm hf ht
end Go.Proofs.Ytlllbahfjihepaa
namespace Go.Proofs.Ytlllbahfjihepaa
open Go.RowKit
set_option linter.unusedVariables false
abbrev SlT : Type := Int × Int
def zSl : SlT := (0, 0)
def lnB (l : Int) : Bool := decide (1 ≤ l ∧ l ≤ 1000000)
def slB (o l : Int) : Bool := nodB o && lnB l
def slA (M : Nat → SlT) : Nat → Bool
  | 0 => true
  | j + 1 => slA M j && slB (M j).1 (M j).2
def gpB (g : Int) : Bool := decide (0 ≤ g ∧ g ≤ 100000)
def cnB (n : Nat) : Bool := decide (1 ≤ (n : Int) ∧ (n : Int) ≤ 12)
def plB (s g : Int) (M : Nat → SlT) (n : Nat) : Bool := okT s && (gpB g && (cnB n && slA M n))
theorem slA_no {M : Nat → SlT} {k n : Nat} (h : slA M (k + 1) = false) (hk : k < n) : slA M n = false := by
  induction n with
  | zero => omega
  | succ n ih =>
    by_cases e : k = n
    · subst e; exact h
    · rw [slA, ih (by omega)]; rfl
end Go.Proofs.Ytlllbahfjihepaa
namespace Go.Proofs.Ytlllbahfjihepaa
open Go.RowKit
set_option linter.unusedVariables false
def Tx3 (w : World) (k : Nat) (u0 u1 u2 : Value) : Prop := k < w.heap.size ∧ w.cell? ⟨k, 0, none⟩ = some u0 ∧ w.cell? ⟨k, 1, none⟩ = some u1 ∧ w.cell? ⟨k, 2, none⟩ = some u2 ∧ w.frozen? ⟨k, 0, none⟩ = false ∧ w.frozen? ⟨k, 1, none⟩ = false ∧ w.frozen? ⟨k, 2, none⟩ = false
theorem Tx3.belowB {k B : Nat} {w w' : World} {u0 u1 u2 : Value} (h : Tx3 w k u0 u1 u2) (hw : Below B w w') (hk : k < B) : Tx3 w' k u0 u1 u2 := by
  obtain ⟨h0, h1, h2, h3, f1, f2, f3⟩ := h
  exact ⟨Nat.lt_of_lt_of_le h0 hw.size, by rw [hw.cell (p := ⟨k, 0, none⟩) hk]; exact h1, by rw [hw.cell (p := ⟨k, 1, none⟩) hk]; exact h2, by rw [hw.cell (p := ⟨k, 2, none⟩) hk]; exact h3, by rw [hw.frozen (p := ⟨k, 0, none⟩) hk]; exact f1, by rw [hw.frozen (p := ⟨k, 1, none⟩) hk]; exact f2, by rw [hw.frozen (p := ⟨k, 2, none⟩) hk]; exact f3⟩
theorem Tx3.below {k : Nat} {w w' : World} {u0 u1 u2 : Value} (h : Tx3 w k u0 u1 u2) (hw : Below w.heap.size w w') : Tx3 w' k u0 u1 u2 := h.belowB hw h.1
theorem Tx3.alloc {k : Nat} {w : World} {u0 u1 u2 : Value} (h : Tx3 w k u0 u1 u2) (o : Obj) : Tx3 (w.alloc o) k u0 u1 u2 := h.below ((Below.refl _ _).alloc (Nat.le_refl _) _)
theorem Tx3.new (w : World) (u0 u1 u2 : Value) (T : TypeId) : Tx3 (w.alloc (.cells #[u0, u1, u2] T)) w.heap.size u0 u1 u2 := ⟨by simp, by simp, by simp, by simp, by simp, by simp, by simp⟩
theorem Tx3.drew {k : Nat} {w : World} {u0 u1 u2 : Value} (h : Tx3 w k u0 u1 u2) : Tx3 w.drew k u0 u1 u2 := h
theorem Tx3.setO {k j : Nat} {w : World} {u0 u1 u2 : Value} (h : Tx3 w k u0 u1 u2) (hk : j ≠ k) (o : Nat) (u : Value) : Tx3 (w.setCell ⟨j, o, none⟩ u) k u0 u1 u2 := by
  have hne : ∀ q, (⟨j, o, none⟩ : Addr) ≠ ⟨k, q, none⟩ := fun q e => hk (congrArg Addr.block e)
  obtain ⟨h0, h1, h2, h3, f1, f2, f3⟩ := h
  exact ⟨by simpa using h0, by rw [World.cell?_setCell_other _ _ _ _ (hne _)]; exact h1, by rw [World.cell?_setCell_other _ _ _ _ (hne _)]; exact h2, by rw [World.cell?_setCell_other _ _ _ _ (hne _)]; exact h3, by simpa using f1, by simpa using f2, by simpa using f3⟩
theorem Tx3.set0 {k : Nat} {w : World} {u0 u1 u2 : Value} (h : Tx3 w k u0 u1 u2) (x : Value) : Tx3 (w.setCell ⟨k, 0, none⟩ x) k x u1 u2 := by
  obtain ⟨h0, h1, h2, h3, f1, f2, f3⟩ := h
  exact ⟨by simpa using h0, World.cell?_setCell_same _ _ _ h1, (World.cell?_setCell_other _ _ _ _ (by simp)).trans h2, (World.cell?_setCell_other _ _ _ _ (by simp)).trans h3, by simpa using f1, by simpa using f2, by simpa using f3⟩
theorem Tx3.set1 {k : Nat} {w : World} {u0 u1 u2 : Value} (h : Tx3 w k u0 u1 u2) (x : Value) : Tx3 (w.setCell ⟨k, 1, none⟩ x) k u0 x u2 := by
  obtain ⟨h0, h1, h2, h3, f1, f2, f3⟩ := h
  exact ⟨by simpa using h0, (World.cell?_setCell_other _ _ _ _ (by simp)).trans h1, World.cell?_setCell_same _ _ _ h2, (World.cell?_setCell_other _ _ _ _ (by simp)).trans h3, by simpa using f1, by simpa using f2, by simpa using f3⟩
theorem Tx3.set2 {k : Nat} {w : World} {u0 u1 u2 : Value} (h : Tx3 w k u0 u1 u2) (x : Value) : Tx3 (w.setCell ⟨k, 2, none⟩ x) k u0 u1 x := by
  obtain ⟨h0, h1, h2, h3, f1, f2, f3⟩ := h
  exact ⟨by simpa using h0, (World.cell?_setCell_other _ _ _ _ (by simp)).trans h1, (World.cell?_setCell_other _ _ _ _ (by simp)).trans h2, World.cell?_setCell_same _ _ _ h3, by simpa using f1, by simpa using f2, by simpa using f3⟩
theorem Tx3.kept {w w' : World} {q : Option Nat} {k : Nat} {u0 u1 u2 : Value} (h : Tx3 w k u0 u1 u2) (hg : w.grownBy w' q) (hq : some k ≠ q) : Tx3 w' k u0 u1 u2 := by
  obtain ⟨h0, h1, h2, h3, f1, f2, f3⟩ := h
  have cc : ∀ i, w'.cell? ⟨k, i, none⟩ = w.cell? ⟨k, i, none⟩ := fun i => cell_grown hg h0 hq
  have ff : ∀ i, w'.frozen? ⟨k, i, none⟩ = w.frozen? ⟨k, i, none⟩ := fun i => by have := hg.block k h0 hq; simp only [World.frozen?]; rw [this]
  exact ⟨Nat.lt_of_lt_of_le h0 hg.size, by rw [cc]; exact h1, by rw [cc]; exact h2, by rw [cc]; exact h3, by rw [ff]; exact f1, by rw [ff]; exact f2, by rw [ff]; exact f3⟩
end Go.Proofs.Ytlllbahfjihepaa
namespace Go.Proofs.Ytlllbahfjihepaa
open Go.RowKit
set_option linter.unusedVariables false
set_option maxHeartbeats 2000000 in
theorem toSlot_any (x0 x1 : Int) (w : World) :
    Calls Try.prog 86 #[.agg #[.int .i64 x0, .int .i64 x1]] w fun e w' => e = .returned (.agg #[.int .i64 x0, .int .i64 x1]) ∧ Below w.heap.size w w' := by
  go_enter Try.func86, Try.ntmps86
  go_wp2_with fail
  exact bodyPost_ret (v := .agg #[.int .i64 x0, .int .i64 x1]) (by simp (maxDischargeDepth := 6) [results, Try.results86, go_sem, *]) rfl ⟨rfl, by repeat (first | exact Below.refl _ _ | refine Below.drew ?_ | refine Below.alloc ?_ (by first | (simp; done) | (simp; omega) | omega) _ | refine Below.setCell ?_ (by first | (simp; done) | (simp; omega) | omega) _ | refine Below.trans ?_ (Below.mono (by assumption) (by first | (simp; done) | (simp; omega) | omega)))⟩
set_option maxHeartbeats 2000000 in
theorem eqSlot_same (x0 x1 : Int) (w : World) :
    Calls Try.prog 88 #[.agg #[.int .i64 x0, .int .i64 x1], .agg #[.int .i64 x0, .int .i64 x1]] w fun e w' => e = .returned (.bool true) ∧ Below w.heap.size w w' := by
  go_enter Try.func88, Try.ntmps88
  go_wp2_with fail
  go_ret
  exact ⟨rfl, by repeat (first | exact Below.refl _ _ | refine Below.drew ?_ | refine Below.alloc ?_ (by first | (simp; done) | (simp; omega) | omega) _ | refine Below.setCell ?_ (by first | (simp; done) | (simp; omega) | omega) _ | refine Below.trans ?_ (Below.mono (by assumption) (by first | (simp; done) | (simp; omega) | omega)))⟩
def MCSlot (M : SlT) : Nat → Value
  | 0 => .int .i64 M.1
  | _ => .int .i64 M.2
def MFSlot (M : Nat → SlT) (c : Nat) : Value := MCSlot (M (c / 2)) (c % 2)
theorem MFSlot_at (M : Nat → SlT) (k j : Nat) (hj : j < 2) : MFSlot M (k * 2 + j) = MCSlot (M k) j := by
  have h1 : (k * 2 + j) / 2 = k := by omega
  have h2 : (k * 2 + j) % 2 = j := by omega
  rw [MFSlot, h1, h2]
theorem MFSlot_vals {M : Nat → SlT} {k : Nat} {x0 : Int} {x1 : Int} (hM : M k = (x0, x1)) : MFSlot M (k * 2) = .int .i64 x0 ∧ MFSlot M (k * 2 + 1) = .int .i64 x1 :=
  ⟨by have q := MFSlot_at M k 0 (by decide); rw [hM] at q; exact q, by have q := MFSlot_at M k 1 (by decide); rw [hM] at q; exact q⟩
theorem Cs.elSlot {w : World} {b off n k : Nat} {M : Nat → SlT} {x0 : Int} {x1 : Int} (h : Cs w b off (n * 2) (MFSlot M)) (hk : k < n) (hM : M k = (x0, x1)) : w.cell? ⟨b, off + k * 2, none⟩ = some (.int .i64 x0) ∧ w.cell? ⟨b, off + k * 2 + 1, none⟩ = some (.int .i64 x1) := by
  obtain ⟨q0, q1⟩ := MFSlot_vals hM
  exact ⟨by have := h.2 (k * 2) (by omega); rw [q0] at this; exact this, by have := h.2 (k * 2 + 1) (by omega); rw [q1] at this; exact this⟩
theorem tupSlot (M : Nat → SlT) (k : Nat) : ∃ (x0 : Int) (x1 : Int), M k = (x0, x1) := ⟨_, _, rfl⟩
set_option maxHeartbeats 1000000 in
theorem szSlotS_any (a : Option Addr) (n c : Nat) (L : Int) (w : World) (hm : n ≤ maxLen) (L0 : 0 ≤ L) (L1 : L ≤ 1048576) :
    Calls Try.prog 62 #[.slice a n c, .int .i64 L] w fun e w' => e = .returned (.int .i64 (if (n : Int) ≤ L then L - (n : Int) else -1)) ∧ w = w' := by
  unfold maxLen at hm
  by_cases h : (n : Int) ≤ L
  · rw [if_pos h]
    have hd : decide (L - (n : Int) < 0) = false := by simp; omega
    go_enter Try.func62, Try.ntmps62
    go_wp2_with fail
    go_ret
    exact ⟨rfl, rfl⟩
  · rw [if_neg h]
    have hd : decide (L - (n : Int) < 0) = true := by simp; omega
    go_enter Try.func62, Try.ntmps62
    go_wp2_with fail
    go_ret
    exact ⟨rfl, rfl⟩
def rowObjSlot (n : Nat) : Obj := .cells (madeCells #[.int .i64 0, .int .i64 0] (n * 2)) 112
theorem infoSlot : (Try.prog.info? 112).map (fun i => (i.zero, i.size, i.bytes)) = some (some (.agg #[.int .i64 0, .int .i64 0]), 2, 16) := by kernel_rfl
theorem mk_rowSlot (n : Nat) (h : n ≤ 1048576) (w : World) : (Instr.makeSlice 32 (.int .i64 (n : Int)) (.int .i64 (n : Int))).run Try.prog w = .ok (.slice (some ⟨w.heap.size, 0, none⟩) n n) (w.alloc (rowObjSlot n)) := by
  obtain ⟨i, hi, hz⟩ := Option.map_eq_some_iff.1 infoSlot
  simp only [Prod.mk.injEq] at hz
  obtain ⟨h1, h2, h3⟩ := hz
  have hr := run_make (P := Try.prog) w 32 112 i _ Try.underlying32 hi h1 .i64 .i64 n n (by omega) (Int.le_refl _) (by rw [h3]; omega) (by omega)
  simp only [Int.toNat_natCast, h2] at hr
  exact hr
theorem rowObjSlot_is (w : World) (n : Nat) (F : Nat → Value) : RowF (w.alloc (rowObjSlot n)) w.heap.size 112 (n * 2) 0 F := by
  have h := World.rowIs_alloc w (madeCells #[.int .i64 0, .int .i64 0] (n * 2)) 112 (fun i => (madeCells #[.int .i64 0, .int .i64 0] (n * 2)).getD i undef) (fun i hi => by
    rw [Array.getElem?_eq_getElem hi]; exact congrArg some (by rw [Array.getD_eq_getD_getElem?, Array.getElem?_eq_getElem hi]; rfl))
  rw [size_madeCells] at h
  exact ⟨_, h, fun j hj => absurd hj (Nat.not_lt_zero _)⟩
set_option maxHeartbeats 4000000 in
theorem toSlotS_some (b off n c : Nat) (M : Nat → SlT) (w : World) (hn : n ≤ 1048576) (hf : Cs w b off (n * 2) (MFSlot M)) :
    Calls Try.prog 63 #[.slice (some ⟨b, off, none⟩) n c] w fun e w' => e = .returned (.slice (some ⟨w.heap.size, 0, none⟩) n n) ∧ RowF w' w.heap.size 112 (n * 2) (n * 2) (MFSlot M) ∧ Below w.heap.size w w' := by
  have hmk := mk_rowSlot n hn
  go_enter Try.func63, Try.ntmps63
  go_wp2_with fail
  clear hmk
  go_loopw [4] (fun i wr => ∃ k : Nat, k ≤ n ∧ i = .int .i64 k ∧ RowF wr w.heap.size 112 (n * 2) (k * 2) (MFSlot M) ∧ Below w.heap.size w wr) (fun i _ => n - (intOf i).toNat)
  case atStart => exact ⟨0, Nat.zero_le _, rfl, (rowObjSlot_is w n _).eqm (by omega), (Below.refl _ _).alloc (Nat.le_refl _) _⟩
  case round =>
    obtain ⟨k, hk, rfl, hrow, hB⟩ := hrel
    by_cases hlt : k < n
    · obtain ⟨x0, x1, hM⟩ := tupSlot M k
      obtain ⟨c0, c1⟩ := (hf.below hB hf.1).elSlot hlt hM
      obtain ⟨q0, q1⟩ := MFSlot_vals hM
      have hli : (k : Int) < (n : Int) := by omega
      have hlr := hrow.lt
      clear hM
      go_wp2_with fail
      refine (toSlot_any x0 x1 _).mono ?_
      rintro e w' ⟨rfl, hb⟩
      have row := RowF.below hb hlr hrow
      have hB2 := hB.trans (hb.mono hB.size)
      clear c0 c1 hrow hB hb
      have hlr2 := row.lt
      obtain ⟨⟨v0, e0⟩, f0⟩ := row.facts (k * 2) (by omega)
      obtain ⟨⟨v1, e1⟩, f1⟩ := row.facts (k * 2 + 1) (by omega)
      go_wp2_with fail
      go_roundw
      case rel => exact ⟨k + 1, by omega, by go_num, ((row.put (k * 2 + 1) (by omega) q0).put ((k + 1) * 2) (by omega) q1), ((hB2.setCell (Nat.le_refl _) _).setCell (Nat.le_refl _) _)⟩
      case measure => simp [intOf]; omega
    · have hkn : k = n := by omega
      subst hkn
      have hli : ¬ (k : Int) < (k : Int) := by omega
      go_wp2_with fail
      go_ret
      exact ⟨rfl, hrow, hB⟩
set_option maxHeartbeats 1000000 in
theorem toSlotS_empty (a : Option Addr) (c : Nat) (F : Nat → Value) (w : World) :
    Calls Try.prog 63 #[.slice a 0 c] w fun e w' => e = .returned (.slice (some ⟨w.heap.size, 0, none⟩) 0 0) ∧ RowF w' w.heap.size 112 (0 * 2) (0 * 2) F ∧ Below w.heap.size w w' := by
  have hmk := mk_rowSlot 0 (by omega)
  simp only [Int.ofNat_zero] at hmk
  go_enter Try.func63, Try.ntmps63
  go_wp2_with fail
  clear hmk
  go_loopw [4] (fun i wr => i = .int .i64 0 ∧ RowF wr w.heap.size 112 (0 * 2) 0 F ∧ Below w.heap.size w wr) (fun i _ => 0)
  case atStart => exact ⟨rfl, rowObjSlot_is w 0 F, (Below.refl _ _).alloc (Nat.le_refl _) _⟩
  case round =>
    obtain ⟨rfl, hrow, hB⟩ := hrel
    go_wp2_with fail
    go_ret
    exact ⟨rfl, hrow.eqm (by omega), hB⟩
theorem toSlotS_any (a : Option Addr) (n c : Nat) (M : Nat → SlT) (w : World) (hn : n ≤ 1048576) (h : SrcC w a (n * 2) (MFSlot M)) :
    Calls Try.prog 63 #[.slice a n c] w fun e w' => e = .returned (.slice (some ⟨w.heap.size, 0, none⟩) n n) ∧ RowF w' w.heap.size 112 (n * 2) (n * 2) (MFSlot M) ∧ Below w.heap.size w w' := by
  rcases h with h0 | ⟨b, off, rfl, h2⟩
  · have hn0 : n = 0 := by omega
    subst hn0
    exact toSlotS_empty a c _ w
  · exact toSlotS_some b off n c M w hn h2
set_option maxHeartbeats 8000000 in
theorem eqSlotS_some (b off b' off' n c c' : Nat) (M : Nat → SlT) (w : World) (hn : n ≤ maxLen) (hf : Cs w b off (n * 2) (MFSlot M)) (hg : Cs w b' off' (n * 2) (MFSlot M)) :
    Calls Try.prog 67 #[.slice (some ⟨b, off, none⟩) n c, .slice (some ⟨b', off', none⟩) n c'] w fun e w' => e = .returned (.bool true) ∧ Below w.heap.size w w' := by
  unfold maxLen at hn
  go_enter Try.func67, Try.ntmps67
  go_wp2_with fail
  go_loopw [5] (fun i wr => ∃ k : Nat, k ≤ n ∧ i = .int .i64 k ∧ Below w.heap.size w wr) (fun i _ => n - (intOf i).toNat)
  case atStart => exact ⟨0, Nat.zero_le _, rfl, Below.refl _ _⟩
  case round =>
    obtain ⟨k, hk, rfl, hB⟩ := hrel
    by_cases hlt : k < n
    · obtain ⟨x0, x1, hM⟩ := tupSlot M k
      obtain ⟨c0, c1⟩ := (hf.below hB hf.1).elSlot hlt hM
      obtain ⟨d0, d1⟩ := (hg.below hB hg.1).elSlot hlt hM
      have hb1 : b < wr.drew.heap.size := Nat.lt_of_lt_of_le hf.1 hB.size
      have hb2 : b' < wr.drew.heap.size := Nat.lt_of_lt_of_le hg.1 hB.size
      have hsz : w.heap.size ≤ wr.drew.heap.size := hB.size
      have hli : (k : Int) < (n : Int) := by omega
      clear hM
      go_wp2_with fail
      refine wp_region_held_drew (S := (fun w' => w'.cell? ⟨b, off + k * 2, none⟩ = some (.int .i64 x0) ∧ w'.cell? ⟨b, off + k * 2 + 1, none⟩ = some (.int .i64 x1) ∧ w'.cell? ⟨b', off' + k * 2, none⟩ = some (.int .i64 x0) ∧ w'.cell? ⟨b', off' + k * 2 + 1, none⟩ = some (.int .i64 x1))) (by kernel_rfl) ?_ (fun hHeld => ?_)
      · first | exact ⟨c0, c1, d0, d1⟩ | (simp (maxDischargeDepth := 6) [go_sem, *]; done)
      refine wpAnyH_take (i := 0) (v := ?_) (by rw [List.getElem?_toArray]; rfl) (by kernel_rfl) (by kernel_rfl) (by kernel_rfl) (by intro _ _ _ h; exact h) (Or.inl ⟨by rfl, ?_⟩) (by assumption) ?_
      rotate_left
      · (intro w hSw; (try dsimp only at hSw); go_simp; all_goals with_reducible rfl)
      (try simp only [Act.put, List.setIfInBounds_toArray, List.set_cons_zero, List.set_cons_succ])
      refine wpAnyH_take (i := 1) (v := ?_) (by rw [List.getElem?_toArray]; rfl) (by kernel_rfl) (by kernel_rfl) (by kernel_rfl) (by intro _ _ _ h; exact h) (Or.inl ⟨by rfl, ?_⟩) (by assumption) ?_
      rotate_left
      · (intro w hSw; (try dsimp only at hSw); go_simp; all_goals with_reducible rfl)
      (try simp only [Act.put, List.setIfInBounds_toArray, List.set_cons_zero, List.set_cons_succ])
      refine wpAnyH_take (i := 2) (v := ?_) (by rw [List.getElem?_toArray]; rfl) (by kernel_rfl) (by kernel_rfl) (by kernel_rfl) (by intro _ _ _ h; exact h) (Or.inl ⟨by rfl, ?_⟩) (by assumption) ?_
      rotate_left
      · (intro w hSw; (try dsimp only at hSw); go_simp; all_goals with_reducible rfl)
      (try simp only [Act.put, List.setIfInBounds_toArray, List.set_cons_zero, List.set_cons_succ])
      refine wpAnyH_take (i := 3) (v := ?_) (by rw [List.getElem?_toArray]; rfl) (by kernel_rfl) (by kernel_rfl) (by kernel_rfl) (by intro _ _ _ h; exact h) (Or.inl ⟨by rfl, ?_⟩) (by assumption) ?_
      rotate_left
      · (intro w hSw; (try dsimp only at hSw); go_simp; all_goals with_reducible rfl)
      (try simp only [Act.put, List.setIfInBounds_toArray, List.set_cons_zero, List.set_cons_succ])
      refine wpAnyH_take (i := 4) (v := ?_) (by rw [List.getElem?_toArray]; rfl) (by kernel_rfl) (by kernel_rfl) (by kernel_rfl) (by intro _ _ _ h; exact h) (Or.inl ⟨by rfl, ?_⟩) (by assumption) ?_
      rotate_left
      · (intro w hSw; (try dsimp only at hSw); go_simp; all_goals with_reducible rfl)
      (try simp only [Act.put, List.setIfInBounds_toArray, List.set_cons_zero, List.set_cons_succ])
      refine wpAnyH_take (i := 5) (v := ?_) (by rw [List.getElem?_toArray]; rfl) (by kernel_rfl) (by kernel_rfl) (by kernel_rfl) (by intro _ _ _ h; exact h) (Or.inl ⟨by rfl, ?_⟩) (by assumption) ?_
      rotate_left
      · (intro w hSw; (try dsimp only at hSw); go_simp; all_goals with_reducible rfl)
      (try simp only [Act.put, List.setIfInBounds_toArray, List.set_cons_zero, List.set_cons_succ])
      refine wpAnyH_take (i := 6) (v := ?_) (by rw [List.getElem?_toArray]; rfl) (by kernel_rfl) (by kernel_rfl) (by kernel_rfl) (by intro _ _ _ h; exact h) (Or.inl ⟨by rfl, ?_⟩) (by assumption) ?_
      rotate_left
      · (intro w hSw; (try dsimp only at hSw); go_simp; all_goals with_reducible rfl)
      (try simp only [Act.put, List.setIfInBounds_toArray, List.set_cons_zero, List.set_cons_succ])
      refine wpAnyH_take (i := 7) (v := ?_) (by rw [List.getElem?_toArray]; rfl) (by kernel_rfl) (by kernel_rfl) (by kernel_rfl) (by intro _ _ _ h; exact h) (Or.inl ⟨by rfl, ?_⟩) (by assumption) ?_
      rotate_left
      · (intro w hSw; (try dsimp only at hSw); go_simp; all_goals with_reducible rfl)
      (try simp only [Act.put, List.setIfInBounds_toArray, List.set_cons_zero, List.set_cons_succ])
      refine wpAnyH_ready (rs := [8]) (by kernel_rfl) (by simp) ?_
      refine AllReadyH.cons (by rw [List.getElem?_toArray]; rfl) (fun K hK => ?_) AllReadyH.nil
      go_simp
      refine (eqSlot_same _ _ _).mono ?_; rintro e w' ⟨rfl, hb⟩; (replace c0 := (hb.cell (p := ⟨b, off + k * 2, none⟩) hb1).trans c0); (replace c1 := (hb.cell (p := ⟨b, off + k * 2 + 1, none⟩) hb1).trans c1); (replace d0 := (hb.cell (p := ⟨b', off' + k * 2, none⟩) hb2).trans d0); (replace d1 := (hb.cell (p := ⟨b', off' + k * 2 + 1, none⟩) hb2).trans d1)
      (try go_wp2_with fail)
      refine hK.out _ _ ?_ (fun hHeld => ?_)
      · first | exact ⟨c0, c1, d0, d1⟩ | (simp (maxDischargeDepth := 6) [go_sem, *]; done)
      clear hK K
      (try simp only [Act.put, List.setIfInBounds_toArray, List.set_cons_zero, List.set_cons_succ])
      refine wpAnyH_take (i := 9) (v := ?_) (by rw [List.getElem?_toArray]; rfl) (by kernel_rfl) (by kernel_rfl) (by kernel_rfl) (by intro _ _ _ h; exact h) (Or.inl ⟨by rfl, ?_⟩) (by assumption) ?_
      rotate_left
      · (intro w hSw; (try dsimp only at hSw); go_simp; all_goals with_reducible rfl)
      (try simp only [Act.put, List.setIfInBounds_toArray, List.set_cons_zero, List.set_cons_succ])
      refine wpAnyH_done (by kernel_rfl) ?_ _
      go_wp2_with fail
      go_roundw
      case rel => exact ⟨k + 1, by omega, by go_num, (Below.drew hB).trans (hb.mono hsz)⟩
      case measure => simp [intOf]; omega
    · go_wp2_with fail
      go_ret
      exact ⟨rfl, hB⟩
set_option maxHeartbeats 400000 in
theorem eqSlotS_zero (a a' : Option Addr) (c c' : Nat) (w : World) :
    Calls Try.prog 67 #[.slice a 0 c, .slice a' 0 c'] w fun e w' => e = .returned (.bool true) ∧ Below w.heap.size w w' := by
  go_enter Try.func67, Try.ntmps67
  go_wp2_with fail
  go_loopw [5] (fun i wr => i = .int .i64 0 ∧ w = wr) (fun i _ => 0)
  case atStart => exact ⟨rfl, rfl⟩
  case round =>
    obtain ⟨rfl, rfl⟩ := hrel
    go_wp2_with fail
    go_ret
    exact ⟨rfl, Below.refl _ _⟩
theorem eqSlotS_src (a a' : Option Addr) (n c c' : Nat) (M : Nat → SlT) (w : World) (hn : n ≤ maxLen) (h : SrcC w a (n * 2) (MFSlot M)) (h' : SrcC w a' (n * 2) (MFSlot M)) :
    Calls Try.prog 67 #[.slice a n c, .slice a' n c'] w fun e w' => e = .returned (.bool true) ∧ Below w.heap.size w w' := by
  by_cases h0 : n = 0
  · subst h0; exact eqSlotS_zero a a' c c' w
  · rcases h with h | ⟨b, off, rfl, hp⟩
    · omega
    · rcases h' with h | ⟨b', off', rfl, hp'⟩
      · omega
      · exact eqSlotS_some b off b' off' n c c' M w hn hp hp'
end Go.Proofs.Ytlllbahfjihepaa
namespace Go.Proofs.Ytlllbahfjihepaa
open Go.RowKit
set_option linter.unusedVariables false
set_option maxRecDepth 100000 in
set_option maxHeartbeats 8000000 in
theorem specPlanOk_any (s g : Int) (a : Option Addr) (n c : Nat) (M : Nat → SlT) (w : World) (hm : n ≤ maxLen) (hs : SrcC w a (n * 2) (MFSlot M)) :
    Calls Try.prog 22 #[.agg #[.int .i64 s, .int .i64 g, .slice a n c]] w fun e w' => e = .returned (.bool (plB s g M n)) ∧ Below w.heap.size w w' := by
  unfold maxLen at hm
  have B := Below.nw w (.cells #[.int .i64 s, .int .i64 g, .slice a n c] 34)
  have N := Tx3.new w (.int .i64 s) (.int .i64 g) (.slice a n c) 34
  have C1 := fun w' => l2Time_any s w'
  have C2 : ∀ w', Calls Try.prog 23 #[.int .i64 g, .int .i64 0, .int .i64 100000] w' fun e w'' => e = .returned (.bool (gpB g)) ∧ w' = w'' := fun w' => l1In_any g 0 100000 w'
  have C3 : ∀ w', Calls Try.prog 23 #[.int .i64 (n : Int), .int .i64 1, .int .i64 12] w' fun e w'' => e = .returned (.bool (cnB n)) ∧ w' = w'' := fun w' => l1In_any n 1 12 w'
  cases h1 : okT s
  · have e0 : plB s g M n = false := by unfold plB; rw [h1]; rfl
    rw [e0]
    clear e0 hs
    go_enter Try.func22, Try.ntmps22; go_upto_region 1 with fail; generalize w.alloc (.cells #[.int .i64 s, .int .i64 g, .slice a n c] 34) = v at *
    obtain ⟨n0, n1, n2, n3, n4, n5, n6⟩ := id N; go_wp2_with fail; refine (C1 _).mono ?_; rintro e w' ⟨rfl, rfl⟩; rw [h1]
    go_wp2_with fail
    go_ret
    exact ⟨rfl, B⟩
  cases h2 : gpB g
  · have e0 : plB s g M n = false := by unfold plB; rw [h1, h2]; rfl
    rw [e0]
    clear e0 hs
    go_enter Try.func22, Try.ntmps22; go_upto_region 1 with fail; generalize w.alloc (.cells #[.int .i64 s, .int .i64 g, .slice a n c] 34) = v at *
    obtain ⟨n0, n1, n2, n3, n4, n5, n6⟩ := id N; go_wp2_with fail; refine (C1 _).mono ?_; rintro e w' ⟨rfl, rfl⟩; rw [h1]
    go_wp2_with fail; refine (C2 _).mono ?_; rintro e w' ⟨rfl, rfl⟩; rw [h2]
    go_wp2_with fail
    go_ret
    exact ⟨rfl, B⟩
  cases h3 : cnB n
  · have e0 : plB s g M n = false := by unfold plB; rw [h1, h2, h3]; rfl
    rw [e0]
    clear e0 hs
    go_enter Try.func22, Try.ntmps22; go_upto_region 1 with fail; generalize w.alloc (.cells #[.int .i64 s, .int .i64 g, .slice a n c] 34) = v at *
    obtain ⟨n0, n1, n2, n3, n4, n5, n6⟩ := id N; go_wp2_with fail; refine (C1 _).mono ?_; rintro e w' ⟨rfl, rfl⟩; rw [h1]
    go_wp2_with fail; refine (C2 _).mono ?_; rintro e w' ⟨rfl, rfl⟩; rw [h2]
    go_wp2_with fail; refine (C3 _).mono ?_; rintro e w' ⟨rfl, rfl⟩; rw [h3]
    go_wp2_with fail
    go_ret
    exact ⟨rfl, B⟩
  have e0 : plB s g M n = slA M n := by unfold plB; rw [h1, h2, h3]; rfl
  rw [e0]
  clear e0
  have hn : 1 ≤ (n : Int) ∧ (n : Int) ≤ 12 := of_decide_eq_true h3
  obtain ⟨b, off, rfl, hf⟩ : ∃ b off, a = some ⟨b, off, none⟩ ∧ Cs w b off (n * 2) (MFSlot M) := by
    rcases hs with q | q
    · exact absurd q (by omega)
    · exact q
  have HF : Hid (Cs w b off (n * 2) (MFSlot M)) := hf
  clear hf hs
  go_enter Try.func22, Try.ntmps22; go_upto_region 1 with fail; generalize w.alloc (.cells #[.int .i64 s, .int .i64 g, .slice (some ⟨b, off, none⟩) n c] 34) = v at *
  obtain ⟨n0, n1, n2, n3, n4, n5, n6⟩ := id N; go_wp2_with fail; refine (C1 _).mono ?_; rintro e w' ⟨rfl, rfl⟩; rw [h1]
  go_wp2_with fail; refine (C2 _).mono ?_; rintro e w' ⟨rfl, rfl⟩; rw [h2]
  go_wp2_with fail; refine (C3 _).mono ?_; rintro e w' ⟨rfl, rfl⟩; rw [h3]
  clear C1 C2 C3 h1 h2 h3
  clear n0 n1 n2 n3 n4 n5 n6
  go_wp2_with fail
  go_loopw [3] (fun i wr => ∃ (k : Nat), k ≤ n ∧ i = .int .i64 k ∧ slA M k = true ∧ Tx3 wr w.heap.size (.int .i64 s) (.int .i64 g) (.slice (some ⟨b, off, none⟩) n c) ∧ Below w.heap.size w wr) (fun i _ => n - (intOf i).toNat)
  case atStart => exact ⟨0, Nat.zero_le _, rfl, rfl, N, B⟩
  case round =>
    clear N B
    obtain ⟨k, hk, rfl, hA, N, B⟩ := hrel
    by_cases hlt : k < n
    · obtain ⟨o, l, hM⟩ := tupSlot M k
      obtain ⟨c1, c2⟩ := (HF.out.below B HF.out.1).elSlot hlt hM
      have HA : Hid (slA M (k + 1) = (nodB o && lnB l)) := by rw [Hid, slA, hA, hM]; rfl
      have HLT : Hid (k < n) := hlt
      have hli : (k : Int) < (n : Int) := by omega
      have C1 := fun w' => l4Node_any o w'
      have C2 : ∀ w', Calls Try.prog 23 #[.int .i64 l, .int .i64 1, .int .i64 1000000] w' fun e w'' => e = .returned (.bool (lnB l)) ∧ w' = w'' := fun w' => l1In_any l 1 1000000 w'
      clear hM hA HF
      cases h1 : nodB o
      · have HN : Hid (slA M (k + 1) = false) := by rw [Hid, HA.out, h1]; rfl
        clear HA
        obtain ⟨n0, n1, n2, n3, n4, n5, n6⟩ := id N; go_wp2_with fail; refine (C1 _).mono ?_; rintro e w' ⟨rfl, rfl⟩; rw [h1]
        go_wp2_with fail
        go_ret
        exact ⟨ret_bool (slA_no HN.out HLT.out).symm, B⟩
      cases h2 : lnB l
      · have HN : Hid (slA M (k + 1) = false) := by rw [Hid, HA.out, h1, h2]; rfl
        clear HA
        obtain ⟨n0, n1, n2, n3, n4, n5, n6⟩ := id N; go_wp2_with fail; refine (C1 _).mono ?_; rintro e w' ⟨rfl, rfl⟩; rw [h1]
        go_wp2_with fail; refine (C2 _).mono ?_; rintro e w' ⟨rfl, rfl⟩; rw [h2]
        go_wp2_with fail
        go_ret
        exact ⟨ret_bool (slA_no HN.out HLT.out).symm, B⟩
      have HT : Hid (slA M (k + 1) = true) := by rw [Hid, HA.out, h1, h2]; rfl
      clear HA
      obtain ⟨n0, n1, n2, n3, n4, n5, n6⟩ := id N; go_wp2_with fail; refine (C1 _).mono ?_; rintro e w' ⟨rfl, rfl⟩; rw [h1]
      go_wp2_with fail; refine (C2 _).mono ?_; rintro e w' ⟨rfl, rfl⟩; rw [h2]
      go_wp2_with fail
      go_roundw
      case rel => exact ⟨k + 1, HLT.out, by go_num, HT.out, N, B⟩
      case measure => have hlt' := HLT.out; simp [intOf]; omega
    · have hkn : k = n := by omega
      subst hkn
      have hli : ¬ (k : Int) < (k : Int) := by omega
      obtain ⟨n0, n1, n2, n3, n4, n5, n6⟩ := id N
      go_wp2_with fail
      go_ret
      exact ⟨by first | rfl | exact ret_bool hA.symm, B⟩
end Go.Proofs.Ytlllbahfjihepaa
