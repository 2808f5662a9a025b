/- BusQuiet in the specification. -/
import Derived.Test.YtnjoldjefknpbaaQ153
import Derived.Deep.RegionHeld3
import Derived.Deep.DeepCutAuto
import Derived.WalkKit
import Derived.WalkSpells
import Derived.WalkLawsBesides
import Derived.Deep.RegionHeld
namespace Go.Proofs.Ytnjoldjefknpbaa
open Go.RowKit
set_option linter.unusedVariables false
def tmB (M : Nat → FrT) (n : Nat) (f t : Int) : Bool := buB M n && (decide (0 ≤ f) && (decide (f ≤ t) && decide (t ≤ 1000000000000)))
theorem tmB_t {M : Nat → FrT} {n : Nat} {f t : Int} (h : tmB M n f t = true) : buB M n = true ∧ 0 ≤ f ∧ f ≤ t ∧ t ≤ 1000000000000 := by
  unfold tmB at h
  simp only [Bool.and_eq_true, decide_eq_true_eq] at h
  exact h
/- The time up to which the first frames have been, and the times between them at which none is. -/
def quA (M : Nat → FrT) (f : Int) : Nat → Int
  | 0 => f
  | k + 1 => imx (quA M f k) (fEn (M k))
def quR (M : Nat → FrT) (f t : Int) : Nat → List VT
  | 0 => []
  | k + 1 => match decide (quA M f k < fSt (M k)) && decide (quA M f k < t) with | true => quR M f t k ++ [(quA M f k, imn (fSt (M k)) t)] | false => quR M f t k
def quL (M : Nat → FrT) (n : Nat) (f t : Int) : List VT := match tmB M n f t with
  | true => (match decide (quA M f n < t) with | true => quR M f t n ++ [(quA M f n, t)] | false => quR M f t n)
  | false => []
theorem quR_len (M : Nat → FrT) (f t : Int) : ∀ k, (quR M f t k).length ≤ k
  | 0 => Nat.le_refl _
  | k + 1 => by
    have ih := quR_len M f t k
    rw [quR]
    split
    · rw [List.length_append]; simp; exact ih
    · exact Nat.le_succ_of_le ih
set_option maxRecDepth 100000 in
set_option maxHeartbeats 8000000 in
theorem l15Times_any (a : Option Addr) (n c : Nat) (M : Nat → FrT) (f t : Int) (w : World) (hm : n ≤ maxLen) (hs : SrcC w a (n * 6) (MFFrame M)) (hz : ∀ i, i < n → (M i).2.2.2.2.2.size ≤ maxLen) :
    Calls Try.prog 63 #[.slice a n c, .int .i64 f, .int .i64 t] w fun e w' => e = .returned (.bool (tmB M n f t)) ∧ Below w.heap.size w w' := by
  have C1 := specBusOk_any a n c M w hm hs hz
  clear hs hz
  unfold tmB
  cases h1 : buB M n
  · rw [h1] at C1
    go_enter Try.func63, Try.ntmps63
    go_wp2_with fail
    refine C1.mono ?_
    rintro e v1 ⟨rfl, hb⟩
    go_wp2_with fail
    go_ret
    exact ⟨by first | rfl | simp, hb⟩
  rw [h1] at C1
  by_cases h2 : 0 ≤ f
  · by_cases h3 : f ≤ t
    · rw [decide_eq_true h2, decide_eq_true h3]
      go_enter Try.func63, Try.ntmps63
      go_wp2_with fail
      refine C1.mono ?_
      rintro e v1 ⟨rfl, hb⟩
      go_wp2_with fail
      go_ret
      exact ⟨by first | rfl | simp, hb⟩
    · rw [decide_eq_true h2, decide_eq_false h3]
      go_enter Try.func63, Try.ntmps63
      go_wp2_with fail
      refine C1.mono ?_
      rintro e v1 ⟨rfl, hb⟩
      go_wp2_with fail
      go_ret
      exact ⟨by first | rfl | simp, hb⟩
  · rw [decide_eq_false h2]
    go_enter Try.func63, Try.ntmps63
    go_wp2_with fail
    refine C1.mono ?_
    rintro e v1 ⟨rfl, hb⟩
    go_wp2_with fail
    go_ret
    exact ⟨by first | rfl | simp, hb⟩
set_option maxRecDepth 100000 in
set_option maxHeartbeats 8000000 in
theorem specBusQuiet_any (a : Option Addr) (n c : Nat) (M : Nat → FrT) (f t : Int) (w : World) (hm : n ≤ maxLen) (hs : SrcC w a (n * 6) (MFFrame M)) (hz : ∀ i, i < n → (M i).2.2.2.2.2.size ≤ maxLen) :
    Calls Try.prog 20 #[.slice a n c, .int .i64 f, .int .i64 t] w fun e w' => ∃ v, e = .returned v ∧ w'.ownsRow w.heap.size 31 2 v (quL M n f t).length (vrow (quL M n f t)) ∧ Below w.heap.size w w' := by
  have B := Below.nw w (.cells #[] 31)
  have OW := made_ival w
  have hjs : w.heap.size ≤ (w.alloc (.cells #[] 31)).heap.size := B.size
  have HS : Hid (SrcC w a (n * 6) (MFFrame M)) := hs
  clear hs
  have C1 := fun w' h => l15Times_any a n c M f t w' hm h hz
  have hmm := hm
  unfold maxLen at hmm
  cases h1 : tmB M n f t
  · have e0 : quL M n f t = [] := by unfold quL; rw [h1]
    rw [e0]
    rw [h1] at C1
    clear e0
    go_enter Try.func20, Try.ntmps20
    go_upto_region 2 with fail
    generalize w.alloc (.cells #[] 31) = v at *
    go_wp2_with fail
    refine (C1 _ (HS.out.below B)).mono ?_
    rintro e v1 ⟨rfl, hb⟩
    replace B := B.trans (hb.mono B.size)
    replace OW := own_belK' OW hb
    replace hjs := Nat.le_trans hjs hb.size
    clear hb
    go_wp2_with fail
    go_ret
    exact ⟨_, rfl, OW, B⟩
  rw [h1] at C1
  have hn60 := (buB_t (tmB_t h1).1).1
  have HQL : Hid (quL M n f t = match decide (quA M f n < t) with | true => quR M f t n ++ [(quA M f n, t)] | false => quR M f t n) := by rw [Hid]; unfold quL; rw [h1]
  have HLN : Hid (∀ j, (quR M f t j).length ≤ j) := quR_len M f t
  have HAA : Hid (∀ j, quA M f (j + 1) = imx (quA M f j) (fEn (M j))) := fun j => rfl
  have HRR : Hid (∀ j, quR M f t (j + 1) = match decide (quA M f j < fSt (M j)) && decide (quA M f j < t) with | true => quR M f t j ++ [(quA M f j, imn (fSt (M j)) t)] | false => quR M f t j) := fun j => rfl
  have HA0 : Hid (quA M f 0 = f) := rfl
  have HR0 : Hid (quR M f t 0 = []) := rfl
  clear h1 hz hm
  generalize quA M f = A at *
  generalize quR M f t = R at *
  go_enter Try.func20, Try.ntmps20
  go_upto_region 2 with fail
  generalize w.alloc (.cells #[] 31) = v at *
  go_wp2_with fail
  refine (C1 _ (HS.out.below B)).mono ?_
  rintro e v1 ⟨rfl, hb⟩
  replace B := B.trans (hb.mono B.size)
  replace OW := own_belK' OW hb
  replace hjs := Nat.le_trans hjs hb.size
  clear hb
  clear C1
  go_wp2_with fail
  go_loopw [7, 8, 9] (fun s7 s8 i wr => ∃ (q : Nat), q ≤ n ∧ i = .int .i64 q ∧ s8 = .int .i64 (A q) ∧ wr.ownsRow w.heap.size 31 2 s7 (R q).length (vrow (R q)) ∧ w.heap.size ≤ wr.heap.size ∧ Below w.heap.size w wr) (fun _ _ i _ => n - (intOf i).toNat)
  case atStart => exact ⟨0, Nat.zero_le _, rfl, by rw [HA0.out], by rw [HR0.out]; exact OW, hjs, B⟩
  case round =>
    clear OW B hjs
    obtain ⟨q, hq, rfl, rfl, OW, hjs, B⟩ := hrel
    by_cases hlt : q < n
    · have hli : (q : Int) < (n : Int) := by omega
      have HQ : Hid (q < n) := hlt
      clear hq
      obtain ⟨x0, x1, x2, x3, x4, x5, hM⟩ := tupFrame M q
      obtain ⟨b, off, rfl, hf0⟩ : ∃ b off, a = some ⟨b, off, none⟩ ∧ Cs w b off (n * 6) (MFFrame M) := by
        rcases HS.out with r | r
        · exact absurd r (by omega)
        · exact r
      have HF0 : Hid (Cs w b off (n * 6) (MFFrame M)) := hf0
      have HMq : Hid (M q = (x0, x1, x2, x3, x4, x5)) := hM
      have hf := hf0.below B hf0.1
      obtain ⟨-, -, -, c3, c4, -⟩ := hf.elFrame hlt hM
      have HA : Hid (A (q + 1) = imx (A q) x4) := by rw [Hid, HAA.out, hM]; rfl
      have HR : Hid (R (q + 1) = match decide (A q < x3) && decide (A q < t) with | true => R q ++ [(A q, imn x3 t)] | false => R q) := by rw [Hid, HRR.out, hM]; rfl
      have hln := HLN.out q
      have hlen : (R q).length ≤ 64 := by omega
      have CX := fun w' => l1Max_any (A q) x4 w'
      have CN := fun w' => l1Min_any x3 t w'
      clear hf hf0 hM hln HLN HAA HRR HA0 HR0 HQL hlt
      generalize R q = Rq at *
      generalize A q = Aq at *
      by_cases h2 : Aq < x3
      · by_cases h3 : Aq < t
        · have HE : Hid (R (q + 1) = Rq ++ [(Aq, imn x3 t)]) := by rw [Hid, HR.out, decide_eq_true h2, decide_eq_true h3]; rfl
          clear HR
          generalize imn x3 t = mn at *
          go_upto_region 9 with fail
          go_upto_region 10 with (first | (at_builtin; refine add_ival rfl _ _ rfl w.heap.size Rq _ rfl OW rfl hlen hjs ?_; intro v' w9 O9 hg9 hn9) | (go_at_call 64; refine (CN _).mono ?_; rintro e w' ⟨rfl, rfl⟩))
          have HO9 : Hid (w9.ownsRow w.heap.size 31 2 v' (Rq ++ [(Aq, mn)]).length (vrow (Rq ++ [(Aq, mn)]))) := O9
          have B9 := B.trans (grown_belowK OW hg9 hjs)
          have hj9 : w.heap.size ≤ w9.heap.size := Nat.le_trans hjs hg9.size
          clear O9 OW hg9 hn9 B hjs c3 c4
          have hf9 := HF0.out.below B9 HF0.out.1
          obtain ⟨-, -, -, -, c4, -⟩ := hf9.elFrame HQ.out HMq.out
          clear hf9
          go_wp2_with fail
          refine (CX _).mono ?_
          rintro e w' ⟨rfl, rfl⟩
          go_wp2_with fail
          go_roundw
          case rel => exact ⟨q + 1, HQ.out, by go_num, by rw [HA.out], by rw [HE.out]; exact HO9.out, hj9, B9⟩
          case measure => have hlt' := HQ.out; simp [intOf]; omega
        · have HE : Hid (R (q + 1) = Rq) := by rw [Hid, HR.out, decide_eq_true h2, decide_eq_false h3]; rfl
          have HO9 : Hid (wr.ownsRow w.heap.size 31 2 u7 Rq.length (vrow Rq)) := OW
          clear HR OW
          go_wp2_with fail
          refine (CX _).mono ?_
          rintro e w' ⟨rfl, rfl⟩
          go_wp2_with fail
          go_roundw
          case rel => exact ⟨q + 1, HQ.out, by go_num, by rw [HA.out], by rw [HE.out]; exact HO9.out, hjs, B⟩
          case measure => have hlt' := HQ.out; simp [intOf]; omega
      · have HE : Hid (R (q + 1) = Rq) := by rw [Hid, HR.out, decide_eq_false h2]; rfl
        have HO9 : Hid (wr.ownsRow w.heap.size 31 2 u7 Rq.length (vrow Rq)) := OW
        clear HR OW
        go_wp2_with fail
        refine (CX _).mono ?_
        rintro e w' ⟨rfl, rfl⟩
        go_wp2_with fail
        go_roundw
        case rel => exact ⟨q + 1, HQ.out, by go_num, by rw [HA.out], by rw [HE.out]; exact HO9.out, hjs, B⟩
        case measure => have hlt' := HQ.out; simp [intOf]; omega
    · have hkn : q = n := by omega
      subst hkn
      have hli : ¬ (q : Int) < (q : Int) := by omega
      have hln := HLN.out q
      have hlen : (R q).length ≤ 64 := by omega
      clear hln HLN HAA HRR HA0 HR0 HS
      by_cases h2 : A q < t
      · have HQ2 : Hid (quL M q f t = R q ++ [(A q, t)]) := by rw [Hid, HQL.out, decide_eq_true h2]
        clear HQL
        generalize R q = Rq at *
        generalize A q = Aq at *
        go_upto_region 13 with (at_builtin; refine add_ival rfl _ _ rfl w.heap.size Rq _ rfl OW rfl hlen hjs ?_; intro v' w9 O9 hg9 hn9)
        have HO9 : Hid (w9.ownsRow w.heap.size 31 2 v' (Rq ++ [(Aq, t)]).length (vrow (Rq ++ [(Aq, t)]))) := O9
        have B9 := B.trans (grown_belowK OW hg9 hjs)
        clear O9 OW hg9 hn9 B hjs
        go_wp2_with fail
        go_ret
        exact ⟨_, rfl, by rw [HQ2.out]; exact HO9.out, B9⟩
      · have HQ2 : Hid (quL M q f t = R q) := by rw [Hid, HQL.out, decide_eq_false h2]
        clear HQL
        go_wp2_with fail
        go_ret
        exact ⟨_, rfl, by rw [HQ2.out]; exact OW, B⟩
end Go.Proofs.Ytnjoldjefknpbaa
