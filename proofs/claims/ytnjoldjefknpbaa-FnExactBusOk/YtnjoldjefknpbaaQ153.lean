/- BusOf in the specification; whether two frames clash. -/
import Derived.Test.YtnjoldjefknpbaaQ152
import Derived.Test.YtnjoldjefknpbaaI106
import Derived.Deep.RegionHeld3
import Derived.Deep.DeepCutAuto
import Derived.WalkKit
import Derived.WalkSpells
import Derived.WalkLawsBesides
import Derived.Deep.RegionHeld
namespace Go.Proofs.Ytnjoldjefknpbaa
open Go.RowKit
set_option linter.unusedVariables false
theorem own_base15 {w : World} {base base' s n : Nat} {T : TypeId} {v : Value} {xs : List Value} (h : w.ownsRow base' T s v n xs) (hb : base ≤ base') : w.ownsRow base T s v n xs := by
  refine ⟨h.1, ?_⟩
  rcases h.2 with q | ⟨g, cap, cur, h1, h2, h3⟩
  · exact .inl q
  · exact .inr ⟨g, cap, cur, h1, Nat.le_trans hb h2, h3⟩
/- The numbers below one that are so, ascending. -/
def slI (P : Nat → Bool) : Nat → List Int
  | 0 => []
  | j + 1 => match P j with | true => slI P j ++ [(j : Int)] | false => slI P j
theorem slI_yes {P : Nat → Bool} {j : Nat} (h : P j = true) : slI P (j + 1) = slI P j ++ [(j : Int)] := by rw [slI, h]
theorem slI_no {P : Nat → Bool} {j : Nat} (h : P j = false) : slI P (j + 1) = slI P j := by rw [slI, h]
theorem slI_len (P : Nat → Bool) : ∀ j, (slI P j).length ≤ j
  | 0 => Nat.le_refl _
  | j + 1 => by
    have ih := slI_len P j
    cases h : P j
    · rw [slI_no h]; exact Nat.le_succ_of_le ih
    · rw [slI_yes h, List.length_append]; simp; exact ih
theorem buB_t {M : Nat → FrT} {n : Nat} (h : buB M n = true) : n ≤ 60 ∧ buA M n = true := by
  unfold buB at h
  simp only [Bool.and_eq_true, decide_eq_true_eq] at h
  exact h
theorem buB_zero (M : Nat → FrT) : buB M 0 = true := rfl
def ofP (M : Nat → FrT) (o : Int) (i : Nat) : Bool := (M i).1 == o
def ofL (M : Nat → FrT) (n : Nat) (o : Int) : List Int := match buB M n with | true => slI (ofP M o) n | false => []
set_option maxHeartbeats 4000000 in
theorem l15Clash_any (x0 x1 x2 x3 x4 : Int) (x5 : ByteArray) (y0 y1 y2 y3 y4 : Int) (y5 : ByteArray) (w : World) :
    Calls Try.prog 81 #[.agg #[.int .i64 x0, .int .i64 x1, .int .i64 x2, .int .i64 x3, .int .i64 x4, .string x5], .agg #[.int .i64 y0, .int .i64 y1, .int .i64 y2, .int .i64 y3, .int .i64 y4, .string y5]] w fun e w' => e = .returned (.bool (decide (x3 < y4) && decide (y3 < x4))) ∧ Below w.heap.size w w' := by
  have A0 := Below.nw w (.cells #[.int .i64 x0, .int .i64 x1, .int .i64 x2, .int .i64 x3, .int .i64 x4, .string x5] 33)
  have A1 := Below.nw (w.alloc (.cells #[.int .i64 x0, .int .i64 x1, .int .i64 x2, .int .i64 x3, .int .i64 x4, .string x5] 33)) (.cells #[.int .i64 y0, .int .i64 y1, .int .i64 y2, .int .i64 y3, .int .i64 y4, .string y5] 33)
  have B := A0.trans (A1.mono A0.size)
  clear A0 A1
  by_cases h1 : x3 < y4
  · rw [decide_eq_true h1, Bool.true_and]
    go_enter Try.func81, Try.ntmps81
    go_wp2_with fail
    go_ret
    exact ⟨by first | rfl | simp, B⟩
  · rw [decide_eq_false h1, Bool.false_and]
    go_enter Try.func81, Try.ntmps81
    go_wp2_with fail
    go_ret
    exact ⟨by first | rfl | simp, B⟩
set_option maxRecDepth 100000 in
set_option maxHeartbeats 8000000 in
theorem specBusOf_any (a : Option Addr) (n c : Nat) (M : Nat → FrT) (o : Int) (w : World) (hm : n ≤ maxLen) (hs : SrcC w a (n * 6) (MFFrame M)) (hz : ∀ i, i < n → (M i).2.2.2.2.2.size ≤ maxLen) :
    Calls Try.prog 58 #[.slice a n c, .int .i64 o] w fun e w' => ∃ v, e = .returned v ∧ w'.ownsRow w.heap.size 3 1 v (ofL M n o).length (irow (ofL M n o)) ∧ Below w.heap.size w w' := by
  have B := Below.nw w (.cells #[] 3)
  have OW := made_int w
  have hjs : w.heap.size ≤ (w.alloc (.cells #[] 3)).heap.size := B.size
  have HS : Hid (SrcC w a (n * 6) (MFFrame M)) := hs
  clear hs
  have C1 := fun w' h => specBusOk_any a n c M w' hm h hz
  have hmm := hm
  unfold maxLen at hmm
  cases h1 : buB M n
  · have e0 : ofL M n o = [] := by unfold ofL; rw [h1]
    rw [e0]
    rw [h1] at C1
    clear e0
    have hn0 : 0 < n := by
      rcases Nat.eq_zero_or_pos n with q | q
      · subst q; rw [buB_zero] at h1; exact absurd h1 (by decide)
      · exact q
    have hli : ((0 : Nat) : Int) < (n : Int) := by omega
    go_enter Try.func58, Try.ntmps58
    go_upto_region 2 with fail
    generalize w.alloc (.cells #[] 3) = v at *
    go_wp2_with fail
    go_loopw [5, 6] (fun s5 i wr => s5 = .slice (some ⟨w.heap.size, 0, none⟩) 0 0 ∧ i = .int .i64 ((0 : Nat) : Int) ∧ wr.ownsRow w.heap.size 3 1 (.slice (some ⟨w.heap.size, 0, none⟩) 0 0) ([] : List Int).length (irow []) ∧ Below w.heap.size w wr) (fun _ i _ => 0)
    case atStart => exact ⟨rfl, rfl, OW, B⟩
    case round =>
      clear OW B hjs
      obtain ⟨rfl, rfl, OW, B⟩ := hrel
      go_wp2_with fail
      refine (C1 _ (HS.out.below B)).mono ?_
      rintro e v1 ⟨rfl, hb⟩
      replace B := B.trans (hb.mono B.size)
      replace OW := own_belK' OW hb
      clear hb
      go_wp2_with fail
      go_ret
      exact ⟨_, rfl, OW, B⟩
  have e0 : ofL M n o = slI (ofP M o) n := by unfold ofL; rw [h1]
  rw [e0]
  rw [h1] at C1
  have hn60 := (buB_t h1).1
  have HY : Hid (∀ j, ofP M o j = true → slI (ofP M o) (j + 1) = slI (ofP M o) j ++ [(j : Int)]) := fun j h => slI_yes h
  have HX : Hid (∀ j, ofP M o j = false → slI (ofP M o) (j + 1) = slI (ofP M o) j) := fun j h => slI_no h
  have HLN : Hid (∀ j, (slI (ofP M o) j).length ≤ j) := slI_len (ofP M o)
  have HPP : Hid (∀ j, ofP M o j = ((M j).1 == o)) := fun j => rfl
  have HL0 : Hid (slI (ofP M o) 0 = []) := rfl
  clear e0 h1 hz hm
  generalize slI (ofP M o) = L at *
  generalize ofP M o = P at *
  go_enter Try.func58, Try.ntmps58
  go_upto_region 2 with fail
  generalize w.alloc (.cells #[] 3) = v at *
  go_wp2_with fail
  go_loopw [5, 6] (fun s5 i wr => ∃ (q : Nat), q ≤ n ∧ i = .int .i64 q ∧ wr.ownsRow w.heap.size 3 1 s5 (L q).length (irow (L q)) ∧ w.heap.size ≤ wr.heap.size ∧ Below w.heap.size w wr) (fun _ i _ => n - (intOf i).toNat)
  case atStart => exact ⟨0, Nat.zero_le _, rfl, by rw [HL0.out]; exact OW, hjs, B⟩
  case round =>
    clear OW B hjs
    obtain ⟨q, hq, rfl, OW, hjs, B⟩ := hrel
    by_cases hlt : q < n
    · have hli : (q : Int) < (n : Int) := by omega
      have HQ : Hid (q < n) := hlt
      go_wp2_with fail
      refine (C1 _ (HS.out.below B)).mono ?_
      rintro e v1 ⟨rfl, hb⟩
      replace B := B.trans (hb.mono B.size)
      replace OW := own_belK' OW hb
      replace hjs := Nat.le_trans hjs hb.size
      clear hb hq
      obtain ⟨x0, x1, x2, x3, x4, x5, hM⟩ := tupFrame M q
      rcases HS.out.below B with h0 | ⟨b, off, rfl, hf⟩
      · exact absurd h0 (by omega)
      obtain ⟨c0, -, -, -, -, -⟩ := hf.elFrame hlt hM
      have hP := HPP.out q
      rw [hM] at hP
      have hln := HLN.out q
      clear hf hM hlt
      cases ho : (x0 == o)
      · have HE : Hid (L (q + 1) = L q) := HX.out q (hP.trans ho)
        clear hP
        generalize L q = Lq at *
        have HO9 : Hid (v1.ownsRow w.heap.size 3 1 u5 Lq.length (irow Lq)) := OW
        clear OW
        go_wp2_with fail
        go_roundw
        case rel => exact ⟨q + 1, HQ.out, by go_num, by rw [HE.out]; exact HO9.out, hjs, B⟩
        case measure => have hlt' := HQ.out; simp [intOf]; omega
      · have HE : Hid (L (q + 1) = L q ++ [(q : Int)]) := HY.out q (hP.trans ho)
        have hlen : (L q).length ≤ 64 := by have := HQ.out; omega
        clear hP hln
        generalize L q = Lq at *
        go_upto_region 4 with (at_builtin; refine add_int rfl _ _ rfl w.heap.size Lq _ rfl OW rfl hlen hjs ?_; intro v' w9 O9 hg9 hn9)
        have HO9 : Hid (w9.ownsRow w.heap.size 3 1 v' (Lq ++ [(q : Int)]).length (irow (Lq ++ [(q : Int)]))) := O9
        have B9 := B.trans (grown_belowK OW hg9 hjs)
        have hj9 : w.heap.size ≤ w9.heap.size := Nat.le_trans hjs hg9.size
        clear O9 OW hg9 hn9 B hjs c0
        go_wp2_with fail
        go_roundw
        case rel => exact ⟨q + 1, HQ.out, by go_num, by rw [HE.out]; exact HO9.out, hj9, B9⟩
        case measure => have hlt' := HQ.out; simp [intOf]; omega
    · have hkn : q = n := by omega
      subst hkn
      have hli : ¬ (q : Int) < (q : Int) := by omega
      go_wp2_with fail
      go_ret
      exact ⟨_, rfl, OW, B⟩
end Go.Proofs.Ytnjoldjefknpbaa
