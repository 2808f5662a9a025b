/- Whether a node has come to a count (the specification). -/
import Derived.Test.YtddijpjgkifngaaGreatMN11
namespace Go.Proofs.YtddijpjgkifngaaGreat
open Go.RowKit
set_option linter.unusedVariables false
set_option maxRecDepth 100000
set_option maxHeartbeats 16000000
theorem kj {AM : Nat → KT} {ct : Int} {k n : Nat} (h : cmA AM ct (k + 1) = false) (hk : k < n) : cmA AM ct n = false := by
 induction n with
 | zero => omega
 | succ n ih =>
  by_cases e : k = n
  ·subst e; exact h
  ·rw [cmA, ih (by omega)]; rfl
theorem kl {QM : Nat → PT} {ct : Int} {k n : Nat} (h : cmP QM ct (k + 1) = false) (hk : k < n) : cmP QM ct n = false := by
 induction n with
 | zero => omega
 | succ n ih =>
  by_cases e : k = n
  ·subst e; exact h
  ·rw [cmP, ih (by omega)]; rfl
theorem kk {HM : Nat → VT} {ct : Int} {k n : Nat} (h : cmH HM ct (k + 1) = false) (hk : k < n) : cmH HM ct n = false := by
 induction n with
 | zero => omega
 | succ n ih =>
  by_cases e : k = n
  ·subst e; exact h
  ·rw [cmH, ih (by omega)]; rfl
theorem fq (ni mo ep si : Int) (kn : Bool) (lo hi la te us : Int) (aa : Option Addr) (na ac : Nat) (AM : Nat → KT) (pa : Option Addr) (np pc : Nat) (QM : Nat → PT) (hs : Bool) (ls : Int) (ha : Option Addr) (nh hc : Nat) (HM : Nat → VT) (se : Int) (ct : Int) (w : World) (hna : na ≤ maxLen) (sA : ae w aa (na * 4) (aA AM)) (hnp : np ≤ maxLen) (sP : ae w pa (np * 5) (ay QM)) (hnh : nh ≤ maxLen) (sH : ae w ha (nh * 2) (aC HM)) :
 Calls Tryz.prog 47 #[.agg #[.int .i64 ni, .int .i64 mo, .int .i64 ep, .int .i64 si, .bool kn, .int .i64 lo, .int .i64 hi, .int .i64 la, .int .i64 te, .int .i64 us, .slice aa na ac, .slice pa np pc, .bool hs, .int .i64 ls, .slice ha nh hc, .int .i64 se], .int .i64 ct] w fun e w' => e = .returned (.bool (cmB si la se AM na QM np HM nh ct)) ∧ Below w.heap.size w w' := by
 have B := Below.nw w (.cells #[.int .i64 ni, .int .i64 mo, .int .i64 ep, .int .i64 si, .bool kn, .int .i64 lo, .int .i64 hi, .int .i64 la, .int .i64 te, .int .i64 us, .slice aa na ac, .slice pa np pc, .bool hs, .int .i64 ls, .slice ha nh hc, .int .i64 se] 98)
 have N := ar.new w (.int .i64 ni) (.int .i64 mo) (.int .i64 ep) (.int .i64 si) (.bool kn) (.int .i64 lo) (.int .i64 hi) (.int .i64 la) (.int .i64 te) (.int .i64 us) (.slice aa na ac) (.slice pa np pc) (.bool hs) (.int .i64 ls) (.slice ha nh hc) (.int .i64 se) 98
 have HA : Hid (ae w aa (na * 4) (aA AM)) := sA
 have HQ : Hid (ae w pa (np * 5) (ay QM)) := sP
 have HH : Hid (ae w ha (nh * 2) (aC HM)) := sH
 have C1 := fun w' => aE ct w'
 unfold maxLen at hna hnp hnh
 clear sA sP sH
 cases h1 : okT ct
 ·have HR : Hid (cmB si la se AM na QM np HM nh ct = false) := by unfold cmB; rw [h1]; rfl
  go_enter Tryz.func47, Tryz.ntmps47
  go_upto_region 1 with fail
  generalize w.alloc (.cells #[.int .i64 ni, .int .i64 mo, .int .i64 ep, .int .i64 si, .bool kn, .int .i64 lo, .int .i64 hi, .int .i64 la, .int .i64 te, .int .i64 us, .slice aa na ac, .slice pa np pc, .bool hs, .int .i64 ls, .slice ha nh hc, .int .i64 se] 98) = v at *
  go_wp2_with fail
  refine (C1 _).mono ?_
  rintro e v1 ⟨rfl, rfl⟩
  rw [h1]
  clear C1
  go_wp2_with fail
  go_ret
  exact ⟨ab HR.out.symm, B⟩
 by_cases g0 : ct < si
 ·have HR : Hid (cmB si la se AM na QM np HM nh ct = false) := by (show cmB si la se AM na QM np HM nh ct = false; unfold cmB; rw [h1, decide_eq_false (p := si ≤ ct) (by omega)]; simp)
  go_enter Tryz.func47, Tryz.ntmps47
  go_upto_region 1 with fail
  generalize w.alloc (.cells #[.int .i64 ni, .int .i64 mo, .int .i64 ep, .int .i64 si, .bool kn, .int .i64 lo, .int .i64 hi, .int .i64 la, .int .i64 te, .int .i64 us, .slice aa na ac, .slice pa np pc, .bool hs, .int .i64 ls, .slice ha nh hc, .int .i64 se] 98) = v at *
  go_wp2_with fail
  refine (C1 _).mono ?_
  rintro e v1 ⟨rfl, rfl⟩
  rw [h1]
  clear C1
  have n0 : _ ∧ _ := N
  go_wp2_with fail
  go_ret
  exact ⟨ab HR.out.symm, B⟩
 by_cases g1 : ct < la
 ·have HR : Hid (cmB si la se AM na QM np HM nh ct = false) := by (show cmB si la se AM na QM np HM nh ct = false; unfold cmB; rw [h1, decide_eq_true (p := si ≤ ct) (by omega), decide_eq_false (p := la ≤ ct) (by omega)]; simp)
  go_enter Tryz.func47, Tryz.ntmps47
  go_upto_region 1 with fail
  generalize w.alloc (.cells #[.int .i64 ni, .int .i64 mo, .int .i64 ep, .int .i64 si, .bool kn, .int .i64 lo, .int .i64 hi, .int .i64 la, .int .i64 te, .int .i64 us, .slice aa na ac, .slice pa np pc, .bool hs, .int .i64 ls, .slice ha nh hc, .int .i64 se] 98) = v at *
  go_wp2_with fail
  refine (C1 _).mono ?_
  rintro e v1 ⟨rfl, rfl⟩
  rw [h1]
  clear C1
  have n0 : _ ∧ _ := N
  go_wp2_with fail
  go_ret
  exact ⟨ab HR.out.symm, B⟩
 by_cases g2 : ct < se
 ·have HR : Hid (cmB si la se AM na QM np HM nh ct = false) := by (show cmB si la se AM na QM np HM nh ct = false; unfold cmB; rw [h1, decide_eq_true (p := si ≤ ct) (by omega), decide_eq_true (p := la ≤ ct) (by omega), decide_eq_false (p := se ≤ ct) (by omega)]; simp)
  go_enter Tryz.func47, Tryz.ntmps47
  go_upto_region 1 with fail
  generalize w.alloc (.cells #[.int .i64 ni, .int .i64 mo, .int .i64 ep, .int .i64 si, .bool kn, .int .i64 lo, .int .i64 hi, .int .i64 la, .int .i64 te, .int .i64 us, .slice aa na ac, .slice pa np pc, .bool hs, .int .i64 ls, .slice ha nh hc, .int .i64 se] 98) = v at *
  go_wp2_with fail
  refine (C1 _).mono ?_
  rintro e v1 ⟨rfl, rfl⟩
  rw [h1]
  clear C1
  have n0 : _ ∧ _ := N
  go_wp2_with fail
  go_ret
  exact ⟨ab HR.out.symm, B⟩
 have HC : Hid (cmB si la se AM na QM np HM nh ct = (cmA AM ct na && (cmP QM ct np && cmH HM ct nh))) := by unfold cmB; rw [h1, decide_eq_true (p := si ≤ ct) (by omega), decide_eq_true (p := la ≤ ct) (by omega), decide_eq_true (p := se ≤ ct) (by omega)]; rfl
 go_enter Tryz.func47, Tryz.ntmps47
 go_upto_region 1 with fail
 generalize w.alloc (.cells #[.int .i64 ni, .int .i64 mo, .int .i64 ep, .int .i64 si, .bool kn, .int .i64 lo, .int .i64 hi, .int .i64 la, .int .i64 te, .int .i64 us, .slice aa na ac, .slice pa np pc, .bool hs, .int .i64 ls, .slice ha nh hc, .int .i64 se] 98) = v at *
 go_wp2_with fail
 refine (C1 _).mono ?_
 rintro e v1 ⟨rfl, rfl⟩
 rw [h1]
 clear C1
 have n0 : _ ∧ _ := N
 go_wp2_with fail
 clear n0
 clear g0 g1 g2 h1
 go_loopw [5] (fun i wr => ∃ (k : Nat), k ≤ na ∧ i = .int .i64 (k : Int) ∧ cmA AM ct k = true ∧ wr = v) (fun i _ => na - (intOf i).toNat)
 case atStart => exact ⟨0, Nat.zero_le _, rfl, rfl, rfl⟩
 case round =>
  obtain ⟨k, hk, rfl, hA, rfl⟩ := hrel
  by_cases hlt : k < na
  ·obtain ⟨x0, x1, x2, x3, hM⟩ := bW AM k
   obtain ⟨b, off, rfl, hf⟩ : ∃ b off, aa = some ⟨b, off, none⟩ ∧ Cs w b off (na * 4) (aA AM) := by
    rcases HA.out with q | q
    ·exact absurd q (by omega)
    ·exact q
   obtain ⟨c0, c1, c2, c3⟩ := (hf.below B hf.1).elAsk hlt hM
   have HLT : Hid (k < na) := hlt
   have hli : (k : Int) < (na : Int) := by omega
   by_cases q : ct < x2
   ·have HR : Hid (cmB si la se AM na QM np HM nh ct = false) := by
     have e1 : cmA AM ct (k + 1) = false := by rw [cmA, hM]; show (_ && decide (x2 ≤ ct)) = false; rw [decide_eq_false (p := x2 ≤ ct) (by omega)]; simp
     show cmB si la se AM na QM np HM nh ct = false; rw [HC.out, kj e1 hlt]; simp
    clear HC hM hf hA
    have n0 : _ ∧ _ := N
    go_wp2_with fail
    go_ret
    exact ⟨ab HR.out.symm, B⟩
   ·have HT : Hid (cmA AM ct (k + 1) = true) := by rw [Hid, cmA, hA, hM]; show (_ && decide (x2 ≤ ct)) = true; rw [decide_eq_true (p := x2 ≤ ct) (by omega)]; rfl
    clear hM hf hA
    have n0 : _ ∧ _ := N
    go_wp2_with fail
    clear n0
    go_roundw
    case rel => exact ⟨k + 1, HLT.out, by go_num, HT.out, by first | rfl | trivial⟩
    case measure => have hlt' := HLT.out; simp [intOf]; omega
  ·obtain rfl : na = k := by omega
   have hli : ¬ (na : Int) < (na : Int) := by omega
   have n0 : _ ∧ _ := N
   go_wp2_with fail
   clear n0
   have hA1 := hA
   clear hA hli hlt
   generalize wr = v at *
   go_loopw [6] (fun i wr => ∃ (k : Nat), k ≤ np ∧ i = .int .i64 (k : Int) ∧ cmP QM ct k = true ∧ wr = v) (fun i _ => np - (intOf i).toNat)
   case atStart => exact ⟨0, Nat.zero_le _, rfl, rfl, rfl⟩
   case round =>
    obtain ⟨k, hk, rfl, hA, rfl⟩ := hrel
    by_cases hlt : k < np
    ·obtain ⟨x0, x1, x2, x3, x4, hM⟩ := bz QM k
     obtain ⟨b, off, rfl, hf⟩ : ∃ b off, pa = some ⟨b, off, none⟩ ∧ Cs w b off (np * 5) (ay QM) := by
      rcases HQ.out with q | q
      ·exact absurd q (by omega)
      ·exact q
     obtain ⟨c0, c1, c2, c3, c4⟩ := (hf.below B hf.1).elPeer hlt hM
     have HLT : Hid (k < np) := hlt
     have hli : (k : Int) < (np : Int) := by omega
     by_cases q : ct < x3
     ·have HR : Hid (cmB si la se AM na QM np HM nh ct = false) := by
       have e1 : cmP QM ct (k + 1) = false := by rw [cmP, hM]; show (_ && decide (x3 ≤ ct)) = false; rw [decide_eq_false (p := x3 ≤ ct) (by omega)]; simp
       show cmB si la se AM na QM np HM nh ct = false; rw [HC.out, hA1, kl e1 hlt]; simp
      clear HC hM hf hA
      have n0 : _ ∧ _ := N
      go_wp2_with fail
      go_ret
      exact ⟨ab HR.out.symm, B⟩
     ·have HT : Hid (cmP QM ct (k + 1) = true) := by rw [Hid, cmP, hA, hM]; show (_ && decide (x3 ≤ ct)) = true; rw [decide_eq_true (p := x3 ≤ ct) (by omega)]; rfl
      clear hM hf hA
      have n0 : _ ∧ _ := N
      go_wp2_with fail
      clear n0
      go_roundw
      case rel => exact ⟨k + 1, HLT.out, by go_num, HT.out, by first | rfl | trivial⟩
      case measure => have hlt' := HLT.out; simp [intOf]; omega
    ·obtain rfl : np = k := by omega
     have hli : ¬ (np : Int) < (np : Int) := by omega
     have n0 : _ ∧ _ := N
     go_wp2_with fail
     clear n0
     have hA2 := hA
     clear hA hli hlt
     generalize wr = v at *
     go_loopw [7] (fun i wr => ∃ (k : Nat), k ≤ nh ∧ i = .int .i64 (k : Int) ∧ cmH HM ct k = true ∧ wr = v) (fun i _ => nh - (intOf i).toNat)
     case atStart => exact ⟨0, Nat.zero_le _, rfl, rfl, rfl⟩
     case round =>
      obtain ⟨k, hk, rfl, hA, rfl⟩ := hrel
      by_cases hlt : k < nh
      ·obtain ⟨x0, x1, hM⟩ := bY HM k
       obtain ⟨b, off, rfl, hf⟩ : ∃ b off, ha = some ⟨b, off, none⟩ ∧ Cs w b off (nh * 2) (aC HM) := by
        rcases HH.out with q | q
        ·exact absurd q (by omega)
        ·exact q
       obtain ⟨c0, c1⟩ := (hf.below B hf.1).elIval hlt hM
       have HLT : Hid (k < nh) := hlt
       have hli : (k : Int) < (nh : Int) := by omega
       by_cases q : ct < x1
       ·have HR : Hid (cmB si la se AM na QM np HM nh ct = false) := by
         have e1 : cmH HM ct (k + 1) = false := by rw [cmH, hM]; show (_ && decide (x1 ≤ ct)) = false; rw [decide_eq_false (p := x1 ≤ ct) (by omega)]; simp
         show cmB si la se AM na QM np HM nh ct = false; rw [HC.out, hA1, hA2, kk e1 hlt]; simp
        clear HC hM hf hA
        have n0 : _ ∧ _ := N
        go_wp2_with fail
        go_ret
        exact ⟨ab HR.out.symm, B⟩
       ·have HT : Hid (cmH HM ct (k + 1) = true) := by rw [Hid, cmH, hA, hM]; show (_ && decide (x1 ≤ ct)) = true; rw [decide_eq_true (p := x1 ≤ ct) (by omega)]; rfl
        clear hM hf hA
        have n0 : _ ∧ _ := N
        go_wp2_with fail
        clear n0
        go_roundw
        case rel => exact ⟨k + 1, HLT.out, by go_num, HT.out, by first | rfl | trivial⟩
        case measure => have hlt' := HLT.out; simp [intOf]; omega
      ·obtain rfl : nh = k := by omega
       have hli : ¬ (nh : Int) < (nh : Int) := by omega
       have HR : Hid (cmB si la se AM na QM np HM nh ct = true) := by rw [Hid, HC.out, hA1, hA2, hA]; rfl
       clear HC hA hA1 hA2
       have n0 : _ ∧ _ := N
       go_wp2_with fail
       go_ret
       exact ⟨ab HR.out.symm, B⟩
end Go.Proofs.YtddijpjgkifngaaGreat
