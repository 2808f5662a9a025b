/- Whether a node has come to a count (the specification). The code that is looked at first; a new node (the specification). -/
import Derived.Test.YtddijpjgkifngaaGreatM13
namespace Go.Proofs.YtddijpjgkifngaaGreat
open Go.RowKit
set_option linter.unusedVariables false
theorem cmA_no {AM : Nat → KT} {ct : Int} {k n : Nat} (h : cmA AM ct (k + 1) = false) (hk : k < n) : cmA AM ct n = false := by
 induction n with
 | zero => omega
 | succ n ih =>
  by_cases e : k = n
  ·subst e; exact h
  ·rw [cmA, ih (by omega)]; rfl
theorem cmP_no {QM : Nat → PT} {ct : Int} {k n : Nat} (h : cmP QM ct (k + 1) = false) (hk : k < n) : cmP QM ct n = false := by
 induction n with
 | zero => omega
 | succ n ih =>
  by_cases e : k = n
  ·subst e; exact h
  ·rw [cmP, ih (by omega)]; rfl
theorem cmH_no {HM : Nat → VT} {ct : Int} {k n : Nat} (h : cmH HM ct (k + 1) = false) (hk : k < n) : cmH HM ct n = false := by
 induction n with
 | zero => omega
 | succ n ih =>
  by_cases e : k = n
  ·subst e; exact h
  ·rw [cmH, ih (by omega)]; rfl
set_option maxRecDepth 100000 in
set_option maxHeartbeats 16000000 in
theorem specCame_any (ni mo ep si : Int) (kn : Bool) (lo hi la te us : Int) (aa : Option Addr) (na ac : Nat) (AM : Nat → KT) (pa : Option Addr) (np pc : Nat) (QM : Nat → PT) (hs : Bool) (ls : Int) (ha : Option Addr) (nh hc : Nat) (HM : Nat → VT) (se : Int) (ct : Int) (w : World) (hna : na ≤ maxLen) (sA : SrcC w aa (na * 4) (MFAsk AM)) (hnp : np ≤ maxLen) (sP : SrcC w pa (np * 5) (MFPeer QM)) (hnh : nh ≤ maxLen) (sH : SrcC w ha (nh * 2) (MFIval HM)) :
 Calls Tryz.prog 47 #[.agg #[.int .i64 ni, .int .i64 mo, .int .i64 ep, .int .i64 si, .bool kn, .int .i64 lo, .int .i64 hi, .int .i64 la, .int .i64 te, .int .i64 us, .slice aa na ac, .slice pa np pc, .bool hs, .int .i64 ls, .slice ha nh hc, .int .i64 se], .int .i64 ct] w fun e w' => e = .returned (.bool (cmB si la se AM na QM np HM nh ct)) ∧ Below w.heap.size w w' := by
 have B := Below.nw w (.cells #[.int .i64 ni, .int .i64 mo, .int .i64 ep, .int .i64 si, .bool kn, .int .i64 lo, .int .i64 hi, .int .i64 la, .int .i64 te, .int .i64 us, .slice aa na ac, .slice pa np pc, .bool hs, .int .i64 ls, .slice ha nh hc, .int .i64 se] 98)
 have N := Nx16.new w (.int .i64 ni) (.int .i64 mo) (.int .i64 ep) (.int .i64 si) (.bool kn) (.int .i64 lo) (.int .i64 hi) (.int .i64 la) (.int .i64 te) (.int .i64 us) (.slice aa na ac) (.slice pa np pc) (.bool hs) (.int .i64 ls) (.slice ha nh hc) (.int .i64 se) 98
 have HA : Hid (SrcC w aa (na * 4) (MFAsk AM)) := sA
 have HQ : Hid (SrcC w pa (np * 5) (MFPeer QM)) := sP
 have HH : Hid (SrcC w ha (nh * 2) (MFIval HM)) := sH
 have C1 := fun w' => l2Time_any ct w'
 unfold maxLen at hna hnp hnh
 clear sA sP sH
 cases h1 : okT ct
 ·have HR : Hid (cmB si la se AM na QM np HM nh ct = false) := by unfold cmB; rw [h1]; rfl
  go_enter Tryz.func47, Tryz.ntmps47
  go_upto_region 1 with fail
  generalize w.alloc (.cells #[.int .i64 ni, .int .i64 mo, .int .i64 ep, .int .i64 si, .bool kn, .int .i64 lo, .int .i64 hi, .int .i64 la, .int .i64 te, .int .i64 us, .slice aa na ac, .slice pa np pc, .bool hs, .int .i64 ls, .slice ha nh hc, .int .i64 se] 98) = v at *
  go_wp2_with fail
  refine (C1 _).mono ?_
  rintro e v1 ⟨rfl, rfl⟩
  rw [h1]
  clear C1
  go_wp2_with fail
  go_ret
  exact ⟨ret_bool HR.out.symm, B⟩
 by_cases g0 : ct < si
 ·have HR : Hid (cmB si la se AM na QM np HM nh ct = false) := by (show cmB si la se AM na QM np HM nh ct = false; unfold cmB; rw [h1, decide_eq_false (p := si ≤ ct) (by omega)]; simp)
  go_enter Tryz.func47, Tryz.ntmps47
  go_upto_region 1 with fail
  generalize w.alloc (.cells #[.int .i64 ni, .int .i64 mo, .int .i64 ep, .int .i64 si, .bool kn, .int .i64 lo, .int .i64 hi, .int .i64 la, .int .i64 te, .int .i64 us, .slice aa na ac, .slice pa np pc, .bool hs, .int .i64 ls, .slice ha nh hc, .int .i64 se] 98) = v at *
  go_wp2_with fail
  refine (C1 _).mono ?_
  rintro e v1 ⟨rfl, rfl⟩
  rw [h1]
  clear C1
  obtain ⟨n0, n1, n2, n3, n4, n5, n6, n7, n8, n9, n10, n11, n12, n13, n14, n15, n16, m0, m1, m2, m3, m4, m5, m6, m7, m8, m9, m10, m11, m12, m13, m14, m15⟩ := id N
  go_wp2_with fail
  go_ret
  exact ⟨ret_bool HR.out.symm, B⟩
 by_cases g1 : ct < la
 ·have HR : Hid (cmB si la se AM na QM np HM nh ct = false) := by (show cmB si la se AM na QM np HM nh ct = false; unfold cmB; rw [h1, decide_eq_true (p := si ≤ ct) (by omega), decide_eq_false (p := la ≤ ct) (by omega)]; simp)
  go_enter Tryz.func47, Tryz.ntmps47
  go_upto_region 1 with fail
  generalize w.alloc (.cells #[.int .i64 ni, .int .i64 mo, .int .i64 ep, .int .i64 si, .bool kn, .int .i64 lo, .int .i64 hi, .int .i64 la, .int .i64 te, .int .i64 us, .slice aa na ac, .slice pa np pc, .bool hs, .int .i64 ls, .slice ha nh hc, .int .i64 se] 98) = v at *
  go_wp2_with fail
  refine (C1 _).mono ?_
  rintro e v1 ⟨rfl, rfl⟩
  rw [h1]
  clear C1
  obtain ⟨n0, n1, n2, n3, n4, n5, n6, n7, n8, n9, n10, n11, n12, n13, n14, n15, n16, m0, m1, m2, m3, m4, m5, m6, m7, m8, m9, m10, m11, m12, m13, m14, m15⟩ := id N
  go_wp2_with fail
  go_ret
  exact ⟨ret_bool HR.out.symm, B⟩
 by_cases g2 : ct < se
 ·have HR : Hid (cmB si la se AM na QM np HM nh ct = false) := by (show cmB si la se AM na QM np HM nh ct = false; unfold cmB; rw [h1, decide_eq_true (p := si ≤ ct) (by omega), decide_eq_true (p := la ≤ ct) (by omega), decide_eq_false (p := se ≤ ct) (by omega)]; simp)
  go_enter Tryz.func47, Tryz.ntmps47
  go_upto_region 1 with fail
  generalize w.alloc (.cells #[.int .i64 ni, .int .i64 mo, .int .i64 ep, .int .i64 si, .bool kn, .int .i64 lo, .int .i64 hi, .int .i64 la, .int .i64 te, .int .i64 us, .slice aa na ac, .slice pa np pc, .bool hs, .int .i64 ls, .slice ha nh hc, .int .i64 se] 98) = v at *
  go_wp2_with fail
  refine (C1 _).mono ?_
  rintro e v1 ⟨rfl, rfl⟩
  rw [h1]
  clear C1
  obtain ⟨n0, n1, n2, n3, n4, n5, n6, n7, n8, n9, n10, n11, n12, n13, n14, n15, n16, m0, m1, m2, m3, m4, m5, m6, m7, m8, m9, m10, m11, m12, m13, m14, m15⟩ := id N
  go_wp2_with fail
  go_ret
  exact ⟨ret_bool HR.out.symm, B⟩
 have HC : Hid (cmB si la se AM na QM np HM nh ct = (cmA AM ct na && (cmP QM ct np && cmH HM ct nh))) := by unfold cmB; rw [h1, decide_eq_true (p := si ≤ ct) (by omega), decide_eq_true (p := la ≤ ct) (by omega), decide_eq_true (p := se ≤ ct) (by omega)]; rfl
 go_enter Tryz.func47, Tryz.ntmps47
 go_upto_region 1 with fail
 generalize w.alloc (.cells #[.int .i64 ni, .int .i64 mo, .int .i64 ep, .int .i64 si, .bool kn, .int .i64 lo, .int .i64 hi, .int .i64 la, .int .i64 te, .int .i64 us, .slice aa na ac, .slice pa np pc, .bool hs, .int .i64 ls, .slice ha nh hc, .int .i64 se] 98) = v at *
 go_wp2_with fail
 refine (C1 _).mono ?_
 rintro e v1 ⟨rfl, rfl⟩
 rw [h1]
 clear C1
 obtain ⟨n0, n1, n2, n3, n4, n5, n6, n7, n8, n9, n10, n11, n12, n13, n14, n15, n16, m0, m1, m2, m3, m4, m5, m6, m7, m8, m9, m10, m11, m12, m13, m14, m15⟩ := id N
 go_wp2_with fail
 clear n0 n1 n2 n3 n4 n5 n6 n7 n8 n9 n10 n11 n12 n13 n14 n15 n16 m0 m1 m2 m3 m4 m5 m6 m7 m8 m9 m10 m11 m12 m13 m14 m15
 clear g0 g1 g2 h1
 go_loopw [5] (fun i wr => ∃ (k : Nat), k ≤ na ∧ i = .int .i64 (k : Int) ∧ cmA AM ct k = true ∧ wr = v) (fun i _ => na - (intOf i).toNat)
 case atStart => exact ⟨0, Nat.zero_le _, rfl, rfl, rfl⟩
 case round =>
  obtain ⟨k, hk, rfl, hA, rfl⟩ := hrel
  by_cases hlt : k < na
  ·obtain ⟨x0, x1, x2, x3, hM⟩ := tupAsk AM k
   obtain ⟨b, off, rfl, hf⟩ : ∃ b off, aa = some ⟨b, off, none⟩ ∧ Cs w b off (na * 4) (MFAsk AM) := by
    rcases HA.out with q | q
    ·exact absurd q (by omega)
    ·exact q
   obtain ⟨c0, c1, c2, c3⟩ := (hf.below B hf.1).elAsk hlt hM
   have HLT : Hid (k < na) := hlt
   have hli : (k : Int) < (na : Int) := by omega
   by_cases q : ct < x2
   ·have HR : Hid (cmB si la se AM na QM np HM nh ct = false) := by
     have e1 : cmA AM ct (k + 1) = false := by rw [cmA, hM]; show (_ && decide (x2 ≤ ct)) = false; rw [decide_eq_false (p := x2 ≤ ct) (by omega)]; simp
     show cmB si la se AM na QM np HM nh ct = false; rw [HC.out, cmA_no e1 hlt]; simp
    clear HC hM hf hA
    obtain ⟨n0, n1, n2, n3, n4, n5, n6, n7, n8, n9, n10, n11, n12, n13, n14, n15, n16, m0, m1, m2, m3, m4, m5, m6, m7, m8, m9, m10, m11, m12, m13, m14, m15⟩ := id N
    go_wp2_with fail
    go_ret
    exact ⟨ret_bool HR.out.symm, B⟩
   ·have HT : Hid (cmA AM ct (k + 1) = true) := by rw [Hid, cmA, hA, hM]; show (_ && decide (x2 ≤ ct)) = true; rw [decide_eq_true (p := x2 ≤ ct) (by omega)]; rfl
    clear hM hf hA
    obtain ⟨n0, n1, n2, n3, n4, n5, n6, n7, n8, n9, n10, n11, n12, n13, n14, n15, n16, m0, m1, m2, m3, m4, m5, m6, m7, m8, m9, m10, m11, m12, m13, m14, m15⟩ := id N
    go_wp2_with fail
    clear n0 n1 n2 n3 n4 n5 n6 n7 n8 n9 n10 n11 n12 n13 n14 n15 n16 m0 m1 m2 m3 m4 m5 m6 m7 m8 m9 m10 m11 m12 m13 m14 m15
    go_roundw
    case rel => exact ⟨k + 1, HLT.out, by go_num, HT.out, by first | rfl | trivial⟩
    case measure => have hlt' := HLT.out; simp [intOf]; omega
  ·obtain rfl : na = k := by omega
   have hli : ¬ (na : Int) < (na : Int) := by omega
   obtain ⟨n0, n1, n2, n3, n4, n5, n6, n7, n8, n9, n10, n11, n12, n13, n14, n15, n16, m0, m1, m2, m3, m4, m5, m6, m7, m8, m9, m10, m11, m12, m13, m14, m15⟩ := id N
   go_wp2_with fail
   clear n0 n1 n2 n3 n4 n5 n6 n7 n8 n9 n10 n11 n12 n13 n14 n15 n16 m0 m1 m2 m3 m4 m5 m6 m7 m8 m9 m10 m11 m12 m13 m14 m15
   have hA1 := hA
   clear hA hli hlt
   generalize wr = v at *
   go_loopw [6] (fun i wr => ∃ (k : Nat), k ≤ np ∧ i = .int .i64 (k : Int) ∧ cmP QM ct k = true ∧ wr = v) (fun i _ => np - (intOf i).toNat)
   case atStart => exact ⟨0, Nat.zero_le _, rfl, rfl, rfl⟩
   case round =>
    obtain ⟨k, hk, rfl, hA, rfl⟩ := hrel
    by_cases hlt : k < np
    ·obtain ⟨x0, x1, x2, x3, x4, hM⟩ := tupPeer QM k
     obtain ⟨b, off, rfl, hf⟩ : ∃ b off, pa = some ⟨b, off, none⟩ ∧ Cs w b off (np * 5) (MFPeer QM) := by
      rcases HQ.out with q | q
      ·exact absurd q (by omega)
      ·exact q
     obtain ⟨c0, c1, c2, c3, c4⟩ := (hf.below B hf.1).elPeer hlt hM
     have HLT : Hid (k < np) := hlt
     have hli : (k : Int) < (np : Int) := by omega
     by_cases q : ct < x3
     ·have HR : Hid (cmB si la se AM na QM np HM nh ct = false) := by
       have e1 : cmP QM ct (k + 1) = false := by rw [cmP, hM]; show (_ && decide (x3 ≤ ct)) = false; rw [decide_eq_false (p := x3 ≤ ct) (by omega)]; simp
       show cmB si la se AM na QM np HM nh ct = false; rw [HC.out, hA1, cmP_no e1 hlt]; simp
      clear HC hM hf hA
      obtain ⟨n0, n1, n2, n3, n4, n5, n6, n7, n8, n9, n10, n11, n12, n13, n14, n15, n16, m0, m1, m2, m3, m4, m5, m6, m7, m8, m9, m10, m11, m12, m13, m14, m15⟩ := id N
      go_wp2_with fail
      go_ret
      exact ⟨ret_bool HR.out.symm, B⟩
     ·have HT : Hid (cmP QM ct (k + 1) = true) := by rw [Hid, cmP, hA, hM]; show (_ && decide (x3 ≤ ct)) = true; rw [decide_eq_true (p := x3 ≤ ct) (by omega)]; rfl
      clear hM hf hA
      obtain ⟨n0, n1, n2, n3, n4, n5, n6, n7, n8, n9, n10, n11, n12, n13, n14, n15, n16, m0, m1, m2, m3, m4, m5, m6, m7, m8, m9, m10, m11, m12, m13, m14, m15⟩ := id N
      go_wp2_with fail
      clear n0 n1 n2 n3 n4 n5 n6 n7 n8 n9 n10 n11 n12 n13 n14 n15 n16 m0 m1 m2 m3 m4 m5 m6 m7 m8 m9 m10 m11 m12 m13 m14 m15
      go_roundw
      case rel => exact ⟨k + 1, HLT.out, by go_num, HT.out, by first | rfl | trivial⟩
      case measure => have hlt' := HLT.out; simp [intOf]; omega
    ·obtain rfl : np = k := by omega
     have hli : ¬ (np : Int) < (np : Int) := by omega
     obtain ⟨n0, n1, n2, n3, n4, n5, n6, n7, n8, n9, n10, n11, n12, n13, n14, n15, n16, m0, m1, m2, m3, m4, m5, m6, m7, m8, m9, m10, m11, m12, m13, m14, m15⟩ := id N
     go_wp2_with fail
     clear n0 n1 n2 n3 n4 n5 n6 n7 n8 n9 n10 n11 n12 n13 n14 n15 n16 m0 m1 m2 m3 m4 m5 m6 m7 m8 m9 m10 m11 m12 m13 m14 m15
     have hA2 := hA
     clear hA hli hlt
     generalize wr = v at *
     go_loopw [7] (fun i wr => ∃ (k : Nat), k ≤ nh ∧ i = .int .i64 (k : Int) ∧ cmH HM ct k = true ∧ wr = v) (fun i _ => nh - (intOf i).toNat)
     case atStart => exact ⟨0, Nat.zero_le _, rfl, rfl, rfl⟩
     case round =>
      obtain ⟨k, hk, rfl, hA, rfl⟩ := hrel
      by_cases hlt : k < nh
      ·obtain ⟨x0, x1, hM⟩ := tupIval HM k
       obtain ⟨b, off, rfl, hf⟩ : ∃ b off, ha = some ⟨b, off, none⟩ ∧ Cs w b off (nh * 2) (MFIval HM) := by
        rcases HH.out with q | q
        ·exact absurd q (by omega)
        ·exact q
       obtain ⟨c0, c1⟩ := (hf.below B hf.1).elIval hlt hM
       have HLT : Hid (k < nh) := hlt
       have hli : (k : Int) < (nh : Int) := by omega
       by_cases q : ct < x1
       ·have HR : Hid (cmB si la se AM na QM np HM nh ct = false) := by
         have e1 : cmH HM ct (k + 1) = false := by rw [cmH, hM]; show (_ && decide (x1 ≤ ct)) = false; rw [decide_eq_false (p := x1 ≤ ct) (by omega)]; simp
         show cmB si la se AM na QM np HM nh ct = false; rw [HC.out, hA1, hA2, cmH_no e1 hlt]; simp
        clear HC hM hf hA
        obtain ⟨n0, n1, n2, n3, n4, n5, n6, n7, n8, n9, n10, n11, n12, n13, n14, n15, n16, m0, m1, m2, m3, m4, m5, m6, m7, m8, m9, m10, m11, m12, m13, m14, m15⟩ := id N
        go_wp2_with fail
        go_ret
        exact ⟨ret_bool HR.out.symm, B⟩
       ·have HT : Hid (cmH HM ct (k + 1) = true) := by rw [Hid, cmH, hA, hM]; show (_ && decide (x1 ≤ ct)) = true; rw [decide_eq_true (p := x1 ≤ ct) (by omega)]; rfl
        clear hM hf hA
        obtain ⟨n0, n1, n2, n3, n4, n5, n6, n7, n8, n9, n10, n11, n12, n13, n14, n15, n16, m0, m1, m2, m3, m4, m5, m6, m7, m8, m9, m10, m11, m12, m13, m14, m15⟩ := id N
        go_wp2_with fail
        clear n0 n1 n2 n3 n4 n5 n6 n7 n8 n9 n10 n11 n12 n13 n14 n15 n16 m0 m1 m2 m3 m4 m5 m6 m7 m8 m9 m10 m11 m12 m13 m14 m15
        go_roundw
        case rel => exact ⟨k + 1, HLT.out, by go_num, HT.out, by first | rfl | trivial⟩
        case measure => have hlt' := HLT.out; simp [intOf]; omega
      ·obtain rfl : nh = k := by omega
       have hli : ¬ (nh : Int) < (nh : Int) := by omega
       have HR : Hid (cmB si la se AM na QM np HM nh ct = true) := by rw [Hid, HC.out, hA1, hA2, hA]; rfl
       clear HC hA hA1 hA2
       obtain ⟨n0, n1, n2, n3, n4, n5, n6, n7, n8, n9, n10, n11, n12, n13, n14, n15, n16, m0, m1, m2, m3, m4, m5, m6, m7, m8, m9, m10, m11, m12, m13, m14, m15⟩ := id N
       go_wp2_with fail
       go_ret
       exact ⟨ret_bool HR.out.symm, B⟩
end Go.Proofs.YtddijpjgkifngaaGreat
namespace Go.Proofs.YtddijpjgkifngaaGreat
open Go.RowKit
set_option linter.unusedVariables false
def RwO (w : World) (a : Option Addr) (n c sz : Nat) (F : Nat → Value) : Prop := (a = none ∧ n = 0 ∧ c = 0) ∨ ∃ b off, a = some ⟨b, off, none⟩ ∧ (n = 0 ∨ Cs w b off (n * sz) F)
theorem RwO.below {w w' : World} {a : Option Addr} {n c sz : Nat} {F : Nat → Value} (h : RwO w a n c sz F) (hb : Below w.heap.size w w') : RwO w' a n c sz F := by
 rcases h with h | ⟨b, off, e, h⟩
 ·exact .inl h
 ·exact .inr ⟨b, off, e, h.imp id fun h => h.below hb h.1⟩
theorem RwO.src {w : World} {a : Option Addr} {n c sz : Nat} {F : Nat → Value} (h : RwO w a n c sz F) : SrcC w a (n * sz) F := by
 rcases h with ⟨_, h, _⟩ | ⟨b, off, e, h | h⟩
 ·exact .inl (by rw [h, Nat.zero_mul])
 ·exact .inl (by rw [h, Nat.zero_mul])
 ·exact .inr ⟨b, off, e, h⟩
def fiI (nb cb : Bool) (mo : Int) : Int := match nb && cb with | true => (match mo == 0 with | true => 2 | false => 0) | false => 1
set_option maxRecDepth 100000 in
set_option maxHeartbeats 8000000 in
theorem specFirst_any (ni mo ep si : Int) (kn : Bool) (lo hi la te us : Int) (aa : Option Addr) (na ac : Nat) (AM : Nat → KT) (pa : Option Addr) (np pc : Nat) (QM : Nat → PT) (hs : Bool) (ls : Int) (ha : Option Addr) (nh hc : Nat) (HM : Nat → VT) (se : Int) (ct : Int) (w : World) (hna : na ≤ maxLen) (sA : SrcC w aa (na * 4) (MFAsk AM)) (hnp : np ≤ maxLen) (sP : SrcC w pa (np * 5) (MFPeer QM)) (hnh : nh ≤ maxLen) (sH : SrcC w ha (nh * 2) (MFIval HM)) :
 Calls Tryz.prog 166 #[.agg #[.int .i64 ni, .int .i64 mo, .int .i64 ep, .int .i64 si, .bool kn, .int .i64 lo, .int .i64 hi, .int .i64 la, .int .i64 te, .int .i64 us, .slice aa na ac, .slice pa np pc, .bool hs, .int .i64 ls, .slice ha nh hc, .int .i64 se], .int .i64 ct] w fun e w' => e = .returned (.int .i64 (fiI (ndB ni mo ep si kn lo hi la te us AM na QM np hs ls HM nh se) (cmB si la se AM na QM np HM nh ct) mo)) ∧ Below w.heap.size w w' := by
 have B := Below.nw w (.cells #[.int .i64 ni, .int .i64 mo, .int .i64 ep, .int .i64 si, .bool kn, .int .i64 lo, .int .i64 hi, .int .i64 la, .int .i64 te, .int .i64 us, .slice aa na ac, .slice pa np pc, .bool hs, .int .i64 ls, .slice ha nh hc, .int .i64 se] 98)
 have N := Nx16.new w (.int .i64 ni) (.int .i64 mo) (.int .i64 ep) (.int .i64 si) (.bool kn) (.int .i64 lo) (.int .i64 hi) (.int .i64 la) (.int .i64 te) (.int .i64 us) (.slice aa na ac) (.slice pa np pc) (.bool hs) (.int .i64 ls) (.slice ha nh hc) (.int .i64 se) 98
 have C1 := fun (w' : World) (h : Below w.heap.size w w') => specNodeOk_any ni mo ep si kn lo hi la te us aa na ac AM pa np pc QM hs ls ha nh hc HM se w' hna (sA.below h) hnp (sP.below h) hnh (sH.below h)
 have C2 := fun (w' : World) (h : Below w.heap.size w w') => specCame_any ni mo ep si kn lo hi la te us aa na ac AM pa np pc QM hs ls ha nh hc HM se ct w' hna (sA.below h) hnp (sP.below h) hnh (sH.below h)
 clear hna sA hnp sP hnh sH
 generalize ndB ni mo ep si kn lo hi la te us AM na QM np hs ls HM nh se = nb at *
 generalize cmB si la se AM na QM np HM nh ct = cb at *
 cases nb
 ·have e0 : fiI false cb mo = 1 := rfl
  rw [e0]
  go_enter Tryz.func166, Tryz.ntmps166
  go_upto_region 1 with fail
  generalize w.alloc (.cells #[.int .i64 ni, .int .i64 mo, .int .i64 ep, .int .i64 si, .bool kn, .int .i64 lo, .int .i64 hi, .int .i64 la, .int .i64 te, .int .i64 us, .slice aa na ac, .slice pa np pc, .bool hs, .int .i64 ls, .slice ha nh hc, .int .i64 se] 98) = v at *
  obtain ⟨n0, n1, n2, n3, n4, n5, n6, n7, n8, n9, n10, n11, n12, n13, n14, n15, n16, m0, m1, m2, m3, m4, m5, m6, m7, m8, m9, m10, m11, m12, m13, m14, m15⟩ := id N
  go_wp2_with fail
  refine (C1 _ B).mono ?_
  rintro e v1 ⟨rfl, hb⟩
  clear n0 n1 n2 n3 n4 n5 n6 n7 n8 n9 n10 n11 n12 n13 n14 n15 n16 m0 m1 m2 m3 m4 m5 m6 m7 m8 m9 m10 m11 m12 m13 m14 m15
  replace B := B.trans (hb.mono B.size)
  clear hb N C1 C2
  go_wp2_with fail
  go_ret
  exact ⟨rfl, B⟩
 cases cb
 ·have e0 : fiI true false mo = 1 := rfl
  rw [e0]
  go_enter Tryz.func166, Tryz.ntmps166
  go_upto_region 1 with fail
  generalize w.alloc (.cells #[.int .i64 ni, .int .i64 mo, .int .i64 ep, .int .i64 si, .bool kn, .int .i64 lo, .int .i64 hi, .int .i64 la, .int .i64 te, .int .i64 us, .slice aa na ac, .slice pa np pc, .bool hs, .int .i64 ls, .slice ha nh hc, .int .i64 se] 98) = v at *
  obtain ⟨n0, n1, n2, n3, n4, n5, n6, n7, n8, n9, n10, n11, n12, n13, n14, n15, n16, m0, m1, m2, m3, m4, m5, m6, m7, m8, m9, m10, m11, m12, m13, m14, m15⟩ := id N
  go_wp2_with fail
  refine (C1 _ B).mono ?_
  rintro e v1 ⟨rfl, hb⟩
  clear n0 n1 n2 n3 n4 n5 n6 n7 n8 n9 n10 n11 n12 n13 n14 n15 n16 m0 m1 m2 m3 m4 m5 m6 m7 m8 m9 m10 m11 m12 m13 m14 m15
  replace B := B.trans (hb.mono B.size)
  replace N := N.below hb
  clear hb C1
  obtain ⟨n0, n1, n2, n3, n4, n5, n6, n7, n8, n9, n10, n11, n12, n13, n14, n15, n16, m0, m1, m2, m3, m4, m5, m6, m7, m8, m9, m10, m11, m12, m13, m14, m15⟩ := id N
  go_wp2_with fail
  refine (C2 _ B).mono ?_
  rintro e v2 ⟨rfl, hb⟩
  clear n0 n1 n2 n3 n4 n5 n6 n7 n8 n9 n10 n11 n12 n13 n14 n15 n16 m0 m1 m2 m3 m4 m5 m6 m7 m8 m9 m10 m11 m12 m13 m14 m15
  replace B := B.trans (hb.mono B.size)
  clear hb N C2
  go_wp2_with fail
  go_ret
  exact ⟨rfl, B⟩
 cases hq : (mo == 0)
 ·have e0 : fiI true true mo = 0 := by unfold fiI; rw [hq]; rfl
  rw [e0]
  clear e0
  go_enter Tryz.func166, Tryz.ntmps166
  go_upto_region 1 with fail
  generalize w.alloc (.cells #[.int .i64 ni, .int .i64 mo, .int .i64 ep, .int .i64 si, .bool kn, .int .i64 lo, .int .i64 hi, .int .i64 la, .int .i64 te, .int .i64 us, .slice aa na ac, .slice pa np pc, .bool hs, .int .i64 ls, .slice ha nh hc, .int .i64 se] 98) = v at *
  obtain ⟨n0, n1, n2, n3, n4, n5, n6, n7, n8, n9, n10, n11, n12, n13, n14, n15, n16, m0, m1, m2, m3, m4, m5, m6, m7, m8, m9, m10, m11, m12, m13, m14, m15⟩ := id N
  go_wp2_with fail
  refine (C1 _ B).mono ?_
  rintro e v1 ⟨rfl, hb⟩
  clear n0 n1 n2 n3 n4 n5 n6 n7 n8 n9 n10 n11 n12 n13 n14 n15 n16 m0 m1 m2 m3 m4 m5 m6 m7 m8 m9 m10 m11 m12 m13 m14 m15
  replace B := B.trans (hb.mono B.size)
  replace N := N.below hb
  clear hb C1
  obtain ⟨n0, n1, n2, n3, n4, n5, n6, n7, n8, n9, n10, n11, n12, n13, n14, n15, n16, m0, m1, m2, m3, m4, m5, m6, m7, m8, m9, m10, m11, m12, m13, m14, m15⟩ := id N
  go_wp2_with fail
  refine (C2 _ B).mono ?_
  rintro e v2 ⟨rfl, hb⟩
  clear n0 n1 n2 n3 n4 n5 n6 n7 n8 n9 n10 n11 n12 n13 n14 n15 n16 m0 m1 m2 m3 m4 m5 m6 m7 m8 m9 m10 m11 m12 m13 m14 m15
  replace B := B.trans (hb.mono B.size)
  replace N := N.below hb
  clear hb C2
  obtain ⟨n0, n1, n2, n3, n4, n5, n6, n7, n8, n9, n10, n11, n12, n13, n14, n15, n16, m0, m1, m2, m3, m4, m5, m6, m7, m8, m9, m10, m11, m12, m13, m14, m15⟩ := id N
  go_wp2_with fail
  go_ret
  exact ⟨rfl, B⟩
 ·have e0 : fiI true true mo = 2 := by unfold fiI; rw [hq]; rfl
  rw [e0]
  clear e0
  go_enter Tryz.func166, Tryz.ntmps166
  go_upto_region 1 with fail
  generalize w.alloc (.cells #[.int .i64 ni, .int .i64 mo, .int .i64 ep, .int .i64 si, .bool kn, .int .i64 lo, .int .i64 hi, .int .i64 la, .int .i64 te, .int .i64 us, .slice aa na ac, .slice pa np pc, .bool hs, .int .i64 ls, .slice ha nh hc, .int .i64 se] 98) = v at *
  obtain ⟨n0, n1, n2, n3, n4, n5, n6, n7, n8, n9, n10, n11, n12, n13, n14, n15, n16, m0, m1, m2, m3, m4, m5, m6, m7, m8, m9, m10, m11, m12, m13, m14, m15⟩ := id N
  go_wp2_with fail
  refine (C1 _ B).mono ?_
  rintro e v1 ⟨rfl, hb⟩
  clear n0 n1 n2 n3 n4 n5 n6 n7 n8 n9 n10 n11 n12 n13 n14 n15 n16 m0 m1 m2 m3 m4 m5 m6 m7 m8 m9 m10 m11 m12 m13 m14 m15
  replace B := B.trans (hb.mono B.size)
  replace N := N.below hb
  clear hb C1
  obtain ⟨n0, n1, n2, n3, n4, n5, n6, n7, n8, n9, n10, n11, n12, n13, n14, n15, n16, m0, m1, m2, m3, m4, m5, m6, m7, m8, m9, m10, m11, m12, m13, m14, m15⟩ := id N
  go_wp2_with fail
  refine (C2 _ B).mono ?_
  rintro e v2 ⟨rfl, hb⟩
  clear n0 n1 n2 n3 n4 n5 n6 n7 n8 n9 n10 n11 n12 n13 n14 n15 n16 m0 m1 m2 m3 m4 m5 m6 m7 m8 m9 m10 m11 m12 m13 m14 m15
  replace B := B.trans (hb.mono B.size)
  replace N := N.below hb
  clear hb C2
  obtain ⟨n0, n1, n2, n3, n4, n5, n6, n7, n8, n9, n10, n11, n12, n13, n14, n15, n16, m0, m1, m2, m3, m4, m5, m6, m7, m8, m9, m10, m11, m12, m13, m14, m15⟩ := id N
  go_wp2_with fail
  go_ret
  exact ⟨rfl, B⟩
end Go.Proofs.YtddijpjgkifngaaGreat
