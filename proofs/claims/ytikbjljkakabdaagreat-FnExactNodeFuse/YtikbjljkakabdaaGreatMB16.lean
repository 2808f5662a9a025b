/- Tables: what the laws make of them. Whether a node has come to a count -/
import Derived.Test.YtikbjljkakabdaaGreatMB11
import Derived.Test.YtikbjljkakabdaaGreatMB15
namespace Go.Proofs.YtikbjljkakabdaaGreat
open Go.RowKit
set_option linter.unusedVariables false
set_option maxRecDepth 100000
set_option maxHeartbeats 16000000
theorem lU (ep us : Int) (a : Option Addr) (n c : Nat) (M : Nat → KT) (w : World) (hn : n ≤ 1048576) (h : az w a (n * 4) (aA M)) :
 Calls Tryz.prog 36 #[.agg #[.int .i64 ep, .int .i64 us, .slice a n c]] w fun e w' => e = .returned (.agg #[.int .i64 ep, .int .i64 us, .slice (some ⟨w.heap.size + 3, 0, none⟩) n n]) ∧ ax w' (w.heap.size + 3) 88 (n * 4) (n * 4) (aA M) ∧ Below w.heap.size w w' := by
 have A0 := ((Below.nw w (.cells #[.int .i64 ep, .int .i64 us, .slice a n c] 37)).alloc (by simp) (.cells #[.int .i64 0, .int .i64 0, .slice none 0 0] 52)).alloc (by simp; omega) (.cells #[.int .i64 ep, .int .i64 us, .slice none 0 0] 52)
 have z3 : (((w.alloc (.cells #[.int .i64 ep, .int .i64 us, .slice a n c] 37)).alloc (.cells #[.int .i64 0, .int .i64 0, .slice none 0 0] 52)).alloc (.cells #[.int .i64 ep, .int .i64 us, .slice none 0 0] 52)).heap.size = w.heap.size + 3 := by simp
 have C := nj a n c M _ hn (h.below A0)
 rw [z3] at C
 have r0 : (((w.alloc (.cells #[.int .i64 ep, .int .i64 us, .slice a n c] 37)).alloc (.cells #[.int .i64 0, .int .i64 0, .slice none 0 0] 52)).alloc (.cells #[.int .i64 ep, .int .i64 us, .slice none 0 0] 52)).cell? ⟨w.heap.size + 1, 0, none⟩ = some (.int .i64 0) := by simp [go_sem]
 have f0 : (((w.alloc (.cells #[.int .i64 ep, .int .i64 us, .slice a n c] 37)).alloc (.cells #[.int .i64 0, .int .i64 0, .slice none 0 0] 52)).alloc (.cells #[.int .i64 ep, .int .i64 us, .slice none 0 0] 52)).frozen? ⟨w.heap.size + 1, 0, none⟩ = false := by simp [go_sem]
 have r1 : (((w.alloc (.cells #[.int .i64 ep, .int .i64 us, .slice a n c] 37)).alloc (.cells #[.int .i64 0, .int .i64 0, .slice none 0 0] 52)).alloc (.cells #[.int .i64 ep, .int .i64 us, .slice none 0 0] 52)).cell? ⟨w.heap.size + 1, 1, none⟩ = some (.int .i64 0) := by simp [go_sem]
 have f1 : (((w.alloc (.cells #[.int .i64 ep, .int .i64 us, .slice a n c] 37)).alloc (.cells #[.int .i64 0, .int .i64 0, .slice none 0 0] 52)).alloc (.cells #[.int .i64 ep, .int .i64 us, .slice none 0 0] 52)).frozen? ⟨w.heap.size + 1, 1, none⟩ = false := by simp [go_sem]
 have r2 : (((w.alloc (.cells #[.int .i64 ep, .int .i64 us, .slice a n c] 37)).alloc (.cells #[.int .i64 0, .int .i64 0, .slice none 0 0] 52)).alloc (.cells #[.int .i64 ep, .int .i64 us, .slice none 0 0] 52)).cell? ⟨w.heap.size + 1, 2, none⟩ = some (.slice none 0 0) := by simp [go_sem]
 have f2 : (((w.alloc (.cells #[.int .i64 ep, .int .i64 us, .slice a n c] 37)).alloc (.cells #[.int .i64 0, .int .i64 0, .slice none 0 0] 52)).alloc (.cells #[.int .i64 ep, .int .i64 us, .slice none 0 0] 52)).frozen? ⟨w.heap.size + 1, 2, none⟩ = false := by simp [go_sem]
 have o0 : (((w.alloc (.cells #[.int .i64 ep, .int .i64 us, .slice a n c] 37)).alloc (.cells #[.int .i64 0, .int .i64 0, .slice none 0 0] 52)).alloc (.cells #[.int .i64 ep, .int .i64 us, .slice none 0 0] 52)).cell? ⟨w.heap.size + 1 + 1, 0, none⟩ = some (.int .i64 ep) := by simp [go_sem]
 have o1 : (((w.alloc (.cells #[.int .i64 ep, .int .i64 us, .slice a n c] 37)).alloc (.cells #[.int .i64 0, .int .i64 0, .slice none 0 0] 52)).alloc (.cells #[.int .i64 ep, .int .i64 us, .slice none 0 0] 52)).cell? ⟨w.heap.size + 1 + 1, 1, none⟩ = some (.int .i64 us) := by simp [go_sem]
 have o2 : (((w.alloc (.cells #[.int .i64 ep, .int .i64 us, .slice a n c] 37)).alloc (.cells #[.int .i64 0, .int .i64 0, .slice none 0 0] 52)).alloc (.cells #[.int .i64 ep, .int .i64 us, .slice none 0 0] 52)).cell? ⟨w.heap.size + 1 + 1, 2, none⟩ = some (.slice none 0 0) := by simp [go_sem]
 have g2 : (((w.alloc (.cells #[.int .i64 ep, .int .i64 us, .slice a n c] 37)).alloc (.cells #[.int .i64 0, .int .i64 0, .slice none 0 0] 52)).alloc (.cells #[.int .i64 ep, .int .i64 us, .slice none 0 0] 52)).frozen? ⟨w.heap.size + 1 + 1, 2, none⟩ = false := by simp [go_sem]
 clear h
 go_enter Tryz.func36, Tryz.ntmps36
 go_wp2_with fail
 refine C.mono ?_
 rintro e w1 ⟨rfl, R1, hb⟩
 have l3 := R1.lt
 have q0 := (hb.cell (p := ⟨w.heap.size + 1, 0, none⟩) (by simp)).trans r0
 have k0 := (hb.frozen (p := ⟨w.heap.size + 1, 0, none⟩) (by simp)).trans f0
 have q1 := (hb.cell (p := ⟨w.heap.size + 1, 1, none⟩) (by simp)).trans r1
 have k1 := (hb.frozen (p := ⟨w.heap.size + 1, 1, none⟩) (by simp)).trans f1
 have q2 := (hb.cell (p := ⟨w.heap.size + 1, 2, none⟩) (by simp)).trans r2
 have k2 := (hb.frozen (p := ⟨w.heap.size + 1, 2, none⟩) (by simp)).trans f2
 have p0 := (hb.cell (p := ⟨w.heap.size + 1 + 1, 0, none⟩) (by simp)).trans o0
 have p1 := (hb.cell (p := ⟨w.heap.size + 1 + 1, 1, none⟩) (by simp)).trans o1
 have p2 := (hb.cell (p := ⟨w.heap.size + 1 + 1, 2, none⟩) (by simp)).trans o2
 have j2 := (hb.frozen (p := ⟨w.heap.size + 1 + 1, 2, none⟩) (by simp)).trans g2
 have B1 := A0.trans (hb.mono (by omega))
 have RF : ax ((((w1.setCell ⟨w.heap.size + 1 + 1, 2, none⟩ (.slice (some ⟨w.heap.size + 3, 0, none⟩) n n)).setCell ⟨w.heap.size + 1, 0, none⟩ (.int .i64 ep)).setCell ⟨w.heap.size + 1, 1, none⟩ (.int .i64 us)).setCell ⟨w.heap.size + 1, 2, none⟩ (.slice (some ⟨w.heap.size + 3, 0, none⟩) n n)) (w.heap.size + 3) 88 (n * 4) (n * 4) (aA M) := (((R1.setO (by omega) _ _).setO (by omega) _ _).setO (by omega) _ _).setO (by omega) _ _
 have BF : Below w.heap.size w ((((w1.setCell ⟨w.heap.size + 1 + 1, 2, none⟩ (.slice (some ⟨w.heap.size + 3, 0, none⟩) n n)).setCell ⟨w.heap.size + 1, 0, none⟩ (.int .i64 ep)).setCell ⟨w.heap.size + 1, 1, none⟩ (.int .i64 us)).setCell ⟨w.heap.size + 1, 2, none⟩ (.slice (some ⟨w.heap.size + 3, 0, none⟩) n n)) := (((B1.setCell (by simp; omega) _).setCell (by simp) _).setCell (by simp) _).setCell (by simp) _
 have s1 : w.heap.size + 1 < w1.heap.size := by omega
 have s2 : w.heap.size + 1 + 1 < w1.heap.size := by omega
 clear hb C r0 r1 r2 o0 o1 o2 f0 f1 f2 g2 A0 z3 R1 B1
 go_wp2_with fail
 exact bodyPost_ret (v := .agg #[.int .i64 ep, .int .i64 us, .slice (some ⟨w.heap.size + 3, 0, none⟩) n n]) (by simp (maxDischargeDepth := 6) [results, Tryz.results36, go_sem, *]) rfl ⟨rfl, RF, BF⟩
theorem iW (ep us : Int) (a a' : Option Addr) (n c c' : Nat) (M : Nat → KT) (w : World) (hn : n ≤ maxLen) (h : az w a (n * 4) (aA M)) (h' : az w a' (n * 4) (aA M)) :
 Calls Tryz.prog 46 #[.agg #[.int .i64 ep, .int .i64 us, .slice a n c], .agg #[.int .i64 ep, .int .i64 us, .slice a' n c']] w fun e w' => e = .returned (.bool true) ∧ Below w.heap.size w w' := by
 have A0 := (Below.nw w (.cells #[.int .i64 ep, .int .i64 us, .slice a n c] 52)).alloc (by simp) (.cells #[.int .i64 ep, .int .i64 us, .slice a' n c'] 52)
 have C := me a a' n c c' M _ hn (h.below A0) (h'.below A0)
 clear h h'
 go_enter Tryz.func46, Tryz.ntmps46
 go_wp2_with fail
 refine C.mono ?_
 rintro e w1 ⟨rfl, hb⟩
 go_wp2_with fail
 go_ret
 exact ⟨rfl, A0.trans (hb.mono A0.size)⟩
theorem rX {AM : Nat → KT} {ct : Int} {k n : Nat} (h : cmA AM ct (k + 1) = false) (hk : k < n) : cmA AM ct n = false := by
 induction n with
 | zero => omega
 | succ n ih =>
  by_cases e : k = n
  ·subst e; exact h
  ·rw [cmA, ih (by omega)]; rfl
theorem rZ {QM : Nat → PT} {ct : Int} {k n : Nat} (h : cmP QM ct (k + 1) = false) (hk : k < n) : cmP QM ct n = false := by
 induction n with
 | zero => omega
 | succ n ih =>
  by_cases e : k = n
  ·subst e; exact h
  ·rw [cmP, ih (by omega)]; rfl
theorem rY {HM : Nat → VT} {ct : Int} {k n : Nat} (h : cmH HM ct (k + 1) = false) (hk : k < n) : cmH HM ct n = false := by
 induction n with
 | zero => omega
 | succ n ih =>
  by_cases e : k = n
  ·subst e; exact h
  ·rw [cmH, ih (by omega)]; rfl
theorem jt (ni mo ep si : Int) (kn : Bool) (lo hi la te us : Int) (aa : Option Addr) (na ac : Nat) (AM : Nat → KT) (pa : Option Addr) (np pc : Nat) (QM : Nat → PT) (hs : Bool) (ls : Int) (ha : Option Addr) (nh hc : Nat) (HM : Nat → VT) (se : Int) (ct : Int) (w : World) (hna : na ≤ maxLen) (sA : az w aa (na * 4) (aA AM)) (hnp : np ≤ maxLen) (sP : az w pa (np * 5) (am QM)) (hnh : nh ≤ maxLen) (sH : az w ha (nh * 2) (au HM)) :
 Calls Tryz.prog 115 #[.agg #[.int .i64 ni, .int .i64 mo, .int .i64 ep, .int .i64 si, .bool kn, .int .i64 lo, .int .i64 hi, .int .i64 la, .int .i64 te, .int .i64 us, .slice aa na ac, .slice pa np pc, .bool hs, .int .i64 ls, .slice ha nh hc, .int .i64 se], .int .i64 ct] w fun e w' => e = .returned (.bool (cmB si la se AM na QM np HM nh ct)) ∧ Below w.heap.size w w' := by
 have B := Below.nw w (.cells #[.int .i64 ni, .int .i64 mo, .int .i64 ep, .int .i64 si, .bool kn, .int .i64 lo, .int .i64 hi, .int .i64 la, .int .i64 te, .int .i64 us, .slice aa na ac, .slice pa np pc, .bool hs, .int .i64 ls, .slice ha nh hc, .int .i64 se] 57)
 have N := aE.new w (.int .i64 ni) (.int .i64 mo) (.int .i64 ep) (.int .i64 si) (.bool kn) (.int .i64 lo) (.int .i64 hi) (.int .i64 la) (.int .i64 te) (.int .i64 us) (.slice aa na ac) (.slice pa np pc) (.bool hs) (.int .i64 ls) (.slice ha nh hc) (.int .i64 se) 57
 have HA : Hid (az w aa (na * 4) (aA AM)) := sA
 have HQ : Hid (az w pa (np * 5) (am QM)) := sP
 have HH : Hid (az w ha (nh * 2) (au HM)) := sH
 have C1 := fun w' => aw ct w'
 unfold maxLen at hna hnp hnh
 clear sA sP sH
 cases h1 : okT ct
 ·have HR : Hid (cmB si la se AM na QM np HM nh ct = false) := by unfold cmB; rw [h1]; rfl
  go_enter Tryz.func115, Tryz.ntmps115
  go_upto_region 1 with fail
  generalize w.alloc (.cells #[.int .i64 ni, .int .i64 mo, .int .i64 ep, .int .i64 si, .bool kn, .int .i64 lo, .int .i64 hi, .int .i64 la, .int .i64 te, .int .i64 us, .slice aa na ac, .slice pa np pc, .bool hs, .int .i64 ls, .slice ha nh hc, .int .i64 se] 57) = v at *
  go_wp2_with fail
  refine (C1 _).mono ?_
  rintro e v1 ⟨rfl, rfl⟩
  rw [h1]
  clear C1
  go_wp2_with fail
  go_ret
  exact ⟨ab HR.out.symm, B⟩
 by_cases g0 : ct < si
 ·have HR : Hid (cmB si la se AM na QM np HM nh ct = false) := by (show cmB si la se AM na QM np HM nh ct = false; unfold cmB; rw [h1, decide_eq_false (p := si ≤ ct) (by omega)]; simp)
  go_enter Tryz.func115, Tryz.ntmps115
  go_upto_region 1 with fail
  generalize w.alloc (.cells #[.int .i64 ni, .int .i64 mo, .int .i64 ep, .int .i64 si, .bool kn, .int .i64 lo, .int .i64 hi, .int .i64 la, .int .i64 te, .int .i64 us, .slice aa na ac, .slice pa np pc, .bool hs, .int .i64 ls, .slice ha nh hc, .int .i64 se] 57) = v at *
  go_wp2_with fail
  refine (C1 _).mono ?_
  rintro e v1 ⟨rfl, rfl⟩
  rw [h1]
  clear C1
  have n0 : _ ∧ _ := N
  go_wp2_with fail
  go_ret
  exact ⟨ab HR.out.symm, B⟩
 by_cases g1 : ct < la
 ·have HR : Hid (cmB si la se AM na QM np HM nh ct = false) := by (show cmB si la se AM na QM np HM nh ct = false; unfold cmB; rw [h1, decide_eq_true (p := si ≤ ct) (by omega), decide_eq_false (p := la ≤ ct) (by omega)]; simp)
  go_enter Tryz.func115, Tryz.ntmps115
  go_upto_region 1 with fail
  generalize w.alloc (.cells #[.int .i64 ni, .int .i64 mo, .int .i64 ep, .int .i64 si, .bool kn, .int .i64 lo, .int .i64 hi, .int .i64 la, .int .i64 te, .int .i64 us, .slice aa na ac, .slice pa np pc, .bool hs, .int .i64 ls, .slice ha nh hc, .int .i64 se] 57) = v at *
  go_wp2_with fail
  refine (C1 _).mono ?_
  rintro e v1 ⟨rfl, rfl⟩
  rw [h1]
  clear C1
  have n0 : _ ∧ _ := N
  go_wp2_with fail
  go_ret
  exact ⟨ab HR.out.symm, B⟩
 by_cases g2 : ct < se
 ·have HR : Hid (cmB si la se AM na QM np HM nh ct = false) := by (show cmB si la se AM na QM np HM nh ct = false; unfold cmB; rw [h1, decide_eq_true (p := si ≤ ct) (by omega), decide_eq_true (p := la ≤ ct) (by omega), decide_eq_false (p := se ≤ ct) (by omega)]; simp)
  go_enter Tryz.func115, Tryz.ntmps115
  go_upto_region 1 with fail
  generalize w.alloc (.cells #[.int .i64 ni, .int .i64 mo, .int .i64 ep, .int .i64 si, .bool kn, .int .i64 lo, .int .i64 hi, .int .i64 la, .int .i64 te, .int .i64 us, .slice aa na ac, .slice pa np pc, .bool hs, .int .i64 ls, .slice ha nh hc, .int .i64 se] 57) = v at *
  go_wp2_with fail
  refine (C1 _).mono ?_
  rintro e v1 ⟨rfl, rfl⟩
  rw [h1]
  clear C1
  have n0 : _ ∧ _ := N
  go_wp2_with fail
  go_ret
  exact ⟨ab HR.out.symm, B⟩
 have HC : Hid (cmB si la se AM na QM np HM nh ct = (cmA AM ct na && (cmP QM ct np && cmH HM ct nh))) := by unfold cmB; rw [h1, decide_eq_true (p := si ≤ ct) (by omega), decide_eq_true (p := la ≤ ct) (by omega), decide_eq_true (p := se ≤ ct) (by omega)]; rfl
 go_enter Tryz.func115, Tryz.ntmps115
 go_upto_region 1 with fail
 generalize w.alloc (.cells #[.int .i64 ni, .int .i64 mo, .int .i64 ep, .int .i64 si, .bool kn, .int .i64 lo, .int .i64 hi, .int .i64 la, .int .i64 te, .int .i64 us, .slice aa na ac, .slice pa np pc, .bool hs, .int .i64 ls, .slice ha nh hc, .int .i64 se] 57) = v at *
 go_wp2_with fail
 refine (C1 _).mono ?_
 rintro e v1 ⟨rfl, rfl⟩
 rw [h1]
 clear C1
 have n0 : _ ∧ _ := N
 go_wp2_with fail
 clear n0
 clear g0 g1 g2 h1
 go_loopw [5] (fun i wr => ∃ (k : Nat), k ≤ na ∧ i = .int .i64 (k : Int) ∧ cmA AM ct k = true ∧ wr = v) (fun i _ => na - (intOf i).toNat)
 case atStart => exact ⟨0, Nat.zero_le _, rfl, rfl, rfl⟩
 case round =>
  obtain ⟨k, hk, rfl, hA, rfl⟩ := hrel
  by_cases hlt : k < na
  ·obtain ⟨x0, x1, x2, x3, hM⟩ := dl AM k
   obtain ⟨b, off, rfl, hf⟩ : ∃ b off, aa = some ⟨b, off, none⟩ ∧ Cs w b off (na * 4) (aA AM) := by
    rcases HA.out with q | q
    ·exact absurd q (by omega)
    ·exact q
   obtain ⟨c0, c1, c2, c3⟩ := (hf.below B hf.1).elAsk hlt hM
   have HLT : Hid (k < na) := hlt
   have hli : (k : Int) < (na : Int) := by omega
   by_cases q : ct < x2
   ·have HR : Hid (cmB si la se AM na QM np HM nh ct = false) := by
     have e1 : cmA AM ct (k + 1) = false := by rw [cmA, hM]; show (_ && decide (x2 ≤ ct)) = false; rw [decide_eq_false (p := x2 ≤ ct) (by omega)]; simp
     show cmB si la se AM na QM np HM nh ct = false; rw [HC.out, rX e1 hlt]; simp
    clear HC hM hf hA
    have n0 : _ ∧ _ := N
    go_wp2_with fail
    go_ret
    exact ⟨ab HR.out.symm, B⟩
   ·have HT : Hid (cmA AM ct (k + 1) = true) := by rw [Hid, cmA, hA, hM]; show (_ && decide (x2 ≤ ct)) = true; rw [decide_eq_true (p := x2 ≤ ct) (by omega)]; rfl
    clear hM hf hA
    have n0 : _ ∧ _ := N
    go_wp2_with fail
    clear n0
    go_roundw
    case rel => exact ⟨k + 1, HLT.out, by go_num, HT.out, by first | rfl | trivial⟩
    case measure => have hlt' := HLT.out; simp [intOf]; omega
  ·obtain rfl : na = k := by omega
   have hli : ¬ (na : Int) < (na : Int) := by omega
   have n0 : _ ∧ _ := N
   go_wp2_with fail
   clear n0
   have hA1 := hA
   clear hA hli hlt
   generalize wr = v at *
   go_loopw [6] (fun i wr => ∃ (k : Nat), k ≤ np ∧ i = .int .i64 (k : Int) ∧ cmP QM ct k = true ∧ wr = v) (fun i _ => np - (intOf i).toNat)
   case atStart => exact ⟨0, Nat.zero_le _, rfl, rfl, rfl⟩
   case round =>
    obtain ⟨k, hk, rfl, hA, rfl⟩ := hrel
    by_cases hlt : k < np
    ·obtain ⟨x0, x1, x2, x3, x4, hM⟩ := bu QM k
     obtain ⟨b, off, rfl, hf⟩ : ∃ b off, pa = some ⟨b, off, none⟩ ∧ Cs w b off (np * 5) (am QM) := by
      rcases HQ.out with q | q
      ·exact absurd q (by omega)
      ·exact q
     obtain ⟨c0, c1, c2, c3, c4⟩ := (hf.below B hf.1).elPeer hlt hM
     have HLT : Hid (k < np) := hlt
     have hli : (k : Int) < (np : Int) := by omega
     by_cases q : ct < x3
     ·have HR : Hid (cmB si la se AM na QM np HM nh ct = false) := by
       have e1 : cmP QM ct (k + 1) = false := by rw [cmP, hM]; show (_ && decide (x3 ≤ ct)) = false; rw [decide_eq_false (p := x3 ≤ ct) (by omega)]; simp
       show cmB si la se AM na QM np HM nh ct = false; rw [HC.out, hA1, rZ e1 hlt]; simp
      clear HC hM hf hA
      have n0 : _ ∧ _ := N
      go_wp2_with fail
      go_ret
      exact ⟨ab HR.out.symm, B⟩
     ·have HT : Hid (cmP QM ct (k + 1) = true) := by rw [Hid, cmP, hA, hM]; show (_ && decide (x3 ≤ ct)) = true; rw [decide_eq_true (p := x3 ≤ ct) (by omega)]; rfl
      clear hM hf hA
      have n0 : _ ∧ _ := N
      go_wp2_with fail
      clear n0
      go_roundw
      case rel => exact ⟨k + 1, HLT.out, by go_num, HT.out, by first | rfl | trivial⟩
      case measure => have hlt' := HLT.out; simp [intOf]; omega
    ·obtain rfl : np = k := by omega
     have hli : ¬ (np : Int) < (np : Int) := by omega
     have n0 : _ ∧ _ := N
     go_wp2_with fail
     clear n0
     have hA2 := hA
     clear hA hli hlt
     generalize wr = v at *
     go_loopw [7] (fun i wr => ∃ (k : Nat), k ≤ nh ∧ i = .int .i64 (k : Int) ∧ cmH HM ct k = true ∧ wr = v) (fun i _ => nh - (intOf i).toNat)
     case atStart => exact ⟨0, Nat.zero_le _, rfl, rfl, rfl⟩
     case round =>
      obtain ⟨k, hk, rfl, hA, rfl⟩ := hrel
      by_cases hlt : k < nh
      ·obtain ⟨x0, x1, hM⟩ := dm HM k
       obtain ⟨b, off, rfl, hf⟩ : ∃ b off, ha = some ⟨b, off, none⟩ ∧ Cs w b off (nh * 2) (au HM) := by
        rcases HH.out with q | q
        ·exact absurd q (by omega)
        ·exact q
       obtain ⟨c0, c1⟩ := (hf.below B hf.1).elIval hlt hM
       have HLT : Hid (k < nh) := hlt
       have hli : (k : Int) < (nh : Int) := by omega
       by_cases q : ct < x1
       ·have HR : Hid (cmB si la se AM na QM np HM nh ct = false) := by
         have e1 : cmH HM ct (k + 1) = false := by rw [cmH, hM]; show (_ && decide (x1 ≤ ct)) = false; rw [decide_eq_false (p := x1 ≤ ct) (by omega)]; simp
         show cmB si la se AM na QM np HM nh ct = false; rw [HC.out, hA1, hA2, rY e1 hlt]; simp
        clear HC hM hf hA
        have n0 : _ ∧ _ := N
        go_wp2_with fail
        go_ret
        exact ⟨ab HR.out.symm, B⟩
       ·have HT : Hid (cmH HM ct (k + 1) = true) := by rw [Hid, cmH, hA, hM]; show (_ && decide (x1 ≤ ct)) = true; rw [decide_eq_true (p := x1 ≤ ct) (by omega)]; rfl
        clear hM hf hA
        have n0 : _ ∧ _ := N
        go_wp2_with fail
        clear n0
        go_roundw
        case rel => exact ⟨k + 1, HLT.out, by go_num, HT.out, by first | rfl | trivial⟩
        case measure => have hlt' := HLT.out; simp [intOf]; omega
      ·obtain rfl : nh = k := by omega
       have hli : ¬ (nh : Int) < (nh : Int) := by omega
       have HR : Hid (cmB si la se AM na QM np HM nh ct = true) := by rw [Hid, HC.out, hA1, hA2, hA]; rfl
       clear HC hA hA1 hA2
       have n0 : _ ∧ _ := N
       go_wp2_with fail
       go_ret
       exact ⟨ab HR.out.symm, B⟩
def RwO (w : World) (a : Option Addr) (n c sz : Nat) (F : Nat → Value) : Prop := (a = none ∧ n = 0 ∧ c = 0) ∨ ∃ b off, a = some ⟨b, off, none⟩ ∧ (n = 0 ∨ Cs w b off (n * sz) F)
theorem RwO.below {w w' : World} {a : Option Addr} {n c sz : Nat} {F : Nat → Value} (h : RwO w a n c sz F) (hb : Below w.heap.size w w') : RwO w' a n c sz F := by
 rcases h with h | ⟨b, off, e, h⟩
 ·exact .inl h
 ·exact .inr ⟨b, off, e, h.imp id fun h => h.below hb h.1⟩
theorem RwO.src {w : World} {a : Option Addr} {n c sz : Nat} {F : Nat → Value} (h : RwO w a n c sz F) : az w a (n * sz) F := by
 rcases h with ⟨_, h, _⟩ | ⟨b, off, e, h | h⟩
 ·exact .inl (by rw [h, Nat.zero_mul])
 ·exact .inl (by rw [h, Nat.zero_mul])
 ·exact .inr ⟨b, off, e, h⟩
def fiI (nb cb : Bool) (mo : Int) : Int := match nb && cb with | true => (match mo == 0 with | true => 2 | false => 0) | false => 1
theorem hI (ni mo ep si : Int) (kn : Bool) (lo hi la te us : Int) (aa : Option Addr) (na ac : Nat) (AM : Nat → KT) (pa : Option Addr) (np pc : Nat) (QM : Nat → PT) (hs : Bool) (ls : Int) (ha : Option Addr) (nh hc : Nat) (HM : Nat → VT) (se : Int) (ct : Int) (w : World) (hna : na ≤ maxLen) (sA : az w aa (na * 4) (aA AM)) (hnp : np ≤ maxLen) (sP : az w pa (np * 5) (am QM)) (hnh : nh ≤ maxLen) (sH : az w ha (nh * 2) (au HM)) :
 Calls Tryz.prog 69 #[.agg #[.int .i64 ni, .int .i64 mo, .int .i64 ep, .int .i64 si, .bool kn, .int .i64 lo, .int .i64 hi, .int .i64 la, .int .i64 te, .int .i64 us, .slice aa na ac, .slice pa np pc, .bool hs, .int .i64 ls, .slice ha nh hc, .int .i64 se], .int .i64 ct] w fun e w' => e = .returned (.int .i64 (fiI (ndB ni mo ep si kn lo hi la te us AM na QM np hs ls HM nh se) (cmB si la se AM na QM np HM nh ct) mo)) ∧ Below w.heap.size w w' := by
 have B := Below.nw w (.cells #[.int .i64 ni, .int .i64 mo, .int .i64 ep, .int .i64 si, .bool kn, .int .i64 lo, .int .i64 hi, .int .i64 la, .int .i64 te, .int .i64 us, .slice aa na ac, .slice pa np pc, .bool hs, .int .i64 ls, .slice ha nh hc, .int .i64 se] 57)
 have N := aE.new w (.int .i64 ni) (.int .i64 mo) (.int .i64 ep) (.int .i64 si) (.bool kn) (.int .i64 lo) (.int .i64 hi) (.int .i64 la) (.int .i64 te) (.int .i64 us) (.slice aa na ac) (.slice pa np pc) (.bool hs) (.int .i64 ls) (.slice ha nh hc) (.int .i64 se) 57
 have C1 := fun (w' : World) (h : Below w.heap.size w w') => gv ni mo ep si kn lo hi la te us aa na ac AM pa np pc QM hs ls ha nh hc HM se w' hna (sA.below h) hnp (sP.below h) hnh (sH.below h)
 have C2 := fun (w' : World) (h : Below w.heap.size w w') => jt ni mo ep si kn lo hi la te us aa na ac AM pa np pc QM hs ls ha nh hc HM se ct w' hna (sA.below h) hnp (sP.below h) hnh (sH.below h)
 clear hna sA hnp sP hnh sH
 generalize ndB ni mo ep si kn lo hi la te us AM na QM np hs ls HM nh se = nb at *
 generalize cmB si la se AM na QM np HM nh ct = cb at *
 cases nb
 ·have e0 : fiI false cb mo = 1 := rfl
  rw [e0]
  go_enter Tryz.func69, Tryz.ntmps69
  go_upto_region 1 with fail
  generalize w.alloc (.cells #[.int .i64 ni, .int .i64 mo, .int .i64 ep, .int .i64 si, .bool kn, .int .i64 lo, .int .i64 hi, .int .i64 la, .int .i64 te, .int .i64 us, .slice aa na ac, .slice pa np pc, .bool hs, .int .i64 ls, .slice ha nh hc, .int .i64 se] 57) = v at *
  have n0 : _ ∧ _ := N
  go_wp2_with fail
  refine (C1 _ B).mono ?_
  rintro e v1 ⟨rfl, hb⟩
  clear n0
  replace B := B.trans (hb.mono B.size)
  clear hb N C1 C2
  go_wp2_with fail
  go_ret
  exact ⟨rfl, B⟩
 cases cb
 ·have e0 : fiI true false mo = 1 := rfl
  rw [e0]
  go_enter Tryz.func69, Tryz.ntmps69
  go_upto_region 1 with fail
  generalize w.alloc (.cells #[.int .i64 ni, .int .i64 mo, .int .i64 ep, .int .i64 si, .bool kn, .int .i64 lo, .int .i64 hi, .int .i64 la, .int .i64 te, .int .i64 us, .slice aa na ac, .slice pa np pc, .bool hs, .int .i64 ls, .slice ha nh hc, .int .i64 se] 57) = v at *
  have n0 : _ ∧ _ := N
  go_wp2_with fail
  refine (C1 _ B).mono ?_
  rintro e v1 ⟨rfl, hb⟩
  clear n0
  replace B := B.trans (hb.mono B.size)
  replace N := N.below hb
  clear hb C1
  have n0 : _ ∧ _ := N
  go_wp2_with fail
  refine (C2 _ B).mono ?_
  rintro e v2 ⟨rfl, hb⟩
  clear n0
  replace B := B.trans (hb.mono B.size)
  clear hb N C2
  go_wp2_with fail
  go_ret
  exact ⟨rfl, B⟩
 cases hq : (mo == 0)
 ·have e0 : fiI true true mo = 0 := by unfold fiI; rw [hq]; rfl
  rw [e0]
  clear e0
  go_enter Tryz.func69, Tryz.ntmps69
  go_upto_region 1 with fail
  generalize w.alloc (.cells #[.int .i64 ni, .int .i64 mo, .int .i64 ep, .int .i64 si, .bool kn, .int .i64 lo, .int .i64 hi, .int .i64 la, .int .i64 te, .int .i64 us, .slice aa na ac, .slice pa np pc, .bool hs, .int .i64 ls, .slice ha nh hc, .int .i64 se] 57) = v at *
  have n0 : _ ∧ _ := N
  go_wp2_with fail
  refine (C1 _ B).mono ?_
  rintro e v1 ⟨rfl, hb⟩
  clear n0
  replace B := B.trans (hb.mono B.size)
  replace N := N.below hb
  clear hb C1
  have n0 : _ ∧ _ := N
  go_wp2_with fail
  refine (C2 _ B).mono ?_
  rintro e v2 ⟨rfl, hb⟩
  clear n0
  replace B := B.trans (hb.mono B.size)
  replace N := N.below hb
  clear hb C2
  have n0 : _ ∧ _ := N
  go_wp2_with fail
  go_ret
  exact ⟨rfl, B⟩
 ·have e0 : fiI true true mo = 2 := by unfold fiI; rw [hq]; rfl
  rw [e0]
  clear e0
  go_enter Tryz.func69, Tryz.ntmps69
  go_upto_region 1 with fail
  generalize w.alloc (.cells #[.int .i64 ni, .int .i64 mo, .int .i64 ep, .int .i64 si, .bool kn, .int .i64 lo, .int .i64 hi, .int .i64 la, .int .i64 te, .int .i64 us, .slice aa na ac, .slice pa np pc, .bool hs, .int .i64 ls, .slice ha nh hc, .int .i64 se] 57) = v at *
  have n0 : _ ∧ _ := N
  go_wp2_with fail
  refine (C1 _ B).mono ?_
  rintro e v1 ⟨rfl, hb⟩
  clear n0
  replace B := B.trans (hb.mono B.size)
  replace N := N.below hb
  clear hb C1
  have n0 : _ ∧ _ := N
  go_wp2_with fail
  refine (C2 _ B).mono ?_
  rintro e v2 ⟨rfl, hb⟩
  clear n0
  replace B := B.trans (hb.mono B.size)
  replace N := N.below hb
  clear hb C2
  have n0 : _ ∧ _ := N
  go_wp2_with fail
  go_ret
  exact ⟨rfl, B⟩
theorem kj (ni mo ep si : Int) (kn : Bool) (lo hi la te us : Int) (aa : Option Addr) (na ac : Nat) (AM : Nat → KT) (pa : Option Addr) (np pc : Nat) (QM : Nat → PT) (hs : Bool) (ls : Int) (ha : Option Addr) (nh hc : Nat) (HM : Nat → VT) (se : Int) (aa' pa' ha' : Option Addr) (ac' pc' hc' : Nat) (w : World) (hna : na ≤ maxLen) (sA : az w aa (na * 4) (aA AM)) (hnp : np ≤ maxLen) (sP : az w pa (np * 5) (am QM)) (hnh : nh ≤ maxLen) (sH : az w ha (nh * 2) (au HM)) (sA' : az w aa' (na * 4) (aA AM)) (sP' : az w pa' (np * 5) (am QM)) (sH' : az w ha' (nh * 2) (au HM)) :
 Calls Tryz.prog 11 #[.agg #[.int .i64 ni, .int .i64 mo, .int .i64 ep, .int .i64 si, .bool kn, .int .i64 lo, .int .i64 hi, .int .i64 la, .int .i64 te, .int .i64 us, .slice aa na ac, .slice pa np pc, .bool hs, .int .i64 ls, .slice ha nh hc, .int .i64 se], .agg #[.int .i64 ni, .int .i64 mo, .int .i64 ep, .int .i64 si, .bool kn, .int .i64 lo, .int .i64 hi, .int .i64 la, .int .i64 te, .int .i64 us, .slice aa' na ac', .slice pa' np pc', .bool hs, .int .i64 ls, .slice ha' nh hc', .int .i64 se]] w fun e w' => e = .returned (.bool true) ∧ Below w.heap.size w w' := by
 have A0 := Below.nw w (.cells #[.int .i64 ni, .int .i64 mo, .int .i64 ep, .int .i64 si, .bool kn, .int .i64 lo, .int .i64 hi, .int .i64 la, .int .i64 te, .int .i64 us, .slice aa na ac, .slice pa np pc, .bool hs, .int .i64 ls, .slice ha nh hc, .int .i64 se] 57)
 have A1 := Below.nw (w.alloc (.cells #[.int .i64 ni, .int .i64 mo, .int .i64 ep, .int .i64 si, .bool kn, .int .i64 lo, .int .i64 hi, .int .i64 la, .int .i64 te, .int .i64 us, .slice aa na ac, .slice pa np pc, .bool hs, .int .i64 ls, .slice ha nh hc, .int .i64 se] 57)) (.cells #[.int .i64 ni, .int .i64 mo, .int .i64 ep, .int .i64 si, .bool kn, .int .i64 lo, .int .i64 hi, .int .i64 la, .int .i64 te, .int .i64 us, .slice aa' na ac', .slice pa' np pc', .bool hs, .int .i64 ls, .slice ha' nh hc', .int .i64 se] 57)
 have N := (aE.new w (.int .i64 ni) (.int .i64 mo) (.int .i64 ep) (.int .i64 si) (.bool kn) (.int .i64 lo) (.int .i64 hi) (.int .i64 la) (.int .i64 te) (.int .i64 us) (.slice aa na ac) (.slice pa np pc) (.bool hs) (.int .i64 ls) (.slice ha nh hc) (.int .i64 se) 57).below A1
 have X := aE.new (w.alloc (.cells #[.int .i64 ni, .int .i64 mo, .int .i64 ep, .int .i64 si, .bool kn, .int .i64 lo, .int .i64 hi, .int .i64 la, .int .i64 te, .int .i64 us, .slice aa na ac, .slice pa np pc, .bool hs, .int .i64 ls, .slice ha nh hc, .int .i64 se] 57)) (.int .i64 ni) (.int .i64 mo) (.int .i64 ep) (.int .i64 si) (.bool kn) (.int .i64 lo) (.int .i64 hi) (.int .i64 la) (.int .i64 te) (.int .i64 us) (.slice aa' na ac') (.slice pa' np pc') (.bool hs) (.int .i64 ls) (.slice ha' nh hc') (.int .i64 se) 57
 have B := A0.trans (A1.mono A0.size)
 simp only [World.size_alloc] at X
 clear A0 A1
 have C1 := fun w' => ki mo ep si w'
 have C2 := fun w' => iR kn lo hi la w'
 have C3 := fun (w' : World) (h : Below w.heap.size w w') => iW te us aa aa' na ac ac' AM w' hna (sA.below h) (sA'.below h)
 have C4 := fun (w' : World) (h : Below w.heap.size w w') => kk pa pa' np pc pc' QM w' hnp (sP.below h) (sP'.below h)
 have C5 := fun w' => mc hs ls w'
 have C6 := fun (w' : World) (h : Below w.heap.size w w') => iP ha ha' nh hc hc' HM w' hnh (sH.below h) (sH'.below h)
 clear sA sP sH sA' sP' sH' hna hnp hnh
 have e1 : (ni != ni) = false := by simp
 have e2 : (se != se) = false := by simp
 go_enter Tryz.func11, Tryz.ntmps11
 go_upto_region 1 with fail
 generalize (w.alloc (.cells #[.int .i64 ni, .int .i64 mo, .int .i64 ep, .int .i64 si, .bool kn, .int .i64 lo, .int .i64 hi, .int .i64 la, .int .i64 te, .int .i64 us, .slice aa na ac, .slice pa np pc, .bool hs, .int .i64 ls, .slice ha nh hc, .int .i64 se] 57)).alloc (.cells #[.int .i64 ni, .int .i64 mo, .int .i64 ep, .int .i64 si, .bool kn, .int .i64 lo, .int .i64 hi, .int .i64 la, .int .i64 te, .int .i64 us, .slice aa' na ac', .slice pa' np pc', .bool hs, .int .i64 ls, .slice ha' nh hc', .int .i64 se] 57) = v at *
 have n0 : _ ∧ _ := N
 have x0 : _ ∧ _ := X
 go_wp2_with fail
 refine (C1 _).mono ?_
 clear C1
 rintro e v1 ⟨rfl, hb⟩
 clear n0
 clear x0
 replace B := B.trans (hb.mono B.size)
 replace N := N.below hb
 replace X := X.below hb
 clear hb
 have n0 : _ ∧ _ := N
 have x0 : _ ∧ _ := X
 go_wp2_with fail
 refine (C2 _).mono ?_
 clear C2
 rintro e v2 ⟨rfl, hb⟩
 clear n0
 clear x0
 replace B := B.trans (hb.mono B.size)
 replace N := N.below hb
 replace X := X.below hb
 clear hb
 have n0 : _ ∧ _ := N
 have x0 : _ ∧ _ := X
 go_wp2_with fail
 refine (C3 _ B).mono ?_
 clear C3
 rintro e v3 ⟨rfl, hb⟩
 clear n0
 clear x0
 replace B := B.trans (hb.mono B.size)
 replace N := N.below hb
 replace X := X.below hb
 clear hb
 have n0 : _ ∧ _ := N
 have x0 : _ ∧ _ := X
 go_wp2_with fail
 refine (C4 _ B).mono ?_
 clear C4
 rintro e v4 ⟨rfl, hb⟩
 clear n0
 clear x0
 replace B := B.trans (hb.mono B.size)
 replace N := N.below hb
 replace X := X.below hb
 clear hb
 have n0 : _ ∧ _ := N
 have x0 : _ ∧ _ := X
 go_wp2_with fail
 refine (C5 _).mono ?_
 clear C5
 rintro e v5 ⟨rfl, hb⟩
 clear n0
 clear x0
 replace B := B.trans (hb.mono B.size)
 replace N := N.below hb
 replace X := X.below hb
 clear hb
 have n0 : _ ∧ _ := N
 have x0 : _ ∧ _ := X
 go_wp2_with fail
 refine (C6 _ B).mono ?_
 clear C6
 rintro e v6 ⟨rfl, hb⟩
 clear n0
 clear x0
 replace B := B.trans (hb.mono B.size)
 replace N := N.below hb
 replace X := X.below hb
 clear hb
 have n0 : _ ∧ _ := N
 have x0 : _ ∧ _ := X
 go_wp2_with fail
 clear n0
 clear x0
 go_ret
 exact ⟨rfl, B⟩
end Go.Proofs.YtikbjljkakabdaaGreat
