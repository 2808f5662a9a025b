/- Plans: what the laws make of them. What the laws of chapter 16 make of their arguments. How great a node is (the laws). The contracts of a node, told of arrays of cells. What the laws are handed: arrays that read as a node. NewNode, NodeBoot, NodeCrash in the specification, told of arrays of cells. TellLine in the program. What the laws ask of a configuration: how great it is, whether two are the same. A node, copied (the program), over arrays of cells. -/
import Derived.Laws.Strings
import Derived.Lib.BufferRead
import Derived.Lib.ItoaNum
import Derived.Lib.AtoiAll
import Derived.Lib.MinMax
import Derived.Shelf.Strconv.Itoa3
import Derived.Shelf.Strings.OnBuilder
import Derived.Test.YtddijpjgkifngaaGreatDoorProg
import Derived.Lib.AppendIntMem
import Derived.Lib.AtoiErrMem
import Derived.Lib.AtoiAllCases
import Derived.Lib.Join
import Derived.Laws.AppendOwnNone
import Derived.Lib.SmallJoins
import Derived.Test.YtddijpjgkifngaaGreatDoorM17
namespace Go.Proofs.YtddijpjgkifngaaGreatDoor
open Go.RowKit
set_option linter.unusedVariables false
set_option maxHeartbeats 4000000 in
theorem toPlan_any (ep us : Int) (a : Option Addr) (n c : Nat) (M : Nat → SlT) (w : World) (hn : n ≤ 1048576) (h : SrcC w a (n * 2) (MFSlot M)) :
 Calls Tryz.prog 58 #[.agg #[.int .i64 ep, .int .i64 us, .slice a n c]] w fun e w' => e = .returned (.agg #[.int .i64 ep, .int .i64 us, .slice (some ⟨w.heap.size + 3, 0, none⟩) n n]) ∧ RowF w' (w.heap.size + 3) 198 (n * 2) (n * 2) (MFSlot M) ∧ Below w.heap.size w w' := by
 have A0 := ((Below.nw w (.cells #[.int .i64 ep, .int .i64 us, .slice a n c] 26)).alloc (by simp) (.cells #[.int .i64 0, .int .i64 0, .slice none 0 0] 43)).alloc (by simp; omega) (.cells #[.int .i64 ep, .int .i64 us, .slice none 0 0] 43)
 have z3 : (((w.alloc (.cells #[.int .i64 ep, .int .i64 us, .slice a n c] 26)).alloc (.cells #[.int .i64 0, .int .i64 0, .slice none 0 0] 43)).alloc (.cells #[.int .i64 ep, .int .i64 us, .slice none 0 0] 43)).heap.size = w.heap.size + 3 := by simp
 have C := toSlotS_any a n c M _ hn (h.below A0)
 rw [z3] at C
 have r0 : (((w.alloc (.cells #[.int .i64 ep, .int .i64 us, .slice a n c] 26)).alloc (.cells #[.int .i64 0, .int .i64 0, .slice none 0 0] 43)).alloc (.cells #[.int .i64 ep, .int .i64 us, .slice none 0 0] 43)).cell? ⟨w.heap.size + 1, 0, none⟩ = some (.int .i64 0) := by simp [go_sem]
 have f0 : (((w.alloc (.cells #[.int .i64 ep, .int .i64 us, .slice a n c] 26)).alloc (.cells #[.int .i64 0, .int .i64 0, .slice none 0 0] 43)).alloc (.cells #[.int .i64 ep, .int .i64 us, .slice none 0 0] 43)).frozen? ⟨w.heap.size + 1, 0, none⟩ = false := by simp [go_sem]
 have r1 : (((w.alloc (.cells #[.int .i64 ep, .int .i64 us, .slice a n c] 26)).alloc (.cells #[.int .i64 0, .int .i64 0, .slice none 0 0] 43)).alloc (.cells #[.int .i64 ep, .int .i64 us, .slice none 0 0] 43)).cell? ⟨w.heap.size + 1, 1, none⟩ = some (.int .i64 0) := by simp [go_sem]
 have f1 : (((w.alloc (.cells #[.int .i64 ep, .int .i64 us, .slice a n c] 26)).alloc (.cells #[.int .i64 0, .int .i64 0, .slice none 0 0] 43)).alloc (.cells #[.int .i64 ep, .int .i64 us, .slice none 0 0] 43)).frozen? ⟨w.heap.size + 1, 1, none⟩ = false := by simp [go_sem]
 have r2 : (((w.alloc (.cells #[.int .i64 ep, .int .i64 us, .slice a n c] 26)).alloc (.cells #[.int .i64 0, .int .i64 0, .slice none 0 0] 43)).alloc (.cells #[.int .i64 ep, .int .i64 us, .slice none 0 0] 43)).cell? ⟨w.heap.size + 1, 2, none⟩ = some (.slice none 0 0) := by simp [go_sem]
 have f2 : (((w.alloc (.cells #[.int .i64 ep, .int .i64 us, .slice a n c] 26)).alloc (.cells #[.int .i64 0, .int .i64 0, .slice none 0 0] 43)).alloc (.cells #[.int .i64 ep, .int .i64 us, .slice none 0 0] 43)).frozen? ⟨w.heap.size + 1, 2, none⟩ = false := by simp [go_sem]
 have o0 : (((w.alloc (.cells #[.int .i64 ep, .int .i64 us, .slice a n c] 26)).alloc (.cells #[.int .i64 0, .int .i64 0, .slice none 0 0] 43)).alloc (.cells #[.int .i64 ep, .int .i64 us, .slice none 0 0] 43)).cell? ⟨w.heap.size + 1 + 1, 0, none⟩ = some (.int .i64 ep) := by simp [go_sem]
 have o1 : (((w.alloc (.cells #[.int .i64 ep, .int .i64 us, .slice a n c] 26)).alloc (.cells #[.int .i64 0, .int .i64 0, .slice none 0 0] 43)).alloc (.cells #[.int .i64 ep, .int .i64 us, .slice none 0 0] 43)).cell? ⟨w.heap.size + 1 + 1, 1, none⟩ = some (.int .i64 us) := by simp [go_sem]
 have o2 : (((w.alloc (.cells #[.int .i64 ep, .int .i64 us, .slice a n c] 26)).alloc (.cells #[.int .i64 0, .int .i64 0, .slice none 0 0] 43)).alloc (.cells #[.int .i64 ep, .int .i64 us, .slice none 0 0] 43)).cell? ⟨w.heap.size + 1 + 1, 2, none⟩ = some (.slice none 0 0) := by simp [go_sem]
 have g2 : (((w.alloc (.cells #[.int .i64 ep, .int .i64 us, .slice a n c] 26)).alloc (.cells #[.int .i64 0, .int .i64 0, .slice none 0 0] 43)).alloc (.cells #[.int .i64 ep, .int .i64 us, .slice none 0 0] 43)).frozen? ⟨w.heap.size + 1 + 1, 2, none⟩ = false := by simp [go_sem]
 clear h
 go_enter Tryz.func58, Tryz.ntmps58
 go_wp2_with fail
 refine C.mono ?_
 rintro e w1 ⟨rfl, R1, hb⟩
 have l3 := R1.lt
 have q0 := (hb.cell (p := ⟨w.heap.size + 1, 0, none⟩) (by simp)).trans r0
 have k0 := (hb.frozen (p := ⟨w.heap.size + 1, 0, none⟩) (by simp)).trans f0
 have q1 := (hb.cell (p := ⟨w.heap.size + 1, 1, none⟩) (by simp)).trans r1
 have k1 := (hb.frozen (p := ⟨w.heap.size + 1, 1, none⟩) (by simp)).trans f1
 have q2 := (hb.cell (p := ⟨w.heap.size + 1, 2, none⟩) (by simp)).trans r2
 have k2 := (hb.frozen (p := ⟨w.heap.size + 1, 2, none⟩) (by simp)).trans f2
 have p0 := (hb.cell (p := ⟨w.heap.size + 1 + 1, 0, none⟩) (by simp)).trans o0
 have p1 := (hb.cell (p := ⟨w.heap.size + 1 + 1, 1, none⟩) (by simp)).trans o1
 have p2 := (hb.cell (p := ⟨w.heap.size + 1 + 1, 2, none⟩) (by simp)).trans o2
 have j2 := (hb.frozen (p := ⟨w.heap.size + 1 + 1, 2, none⟩) (by simp)).trans g2
 have B1 := A0.trans (hb.mono (by omega))
 have RF : RowF ((((w1.setCell ⟨w.heap.size + 1 + 1, 2, none⟩ (.slice (some ⟨w.heap.size + 3, 0, none⟩) n n)).setCell ⟨w.heap.size + 1, 0, none⟩ (.int .i64 ep)).setCell ⟨w.heap.size + 1, 1, none⟩ (.int .i64 us)).setCell ⟨w.heap.size + 1, 2, none⟩ (.slice (some ⟨w.heap.size + 3, 0, none⟩) n n)) (w.heap.size + 3) 198 (n * 2) (n * 2) (MFSlot M) := (((R1.setO (by omega) _ _).setO (by omega) _ _).setO (by omega) _ _).setO (by omega) _ _
 have BF : Below w.heap.size w ((((w1.setCell ⟨w.heap.size + 1 + 1, 2, none⟩ (.slice (some ⟨w.heap.size + 3, 0, none⟩) n n)).setCell ⟨w.heap.size + 1, 0, none⟩ (.int .i64 ep)).setCell ⟨w.heap.size + 1, 1, none⟩ (.int .i64 us)).setCell ⟨w.heap.size + 1, 2, none⟩ (.slice (some ⟨w.heap.size + 3, 0, none⟩) n n)) := (((B1.setCell (by simp; omega) _).setCell (by simp) _).setCell (by simp) _).setCell (by simp) _
 have s1 : w.heap.size + 1 < w1.heap.size := by omega
 have s2 : w.heap.size + 1 + 1 < w1.heap.size := by omega
 clear hb C r0 r1 r2 o0 o1 o2 f0 f1 f2 g2 A0 z3 R1 B1
 go_wp2_with fail
 exact bodyPost_ret (v := .agg #[.int .i64 ep, .int .i64 us, .slice (some ⟨w.heap.size + 3, 0, none⟩) n n]) (by simp (maxDischargeDepth := 6) [results, Tryz.results58, go_sem, *]) rfl ⟨rfl, RF, BF⟩
set_option maxHeartbeats 2000000 in
theorem eqPlan_same (ep us : Int) (a a' : Option Addr) (n c c' : Nat) (M : Nat → SlT) (w : World) (hn : n ≤ maxLen) (h : SrcC w a (n * 2) (MFSlot M)) (h' : SrcC w a' (n * 2) (MFSlot M)) :
 Calls Tryz.prog 74 #[.agg #[.int .i64 ep, .int .i64 us, .slice a n c], .agg #[.int .i64 ep, .int .i64 us, .slice a' n c']] w fun e w' => e = .returned (.bool true) ∧ Below w.heap.size w w' := by
 have A0 := (Below.nw w (.cells #[.int .i64 ep, .int .i64 us, .slice a n c] 43)).alloc (by simp) (.cells #[.int .i64 ep, .int .i64 us, .slice a' n c'] 43)
 have C := eqSlotS_src a a' n c c' M _ hn (h.below A0) (h'.below A0)
 clear h h'
 go_enter Tryz.func74, Tryz.ntmps74
 go_wp2_with fail
 refine C.mono ?_
 rintro e w1 ⟨rfl, hb⟩
 go_wp2_with fail
 go_ret
 exact ⟨rfl, A0.trans (hb.mono A0.size)⟩
end Go.Proofs.YtddijpjgkifngaaGreatDoor
namespace Go.Proofs.YtddijpjgkifngaaGreatDoor
open Go.RowKit
set_option linter.unusedVariables false
theorem szHeardS_le (a : Option Addr) (n c : Nat) (Z : Int) (w : World) (hm : n ≤ maxLen) (h0 : 0 ≤ Z) (h1 : Z ≤ 1048576) :
 Calls Tryz.prog 84 #[.slice a n c, .int .i64 Z] w fun e w' => ∃ L : Int, e = .returned (.int .i64 L) ∧ (0 ≤ L → n ≤ 1048576 ∧ L ≤ 1048576) ∧ Below w.heap.size w w' := by
 refine (szHeardS_any a n c Z w hm h0 h1).mono ?_
 rintro e w' ⟨rfl, rfl⟩
 refine ⟨_, rfl, fun h => ?_, Below.refl _ _⟩
 split at h
 ·rename_i hq; rw [if_pos hq]; constructor <;> omega
 ·omega
set_option maxHeartbeats 2000000 in
theorem szPlan_at (ep us : Int) (a : Option Addr) (n c : Nat) (Z : Int) (w : World) (hm : n ≤ maxLen) (h0 : 0 ≤ Z) (h1 : Z ≤ 1048576) :
 Calls Tryz.prog 45 #[.agg #[.int .i64 ep, .int .i64 us, .slice a n c], .int .i64 Z] w fun e w' => ∃ L : Int, e = .returned (.int .i64 L) ∧ (0 ≤ L → n ≤ 1048576 ∧ L ≤ 1048576) ∧ Below w.heap.size w w' := by
 have A0 := Below.nw w (.cells #[.int .i64 ep, .int .i64 us, .slice a n c] 26)
 by_cases h : (n : Int) ≤ Z
 ·have hneg : ¬ (Z - (n : Int) < 0) := by omega
  go_enter Tryz.func45, Tryz.ntmps45
  go_wp2_with fail
  refine (szSlotS_any _ _ _ _ _ hm h0 h1).mono ?_
  rintro e w1 ⟨rfl, rfl⟩
  rw [if_pos h]
  go_wp2_with fail
  go_ret
  exact ⟨_, rfl, fun _ => ⟨by omega, by omega⟩, A0⟩
 ·go_enter Tryz.func45, Tryz.ntmps45
  go_wp2_with fail
  refine (szSlotS_any _ _ _ _ _ hm h0 h1).mono ?_
  rintro e w1 ⟨rfl, rfl⟩
  rw [if_neg (Int.not_le.2 h)]
  go_wp2_with fail
  go_ret
  exact ⟨_, rfl, fun h => absurd h (by decide), A0⟩
end Go.Proofs.YtddijpjgkifngaaGreatDoor
namespace Go.Proofs.YtddijpjgkifngaaGreatDoor
open Go.RowKit
set_option linter.unusedVariables false
set_option maxHeartbeats 2000000 in
theorem szTable_at (ep us : Int) (a : Option Addr) (n c : Nat) (Z : Int) (w : World) (hm : n ≤ maxLen) (h0 : 0 ≤ Z) (h1 : Z ≤ 1048576) :
 Calls Tryz.prog 82 #[.agg #[.int .i64 ep, .int .i64 us, .slice a n c], .int .i64 Z] w fun e w' => ∃ L : Int, e = .returned (.int .i64 L) ∧ (0 ≤ L → n ≤ 1048576 ∧ L ≤ 1048576) ∧ Below w.heap.size w w' := by
 have A0 := Below.nw w (.cells #[.int .i64 ep, .int .i64 us, .slice a n c] 117)
 by_cases h : (n : Int) ≤ Z
 ·have hneg : ¬ (Z - (n : Int) < 0) := by omega
  go_enter Tryz.func82, Tryz.ntmps82
  go_wp2_with fail
  refine (szAskS_any _ _ _ _ _ hm h0 h1).mono ?_
  rintro e w1 ⟨rfl, rfl⟩
  rw [if_pos h]
  go_wp2_with fail
  go_ret
  exact ⟨_, rfl, fun _ => by omega, A0⟩
 ·go_enter Tryz.func82, Tryz.ntmps82
  go_wp2_with fail
  refine (szAskS_any _ _ _ _ _ hm h0 h1).mono ?_
  rintro e w1 ⟨rfl, rfl⟩
  rw [if_neg (Int.not_le.2 h)]
  go_wp2_with fail
  go_ret
  exact ⟨_, rfl, fun h => absurd h (by decide), A0⟩
theorem szPeerS_le (a : Option Addr) (n c : Nat) (Z : Int) (w : World) (hm : n ≤ maxLen) (h0 : 0 ≤ Z) (h1 : Z ≤ 1048576) :
 Calls Tryz.prog 83 #[.slice a n c, .int .i64 Z] w fun e w' => ∃ L : Int, e = .returned (.int .i64 L) ∧ (0 ≤ L → n ≤ 1048576 ∧ L ≤ 1048576) ∧ Below w.heap.size w w' := by
 refine (szPeerS_any a n c Z w hm h0 h1).mono ?_
 rintro e w' ⟨rfl, rfl⟩
 refine ⟨_, rfl, fun h => ?_, Below.refl _ _⟩
 split at h
 ·rename_i hq; rw [if_pos hq]; constructor <;> omega
 ·omega
set_option maxRecDepth 100000 in
set_option maxHeartbeats 8000000 in
theorem szNode_at (ni mo ep si : Int) (kn : Bool) (lo hi la te us : Int) (aa : Option Addr) (na ac : Nat) (AM : Nat → KT) (pa : Option Addr) (np pc : Nat) (QM : Nat → PT) (hs : Bool) (ls : Int) (ha : Option Addr) (nh hc : Nat) (HM : Nat → VT) (se : Int) (Z : Int) (w : World) (hna : na ≤ maxLen) (hnp : np ≤ maxLen) (hnh : nh ≤ maxLen) (h0 : 0 ≤ Z) (h1 : Z ≤ 1048576) :
 Calls Tryz.prog 46 #[.agg #[.int .i64 ni, .int .i64 mo, .int .i64 ep, .int .i64 si, .bool kn, .int .i64 lo, .int .i64 hi, .int .i64 la, .int .i64 te, .int .i64 us, .slice aa na ac, .slice pa np pc, .bool hs, .int .i64 ls, .slice ha nh hc, .int .i64 se], .int .i64 Z] w fun e w' => ∃ L : Int, e = .returned (.int .i64 L) ∧ (0 ≤ L → na ≤ 1048576 ∧ np ≤ 1048576 ∧ nh ≤ 1048576 ∧ L ≤ 1048576) ∧ Below w.heap.size w w' := by
 have B := Below.nw w (.cells #[.int .i64 ni, .int .i64 mo, .int .i64 ep, .int .i64 si, .bool kn, .int .i64 lo, .int .i64 hi, .int .i64 la, .int .i64 te, .int .i64 us, .slice aa na ac, .slice pa np pc, .bool hs, .int .i64 ls, .slice ha nh hc, .int .i64 se] 122)
 have N := Nx16.new w (.int .i64 ni) (.int .i64 mo) (.int .i64 ep) (.int .i64 si) (.bool kn) (.int .i64 lo) (.int .i64 hi) (.int .i64 la) (.int .i64 te) (.int .i64 us) (.slice aa na ac) (.slice pa np pc) (.bool hs) (.int .i64 ls) (.slice ha nh hc) (.int .i64 se) 122
 have C1 := fun w' => szTable_at te us aa na ac Z w' hna h0 h1
 have C2 := fun (Z : Int) (h0 : 0 ≤ Z) (h1 : Z ≤ 1048576) w' => szPeerS_le pa np pc Z w' hnp h0 h1
 have C3 := fun (Z : Int) (h0 : 0 ≤ Z) (h1 : Z ≤ 1048576) w' => szHeardS_le ha nh hc Z w' hnh h0 h1
 clear hna hnp hnh h0 h1
 go_enter Tryz.func46, Tryz.ntmps46
 go_upto_region 1 with fail
 generalize w.alloc (.cells #[.int .i64 ni, .int .i64 mo, .int .i64 ep, .int .i64 si, .bool kn, .int .i64 lo, .int .i64 hi, .int .i64 la, .int .i64 te, .int .i64 us, .slice aa na ac, .slice pa np pc, .bool hs, .int .i64 ls, .slice ha nh hc, .int .i64 se] 122) = v at *
 obtain ⟨n0, n1, n2, n3, n4, n5, n6, n7, n8, n9, n10, n11, n12, n13, n14, n15, n16, m0, m1, m2, m3, m4, m5, m6, m7, m8, m9, m10, m11, m12, m13, m14, m15⟩ := id N
 go_wp2_with fail
 refine (C1 _).mono ?_
 rintro e v1 ⟨L1, rfl, hL, hb⟩
 clear n0 n1 n2 n3 n4 n5 n6 n7 n8 n9 n10 n11 n12 n13 n14 n15 n16 m0 m1 m2 m3 m4 m5 m6 m7 m8 m9 m10 m11 m12 m13 m14 m15
 replace B := B.trans (hb.mono B.size)
 replace N := N.below hb
 clear hb C1
 by_cases z1 : L1 < 0
 ·clear hL
  go_wp2_with fail
  go_ret
  exact ⟨-1, rfl, fun h => absurd h (by decide), B⟩
 have F1 : Hid (na ≤ 1048576 ∧ L1 ≤ 1048576) := hL (by omega)
 clear hL
 obtain ⟨n0, n1, n2, n3, n4, n5, n6, n7, n8, n9, n10, n11, n12, n13, n14, n15, n16, m0, m1, m2, m3, m4, m5, m6, m7, m8, m9, m10, m11, m12, m13, m14, m15⟩ := id N
 go_wp2_with fail
 refine (C2 _ (by omega) F1.out.2 _).mono ?_
 rintro e v2 ⟨L2, rfl, hL, hb⟩
 clear n0 n1 n2 n3 n4 n5 n6 n7 n8 n9 n10 n11 n12 n13 n14 n15 n16 m0 m1 m2 m3 m4 m5 m6 m7 m8 m9 m10 m11 m12 m13 m14 m15
 replace B := B.trans (hb.mono B.size)
 replace N := N.below hb
 clear hb C2
 by_cases z2 : L2 < 0
 ·clear hL
  go_wp2_with fail
  go_ret
  exact ⟨-1, rfl, fun h => absurd h (by decide), B⟩
 have F2 : Hid (np ≤ 1048576 ∧ L2 ≤ 1048576) := hL (by omega)
 clear hL
 obtain ⟨n0, n1, n2, n3, n4, n5, n6, n7, n8, n9, n10, n11, n12, n13, n14, n15, n16, m0, m1, m2, m3, m4, m5, m6, m7, m8, m9, m10, m11, m12, m13, m14, m15⟩ := id N
 go_wp2_with fail
 refine (C3 _ (by omega) F2.out.2 _).mono ?_
 rintro e v3 ⟨L3, rfl, hL, hb⟩
 clear n0 n1 n2 n3 n4 n5 n6 n7 n8 n9 n10 n11 n12 n13 n14 n15 n16 m0 m1 m2 m3 m4 m5 m6 m7 m8 m9 m10 m11 m12 m13 m14 m15
 replace B := B.trans (hb.mono B.size)
 replace N := N.below hb
 clear hb C3
 by_cases z3 : L3 < 0
 ·clear hL
  go_wp2_with fail
  go_ret
  exact ⟨-1, rfl, fun h => absurd h (by decide), B⟩
 have F3 : Hid (nh ≤ 1048576 ∧ L3 ≤ 1048576) := hL (by omega)
 clear hL
 clear N
 go_wp2_with fail
 go_ret
 exact ⟨L3, rfl, fun _ => ⟨F1.out.1, F2.out.1, F3.out.1, F3.out.2⟩, B⟩
end Go.Proofs.YtddijpjgkifngaaGreatDoor
namespace Go.Proofs.YtddijpjgkifngaaGreatDoor
open Go.RowKit
set_option linter.unusedVariables false
theorem RowF.rwo {w : World} {b n sz base : Nat} {T : TypeId} {F : Nat → Value} (h : RowF w b T (n * sz) (n * sz) F) (hn : n ≤ 1048576) (hb : base ≤ b) : Rwo w base w.heap.size T sz (some ⟨b, 0, none⟩) n n F := by
 obtain ⟨g, ⟨c, hc, hs, hv⟩, hg⟩ := h
 have hlt : b < w.heap.size := (Array.getElem?_eq_some_iff.1 hc).1
 refine ⟨⟨by simp, .inr ⟨b, n, c, rfl, hb, hc, Nat.le_refl _, by unfold maxLen; omega, hs, ?_⟩⟩, fun g' e => by cases e; exact hlt⟩
 apply List.ext_getElem?
 intro j
 by_cases hj : j < n * sz
 ·rw [List.getElem?_take, if_pos hj]
  have h1 := hv j hj
  have e : c.toList[j]? = c[j]? := by simp
  rw [e, h1, hg j hj]
  simp [hj]
 ·rw [List.getElem?_eq_none (by simp; omega), List.getElem?_eq_none (by simp; omega)]
def okX (x : NdX) : Bool := ndB x.ni x.mo x.ep x.si x.kn x.lo x.hi x.la x.te x.us x.AM x.na x.QM x.np x.hs x.ls x.HM x.nh x.se
def cmX (x : NdX) (ct : Int) : Bool := cmB x.si x.la x.se x.AM x.na x.QM x.np x.HM x.nh ct
theorem specFirstX (A : Array Value) (x : NdX) (ct : Int) (w : World) (h : NdS w A x) :
 Calls Tryz.prog 99 #[.agg A, .int .i64 ct] w fun e w' => e = .returned (.int .i64 (fiI (okX x) (cmX x ct) x.mo)) ∧ Below w.heap.size w w' := by
 obtain ⟨aa, ac, pa, pc, ha, hc, rfl, hl, h1, h2, h3⟩ := h
 exact specFirst_any x.ni x.mo x.ep x.si x.kn x.lo x.hi x.la x.te x.us aa x.na ac x.AM pa x.np pc x.QM x.hs x.ls ha x.nh hc x.HM x.se ct w hl.1 h1.src hl.2.1 h2.src hl.2.2 h3.src
theorem rwo_of {w : World} {base : Nat} {T : TypeId} {sz : Nat} {a : Option Addr} {n c : Nat} {F : Nat → Value} (h : w.ownsRow base T sz (.slice a n c) n ((List.range (n * sz)).map F)) : Rwo w base w.heap.size T sz a n c F :=
 ⟨h, fun g hg => (World.ownsRow.lt h g hg).2⟩
def zX (id mo ep si te se : Int) : NdX := ⟨id, mo, ep, si, false, 0, 0, 0, te, 0, fun _ => (0, 0, 0, 0), 0, fun _ => (0, 0, 0, 0, false), 0, false, 0, fun _ => (0, 0), 0, se⟩
end Go.Proofs.YtddijpjgkifngaaGreatDoor
namespace Go.Proofs.YtddijpjgkifngaaGreatDoor
open Go.RowKit
set_option linter.unusedVariables false
def wfX (x : NdX) : Prop := ∀ i, i < x.na → (Lit.int .i64 (x.AM i).1).wf = true
def NdW (w : World) (A : Array Value) (x : NdX) : Prop := ∃ aa ac pa pc ha hc, A = ndV x aa ac pa pc ha hc ∧ (x.na ≤ maxLen ∧ x.np ≤ maxLen ∧ x.nh ≤ maxLen) ∧ SrcC w aa (x.na * 4) (MFAsk x.AM) ∧ SrcC w pa (x.np * 5) (MFPeer x.QM) ∧ SrcC w ha (x.nh * 2) (MFIval x.HM)
theorem NdS.weak {w : World} {A : Array Value} {x : NdX} (h : NdS w A x) : NdW w A x := by
 obtain ⟨aa, ac, pa, pc, ha, hc, e, hl, h1, h2, h3⟩ := h
 exact ⟨aa, ac, pa, pc, ha, hc, e, hl, h1.src, h2.src, h3.src⟩
theorem NdW.below {w w' : World} {A : Array Value} {x : NdX} (h : NdW w A x) (hb : Below w.heap.size w w') : NdW w' A x := by
 obtain ⟨aa, ac, pa, pc, ha, hc, e, hl, h1, h2, h3⟩ := h
 exact ⟨aa, ac, pa, pc, ha, hc, e, hl, h1.below hb, h2.below hb, h3.below hb⟩
theorem NdW.size {w : World} {A : Array Value} {x : NdX} (h : NdW w A x) : A.size = 16 := by
 obtain ⟨aa, ac, pa, pc, ha, hc, e, _⟩ := h
 rw [e]; rfl
theorem toNodeW (A : Array Value) (x : NdX) (w : World) (h : NdW w A x) (hb : x.na ≤ 1048576 ∧ x.np ≤ 1048576 ∧ x.nh ≤ 1048576) :
 Calls Tryz.prog 59 #[.agg A] w fun e w' => ∃ R, e = .returned (.agg R) ∧ NdO w' w.heap.size w'.heap.size R x ∧ Below w.heap.size w w' := by
 obtain ⟨aa, ac, pa, pc, ha, hc, rfl, hl, h1, h2, h3⟩ := h
 refine (toNode_any x.ni x.mo x.ep x.si x.kn x.lo x.hi x.la x.te x.us aa x.na ac x.AM pa x.np pc x.QM x.hs x.ls ha x.nh hc x.HM x.se w hb.1 h1 hb.2.1 h2 hb.2.2 h3).mono ?_
 rintro e w' ⟨jA, jP, jH, rfl, q1, q2, q3, r1, r2, r3, hB⟩
 exact ⟨_, rfl, ⟨some ⟨jA, 0, none⟩, x.na, some ⟨jP, 0, none⟩, x.np, some ⟨jH, 0, none⟩, x.nh, rfl, hb, r1.rwo hb.1 q1, r2.rwo hb.2.1 (by omega), r3.rwo hb.2.2 (by omega)⟩, hB⟩
theorem szNodeW (A : Array Value) (x : NdX) (Z : Int) (w : World) (h : NdW w A x) (h0 : 0 ≤ Z) (h1 : Z ≤ 1048576) :
 Calls Tryz.prog 46 #[.agg A, .int .i64 Z] w fun e w' => ∃ L : Int, e = .returned (.int .i64 L) ∧ (0 ≤ L → (x.na ≤ 1048576 ∧ x.np ≤ 1048576 ∧ x.nh ≤ 1048576) ∧ L ≤ 1048576) ∧ Below w.heap.size w w' := by
 obtain ⟨aa, ac, pa, pc, ha, hc, rfl, hl, r1, r2, r3⟩ := h
 refine (szNode_at x.ni x.mo x.ep x.si x.kn x.lo x.hi x.la x.te x.us aa x.na ac x.AM pa x.np pc x.QM x.hs x.ls ha x.nh hc x.HM x.se Z w hl.1 hl.2.1 hl.2.2 h0 h1).mono ?_
 rintro e w' ⟨L, rfl, hL, hB⟩
 exact ⟨L, rfl, fun h => ⟨⟨(hL h).1, (hL h).2.1, (hL h).2.2.1⟩, (hL h).2.2.2⟩, hB⟩
end Go.Proofs.YtddijpjgkifngaaGreatDoor
namespace Go.Proofs.YtddijpjgkifngaaGreatDoor
open Go.RowKit
set_option linter.unusedVariables false
theorem okX_short {x : NdX} (h : okX x = true) : x.na ≤ 16 ∧ x.np ≤ 8 ∧ x.nh ≤ 16 := by
 unfold okX ndB ndA at h
 simp only [Bool.and_eq_true] at h
 obtain ⟨⟨_, _, _, h1, h2, _, h3, _⟩, _⟩ := h
 refine ⟨?_, ?_, ?_⟩
 ·unfold tabB at h1
  simp only [Bool.and_eq_true, decide_eq_true_eq] at h1
  omega
 ·exact oks_le h2
 ·unfold hrB at h3
  simp only [Bool.and_eq_true, decide_eq_true_eq] at h3
  omega
end Go.Proofs.YtddijpjgkifngaaGreatDoor
namespace Go.Proofs.YtddijpjgkifngaaGreatDoor
open Go.RowKit
set_option linter.unusedVariables false
theorem own_belowS {w w' : World} {base n : Nat} {v : Value} {xs : List Value} (h : w.ownsRow base 9 1 v n xs) (hb : Below w.heap.size w w') : w'.ownsRow base 9 1 v n xs := by
 refine ⟨h.1, ?_⟩
 rcases h.2 with q | ⟨g, cap, cur, e, h1, h2, h3⟩
 ·exact .inl q
 ·exact .inr ⟨g, cap, cur, e, h1, by rw [hb.block g (Array.getElem?_eq_some_iff.1 h2).1]; exact h2, h3⟩
end Go.Proofs.YtddijpjgkifngaaGreatDoor
namespace Go.Proofs.YtddijpjgkifngaaGreatDoor
open Go.RowKit
set_option linter.unusedVariables false
set_option maxRecDepth 100000 in
set_option maxHeartbeats 8000000 in
theorem szCfg_at (dn dd li le pt ag ke lg s g : Int) (p : Option Addr) (m d : Nat) (PM : Nat → SlT) (Z : Int) (w : World) (hm : m ≤ maxLen) (h0 : 0 ≤ Z) (h1 : Z ≤ 1048576) :
 Calls Tryz.prog 15 #[.agg #[.int .i64 dn, .int .i64 dd, .int .i64 li, .int .i64 le, .int .i64 pt, .int .i64 ag, .int .i64 ke, .int .i64 lg, .int .i64 s, .int .i64 g, .slice p m d], .int .i64 Z] w fun e w' => ∃ L : Int, e = .returned (.int .i64 L) ∧ (0 ≤ L → m ≤ 1048576 ∧ L ≤ 1048576) ∧ Below w.heap.size w w' := by
 have B := Below.nw w (.cells #[.int .i64 dn, .int .i64 dd, .int .i64 li, .int .i64 le, .int .i64 pt, .int .i64 ag, .int .i64 ke, .int .i64 lg, .int .i64 s, .int .i64 g, .slice p m d] 28)
 have C := Cx11.new w (.int .i64 dn) (.int .i64 dd) (.int .i64 li) (.int .i64 le) (.int .i64 pt) (.int .i64 ag) (.int .i64 ke) (.int .i64 lg) (.int .i64 s) (.int .i64 g) (.slice p m d) 28
 have C1 := fun w' => szPlan_at s g p m d Z w' hm h0 h1
 go_enter Tryz.func15, Tryz.ntmps15
 go_upto_region 1 with fail
 generalize w.alloc (.cells #[.int .i64 dn, .int .i64 dd, .int .i64 li, .int .i64 le, .int .i64 pt, .int .i64 ag, .int .i64 ke, .int .i64 lg, .int .i64 s, .int .i64 g, .slice p m d] 28) = v at *
 obtain ⟨x0, x1, x2, x3, x4, x5, x6, x7, x8, x9, x10, x11, y0, y1, y2, y3, y4, y5, y6, y7, y8, y9, y10⟩ := id C
 go_wp2_with fail
 refine (C1 _).mono ?_
 rintro e v1 ⟨L, rfl, hL, hb⟩
 clear x0 x1 x2 x3 x4 x5 x6 x7 x8 x9 x10 x11 y0 y1 y2 y3 y4 y5 y6 y7 y8 y9 y10
 replace B := B.trans (hb.mono B.size)
 clear hb C C1
 by_cases hz : L < 0
 ·go_wp2_with fail
  go_ret
  exact ⟨-1, rfl, fun h => absurd h (by decide), B⟩
 ·have HL : Hid (0 ≤ L → m ≤ 1048576 ∧ L ≤ 1048576) := hL
  clear hL
  go_wp2_with fail
  go_ret
  exact ⟨L, rfl, HL.out, B⟩
set_option maxRecDepth 100000 in
set_option maxHeartbeats 8000000 in
theorem eqCfg_same (dn dd li le pt ag ke lg s g : Int) (p : Option Addr) (m d : Nat) (PM : Nat → SlT) (p' : Option Addr) (d' : Nat) (w : World) (hm : m ≤ maxLen) (h : SrcC w p (m * 2) (MFSlot PM)) (h' : SrcC w p' (m * 2) (MFSlot PM)) :
 Calls Tryz.prog 36 #[.agg #[.int .i64 dn, .int .i64 dd, .int .i64 li, .int .i64 le, .int .i64 pt, .int .i64 ag, .int .i64 ke, .int .i64 lg, .int .i64 s, .int .i64 g, .slice p m d], .agg #[.int .i64 dn, .int .i64 dd, .int .i64 li, .int .i64 le, .int .i64 pt, .int .i64 ag, .int .i64 ke, .int .i64 lg, .int .i64 s, .int .i64 g, .slice p' m d']] w fun e w' => e = .returned (.bool true) ∧ Below w.heap.size w w' := by
 have A0 := Below.nw w (.cells #[.int .i64 dn, .int .i64 dd, .int .i64 li, .int .i64 le, .int .i64 pt, .int .i64 ag, .int .i64 ke, .int .i64 lg, .int .i64 s, .int .i64 g, .slice p m d] 45)
 have A1 := Below.nw (w.alloc (.cells #[.int .i64 dn, .int .i64 dd, .int .i64 li, .int .i64 le, .int .i64 pt, .int .i64 ag, .int .i64 ke, .int .i64 lg, .int .i64 s, .int .i64 g, .slice p m d] 45)) (.cells #[.int .i64 dn, .int .i64 dd, .int .i64 li, .int .i64 le, .int .i64 pt, .int .i64 ag, .int .i64 ke, .int .i64 lg, .int .i64 s, .int .i64 g, .slice p' m d'] 45)
 have C := (Cx11.new w (.int .i64 dn) (.int .i64 dd) (.int .i64 li) (.int .i64 le) (.int .i64 pt) (.int .i64 ag) (.int .i64 ke) (.int .i64 lg) (.int .i64 s) (.int .i64 g) (.slice p m d) 45).below A1
 have X := Cx11.new (w.alloc (.cells #[.int .i64 dn, .int .i64 dd, .int .i64 li, .int .i64 le, .int .i64 pt, .int .i64 ag, .int .i64 ke, .int .i64 lg, .int .i64 s, .int .i64 g, .slice p m d] 45)) (.int .i64 dn) (.int .i64 dd) (.int .i64 li) (.int .i64 le) (.int .i64 pt) (.int .i64 ag) (.int .i64 ke) (.int .i64 lg) (.int .i64 s) (.int .i64 g) (.slice p' m d') 45
 have B := A0.trans (A1.mono A0.size)
 simp only [World.size_alloc] at X
 clear A0 A1
 have C1 := fun w' => eqDrift_same dn dd w'
 have C2 := fun (w' : World) (hb : Below w.heap.size w w') => eqPlan_same s g p p' m d d' PM w' hm (h.below hb) (h'.below hb)
 clear h h'
 go_enter Tryz.func36, Tryz.ntmps36
 go_upto_region 1 with fail
 generalize (w.alloc (.cells #[.int .i64 dn, .int .i64 dd, .int .i64 li, .int .i64 le, .int .i64 pt, .int .i64 ag, .int .i64 ke, .int .i64 lg, .int .i64 s, .int .i64 g, .slice p m d] 45)).alloc (.cells #[.int .i64 dn, .int .i64 dd, .int .i64 li, .int .i64 le, .int .i64 pt, .int .i64 ag, .int .i64 ke, .int .i64 lg, .int .i64 s, .int .i64 g, .slice p' m d'] 45) = v at *
 obtain ⟨x0, x1, x2, x3, x4, x5, x6, x7, x8, x9, x10, x11, y0, y1, y2, y3, y4, y5, y6, y7, y8, y9, y10⟩ := id C
 obtain ⟨u0, u1, u2, u3, u4, u5, u6, u7, u8, u9, u10, u11, t0, t1, t2, t3, t4, t5, t6, t7, t8, t9, t10⟩ := id X
 go_wp2_with fail
 refine (C1 _).mono ?_
 rintro e v1 ⟨rfl, hb⟩
 clear x0 x1 x2 x3 x4 x5 x6 x7 x8 x9 x10 x11 y0 y1 y2 y3 y4 y5 y6 y7 y8 y9 y10
 clear u0 u1 u2 u3 u4 u5 u6 u7 u8 u9 u10 u11 t0 t1 t2 t3 t4 t5 t6 t7 t8 t9 t10
 replace B := B.trans (hb.mono B.size)
 replace C := C.below hb
 replace X := X.below hb
 clear hb C1
 obtain ⟨x0, x1, x2, x3, x4, x5, x6, x7, x8, x9, x10, x11, y0, y1, y2, y3, y4, y5, y6, y7, y8, y9, y10⟩ := id C
 obtain ⟨u0, u1, u2, u3, u4, u5, u6, u7, u8, u9, u10, u11, t0, t1, t2, t3, t4, t5, t6, t7, t8, t9, t10⟩ := id X
 have e1 : (li != li) = false := by simp
 have e2 : (le != le) = false := by simp
 have e3 : (pt != pt) = false := by simp
 have e4 : (ag != ag) = false := by simp
 have e5 : (ke != ke) = false := by simp
 have e6 : (lg != lg) = false := by simp
 go_wp2_with fail
 refine (C2 _ B).mono ?_
 rintro e v2 ⟨rfl, hb⟩
 clear x0 x1 x2 x3 x4 x5 x6 x7 x8 x9 x10 x11 y0 y1 y2 y3 y4 y5 y6 y7 y8 y9 y10
 clear u0 u1 u2 u3 u4 u5 u6 u7 u8 u9 u10 u11 t0 t1 t2 t3 t4 t5 t6 t7 t8 t9 t10
 replace B := B.trans (hb.mono B.size)
 clear hb C X C2
 go_wp2_with fail
 go_ret
 exact ⟨rfl, B⟩
end Go.Proofs.YtddijpjgkifngaaGreatDoor
namespace Go.Proofs.YtddijpjgkifngaaGreatDoor
open Go.RowKit
set_option linter.unusedVariables false
theorem infoAskZ : (Tryz.prog.info? 167).map (fun i => (i.zero, i.size, i.bytes)) = some (some (.agg #[.int .i64 0, .int .i64 0, .int .i64 0, .int .i64 0]), 4, 32) := by kernel_rfl
theorem arow_one (M : Nat → KT) (n : Nat) : ∀ u ∈ (List.range (n * 4)).map (MFAsk M), u.oneCell' = true := by
 intro u hu
 rw [List.mem_map] at hu
 obtain ⟨j, _, rfl⟩ := hu
 have h : j % 4 = 0 ∨ j % 4 = 1 ∨ j % 4 = 2 ∨ j % 4 = 3 := by omega
 unfold MFAsk
 rcases h with h | h | h | h <;> rw [h] <;> rfl
theorem copy_asks {w : World} {ops : Array Oper} {rest : List Oper} {o : Oper} {a : Act} {Q : Exit → Act → World → Prop} (hgd : o.guard = none) (s x : Operand)
 (ho : o.op = .call { callee := .builtin .append, args := #[s, x], argTypes := #[71, 71] }) (base : Nat) (M : Nat → KT) (v : Value) (hs : a.eval s = v) (hown : w.ownsRow base 167 4 v 0 ([] : List Value))
 (A : Option Addr) (n c : Nat) (hx : a.eval x = .slice A n c) (hA : (A = none ∧ n = 0 ∧ c = 0) ∨ ∃ b off, A = some ⟨b, off, none⟩ ∧ (n = 0 ∨ Cs w b off (n * 4) (MFAsk M))) (hL : n ≤ 4096) (hbase : base ≤ w.heap.size)
 (h : ∀ v' w', w'.ownsRow base 167 4 v' n ((List.range (n * 4)).map (MFAsk M)) → w.grownBy w' v.ownBlock → wpList Tryz.prog ops Q rest (a.put o.dst v') w') :
 wpList Tryz.prog ops Q (o :: rest) a w := by
 obtain ⟨i0, hi, hz0, hz1, hz2⟩ := info_parts infoAskZ
 rcases hA with ⟨rfl, rfl, rfl⟩ | ⟨b, off, rfl, hC⟩
 ·have hr := run_append_owned_none (P := Tryz.prog) (w := w) base 71 o.type 167 i0 4 Tryz.underlying71 hi v 0 ([] : List Value) hown
  refine wpList_plain hgd fun _ hK => ?_
  unfold Oper.wp execOp
  simp only [ho, resolve, invoke, builtin, Sem.run_bind, Sem.run_pure, Result.andThen_ok, List.map_toArray, List.map_cons, List.map_nil, hs, hx, hr]
  exact hK _ _ (h v w hown ⟨rfl, rfl, rfl, Nat.le_refl _, fun _ _ _ => rfl⟩)
 ·have hcells : ∀ j u, ((List.range (n * 4)).map (MFAsk M))[j]? = some u → w.cell? ((⟨b, off, none⟩ : Addr).add j) = some u := by
   intro j u hu
   rw [List.getElem?_map] at hu
   by_cases hj : j < n * 4
   ·rw [List.getElem?_range hj] at hu
    simp at hu
    subst hu
    rcases hC with rfl | hC
    ·omega
    ·rw [addr_add16]; exact hC.2 j hj
   ·rw [List.getElem?_eq_none (by rw [List.length_range]; omega)] at hu
    simp at hu
  refine wpList_append_new hgd s x 71 ho base 167 i0 (.agg #[.int .i64 0, .int .i64 0, .int .i64 0, .int .i64 0]) 4 32 Tryz.underlying71 hi hz0 hz1 hz2 rfl (by decide) v 0 ([] : List Value) hs hown ⟨b, off, none⟩ n c ((List.range (n * 4)).map (MFAsk M)) hx (by simp) hcells (arow_one M n) (by unfold maxLen; omega) (by omega) hbase ?_
  intro v' w' h1 h2 _
  refine h v' w' ?_ h2
  rw [Nat.zero_add] at h1
  exact h1
theorem made_askZ (w : World) : (w.alloc (.cells #[] 167)).ownsRow w.heap.size 167 4 (.slice (some ⟨w.heap.size, 0, none⟩) 0 0) 0 ([] : List Value) := World.ownsRow_made w #[] 0 (Nat.le_refl _) (by simp [maxLen]) (by simp)
set_option maxRecDepth 100000 in
set_option maxHeartbeats 4000000 in
theorem cloneAskX (a : Option Addr) (n c : Nat) (M : Nat → KT) (w : World) (hL : n ≤ 4096) (ha : RwO w a n c 4 (MFAsk M)) :
 Calls Tryz.prog 191 #[.slice a n c] w fun e w' => ∃ a' c', e = .returned (.slice a' n c') ∧ Rwo w' w.heap.size w'.heap.size 167 4 a' n c' (MFAsk M) ∧ Below w.heap.size w w' := by
 have qT : ∀ (w : World) (a : Option Addr) (n c n' c' : Nat), (binOp .eql 71 (.slice a n c) (.slice none n' c')).run Tryz.prog w = .ok (.bool a.isNone) w := fun w a n c n' c' => Lib.run_eql_slice_nil w _ _ a n c n' c' Tryz.underlying71
 rcases ha with ⟨rfl, rfl, rfl⟩ | ⟨b, off, rfl, hC⟩
 ·go_enter Tryz.func191, Tryz.ntmps191
  go_wp2_with fail
  go_ret
  exact ⟨none, 0, rfl, ⟨⟨rfl, .inl ⟨rfl, rfl⟩⟩, fun g e => by cases e⟩, Below.refl _ _⟩
 ·have A := Below.nw w (.cells #[] 167)
  have OW := made_askZ w
  have hsz : w.heap.size ≤ (w.alloc (.cells #[] 167)).heap.size := A.size
  have HA : Hid ((some (⟨b, off, none⟩ : Addr) = none ∧ n = 0 ∧ c = 0) ∨ ∃ b' off', some (⟨b, off, none⟩ : Addr) = some ⟨b', off', none⟩ ∧ (n = 0 ∨ Cs (w.alloc (.cells #[] 167)) b' off' (n * 4) (MFAsk M))) := .inr ⟨b, off, rfl, hC.imp id fun h => h.below A h.1⟩
  clear hC
  go_enter Tryz.func191, Tryz.ntmps191
  go_wp2_with (at_builtin; refine copy_asks rfl _ _ rfl w.heap.size M _ rfl OW _ n c rfl HA.out hL hsz ?_; intro v' w9 O9 hg9; (have B9 := A.trans (grown_belowK OW hg9 hsz)))
  go_ret
  obtain ⟨a', c', rfl, _, _, _⟩ := ownF_src O9
  exact ⟨a', c', rfl, rwo_of O9, B9⟩
set_option maxRecDepth 100000 in
set_option maxHeartbeats 4000000 in
theorem clonePeerX (a : Option Addr) (n c : Nat) (M : Nat → PT) (w : World) (hL : n ≤ 4096) (ha : RwO w a n c 5 (MFPeer M)) :
 Calls Tryz.prog 192 #[.slice a n c] w fun e w' => ∃ a' c', e = .returned (.slice a' n c') ∧ Rwo w' w.heap.size w'.heap.size 86 5 a' n c' (MFPeer M) ∧ Below w.heap.size w w' := by
 have qT : ∀ (w : World) (a : Option Addr) (n c n' c' : Nat), (binOp .eql 74 (.slice a n c) (.slice none n' c')).run Tryz.prog w = .ok (.bool a.isNone) w := fun w a n c n' c' => Lib.run_eql_slice_nil w _ _ a n c n' c' Tryz.underlying74
 rcases ha with ⟨rfl, rfl, rfl⟩ | ⟨b, off, rfl, hC⟩
 ·go_enter Tryz.func192, Tryz.ntmps192
  go_wp2_with fail
  go_ret
  exact ⟨none, 0, rfl, ⟨⟨rfl, .inl ⟨rfl, rfl⟩⟩, fun g e => by cases e⟩, Below.refl _ _⟩
 ·have A := Below.nw w (.cells #[] 86)
  have OW := made_peerZ w
  have hsz : w.heap.size ≤ (w.alloc (.cells #[] 86)).heap.size := A.size
  have HA : Hid ((some (⟨b, off, none⟩ : Addr) = none ∧ n = 0 ∧ c = 0) ∨ ∃ b' off', some (⟨b, off, none⟩ : Addr) = some ⟨b', off', none⟩ ∧ (n = 0 ∨ Cs (w.alloc (.cells #[] 86)) b' off' (n * 5) (MFPeer M))) := .inr ⟨b, off, rfl, hC.imp id fun h => h.below A h.1⟩
  clear hC
  go_enter Tryz.func192, Tryz.ntmps192
  go_wp2_with (at_builtin; refine copy_peers rfl _ _ rfl w.heap.size M _ rfl OW _ n c rfl HA.out hL hsz ?_; intro v' w9 O9 hg9; (have B9 := A.trans (grown_belowK OW hg9 hsz)))
  go_ret
  obtain ⟨a', c', rfl, _, _, _⟩ := ownF_src O9
  exact ⟨a', c', rfl, rwo_of O9, B9⟩
set_option maxRecDepth 100000 in
set_option maxHeartbeats 4000000 in
theorem cloneHeardX (a : Option Addr) (n c : Nat) (M : Nat → VT) (w : World) (hL : n ≤ 4096) (ha : RwO w a n c 2 (MFIval M)) :
 Calls Tryz.prog 193 #[.slice a n c] w fun e w' => ∃ a' c', e = .returned (.slice a' n c') ∧ Rwo w' w.heap.size w'.heap.size 169 2 a' n c' (MFIval M) ∧ Below w.heap.size w w' := by
 have qT : ∀ (w : World) (a : Option Addr) (n c n' c' : Nat), (binOp .eql 77 (.slice a n c) (.slice none n' c')).run Tryz.prog w = .ok (.bool a.isNone) w := fun w a n c n' c' => Lib.run_eql_slice_nil w _ _ a n c n' c' Tryz.underlying77
 rcases ha with ⟨rfl, rfl, rfl⟩ | ⟨b, off, rfl, hC⟩
 ·go_enter Tryz.func193, Tryz.ntmps193
  go_wp2_with fail
  go_ret
  exact ⟨none, 0, rfl, ⟨⟨rfl, .inl ⟨rfl, rfl⟩⟩, fun g e => by cases e⟩, Below.refl _ _⟩
 ·have A := Below.nw w (.cells #[] 169)
  have OW := made_heard w
  have hsz : w.heap.size ≤ (w.alloc (.cells #[] 169)).heap.size := A.size
  have HA : Hid ((some (⟨b, off, none⟩ : Addr) = none ∧ n = 0 ∧ c = 0) ∨ ∃ b' off', some (⟨b, off, none⟩ : Addr) = some ⟨b', off', none⟩ ∧ (n = 0 ∨ Cs (w.alloc (.cells #[] 169)) b' off' (n * 2) (MFIval M))) := .inr ⟨b, off, rfl, hC.imp id fun h => h.below A h.1⟩
  clear hC
  go_enter Tryz.func193, Tryz.ntmps193
  go_wp2_with (at_builtin; refine copy_heards rfl _ _ rfl w.heap.size M _ rfl OW _ n c rfl HA.out hL hsz ?_; intro v' w9 O9 hg9; (have B9 := A.trans (grown_belowK OW hg9 hsz)))
  go_ret
  obtain ⟨a', c', rfl, _, _, _⟩ := ownF_src O9
  exact ⟨a', c', rfl, rwo_of O9, B9⟩
attribute [-go_sem] loadCells storeCells in
set_option maxRecDepth 100000 in
set_option maxHeartbeats 8000000 in
theorem copiedX (AN : Array Value) (x : NdX) (w : World) (HN : NdS w AN x) (hb : x.na ≤ 16 ∧ x.np ≤ 8 ∧ x.nh ≤ 16) :
 Calls Tryz.prog 175 #[.agg AN] w fun e w' => ∃ R, e = .returned (.agg R) ∧ NdO w' w.heap.size w'.heap.size R x ∧ Below w.heap.size w w' := by
 obtain ⟨aa, ac, pa, pc, ha, hc, rfl, -, h1, h2, h3⟩ := HN
 have CA := fun (v : World) (h : Below w.heap.size w v) => cloneAskX aa x.na ac x.AM v (by omega) (h1.below h)
 have CP := fun (v : World) (h : Below w.heap.size w v) => clonePeerX pa x.np pc x.QM v (by omega) (h2.below h)
 have CH := fun (v : World) (h : Below w.heap.size w v) => cloneHeardX ha x.nh hc x.HM v (by omega) (h3.below h)
 clear h1 h2 h3
 obtain ⟨hb1, hb2, hb3⟩ := hb
 have A0 := Below.nw w (.cells (ndV x aa ac pa pc ha hc) 79)
 have A1 := Below.nw (w.alloc (.cells (ndV x aa ac pa pc ha hc) 79)) (.cells #[.int .i64 0, .int .i64 0, .int .i64 0, .int .i64 0, .bool false, .int .i64 0, .int .i64 0, .int .i64 0, .int .i64 0, .int .i64 0, .slice none 0 0, .slice none 0 0, .bool false, .int .i64 0, .slice none 0 0, .int .i64 0] 79)
 have N := (Bo.new w (ndV x aa ac pa pc ha hc) 79).below A1
 have R := Bo.new (w.alloc (.cells (ndV x aa ac pa pc ha hc) 79)) #[.int .i64 0, .int .i64 0, .int .i64 0, .int .i64 0, .bool false, .int .i64 0, .int .i64 0, .int .i64 0, .int .i64 0, .int .i64 0, .slice none 0 0, .slice none 0 0, .bool false, .int .i64 0, .slice none 0 0, .int .i64 0] 79
 have B := A0
 replace B := B.trans (A1.mono B.size)
 simp only [World.size_alloc] at R
 clear A0 A1
 go_enter Tryz.func175, Tryz.ntmps175
 go_upto_region 1 with fail
 generalize ((w.alloc (.cells (ndV x aa ac pa pc ha hc) 79))).alloc (.cells #[.int .i64 0, .int .i64 0, .int .i64 0, .int .i64 0, .bool false, .int .i64 0, .int .i64 0, .int .i64 0, .int .i64 0, .int .i64 0, .slice none 0 0, .slice none 0 0, .bool false, .int .i64 0, .slice none 0 0, .int .i64 0] 79) = v0 at *
 have hL0 : v0.cell? ⟨w.heap.size, 10, none⟩ = some (.slice aa x.na ac) := N.cell rfl
 go_wp2_with fail
 refine (CA v0 B).mono ?_
 rintro e v1 ⟨a1, c1, rfl, P1, hb⟩
 clear hL0
 have q1N : w.heap.size < v0.heap.size := N.1
 have q1R : w.heap.size + 1 < v0.heap.size := R.1
 have q1 : w.heap.size ≤ v0.heap.size := B.size
 have zv1 : v0.heap.size ≤ v1.heap.size := hb.size
 replace B := B.trans (hb.mono B.size)
 replace N := N.below hb
 replace R := R.below hb
 clear hb
 have hst := Bo.store (P := Tryz.prog) (b := 10) [.slice a1 x.na c1] 10 0 N rfl (show 10 + 1 ≤ 16 by decide) (List.forall_mem_cons.2 ⟨rfl, fun _ h => nomatch h⟩)
 have hb : Btw (w.heap.size) (w.heap.size + 1) v1 (putA v1 (w.heap.size) 10 [.slice a1 x.na c1]) := putA_btw [.slice a1 x.na c1] v1 10 (w.heap.size)
 have B1 := putA_below (k := w.heap.size) [.slice a1 x.na c1] w v1 10 B (by omega)
 have N1 : Bo (putA v1 (w.heap.size) 10 [.slice a1 x.na c1]) (w.heap.size) ((ndV x a1 c1 pa pc ha hc)) := Bo.put [.slice a1 x.na c1] 10 N
 go_upto_region 2 with (rw [hst])
 clear hst  N B
 replace R := R.btw hb (by omega)
 replace P1 := P1.btw hb (by omega)
 have zv2 := hb.2.2.2.1
 clear hb
 generalize putA v1 (w.heap.size) 10 [.slice a1 x.na c1] = v2 at *
 have B := B1
 have N := N1
 clear B1 N1
 have hL0 : v2.cell? ⟨w.heap.size, 11, none⟩ = some (.slice pa x.np pc) := N.cell rfl
 go_wp2_with fail
 refine (CP v2 B).mono ?_
 rintro e v3 ⟨a2, c2, rfl, P2, hb⟩
 clear hL0
 have q2N : w.heap.size < v2.heap.size := N.1
 have q2R : w.heap.size + 1 < v2.heap.size := R.1
 have q2 : w.heap.size ≤ v2.heap.size := B.size
 have zv3 : v2.heap.size ≤ v3.heap.size := hb.size
 replace B := B.trans (hb.mono B.size)
 replace N := N.below hb
 replace R := R.below hb
 replace P1 := P1.below hb
 clear hb
 have hst := Bo.store (P := Tryz.prog) (b := 11) [.slice a2 x.np c2] 11 0 N rfl (show 11 + 1 ≤ 16 by decide) (List.forall_mem_cons.2 ⟨rfl, fun _ h => nomatch h⟩)
 have hb : Btw (w.heap.size) (w.heap.size + 1) v3 (putA v3 (w.heap.size) 11 [.slice a2 x.np c2]) := putA_btw [.slice a2 x.np c2] v3 11 (w.heap.size)
 have B1 := putA_below (k := w.heap.size) [.slice a2 x.np c2] w v3 11 B (by omega)
 have N1 : Bo (putA v3 (w.heap.size) 11 [.slice a2 x.np c2]) (w.heap.size) ((ndV x a1 c1 a2 c2 ha hc)) := Bo.put [.slice a2 x.np c2] 11 N
 go_upto_region 3 with (rw [hst])
 clear hst  N B
 replace R := R.btw hb (by omega)
 replace P1 := P1.btw hb (by omega)
 replace P2 := P2.btw hb (by omega)
 have zv4 := hb.2.2.2.1
 clear hb
 generalize putA v3 (w.heap.size) 11 [.slice a2 x.np c2] = v4 at *
 have B := B1
 have N := N1
 clear B1 N1
 have hL0 : v4.cell? ⟨w.heap.size, 14, none⟩ = some (.slice ha x.nh hc) := N.cell rfl
 go_wp2_with fail
 refine (CH v4 B).mono ?_
 rintro e v5 ⟨a3, c3, rfl, P3, hb⟩
 clear hL0
 have q3N : w.heap.size < v4.heap.size := N.1
 have q3R : w.heap.size + 1 < v4.heap.size := R.1
 have q3 : w.heap.size ≤ v4.heap.size := B.size
 have zv5 : v4.heap.size ≤ v5.heap.size := hb.size
 replace B := B.trans (hb.mono B.size)
 replace N := N.below hb
 replace R := R.below hb
 replace P1 := P1.below hb
 replace P2 := P2.below hb
 clear hb
 have hst := Bo.store (P := Tryz.prog) (b := 14) [.slice a3 x.nh c3] 14 0 N rfl (show 14 + 1 ≤ 16 by decide) (List.forall_mem_cons.2 ⟨rfl, fun _ h => nomatch h⟩)
 have hb : Btw (w.heap.size) (w.heap.size + 1) v5 (putA v5 (w.heap.size) 14 [.slice a3 x.nh c3]) := putA_btw [.slice a3 x.nh c3] v5 14 (w.heap.size)
 have B1 := putA_below (k := w.heap.size) [.slice a3 x.nh c3] w v5 14 B (by omega)
 have N1 : Bo (putA v5 (w.heap.size) 14 [.slice a3 x.nh c3]) (w.heap.size) ((ndV x a1 c1 a2 c2 a3 c3)) := Bo.put [.slice a3 x.nh c3] 14 N
 go_upto_region 4 with (rw [hst])
 clear hst  N B
 replace R := R.btw hb (by omega)
 replace P1 := P1.btw hb (by omega)
 replace P2 := P2.btw hb (by omega)
 replace P3 := P3.btw hb (by omega)
 have zv6 := hb.2.2.2.1
 clear hb
 generalize putA v5 (w.heap.size) 14 [.slice a3 x.nh c3] = v6 at *
 have B := B1
 have N := N1
 clear B1 N1
 have hU : (ndV x a1 c1 a2 c2 a3 c3).size = 16 := rfl
 have hUl : 0 + (ndV x a1 c1 a2 c2 a3 c3).toList.length ≤ 16 := by simp [hU]
 have hL0 := N.load (P := Tryz.prog) (show ((ndV x a1 c1 a2 c2 a3 c3) : Array Value).size = 16 from rfl)
 have hst := Bo.store (P := Tryz.prog) (b := 0) ((ndV x a1 c1 a2 c2 a3 c3).toList) 0 0 R rfl hUl (ndV_one _ _ _ _ _ _ _)
 have hb : Btw (w.heap.size + 1) (w.heap.size + 1 + 1) v6 _ := putA_btw ((ndV x a1 c1 a2 c2 a3 c3).toList) v6 0 (w.heap.size + 1)
 have B1 := putA_below (k := w.heap.size + 1) ((ndV x a1 c1 a2 c2 a3 c3).toList) w v6 0 B (by omega)
 have N1 := R.putW (U := (ndV x a1 c1 a2 c2 a3 c3)) hU
 go_wp2_with (first | rw [hL0] | rw [hst])
 clear hst hL0 R B
 replace N := N.btw hb (by omega)
 replace P1 := P1.btw hb (by omega)
 replace P2 := P2.btw hb (by omega)
 replace P3 := P3.btw hb (by omega)
 have zv7 := hb.2.2.2.1
 clear hb
 generalize putA v6 (w.heap.size + 1) 0 ((ndV x a1 c1 a2 c2 a3 c3).toList) = v7 at *
 have B := B1
 have R := N1
 clear B1 N1
 have hL0 := R.load (P := Tryz.prog) hU
 exact bodyPost_ret (v := .agg (ndV x a1 c1 a2 c2 a3 c3)) (by simp [results, Tryz.results175, go_sem]; rw [hL0]; rfl) rfl ⟨_, rfl, ⟨a1, c1, a2, c2, a3, c3, rfl, ⟨by omega, by omega, by omega⟩, P1.low (by omega), P2.low (by omega), P3.low (by omega)⟩, B⟩
end Go.Proofs.YtddijpjgkifngaaGreatDoor
