/- Tables: what the laws make of them. A copy of a table (the specification). Whether two nodes are the same (the laws). The contracts of a node, told of arrays of cells. NewNode, NodeBoot, NodeCrash in the specification, told of arrays of cells. -/
import Derived.Test.YtddijpjgkifngaaGreatM15
import Derived.Test.YtddijpjgkifngaaGreatM16
namespace Go.Proofs.YtddijpjgkifngaaGreat
open Go.RowKit
set_option linter.unusedVariables false
set_option maxHeartbeats 4000000 in
theorem toTable_any (ep us : Int) (a : Option Addr) (n c : Nat) (M : Nat → KT) (w : World) (hn : n ≤ 1048576) (h : SrcC w a (n * 4) (MFAsk M)) :
 Calls Tryz.prog 141 #[.agg #[.int .i64 ep, .int .i64 us, .slice a n c]] w fun e w' => e = .returned (.agg #[.int .i64 ep, .int .i64 us, .slice (some ⟨w.heap.size + 3, 0, none⟩) n n]) ∧ RowF w' (w.heap.size + 3) 160 (n * 4) (n * 4) (MFAsk M) ∧ Below w.heap.size w w' := by
 have A0 := ((Below.nw w (.cells #[.int .i64 ep, .int .i64 us, .slice a n c] 137)).alloc (by simp) (.cells #[.int .i64 0, .int .i64 0, .slice none 0 0] 92)).alloc (by simp; omega) (.cells #[.int .i64 ep, .int .i64 us, .slice none 0 0] 92)
 have z3 : (((w.alloc (.cells #[.int .i64 ep, .int .i64 us, .slice a n c] 137)).alloc (.cells #[.int .i64 0, .int .i64 0, .slice none 0 0] 92)).alloc (.cells #[.int .i64 ep, .int .i64 us, .slice none 0 0] 92)).heap.size = w.heap.size + 3 := by simp
 have C := toAskS_any a n c M _ hn (h.below A0)
 rw [z3] at C
 have r0 : (((w.alloc (.cells #[.int .i64 ep, .int .i64 us, .slice a n c] 137)).alloc (.cells #[.int .i64 0, .int .i64 0, .slice none 0 0] 92)).alloc (.cells #[.int .i64 ep, .int .i64 us, .slice none 0 0] 92)).cell? ⟨w.heap.size + 1, 0, none⟩ = some (.int .i64 0) := by simp [go_sem]
 have f0 : (((w.alloc (.cells #[.int .i64 ep, .int .i64 us, .slice a n c] 137)).alloc (.cells #[.int .i64 0, .int .i64 0, .slice none 0 0] 92)).alloc (.cells #[.int .i64 ep, .int .i64 us, .slice none 0 0] 92)).frozen? ⟨w.heap.size + 1, 0, none⟩ = false := by simp [go_sem]
 have r1 : (((w.alloc (.cells #[.int .i64 ep, .int .i64 us, .slice a n c] 137)).alloc (.cells #[.int .i64 0, .int .i64 0, .slice none 0 0] 92)).alloc (.cells #[.int .i64 ep, .int .i64 us, .slice none 0 0] 92)).cell? ⟨w.heap.size + 1, 1, none⟩ = some (.int .i64 0) := by simp [go_sem]
 have f1 : (((w.alloc (.cells #[.int .i64 ep, .int .i64 us, .slice a n c] 137)).alloc (.cells #[.int .i64 0, .int .i64 0, .slice none 0 0] 92)).alloc (.cells #[.int .i64 ep, .int .i64 us, .slice none 0 0] 92)).frozen? ⟨w.heap.size + 1, 1, none⟩ = false := by simp [go_sem]
 have r2 : (((w.alloc (.cells #[.int .i64 ep, .int .i64 us, .slice a n c] 137)).alloc (.cells #[.int .i64 0, .int .i64 0, .slice none 0 0] 92)).alloc (.cells #[.int .i64 ep, .int .i64 us, .slice none 0 0] 92)).cell? ⟨w.heap.size + 1, 2, none⟩ = some (.slice none 0 0) := by simp [go_sem]
 have f2 : (((w.alloc (.cells #[.int .i64 ep, .int .i64 us, .slice a n c] 137)).alloc (.cells #[.int .i64 0, .int .i64 0, .slice none 0 0] 92)).alloc (.cells #[.int .i64 ep, .int .i64 us, .slice none 0 0] 92)).frozen? ⟨w.heap.size + 1, 2, none⟩ = false := by simp [go_sem]
 have o0 : (((w.alloc (.cells #[.int .i64 ep, .int .i64 us, .slice a n c] 137)).alloc (.cells #[.int .i64 0, .int .i64 0, .slice none 0 0] 92)).alloc (.cells #[.int .i64 ep, .int .i64 us, .slice none 0 0] 92)).cell? ⟨w.heap.size + 1 + 1, 0, none⟩ = some (.int .i64 ep) := by simp [go_sem]
 have o1 : (((w.alloc (.cells #[.int .i64 ep, .int .i64 us, .slice a n c] 137)).alloc (.cells #[.int .i64 0, .int .i64 0, .slice none 0 0] 92)).alloc (.cells #[.int .i64 ep, .int .i64 us, .slice none 0 0] 92)).cell? ⟨w.heap.size + 1 + 1, 1, none⟩ = some (.int .i64 us) := by simp [go_sem]
 have o2 : (((w.alloc (.cells #[.int .i64 ep, .int .i64 us, .slice a n c] 137)).alloc (.cells #[.int .i64 0, .int .i64 0, .slice none 0 0] 92)).alloc (.cells #[.int .i64 ep, .int .i64 us, .slice none 0 0] 92)).cell? ⟨w.heap.size + 1 + 1, 2, none⟩ = some (.slice none 0 0) := by simp [go_sem]
 have g2 : (((w.alloc (.cells #[.int .i64 ep, .int .i64 us, .slice a n c] 137)).alloc (.cells #[.int .i64 0, .int .i64 0, .slice none 0 0] 92)).alloc (.cells #[.int .i64 ep, .int .i64 us, .slice none 0 0] 92)).frozen? ⟨w.heap.size + 1 + 1, 2, none⟩ = false := by simp [go_sem]
 clear h
 go_enter Tryz.func141, Tryz.ntmps141
 go_wp2_with fail
 refine C.mono ?_
 rintro e w1 ⟨rfl, R1, hb⟩
 have l3 := R1.lt
 have q0 := (hb.cell (p := ⟨w.heap.size + 1, 0, none⟩) (by simp)).trans r0
 have k0 := (hb.frozen (p := ⟨w.heap.size + 1, 0, none⟩) (by simp)).trans f0
 have q1 := (hb.cell (p := ⟨w.heap.size + 1, 1, none⟩) (by simp)).trans r1
 have k1 := (hb.frozen (p := ⟨w.heap.size + 1, 1, none⟩) (by simp)).trans f1
 have q2 := (hb.cell (p := ⟨w.heap.size + 1, 2, none⟩) (by simp)).trans r2
 have k2 := (hb.frozen (p := ⟨w.heap.size + 1, 2, none⟩) (by simp)).trans f2
 have p0 := (hb.cell (p := ⟨w.heap.size + 1 + 1, 0, none⟩) (by simp)).trans o0
 have p1 := (hb.cell (p := ⟨w.heap.size + 1 + 1, 1, none⟩) (by simp)).trans o1
 have p2 := (hb.cell (p := ⟨w.heap.size + 1 + 1, 2, none⟩) (by simp)).trans o2
 have j2 := (hb.frozen (p := ⟨w.heap.size + 1 + 1, 2, none⟩) (by simp)).trans g2
 have B1 := A0.trans (hb.mono (by omega))
 have RF : RowF ((((w1.setCell ⟨w.heap.size + 1 + 1, 2, none⟩ (.slice (some ⟨w.heap.size + 3, 0, none⟩) n n)).setCell ⟨w.heap.size + 1, 0, none⟩ (.int .i64 ep)).setCell ⟨w.heap.size + 1, 1, none⟩ (.int .i64 us)).setCell ⟨w.heap.size + 1, 2, none⟩ (.slice (some ⟨w.heap.size + 3, 0, none⟩) n n)) (w.heap.size + 3) 160 (n * 4) (n * 4) (MFAsk M) := (((R1.setO (by omega) _ _).setO (by omega) _ _).setO (by omega) _ _).setO (by omega) _ _
 have BF : Below w.heap.size w ((((w1.setCell ⟨w.heap.size + 1 + 1, 2, none⟩ (.slice (some ⟨w.heap.size + 3, 0, none⟩) n n)).setCell ⟨w.heap.size + 1, 0, none⟩ (.int .i64 ep)).setCell ⟨w.heap.size + 1, 1, none⟩ (.int .i64 us)).setCell ⟨w.heap.size + 1, 2, none⟩ (.slice (some ⟨w.heap.size + 3, 0, none⟩) n n)) := (((B1.setCell (by simp; omega) _).setCell (by simp) _).setCell (by simp) _).setCell (by simp) _
 have s1 : w.heap.size + 1 < w1.heap.size := by omega
 have s2 : w.heap.size + 1 + 1 < w1.heap.size := by omega
 clear hb C r0 r1 r2 o0 o1 o2 f0 f1 f2 g2 A0 z3 R1 B1
 go_wp2_with fail
 exact bodyPost_ret (v := .agg #[.int .i64 ep, .int .i64 us, .slice (some ⟨w.heap.size + 3, 0, none⟩) n n]) (by simp (maxDischargeDepth := 6) [results, Tryz.results141, go_sem, *]) rfl ⟨rfl, RF, BF⟩
set_option maxHeartbeats 2000000 in
theorem eqTable_same (ep us : Int) (a a' : Option Addr) (n c c' : Nat) (M : Nat → KT) (w : World) (hn : n ≤ maxLen) (h : SrcC w a (n * 4) (MFAsk M)) (h' : SrcC w a' (n * 4) (MFAsk M)) :
 Calls Tryz.prog 155 #[.agg #[.int .i64 ep, .int .i64 us, .slice a n c], .agg #[.int .i64 ep, .int .i64 us, .slice a' n c']] w fun e w' => e = .returned (.bool true) ∧ Below w.heap.size w w' := by
 have A0 := (Below.nw w (.cells #[.int .i64 ep, .int .i64 us, .slice a n c] 92)).alloc (by simp) (.cells #[.int .i64 ep, .int .i64 us, .slice a' n c'] 92)
 have C := eqAskS_src a a' n c c' M _ hn (h.below A0) (h'.below A0)
 clear h h'
 go_enter Tryz.func155, Tryz.ntmps155
 go_wp2_with fail
 refine C.mono ?_
 rintro e w1 ⟨rfl, hb⟩
 go_wp2_with fail
 go_ret
 exact ⟨rfl, A0.trans (hb.mono A0.size)⟩
end Go.Proofs.YtddijpjgkifngaaGreat
namespace Go.Proofs.YtddijpjgkifngaaGreat
open Go.RowKit
set_option linter.unusedVariables false
def Bx3 (w : World) (j : Nat) (u0 u1 u2 : Value) : Prop := j < w.heap.size ∧ w.cell? ⟨j, 0, none⟩ = some u0 ∧ w.cell? ⟨j, 1, none⟩ = some u1 ∧ w.cell? ⟨j, 2, none⟩ = some u2 ∧ w.frozen? ⟨j, 0, none⟩ = false ∧ w.frozen? ⟨j, 1, none⟩ = false ∧ w.frozen? ⟨j, 2, none⟩ = false
theorem Bx3.below {w w' : World} {j : Nat} {u0 u1 u2 : Value} (h : Bx3 w j u0 u1 u2) (hb : Below w.heap.size w w') : Bx3 w' j u0 u1 u2 := by
 obtain ⟨h0, h1, h2, h3, h4, h5, h6⟩ := h
 exact ⟨Nat.lt_of_lt_of_le h0 hb.size, by rw [hb.cell (p := ⟨j, 0, none⟩) h0]; exact h1, by rw [hb.cell (p := ⟨j, 1, none⟩) h0]; exact h2, by rw [hb.cell (p := ⟨j, 2, none⟩) h0]; exact h3, by rw [hb.frozen (p := ⟨j, 0, none⟩) h0]; exact h4, by rw [hb.frozen (p := ⟨j, 1, none⟩) h0]; exact h5, by rw [hb.frozen (p := ⟨j, 2, none⟩) h0]; exact h6⟩
theorem Bx3.drew {w : World} {j : Nat} {u0 u1 u2 : Value} (h : Bx3 w j u0 u1 u2) : Bx3 w.drew j u0 u1 u2 := h
theorem Bx3.new (w : World) (u0 u1 u2 : Value) (T : TypeId) : Bx3 (w.alloc (.cells #[u0, u1, u2] T)) w.heap.size u0 u1 u2 := ⟨by simp, by simp, by simp, by simp, by simp, by simp, by simp⟩
theorem Bx3.set1 {w : World} {j : Nat} {u0 u1 u2 : Value} (h : Bx3 w j u0 u1 u2) (a1 : Value) : Bx3 (w.setCell ⟨j, 1, none⟩ a1) j u0 a1 u2 := by
 obtain ⟨h0, h1, h2, h3, h4, h5, h6⟩ := h
 exact ⟨by simpa using h0, (World.cell?_setCell_other _ _ _ _ (by simp)).trans h1, World.cell?_setCell_same _ _ _ h2, (World.cell?_setCell_other _ _ _ _ (by simp)).trans h3, by simpa using h4, by simpa using h5, by simpa using h6⟩
theorem Bx3.set2 {w : World} {j : Nat} {u0 u1 u2 : Value} (h : Bx3 w j u0 u1 u2) (a2 : Value) : Bx3 (w.setCell ⟨j, 2, none⟩ a2) j u0 u1 a2 := by
 obtain ⟨h0, h1, h2, h3, h4, h5, h6⟩ := h
 exact ⟨by simpa using h0, (World.cell?_setCell_other _ _ _ _ (by simp)).trans h1, (World.cell?_setCell_other _ _ _ _ (by simp)).trans h2, World.cell?_setCell_same _ _ _ h3, by simpa using h4, by simpa using h5, by simpa using h6⟩
def Froms (w : World) (ad : Addr) (M : Nat → KT) (n : Nat) : Prop := n = 0 ∨ (ad.spot = none ∧ Cs w ad.block ad.off (n * 4) (MFAsk M))
theorem Froms.below {w w' : World} {ad : Addr} {M : Nat → KT} {n : Nat} (h : Froms w ad M n) (hb : Below w.heap.size w w') : Froms w' ad M n := by
 rcases h with h | ⟨hs, h⟩
 ·exact .inl h
 ·exact .inr ⟨hs, h.below hb h.1⟩
theorem Froms.src {w : World} {ad : Addr} {M : Nat → KT} {n : Nat} (h : Froms w ad M n) : SrcC w (some ad) (n * 4) (MFAsk M) := by
 rcases h with h | ⟨hs, h⟩
 ·exact .inl (by omega)
 ·obtain ⟨b, off, s⟩ := ad
  simp only at hs h
  subst hs
  exact .inr ⟨b, off, rfl, h⟩
def FromsO (w : World) (A : Option Addr) (M : Nat → KT) (n c : Nat) : Prop := (A = none ∧ n = 0 ∧ c = 0) ∨ ∃ ad, A = some ad ∧ Froms w ad M n
theorem FromsO.below {w w' : World} {A : Option Addr} {M : Nat → KT} {n c : Nat} (h : FromsO w A M n c) (hb : Below w.heap.size w w') : FromsO w' A M n c := by
 rcases h with h | ⟨ad, e, h⟩
 ·exact .inl h
 ·exact .inr ⟨ad, e, h.below hb⟩
theorem FromsO.src {w : World} {A : Option Addr} {M : Nat → KT} {n c : Nat} (h : FromsO w A M n c) : SrcC w A (n * 4) (MFAsk M) := by
 rcases h with ⟨_, h, _⟩ | ⟨ad, rfl, h⟩
 ·exact .inl (by omega)
 ·exact h.src
end Go.Proofs.YtddijpjgkifngaaGreat
namespace Go.Proofs.YtddijpjgkifngaaGreat
open Go.RowKit
set_option linter.unusedVariables false
set_option maxRecDepth 100000 in
set_option maxHeartbeats 8000000 in
theorem eqNode_same (ni mo ep si : Int) (kn : Bool) (lo hi la te us : Int) (aa : Option Addr) (na ac : Nat) (AM : Nat → KT) (pa : Option Addr) (np pc : Nat) (QM : Nat → PT) (hs : Bool) (ls : Int) (ha : Option Addr) (nh hc : Nat) (HM : Nat → VT) (se : Int) (aa' pa' ha' : Option Addr) (ac' pc' hc' : Nat) (w : World) (hna : na ≤ maxLen) (sA : SrcC w aa (na * 4) (MFAsk AM)) (hnp : np ≤ maxLen) (sP : SrcC w pa (np * 5) (MFPeer QM)) (hnh : nh ≤ maxLen) (sH : SrcC w ha (nh * 2) (MFIval HM)) (sA' : SrcC w aa' (na * 4) (MFAsk AM)) (sP' : SrcC w pa' (np * 5) (MFPeer QM)) (sH' : SrcC w ha' (nh * 2) (MFIval HM)) :
 Calls Tryz.prog 103 #[.agg #[.int .i64 ni, .int .i64 mo, .int .i64 ep, .int .i64 si, .bool kn, .int .i64 lo, .int .i64 hi, .int .i64 la, .int .i64 te, .int .i64 us, .slice aa na ac, .slice pa np pc, .bool hs, .int .i64 ls, .slice ha nh hc, .int .i64 se], .agg #[.int .i64 ni, .int .i64 mo, .int .i64 ep, .int .i64 si, .bool kn, .int .i64 lo, .int .i64 hi, .int .i64 la, .int .i64 te, .int .i64 us, .slice aa' na ac', .slice pa' np pc', .bool hs, .int .i64 ls, .slice ha' nh hc', .int .i64 se]] w fun e w' => e = .returned (.bool true) ∧ Below w.heap.size w w' := by
 have A0 := Below.nw w (.cells #[.int .i64 ni, .int .i64 mo, .int .i64 ep, .int .i64 si, .bool kn, .int .i64 lo, .int .i64 hi, .int .i64 la, .int .i64 te, .int .i64 us, .slice aa na ac, .slice pa np pc, .bool hs, .int .i64 ls, .slice ha nh hc, .int .i64 se] 98)
 have A1 := Below.nw (w.alloc (.cells #[.int .i64 ni, .int .i64 mo, .int .i64 ep, .int .i64 si, .bool kn, .int .i64 lo, .int .i64 hi, .int .i64 la, .int .i64 te, .int .i64 us, .slice aa na ac, .slice pa np pc, .bool hs, .int .i64 ls, .slice ha nh hc, .int .i64 se] 98)) (.cells #[.int .i64 ni, .int .i64 mo, .int .i64 ep, .int .i64 si, .bool kn, .int .i64 lo, .int .i64 hi, .int .i64 la, .int .i64 te, .int .i64 us, .slice aa' na ac', .slice pa' np pc', .bool hs, .int .i64 ls, .slice ha' nh hc', .int .i64 se] 98)
 have N := (Nx16.new w (.int .i64 ni) (.int .i64 mo) (.int .i64 ep) (.int .i64 si) (.bool kn) (.int .i64 lo) (.int .i64 hi) (.int .i64 la) (.int .i64 te) (.int .i64 us) (.slice aa na ac) (.slice pa np pc) (.bool hs) (.int .i64 ls) (.slice ha nh hc) (.int .i64 se) 98).below A1
 have X := Nx16.new (w.alloc (.cells #[.int .i64 ni, .int .i64 mo, .int .i64 ep, .int .i64 si, .bool kn, .int .i64 lo, .int .i64 hi, .int .i64 la, .int .i64 te, .int .i64 us, .slice aa na ac, .slice pa np pc, .bool hs, .int .i64 ls, .slice ha nh hc, .int .i64 se] 98)) (.int .i64 ni) (.int .i64 mo) (.int .i64 ep) (.int .i64 si) (.bool kn) (.int .i64 lo) (.int .i64 hi) (.int .i64 la) (.int .i64 te) (.int .i64 us) (.slice aa' na ac') (.slice pa' np pc') (.bool hs) (.int .i64 ls) (.slice ha' nh hc') (.int .i64 se) 98
 have B := A0.trans (A1.mono A0.size)
 simp only [World.size_alloc] at X
 clear A0 A1
 have C1 := fun w' => eqLife_same mo ep si w'
 have C2 := fun w' => eqLocal_same kn lo hi la w'
 have C3 := fun (w' : World) (h : Below w.heap.size w w') => eqTable_same te us aa aa' na ac ac' AM w' hna (sA.below h) (sA'.below h)
 have C4 := fun (w' : World) (h : Below w.heap.size w w') => eqPeerS_src pa pa' np pc pc' QM w' hnp (sP.below h) (sP'.below h)
 have C5 := fun w' => eqApp_same hs ls w'
 have C6 := fun (w' : World) (h : Below w.heap.size w w') => eqHeardS_src ha ha' nh hc hc' HM w' hnh (sH.below h) (sH'.below h)
 clear sA sP sH sA' sP' sH' hna hnp hnh
 have e1 : (ni != ni) = false := by simp
 have e2 : (se != se) = false := by simp
 go_enter Tryz.func103, Tryz.ntmps103
 go_upto_region 1 with fail
 generalize (w.alloc (.cells #[.int .i64 ni, .int .i64 mo, .int .i64 ep, .int .i64 si, .bool kn, .int .i64 lo, .int .i64 hi, .int .i64 la, .int .i64 te, .int .i64 us, .slice aa na ac, .slice pa np pc, .bool hs, .int .i64 ls, .slice ha nh hc, .int .i64 se] 98)).alloc (.cells #[.int .i64 ni, .int .i64 mo, .int .i64 ep, .int .i64 si, .bool kn, .int .i64 lo, .int .i64 hi, .int .i64 la, .int .i64 te, .int .i64 us, .slice aa' na ac', .slice pa' np pc', .bool hs, .int .i64 ls, .slice ha' nh hc', .int .i64 se] 98) = v at *
 obtain ⟨n0, n1, n2, n3, n4, n5, n6, n7, n8, n9, n10, n11, n12, n13, n14, n15, n16, m0, m1, m2, m3, m4, m5, m6, m7, m8, m9, m10, m11, m12, m13, m14, m15⟩ := id N
 obtain ⟨x0, x1, x2, x3, x4, x5, x6, x7, x8, x9, x10, x11, x12, x13, x14, x15, x16, y0, y1, y2, y3, y4, y5, y6, y7, y8, y9, y10, y11, y12, y13, y14, y15⟩ := id X
 go_wp2_with fail
 refine (C1 _).mono ?_
 clear C1
 rintro e v1 ⟨rfl, hb⟩
 clear n0 n1 n2 n3 n4 n5 n6 n7 n8 n9 n10 n11 n12 n13 n14 n15 n16 m0 m1 m2 m3 m4 m5 m6 m7 m8 m9 m10 m11 m12 m13 m14 m15
 clear x0 x1 x2 x3 x4 x5 x6 x7 x8 x9 x10 x11 x12 x13 x14 x15 x16 y0 y1 y2 y3 y4 y5 y6 y7 y8 y9 y10 y11 y12 y13 y14 y15
 replace B := B.trans (hb.mono B.size)
 replace N := N.below hb
 replace X := X.below hb
 clear hb
 obtain ⟨n0, n1, n2, n3, n4, n5, n6, n7, n8, n9, n10, n11, n12, n13, n14, n15, n16, m0, m1, m2, m3, m4, m5, m6, m7, m8, m9, m10, m11, m12, m13, m14, m15⟩ := id N
 obtain ⟨x0, x1, x2, x3, x4, x5, x6, x7, x8, x9, x10, x11, x12, x13, x14, x15, x16, y0, y1, y2, y3, y4, y5, y6, y7, y8, y9, y10, y11, y12, y13, y14, y15⟩ := id X
 go_wp2_with fail
 refine (C2 _).mono ?_
 clear C2
 rintro e v2 ⟨rfl, hb⟩
 clear n0 n1 n2 n3 n4 n5 n6 n7 n8 n9 n10 n11 n12 n13 n14 n15 n16 m0 m1 m2 m3 m4 m5 m6 m7 m8 m9 m10 m11 m12 m13 m14 m15
 clear x0 x1 x2 x3 x4 x5 x6 x7 x8 x9 x10 x11 x12 x13 x14 x15 x16 y0 y1 y2 y3 y4 y5 y6 y7 y8 y9 y10 y11 y12 y13 y14 y15
 replace B := B.trans (hb.mono B.size)
 replace N := N.below hb
 replace X := X.below hb
 clear hb
 obtain ⟨n0, n1, n2, n3, n4, n5, n6, n7, n8, n9, n10, n11, n12, n13, n14, n15, n16, m0, m1, m2, m3, m4, m5, m6, m7, m8, m9, m10, m11, m12, m13, m14, m15⟩ := id N
 obtain ⟨x0, x1, x2, x3, x4, x5, x6, x7, x8, x9, x10, x11, x12, x13, x14, x15, x16, y0, y1, y2, y3, y4, y5, y6, y7, y8, y9, y10, y11, y12, y13, y14, y15⟩ := id X
 go_wp2_with fail
 refine (C3 _ B).mono ?_
 clear C3
 rintro e v3 ⟨rfl, hb⟩
 clear n0 n1 n2 n3 n4 n5 n6 n7 n8 n9 n10 n11 n12 n13 n14 n15 n16 m0 m1 m2 m3 m4 m5 m6 m7 m8 m9 m10 m11 m12 m13 m14 m15
 clear x0 x1 x2 x3 x4 x5 x6 x7 x8 x9 x10 x11 x12 x13 x14 x15 x16 y0 y1 y2 y3 y4 y5 y6 y7 y8 y9 y10 y11 y12 y13 y14 y15
 replace B := B.trans (hb.mono B.size)
 replace N := N.below hb
 replace X := X.below hb
 clear hb
 obtain ⟨n0, n1, n2, n3, n4, n5, n6, n7, n8, n9, n10, n11, n12, n13, n14, n15, n16, m0, m1, m2, m3, m4, m5, m6, m7, m8, m9, m10, m11, m12, m13, m14, m15⟩ := id N
 obtain ⟨x0, x1, x2, x3, x4, x5, x6, x7, x8, x9, x10, x11, x12, x13, x14, x15, x16, y0, y1, y2, y3, y4, y5, y6, y7, y8, y9, y10, y11, y12, y13, y14, y15⟩ := id X
 go_wp2_with fail
 refine (C4 _ B).mono ?_
 clear C4
 rintro e v4 ⟨rfl, hb⟩
 clear n0 n1 n2 n3 n4 n5 n6 n7 n8 n9 n10 n11 n12 n13 n14 n15 n16 m0 m1 m2 m3 m4 m5 m6 m7 m8 m9 m10 m11 m12 m13 m14 m15
 clear x0 x1 x2 x3 x4 x5 x6 x7 x8 x9 x10 x11 x12 x13 x14 x15 x16 y0 y1 y2 y3 y4 y5 y6 y7 y8 y9 y10 y11 y12 y13 y14 y15
 replace B := B.trans (hb.mono B.size)
 replace N := N.below hb
 replace X := X.below hb
 clear hb
 obtain ⟨n0, n1, n2, n3, n4, n5, n6, n7, n8, n9, n10, n11, n12, n13, n14, n15, n16, m0, m1, m2, m3, m4, m5, m6, m7, m8, m9, m10, m11, m12, m13, m14, m15⟩ := id N
 obtain ⟨x0, x1, x2, x3, x4, x5, x6, x7, x8, x9, x10, x11, x12, x13, x14, x15, x16, y0, y1, y2, y3, y4, y5, y6, y7, y8, y9, y10, y11, y12, y13, y14, y15⟩ := id X
 go_wp2_with fail
 refine (C5 _).mono ?_
 clear C5
 rintro e v5 ⟨rfl, hb⟩
 clear n0 n1 n2 n3 n4 n5 n6 n7 n8 n9 n10 n11 n12 n13 n14 n15 n16 m0 m1 m2 m3 m4 m5 m6 m7 m8 m9 m10 m11 m12 m13 m14 m15
 clear x0 x1 x2 x3 x4 x5 x6 x7 x8 x9 x10 x11 x12 x13 x14 x15 x16 y0 y1 y2 y3 y4 y5 y6 y7 y8 y9 y10 y11 y12 y13 y14 y15
 replace B := B.trans (hb.mono B.size)
 replace N := N.below hb
 replace X := X.below hb
 clear hb
 obtain ⟨n0, n1, n2, n3, n4, n5, n6, n7, n8, n9, n10, n11, n12, n13, n14, n15, n16, m0, m1, m2, m3, m4, m5, m6, m7, m8, m9, m10, m11, m12, m13, m14, m15⟩ := id N
 obtain ⟨x0, x1, x2, x3, x4, x5, x6, x7, x8, x9, x10, x11, x12, x13, x14, x15, x16, y0, y1, y2, y3, y4, y5, y6, y7, y8, y9, y10, y11, y12, y13, y14, y15⟩ := id X
 go_wp2_with fail
 refine (C6 _ B).mono ?_
 clear C6
 rintro e v6 ⟨rfl, hb⟩
 clear n0 n1 n2 n3 n4 n5 n6 n7 n8 n9 n10 n11 n12 n13 n14 n15 n16 m0 m1 m2 m3 m4 m5 m6 m7 m8 m9 m10 m11 m12 m13 m14 m15
 clear x0 x1 x2 x3 x4 x5 x6 x7 x8 x9 x10 x11 x12 x13 x14 x15 x16 y0 y1 y2 y3 y4 y5 y6 y7 y8 y9 y10 y11 y12 y13 y14 y15
 replace B := B.trans (hb.mono B.size)
 replace N := N.below hb
 replace X := X.below hb
 clear hb
 obtain ⟨n0, n1, n2, n3, n4, n5, n6, n7, n8, n9, n10, n11, n12, n13, n14, n15, n16, m0, m1, m2, m3, m4, m5, m6, m7, m8, m9, m10, m11, m12, m13, m14, m15⟩ := id N
 obtain ⟨x0, x1, x2, x3, x4, x5, x6, x7, x8, x9, x10, x11, x12, x13, x14, x15, x16, y0, y1, y2, y3, y4, y5, y6, y7, y8, y9, y10, y11, y12, y13, y14, y15⟩ := id X
 go_wp2_with fail
 clear n0 n1 n2 n3 n4 n5 n6 n7 n8 n9 n10 n11 n12 n13 n14 n15 n16 m0 m1 m2 m3 m4 m5 m6 m7 m8 m9 m10 m11 m12 m13 m14 m15
 clear x0 x1 x2 x3 x4 x5 x6 x7 x8 x9 x10 x11 x12 x13 x14 x15 x16 y0 y1 y2 y3 y4 y5 y6 y7 y8 y9 y10 y11 y12 y13 y14 y15
 go_ret
 exact ⟨rfl, B⟩
end Go.Proofs.YtddijpjgkifngaaGreat
namespace Go.Proofs.YtddijpjgkifngaaGreat
open Go.RowKit
set_option linter.unusedVariables false
theorem RowF.rwo {w : World} {b n sz base : Nat} {T : TypeId} {F : Nat → Value} (h : RowF w b T (n * sz) (n * sz) F) (hn : n ≤ 1048576) (hb : base ≤ b) : Rwo w base w.heap.size T sz (some ⟨b, 0, none⟩) n n F := by
 obtain ⟨g, ⟨c, hc, hs, hv⟩, hg⟩ := h
 have hlt : b < w.heap.size := (Array.getElem?_eq_some_iff.1 hc).1
 refine ⟨⟨by simp, .inr ⟨b, n, c, rfl, hb, hc, Nat.le_refl _, by unfold maxLen; omega, hs, ?_⟩⟩, fun g' e => by cases e; exact hlt⟩
 apply List.ext_getElem?
 intro j
 by_cases hj : j < n * sz
 ·rw [List.getElem?_take, if_pos hj]
  have h1 := hv j hj
  have e : c.toList[j]? = c[j]? := by simp
  rw [e, h1, hg j hj]
  simp [hj]
 ·rw [List.getElem?_eq_none (by simp; omega), List.getElem?_eq_none (by simp; omega)]
def okX (x : NdX) : Bool := ndB x.ni x.mo x.ep x.si x.kn x.lo x.hi x.la x.te x.us x.AM x.na x.QM x.np x.hs x.ls x.HM x.nh x.se
def cmX (x : NdX) (ct : Int) : Bool := cmB x.si x.la x.se x.AM x.na x.QM x.np x.HM x.nh ct
theorem specFirstX (A : Array Value) (x : NdX) (ct : Int) (w : World) (h : NdS w A x) :
 Calls Tryz.prog 166 #[.agg A, .int .i64 ct] w fun e w' => e = .returned (.int .i64 (fiI (okX x) (cmX x ct) x.mo)) ∧ Below w.heap.size w w' := by
 obtain ⟨aa, ac, pa, pc, ha, hc, rfl, hl, h1, h2, h3⟩ := h
 exact specFirst_any x.ni x.mo x.ep x.si x.kn x.lo x.hi x.la x.te x.us aa x.na ac x.AM pa x.np pc x.QM x.hs x.ls ha x.nh hc x.HM x.se ct w hl.1 h1.src hl.2.1 h2.src hl.2.2 h3.src
theorem rwo_of {w : World} {base : Nat} {T : TypeId} {sz : Nat} {a : Option Addr} {n c : Nat} {F : Nat → Value} (h : w.ownsRow base T sz (.slice a n c) n ((List.range (n * sz)).map F)) : Rwo w base w.heap.size T sz a n c F :=
 ⟨h, fun g hg => (World.ownsRow.lt h g hg).2⟩
def zX (id mo ep si te se : Int) : NdX := ⟨id, mo, ep, si, false, 0, 0, 0, te, 0, fun _ => (0, 0, 0, 0), 0, fun _ => (0, 0, 0, 0, false), 0, false, 0, fun _ => (0, 0), 0, se⟩
end Go.Proofs.YtddijpjgkifngaaGreat
namespace Go.Proofs.YtddijpjgkifngaaGreat
open Go.RowKit
set_option linter.unusedVariables false
theorem okX_short {x : NdX} (h : okX x = true) : x.na ≤ 16 ∧ x.np ≤ 8 ∧ x.nh ≤ 16 := by
 unfold okX ndB ndA at h
 simp only [Bool.and_eq_true] at h
 obtain ⟨⟨_, _, _, h1, h2, _, h3, _⟩, _⟩ := h
 refine ⟨?_, ?_, ?_⟩
 ·unfold tabB at h1
  simp only [Bool.and_eq_true, decide_eq_true_eq] at h1
  omega
 ·exact oks_le h2
 ·unfold hrB at h3
  simp only [Bool.and_eq_true, decide_eq_true_eq] at h3
  omega
end Go.Proofs.YtddijpjgkifngaaGreat
