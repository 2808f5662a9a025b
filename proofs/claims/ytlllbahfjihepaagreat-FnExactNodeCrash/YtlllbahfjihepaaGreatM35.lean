/- NodeCrash: done in the specification. -/
import Derived.Deep.RegionHeld3
import Derived.Deep.DeepCutAuto
import Derived.WalkKit
import Derived.WalkSpells
import Derived.WalkLawsBesides
import Derived.Deep.RegionHeld
import Derived.Test.YtlllbahfjihepaaGreatM27
import Derived.Test.YtlllbahfjihepaaGreatM31
import Derived.Test.YtlllbahfjihepaaGreatM28
namespace Go.Proofs.YtlllbahfjihepaaGreat
open Go.RowKit
set_option linter.unusedVariables false

attribute [-go_sem] loadCells in
set_option maxRecDepth 100000 in
set_option maxHeartbeats 16000000 in
theorem specCrash_done (ni mo ep si : Int) (kn : Bool) (lo hi la te us : Int) (aa : Option Addr) (na ac : Nat) (AM : Nat → KT) (pa : Option Addr) (np pc : Nat) (QM : Nat → PT) (hs : Bool) (ls : Int) (ha : Option Addr) (nh hc : Nat) (HM : Nat → VT) (se : Int) (ct : Int) (w : World) (hna : na ≤ maxLen) (sA : SrcC w aa (na * 4) (MFAsk AM)) (hnp : np ≤ maxLen) (sP : SrcC w pa (np * 5) (MFPeer QM)) (hnh : nh ≤ maxLen) (sH : SrcC w ha (nh * 2) (MFIval HM)) (hok : (ndB ni mo ep si kn lo hi la te us AM na QM np hs ls HM nh se && cmB si la se AM na QM np HM nh ct) = true) (hmz : (mo == 0) = false) :
    Calls Tryz.prog 12 #[.agg #[.int .i64 ni, .int .i64 mo, .int .i64 ep, .int .i64 si, .bool kn, .int .i64 lo, .int .i64 hi, .int .i64 la, .int .i64 te, .int .i64 us, .slice aa na ac, .slice pa np pc, .bool hs, .int .i64 ls, .slice ha nh hc, .int .i64 se], .int .i64 ct] w fun e w' => e = .returned (.tuple #[.agg #[.int .i64 (nwN ni), .int .i64 (stM mo ep si 2 ct), .int .i64 (stE mo ep si 2 ct), .int .i64 (stS mo ep si 2 ct), .bool false, .int .i64 0, .int .i64 0, .int .i64 0, .int .i64 (stE mo ep si 2 ct), .int .i64 0, .slice none 0 0, .slice none 0 0, .bool false, .int .i64 0, .slice none 0 0, .int .i64 (nwS ni)], .int .i64 0]) ∧ Below w.heap.size w w' := by
  have A0 := Below.nw w (.cells #[.int .i64 ni, .int .i64 mo, .int .i64 ep, .int .i64 si, .bool kn, .int .i64 lo, .int .i64 hi, .int .i64 la, .int .i64 te, .int .i64 us, .slice aa na ac, .slice pa np pc, .bool hs, .int .i64 ls, .slice ha nh hc, .int .i64 se] 49)
  have A1 := Below.nw (w.alloc (.cells #[.int .i64 ni, .int .i64 mo, .int .i64 ep, .int .i64 si, .bool kn, .int .i64 lo, .int .i64 hi, .int .i64 la, .int .i64 te, .int .i64 us, .slice aa na ac, .slice pa np pc, .bool hs, .int .i64 ls, .slice ha nh hc, .int .i64 se] 49)) (.cells #[.int .i64 0, .int .i64 0, .int .i64 0, .int .i64 0, .bool false, .int .i64 0, .int .i64 0, .int .i64 0, .int .i64 0, .int .i64 0, .slice none 0 0, .slice none 0 0, .bool false, .int .i64 0, .slice none 0 0, .int .i64 0] 49)
  have N := (Nx16.new w (.int .i64 ni) (.int .i64 mo) (.int .i64 ep) (.int .i64 si) (.bool kn) (.int .i64 lo) (.int .i64 hi) (.int .i64 la) (.int .i64 te) (.int .i64 us) (.slice aa na ac) (.slice pa np pc) (.bool hs) (.int .i64 ls) (.slice ha nh hc) (.int .i64 se) 49).below A1
  have R := Nx16.new (w.alloc (.cells #[.int .i64 ni, .int .i64 mo, .int .i64 ep, .int .i64 si, .bool kn, .int .i64 lo, .int .i64 hi, .int .i64 la, .int .i64 te, .int .i64 us, .slice aa na ac, .slice pa np pc, .bool hs, .int .i64 ls, .slice ha nh hc, .int .i64 se] 49)) (.int .i64 0) (.int .i64 0) (.int .i64 0) (.int .i64 0) (.bool false) (.int .i64 0) (.int .i64 0) (.int .i64 0) (.int .i64 0) (.int .i64 0) (.slice none 0 0) (.slice none 0 0) (.bool false) (.int .i64 0) (.slice none 0 0) (.int .i64 0) 49
  have B := A0.trans (A1.mono A0.size)
  have hj : w.heap.size + 2 ≤ ((w.alloc (.cells #[.int .i64 ni, .int .i64 mo, .int .i64 ep, .int .i64 si, .bool kn, .int .i64 lo, .int .i64 hi, .int .i64 la, .int .i64 te, .int .i64 us, .slice aa na ac, .slice pa np pc, .bool hs, .int .i64 ls, .slice ha nh hc, .int .i64 se] 49)).alloc (.cells #[.int .i64 0, .int .i64 0, .int .i64 0, .int .i64 0, .bool false, .int .i64 0, .int .i64 0, .int .i64 0, .int .i64 0, .int .i64 0, .slice none 0 0, .slice none 0 0, .bool false, .int .i64 0, .slice none 0 0, .int .i64 0] 49)).heap.size := by simp
  simp only [World.size_alloc] at R
  clear A0 A1
  have C1 := fun (w' : World) (h : Below w.heap.size w w') => specFirst_any ni mo ep si kn lo hi la te us aa na ac AM pa np pc QM hs ls ha nh hc HM se ct w' hna (sA.below h) hnp (sP.below h) hnh (sH.below h)
  have C2 := fun w' => specNewNode_any ni w'
  have C3 := fun w' => specLive_any ni mo ep si kn lo hi la te us aa na ac AM pa np pc QM hs ls ha nh hc HM se 2 ct w'
  have e0 : fiI (ndB ni mo ep si kn lo hi la te us AM na QM np hs ls HM nh se) (cmB si la se AM na QM np HM nh ct) mo = 0 := by unfold fiI; rw [hok]; rw [hmz]
  rw [e0] at C1
  clear e0 hok hna sA hnp sP hnh sH
  generalize nwN ni = I0 at *
  generalize nwS ni = S0 at *
  generalize stM mo ep si 2 ct = M1 at *
  generalize stE mo ep si 2 ct = E1 at *
  generalize stS mo ep si 2 ct = S1 at *
  go_enter Tryz.func12, Tryz.ntmps12
  go_upto_region 1 with fail
  generalize (w.alloc (.cells #[.int .i64 ni, .int .i64 mo, .int .i64 ep, .int .i64 si, .bool kn, .int .i64 lo, .int .i64 hi, .int .i64 la, .int .i64 te, .int .i64 us, .slice aa na ac, .slice pa np pc, .bool hs, .int .i64 ls, .slice ha nh hc, .int .i64 se] 49)).alloc (.cells #[.int .i64 0, .int .i64 0, .int .i64 0, .int .i64 0, .bool false, .int .i64 0, .int .i64 0, .int .i64 0, .int .i64 0, .int .i64 0, .slice none 0 0, .slice none 0 0, .bool false, .int .i64 0, .slice none 0 0, .int .i64 0] 49) = v at *
  obtain ⟨n0, n1, n2, n3, n4, n5, n6, n7, n8, n9, n10, n11, n12, n13, n14, n15, n16, m0, m1, m2, m3, m4, m5, m6, m7, m8, m9, m10, m11, m12, m13, m14, m15⟩ := id N
  have hLN := Nx16.load (P := Tryz.prog) N
  go_wp2_with (rw [hLN])
  refine (C1 _ B).mono ?_
  clear C1
  rintro e v1 ⟨rfl, hb⟩
  clear n0 n1 n2 n3 n4 n5 n6 n7 n8 n9 n10 n11 n12 n13 n14 n15 n16 m0 m1 m2 m3 m4 m5 m6 m7 m8 m9 m10 m11 m12 m13 m14 m15
  clear hLN
  replace B := B.trans (hb.mono B.size)
  replace N := N.below hb
  replace R := R.below hb
  replace hj := Nat.le_trans hj hb.size
  clear hb
  obtain ⟨n0, n1, n2, n3, n4, n5, n6, n7, n8, n9, n10, n11, n12, n13, n14, n15, n16, m0, m1, m2, m3, m4, m5, m6, m7, m8, m9, m10, m11, m12, m13, m14, m15⟩ := id N
  have hLN := Nx16.load (P := Tryz.prog) N
  go_wp2_with (rw [hLN])
  refine (C2 _).mono ?_
  clear C2
  rintro e v2 ⟨rfl, hb⟩
  clear n0 n1 n2 n3 n4 n5 n6 n7 n8 n9 n10 n11 n12 n13 n14 n15 n16 m0 m1 m2 m3 m4 m5 m6 m7 m8 m9 m10 m11 m12 m13 m14 m15
  clear hLN
  replace B := B.trans (hb.mono B.size)
  replace N := N.below hb
  replace R := R.below hb
  replace hj := Nat.le_trans hj hb.size
  clear hb
  have A2 := Below.nw v2 (.cells #[.int .i64 I0, .int .i64 0, .int .i64 0, .int .i64 0, .bool false, .int .i64 0, .int .i64 0, .int .i64 0, .int .i64 0, .int .i64 0, .slice none 0 0, .slice none 0 0, .bool false, .int .i64 0, .slice none 0 0, .int .i64 S0] 49)
  have X := Nx16.new v2 (.int .i64 I0) (.int .i64 0) (.int .i64 0) (.int .i64 0) (.bool false) (.int .i64 0) (.int .i64 0) (.int .i64 0) (.int .i64 0) (.int .i64 0) (.slice none 0 0) (.slice none 0 0) (.bool false) (.int .i64 0) (.slice none 0 0) (.int .i64 S0) 49
  go_upto_region 5 with fail
  replace B := B.trans (A2.mono B.size)
  replace N := N.below A2
  replace R := R.below A2
  clear A2
  generalize v2.alloc (.cells #[.int .i64 I0, .int .i64 0, .int .i64 0, .int .i64 0, .bool false, .int .i64 0, .int .i64 0, .int .i64 0, .int .i64 0, .int .i64 0, .slice none 0 0, .slice none 0 0, .bool false, .int .i64 0, .slice none 0 0, .int .i64 S0] 49) = v3 at *
  have hjo : v2.heap.size ≠ w.heap.size + 1 := by omega
  have hjb : w.heap.size ≤ v2.heap.size := by omega
  clear hj
  generalize v2.heap.size = jo at *
  obtain ⟨n0, n1, n2, n3, n4, n5, n6, n7, n8, n9, n10, n11, n12, n13, n14, n15, n16, m0, m1, m2, m3, m4, m5, m6, m7, m8, m9, m10, m11, m12, m13, m14, m15⟩ := id N
  have hLN := Nx16.load (P := Tryz.prog) N
  go_wp2_with (rw [hLN])
  refine (C3 _).mono ?_
  clear C3
  rintro e v4 ⟨rfl, hb⟩
  clear n0 n1 n2 n3 n4 n5 n6 n7 n8 n9 n10 n11 n12 n13 n14 n15 n16 m0 m1 m2 m3 m4 m5 m6 m7 m8 m9 m10 m11 m12 m13 m14 m15
  clear hLN
  replace B := B.trans (hb.mono B.size)
  replace R := R.below hb
  replace X := X.below hb
  clear hb N
  obtain ⟨x0, x1, x2, x3, x4, x5, x6, x7, x8, x9, x10, x11, x12, x13, x14, x15, x16, y0, y1, y2, y3, y4, y5, y6, y7, y8, y9, y10, y11, y12, y13, y14, y15⟩ := id X
  have hLX := Nx16.load (P := Tryz.prog) X
  go_upto_region 6 with (rw [hLX])
  clear x0 x1 x2 x3 x4 x5 x6 x7 x8 x9 x10 x11 x12 x13 x14 x15 x16 y0 y1 y2 y3 y4 y5 y6 y7 y8 y9 y10 y11 y12 y13 y14 y15
  clear hLX
  replace X := (((X.set1 (.int .i64 M1)).set2 (.int .i64 E1)).set3 (.int .i64 S1))
  replace R := (((R.setO (j := jo) hjo 1 (.int .i64 M1)).setO (j := jo) hjo 2 (.int .i64 E1)).setO (j := jo) hjo 3 (.int .i64 S1))
  replace B := (((B.setCell (p := ⟨jo, 1, none⟩) hjb (.int .i64 M1)).setCell (p := ⟨jo, 2, none⟩) hjb (.int .i64 E1)).setCell (p := ⟨jo, 3, none⟩) hjb (.int .i64 S1))
  generalize (((v4).setCell ⟨jo, 1, none⟩ (.int .i64 M1)).setCell ⟨jo, 2, none⟩ (.int .i64 E1)).setCell ⟨jo, 3, none⟩ (.int .i64 S1) = v5 at *
  obtain ⟨x0, x1, x2, x3, x4, x5, x6, x7, x8, x9, x10, x11, x12, x13, x14, x15, x16, y0, y1, y2, y3, y4, y5, y6, y7, y8, y9, y10, y11, y12, y13, y14, y15⟩ := id X
  have hLX := Nx16.load (P := Tryz.prog) X
  go_upto_region 7 with (rw [hLX])
  clear x0 x1 x2 x3 x4 x5 x6 x7 x8 x9 x10 x11 x12 x13 x14 x15 x16 y0 y1 y2 y3 y4 y5 y6 y7 y8 y9 y10 y11 y12 y13 y14 y15
  clear hLX
  replace X := (((X.set8 (.int .i64 E1)).set9 (.int .i64 0)).set10 (.slice none 0 0))
  replace R := (((R.setO (j := jo) hjo 8 (.int .i64 E1)).setO (j := jo) hjo 9 (.int .i64 0)).setO (j := jo) hjo 10 (.slice none 0 0))
  replace B := (((B.setCell (p := ⟨jo, 8, none⟩) hjb (.int .i64 E1)).setCell (p := ⟨jo, 9, none⟩) hjb (.int .i64 0)).setCell (p := ⟨jo, 10, none⟩) hjb (.slice none 0 0))
  generalize (((v5).setCell ⟨jo, 8, none⟩ (.int .i64 E1)).setCell ⟨jo, 9, none⟩ (.int .i64 0)).setCell ⟨jo, 10, none⟩ (.slice none 0 0) = v6 at *
  have R1 := R.put (.int .i64 I0) (.int .i64 M1) (.int .i64 E1) (.int .i64 S1) (.bool false) (.int .i64 0) (.int .i64 0) (.int .i64 0) (.int .i64 E1) (.int .i64 0) (.slice none 0 0) (.slice none 0 0) (.bool false) (.int .i64 0) (.slice none 0 0) (.int .i64 S0)
  have B1 := Below.put16 B (k := w.heap.size + 1) (Nat.le_succ _) (.int .i64 I0) (.int .i64 M1) (.int .i64 E1) (.int .i64 S1) (.bool false) (.int .i64 0) (.int .i64 0) (.int .i64 0) (.int .i64 E1) (.int .i64 0) (.slice none 0 0) (.slice none 0 0) (.bool false) (.int .i64 0) (.slice none 0 0) (.int .i64 S0)
  obtain ⟨x0, x1, x2, x3, x4, x5, x6, x7, x8, x9, x10, x11, x12, x13, x14, x15, x16, y0, y1, y2, y3, y4, y5, y6, y7, y8, y9, y10, y11, y12, y13, y14, y15⟩ := id X
  have hLX := Nx16.load (P := Tryz.prog) X
  obtain ⟨p0, p1, p2, p3, p4, p5, p6, p7, p8, p9, p10, p11, p12, p13, p14, p15, p16, q0, q1, q2, q3, q4, q5, q6, q7, q8, q9, q10, q11, q12, q13, q14, q15⟩ := id R
  go_wp2_with (rw [hLX])
  clear x0 x1 x2 x3 x4 x5 x6 x7 x8 x9 x10 x11 x12 x13 x14 x15 x16 y0 y1 y2 y3 y4 y5 y6 y7 y8 y9 y10 y11 y12 y13 y14 y15 X
  clear hLX
  clear p0 p1 p2 p3 p4 p5 p6 p7 p8 p9 p10 p11 p12 p13 p14 p15 p16 q0 q1 q2 q3 q4 q5 q6 q7 q8 q9 q10 q11 q12 q13 q14 q15 R B
  generalize ((((((((((((((((v6).setCell ⟨w.heap.size + 1, 0, none⟩ (.int .i64 I0)).setCell ⟨w.heap.size + 1, 1, none⟩ (.int .i64 M1)).setCell ⟨w.heap.size + 1, 2, none⟩ (.int .i64 E1)).setCell ⟨w.heap.size + 1, 3, none⟩ (.int .i64 S1)).setCell ⟨w.heap.size + 1, 4, none⟩ (.bool false)).setCell ⟨w.heap.size + 1, 5, none⟩ (.int .i64 0)).setCell ⟨w.heap.size + 1, 6, none⟩ (.int .i64 0)).setCell ⟨w.heap.size + 1, 7, none⟩ (.int .i64 0)).setCell ⟨w.heap.size + 1, 8, none⟩ (.int .i64 E1)).setCell ⟨w.heap.size + 1, 9, none⟩ (.int .i64 0)).setCell ⟨w.heap.size + 1, 10, none⟩ (.slice none 0 0)).setCell ⟨w.heap.size + 1, 11, none⟩ (.slice none 0 0)).setCell ⟨w.heap.size + 1, 12, none⟩ (.bool false)).setCell ⟨w.heap.size + 1, 13, none⟩ (.int .i64 0)).setCell ⟨w.heap.size + 1, 14, none⟩ (.slice none 0 0)).setCell ⟨w.heap.size + 1, 15, none⟩ (.int .i64 S0) = v9 at *
  have hL1 := Nx16.load (P := Tryz.prog) R1
  exact bodyPost_ret (v := (.tuple #[.agg #[.int .i64 I0, .int .i64 M1, .int .i64 E1, .int .i64 S1, .bool false, .int .i64 0, .int .i64 0, .int .i64 0, .int .i64 E1, .int .i64 0, .slice none 0 0, .slice none 0 0, .bool false, .int .i64 0, .slice none 0 0, .int .i64 S0], .int .i64 0])) (by simp (maxDischargeDepth := 6) [results, Tryz.results12, go_sem]; rw [hL1]; rfl) rfl ⟨rfl, B1⟩
end Go.Proofs.YtlllbahfjihepaaGreat
