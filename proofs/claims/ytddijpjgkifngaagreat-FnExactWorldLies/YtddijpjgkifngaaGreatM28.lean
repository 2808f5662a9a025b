/- Whether two nodes are the same (the laws). -/
import Derived.Test.YtddijpjgkifngaaGreatM12
import Derived.Test.YtddijpjgkifngaaGreatM24
namespace Go.Proofs.YtddijpjgkifngaaGreat
open Go.RowKit
set_option linter.unusedVariables false
set_option maxRecDepth 100000 in
set_option maxHeartbeats 8000000 in
theorem eqNode_same (ni mo ep si : Int) (kn : Bool) (lo hi la te us : Int) (aa : Option Addr) (na ac : Nat) (AM : Nat → KT) (pa : Option Addr) (np pc : Nat) (QM : Nat → PT) (hs : Bool) (ls : Int) (ha : Option Addr) (nh hc : Nat) (HM : Nat → VT) (se : Int) (aa' pa' ha' : Option Addr) (ac' pc' hc' : Nat) (w : World) (hna : na ≤ maxLen) (sA : SrcC w aa (na * 4) (MFAsk AM)) (hnp : np ≤ maxLen) (sP : SrcC w pa (np * 5) (MFPeer QM)) (hnh : nh ≤ maxLen) (sH : SrcC w ha (nh * 2) (MFIval HM)) (sA' : SrcC w aa' (na * 4) (MFAsk AM)) (sP' : SrcC w pa' (np * 5) (MFPeer QM)) (sH' : SrcC w ha' (nh * 2) (MFIval HM)) :
 Calls Tryz.prog 103 #[.agg #[.int .i64 ni, .int .i64 mo, .int .i64 ep, .int .i64 si, .bool kn, .int .i64 lo, .int .i64 hi, .int .i64 la, .int .i64 te, .int .i64 us, .slice aa na ac, .slice pa np pc, .bool hs, .int .i64 ls, .slice ha nh hc, .int .i64 se], .agg #[.int .i64 ni, .int .i64 mo, .int .i64 ep, .int .i64 si, .bool kn, .int .i64 lo, .int .i64 hi, .int .i64 la, .int .i64 te, .int .i64 us, .slice aa' na ac', .slice pa' np pc', .bool hs, .int .i64 ls, .slice ha' nh hc', .int .i64 se]] w fun e w' => e = .returned (.bool true) ∧ Below w.heap.size w w' := by
 have A0 := Below.nw w (.cells #[.int .i64 ni, .int .i64 mo, .int .i64 ep, .int .i64 si, .bool kn, .int .i64 lo, .int .i64 hi, .int .i64 la, .int .i64 te, .int .i64 us, .slice aa na ac, .slice pa np pc, .bool hs, .int .i64 ls, .slice ha nh hc, .int .i64 se] 98)
 have A1 := Below.nw (w.alloc (.cells #[.int .i64 ni, .int .i64 mo, .int .i64 ep, .int .i64 si, .bool kn, .int .i64 lo, .int .i64 hi, .int .i64 la, .int .i64 te, .int .i64 us, .slice aa na ac, .slice pa np pc, .bool hs, .int .i64 ls, .slice ha nh hc, .int .i64 se] 98)) (.cells #[.int .i64 ni, .int .i64 mo, .int .i64 ep, .int .i64 si, .bool kn, .int .i64 lo, .int .i64 hi, .int .i64 la, .int .i64 te, .int .i64 us, .slice aa' na ac', .slice pa' np pc', .bool hs, .int .i64 ls, .slice ha' nh hc', .int .i64 se] 98)
 have N := (Nx16.new w (.int .i64 ni) (.int .i64 mo) (.int .i64 ep) (.int .i64 si) (.bool kn) (.int .i64 lo) (.int .i64 hi) (.int .i64 la) (.int .i64 te) (.int .i64 us) (.slice aa na ac) (.slice pa np pc) (.bool hs) (.int .i64 ls) (.slice ha nh hc) (.int .i64 se) 98).below A1
 have X := Nx16.new (w.alloc (.cells #[.int .i64 ni, .int .i64 mo, .int .i64 ep, .int .i64 si, .bool kn, .int .i64 lo, .int .i64 hi, .int .i64 la, .int .i64 te, .int .i64 us, .slice aa na ac, .slice pa np pc, .bool hs, .int .i64 ls, .slice ha nh hc, .int .i64 se] 98)) (.int .i64 ni) (.int .i64 mo) (.int .i64 ep) (.int .i64 si) (.bool kn) (.int .i64 lo) (.int .i64 hi) (.int .i64 la) (.int .i64 te) (.int .i64 us) (.slice aa' na ac') (.slice pa' np pc') (.bool hs) (.int .i64 ls) (.slice ha' nh hc') (.int .i64 se) 98
 have B := A0.trans (A1.mono A0.size)
 simp only [World.size_alloc] at X
 clear A0 A1
 have C1 := fun w' => eqLife_same mo ep si w'
 have C2 := fun w' => eqLocal_same kn lo hi la w'
 have C3 := fun (w' : World) (h : Below w.heap.size w w') => eqTable_same te us aa aa' na ac ac' AM w' hna (sA.below h) (sA'.below h)
 have C4 := fun (w' : World) (h : Below w.heap.size w w') => eqPeerS_src pa pa' np pc pc' QM w' hnp (sP.below h) (sP'.below h)
 have C5 := fun w' => eqApp_same hs ls w'
 have C6 := fun (w' : World) (h : Below w.heap.size w w') => eqHeardS_src ha ha' nh hc hc' HM w' hnh (sH.below h) (sH'.below h)
 clear sA sP sH sA' sP' sH' hna hnp hnh
 have e1 : (ni != ni) = false := by simp
 have e2 : (se != se) = false := by simp
 go_enter Tryz.func103, Tryz.ntmps103
 go_upto_region 1 with fail
 generalize (w.alloc (.cells #[.int .i64 ni, .int .i64 mo, .int .i64 ep, .int .i64 si, .bool kn, .int .i64 lo, .int .i64 hi, .int .i64 la, .int .i64 te, .int .i64 us, .slice aa na ac, .slice pa np pc, .bool hs, .int .i64 ls, .slice ha nh hc, .int .i64 se] 98)).alloc (.cells #[.int .i64 ni, .int .i64 mo, .int .i64 ep, .int .i64 si, .bool kn, .int .i64 lo, .int .i64 hi, .int .i64 la, .int .i64 te, .int .i64 us, .slice aa' na ac', .slice pa' np pc', .bool hs, .int .i64 ls, .slice ha' nh hc', .int .i64 se] 98) = v at *
 obtain ⟨n0, n1, n2, n3, n4, n5, n6, n7, n8, n9, n10, n11, n12, n13, n14, n15, n16, m0, m1, m2, m3, m4, m5, m6, m7, m8, m9, m10, m11, m12, m13, m14, m15⟩ := id N
 obtain ⟨x0, x1, x2, x3, x4, x5, x6, x7, x8, x9, x10, x11, x12, x13, x14, x15, x16, y0, y1, y2, y3, y4, y5, y6, y7, y8, y9, y10, y11, y12, y13, y14, y15⟩ := id X
 go_wp2_with fail
 refine (C1 _).mono ?_
 clear C1
 rintro e v1 ⟨rfl, hb⟩
 clear n0 n1 n2 n3 n4 n5 n6 n7 n8 n9 n10 n11 n12 n13 n14 n15 n16 m0 m1 m2 m3 m4 m5 m6 m7 m8 m9 m10 m11 m12 m13 m14 m15
 clear x0 x1 x2 x3 x4 x5 x6 x7 x8 x9 x10 x11 x12 x13 x14 x15 x16 y0 y1 y2 y3 y4 y5 y6 y7 y8 y9 y10 y11 y12 y13 y14 y15
 replace B := B.trans (hb.mono B.size)
 replace N := N.below hb
 replace X := X.below hb
 clear hb
 obtain ⟨n0, n1, n2, n3, n4, n5, n6, n7, n8, n9, n10, n11, n12, n13, n14, n15, n16, m0, m1, m2, m3, m4, m5, m6, m7, m8, m9, m10, m11, m12, m13, m14, m15⟩ := id N
 obtain ⟨x0, x1, x2, x3, x4, x5, x6, x7, x8, x9, x10, x11, x12, x13, x14, x15, x16, y0, y1, y2, y3, y4, y5, y6, y7, y8, y9, y10, y11, y12, y13, y14, y15⟩ := id X
 go_wp2_with fail
 refine (C2 _).mono ?_
 clear C2
 rintro e v2 ⟨rfl, hb⟩
 clear n0 n1 n2 n3 n4 n5 n6 n7 n8 n9 n10 n11 n12 n13 n14 n15 n16 m0 m1 m2 m3 m4 m5 m6 m7 m8 m9 m10 m11 m12 m13 m14 m15
 clear x0 x1 x2 x3 x4 x5 x6 x7 x8 x9 x10 x11 x12 x13 x14 x15 x16 y0 y1 y2 y3 y4 y5 y6 y7 y8 y9 y10 y11 y12 y13 y14 y15
 replace B := B.trans (hb.mono B.size)
 replace N := N.below hb
 replace X := X.below hb
 clear hb
 obtain ⟨n0, n1, n2, n3, n4, n5, n6, n7, n8, n9, n10, n11, n12, n13, n14, n15, n16, m0, m1, m2, m3, m4, m5, m6, m7, m8, m9, m10, m11, m12, m13, m14, m15⟩ := id N
 obtain ⟨x0, x1, x2, x3, x4, x5, x6, x7, x8, x9, x10, x11, x12, x13, x14, x15, x16, y0, y1, y2, y3, y4, y5, y6, y7, y8, y9, y10, y11, y12, y13, y14, y15⟩ := id X
 go_wp2_with fail
 refine (C3 _ B).mono ?_
 clear C3
 rintro e v3 ⟨rfl, hb⟩
 clear n0 n1 n2 n3 n4 n5 n6 n7 n8 n9 n10 n11 n12 n13 n14 n15 n16 m0 m1 m2 m3 m4 m5 m6 m7 m8 m9 m10 m11 m12 m13 m14 m15
 clear x0 x1 x2 x3 x4 x5 x6 x7 x8 x9 x10 x11 x12 x13 x14 x15 x16 y0 y1 y2 y3 y4 y5 y6 y7 y8 y9 y10 y11 y12 y13 y14 y15
 replace B := B.trans (hb.mono B.size)
 replace N := N.below hb
 replace X := X.below hb
 clear hb
 obtain ⟨n0, n1, n2, n3, n4, n5, n6, n7, n8, n9, n10, n11, n12, n13, n14, n15, n16, m0, m1, m2, m3, m4, m5, m6, m7, m8, m9, m10, m11, m12, m13, m14, m15⟩ := id N
 obtain ⟨x0, x1, x2, x3, x4, x5, x6, x7, x8, x9, x10, x11, x12, x13, x14, x15, x16, y0, y1, y2, y3, y4, y5, y6, y7, y8, y9, y10, y11, y12, y13, y14, y15⟩ := id X
 go_wp2_with fail
 refine (C4 _ B).mono ?_
 clear C4
 rintro e v4 ⟨rfl, hb⟩
 clear n0 n1 n2 n3 n4 n5 n6 n7 n8 n9 n10 n11 n12 n13 n14 n15 n16 m0 m1 m2 m3 m4 m5 m6 m7 m8 m9 m10 m11 m12 m13 m14 m15
 clear x0 x1 x2 x3 x4 x5 x6 x7 x8 x9 x10 x11 x12 x13 x14 x15 x16 y0 y1 y2 y3 y4 y5 y6 y7 y8 y9 y10 y11 y12 y13 y14 y15
 replace B := B.trans (hb.mono B.size)
 replace N := N.below hb
 replace X := X.below hb
 clear hb
 obtain ⟨n0, n1, n2, n3, n4, n5, n6, n7, n8, n9, n10, n11, n12, n13, n14, n15, n16, m0, m1, m2, m3, m4, m5, m6, m7, m8, m9, m10, m11, m12, m13, m14, m15⟩ := id N
 obtain ⟨x0, x1, x2, x3, x4, x5, x6, x7, x8, x9, x10, x11, x12, x13, x14, x15, x16, y0, y1, y2, y3, y4, y5, y6, y7, y8, y9, y10, y11, y12, y13, y14, y15⟩ := id X
 go_wp2_with fail
 refine (C5 _).mono ?_
 clear C5
 rintro e v5 ⟨rfl, hb⟩
 clear n0 n1 n2 n3 n4 n5 n6 n7 n8 n9 n10 n11 n12 n13 n14 n15 n16 m0 m1 m2 m3 m4 m5 m6 m7 m8 m9 m10 m11 m12 m13 m14 m15
 clear x0 x1 x2 x3 x4 x5 x6 x7 x8 x9 x10 x11 x12 x13 x14 x15 x16 y0 y1 y2 y3 y4 y5 y6 y7 y8 y9 y10 y11 y12 y13 y14 y15
 replace B := B.trans (hb.mono B.size)
 replace N := N.below hb
 replace X := X.below hb
 clear hb
 obtain ⟨n0, n1, n2, n3, n4, n5, n6, n7, n8, n9, n10, n11, n12, n13, n14, n15, n16, m0, m1, m2, m3, m4, m5, m6, m7, m8, m9, m10, m11, m12, m13, m14, m15⟩ := id N
 obtain ⟨x0, x1, x2, x3, x4, x5, x6, x7, x8, x9, x10, x11, x12, x13, x14, x15, x16, y0, y1, y2, y3, y4, y5, y6, y7, y8, y9, y10, y11, y12, y13, y14, y15⟩ := id X
 go_wp2_with fail
 refine (C6 _ B).mono ?_
 clear C6
 rintro e v6 ⟨rfl, hb⟩
 clear n0 n1 n2 n3 n4 n5 n6 n7 n8 n9 n10 n11 n12 n13 n14 n15 n16 m0 m1 m2 m3 m4 m5 m6 m7 m8 m9 m10 m11 m12 m13 m14 m15
 clear x0 x1 x2 x3 x4 x5 x6 x7 x8 x9 x10 x11 x12 x13 x14 x15 x16 y0 y1 y2 y3 y4 y5 y6 y7 y8 y9 y10 y11 y12 y13 y14 y15
 replace B := B.trans (hb.mono B.size)
 replace N := N.below hb
 replace X := X.below hb
 clear hb
 obtain ⟨n0, n1, n2, n3, n4, n5, n6, n7, n8, n9, n10, n11, n12, n13, n14, n15, n16, m0, m1, m2, m3, m4, m5, m6, m7, m8, m9, m10, m11, m12, m13, m14, m15⟩ := id N
 obtain ⟨x0, x1, x2, x3, x4, x5, x6, x7, x8, x9, x10, x11, x12, x13, x14, x15, x16, y0, y1, y2, y3, y4, y5, y6, y7, y8, y9, y10, y11, y12, y13, y14, y15⟩ := id X
 go_wp2_with fail
 clear n0 n1 n2 n3 n4 n5 n6 n7 n8 n9 n10 n11 n12 n13 n14 n15 n16 m0 m1 m2 m3 m4 m5 m6 m7 m8 m9 m10 m11 m12 m13 m14 m15
 clear x0 x1 x2 x3 x4 x5 x6 x7 x8 x9 x10 x11 x12 x13 x14 x15 x16 y0 y1 y2 y3 y4 y5 y6 y7 y8 y9 y10 y11 y12 y13 y14 y15
 go_ret
 exact ⟨rfl, B⟩
end Go.Proofs.YtddijpjgkifngaaGreat
