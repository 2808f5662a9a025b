/- HeardNow in the specification. A node, copied (the specification). The contracts of a node, told of arrays of cells. What a node knows at a count (the specification), over arrays of cells. What a refused call leaves; the life behind an event (the specification), over arrays of cells. -/
import Derived.Test.YtfhappkeipcemaaGreatM31
namespace Go.Proofs.YtfhappkeipcemaaGreat
open Go.RowKit
set_option linter.unusedVariables false
theorem own_baseI16 {w : World} {base base' s n : Nat} {T : TypeId} {v : Value} {xs : List Value} (h : w.ownsRow base' T s v n xs) (hb : base ≤ base') : w.ownsRow base T s v n xs := by
  refine ⟨h.1, ?_⟩
  rcases h.2 with q | ⟨g, cap, cur, h1, h2, h3⟩
  · exact .inl q
  · exact .inr ⟨g, cap, cur, h1, Nat.le_trans hb h2, h3⟩
end Go.Proofs.YtfhappkeipcemaaGreat
namespace Go.Proofs.YtfhappkeipcemaaGreat
open Go.RowKit
set_option linter.unusedVariables false
theorem own_formZ {w : World} {base s n' : Nat} {T : TypeId} {v : Value} {xs : List Value} (h : w.ownsRow base T s v n' xs) : ∃ a c, v = .slice a n' c := by
  rcases h.2 with ⟨he, h0⟩ | ⟨g, cap, cur, he, _⟩
  · exact ⟨none, 0, by rw [he, h0]⟩
  · exact ⟨_, cap, he⟩
theorem ownZ_set {w : World} {base s n' g : Nat} {T : TypeId} {v : Value} {xs : List Value} (h : w.ownsRow base T s v n' xs) (hg : g < base) (o : Nat) (u : Value) : (w.setCell ⟨g, o, none⟩ u).ownsRow base T s v n' xs := by
  refine ⟨h.1, ?_⟩
  rcases h.2 with q | ⟨b, cap, cur, e, hb, hg', r⟩
  · exact .inl q
  · refine .inr ⟨b, cap, cur, e, hb, ?_, r⟩
    have hne : b ≠ (⟨g, o, none⟩ : Addr).block := by show b ≠ g; omega
    rw [Go.Deep.blk_setCell_other _ _ _ _ hne]
    exact hg'
theorem RwO.froms {w : World} {a : Option Addr} {n c : Nat} {M : Nat → KT} (h : RwO w a n c 4 (MFAsk M)) : FromsO w a M n c := by
  rcases h with h | ⟨b, off, e, h⟩
  · exact .inl h
  · exact .inr ⟨_, e, h.imp id fun h => ⟨rfl, h⟩⟩
set_option maxRecDepth 100000 in
set_option maxHeartbeats 16000000 in
theorem specCopy_any (ni mo ep si : Int) (kn : Bool) (lo hi la te us : Int) (aa : Option Addr) (na ac : Nat) (AM : Nat → KT) (pa : Option Addr) (np pc : Nat) (QM : Nat → PT) (hs : Bool) (ls : Int) (ha : Option Addr) (nh hc : Nat) (HM : Nat → VT) (se : Int) (w : World) (hna : na ≤ 16) (rA : RwO w aa na ac 4 (MFAsk AM)) (hnp : np ≤ 8) (rP : RwO w pa np pc 5 (MFPeer QM)) (hnh : nh ≤ 16) (rH : RwO w ha nh hc 2 (MFIval HM)) :
    Calls Tryz.prog 68 #[.agg #[.int .i64 ni, .int .i64 mo, .int .i64 ep, .int .i64 si, .bool kn, .int .i64 lo, .int .i64 hi, .int .i64 la, .int .i64 te, .int .i64 us, .slice aa na ac, .slice pa np pc, .bool hs, .int .i64 ls, .slice ha nh hc, .int .i64 se]] w fun e w' => ∃ a1 c1 a2 c2 a3 c3, e = .returned (.agg #[.int .i64 ni, .int .i64 mo, .int .i64 ep, .int .i64 si, .bool kn, .int .i64 lo, .int .i64 hi, .int .i64 la, .int .i64 te, .int .i64 us, .slice a1 na c1, .slice a2 np c2, .bool hs, .int .i64 ls, .slice a3 nh c3, .int .i64 se]) ∧ (w'.ownsRow w.heap.size 142 4 (.slice a1 na c1) na (krow AM na) ∧ w'.ownsRow w.heap.size 171 5 (.slice a2 np c2) np ((List.range (np * 5)).map (MFPeer QM)) ∧ w'.ownsRow w.heap.size 176 2 (.slice a3 nh c3) nh ((List.range (nh * 2)).map (MFIval HM))) ∧ Below w.heap.size w w' := by
  have A0 := Below.nw w (.cells #[.int .i64 ni, .int .i64 mo, .int .i64 ep, .int .i64 si, .bool kn, .int .i64 lo, .int .i64 hi, .int .i64 la, .int .i64 te, .int .i64 us, .slice aa na ac, .slice pa np pc, .bool hs, .int .i64 ls, .slice ha nh hc, .int .i64 se] 66)
  have A1 := Below.nw (w.alloc (.cells #[.int .i64 ni, .int .i64 mo, .int .i64 ep, .int .i64 si, .bool kn, .int .i64 lo, .int .i64 hi, .int .i64 la, .int .i64 te, .int .i64 us, .slice aa na ac, .slice pa np pc, .bool hs, .int .i64 ls, .slice ha nh hc, .int .i64 se] 66)) (.cells #[.int .i64 0, .int .i64 0, .int .i64 0, .int .i64 0, .bool false, .int .i64 0, .int .i64 0, .int .i64 0, .int .i64 0, .int .i64 0, .slice none 0 0, .slice none 0 0, .bool false, .int .i64 0, .slice none 0 0, .int .i64 0] 66)
  have N := (Nx16.new w (.int .i64 ni) (.int .i64 mo) (.int .i64 ep) (.int .i64 si) (.bool kn) (.int .i64 lo) (.int .i64 hi) (.int .i64 la) (.int .i64 te) (.int .i64 us) (.slice aa na ac) (.slice pa np pc) (.bool hs) (.int .i64 ls) (.slice ha nh hc) (.int .i64 se) 66).below A1
  have R := Nx16.new (w.alloc (.cells #[.int .i64 ni, .int .i64 mo, .int .i64 ep, .int .i64 si, .bool kn, .int .i64 lo, .int .i64 hi, .int .i64 la, .int .i64 te, .int .i64 us, .slice aa na ac, .slice pa np pc, .bool hs, .int .i64 ls, .slice ha nh hc, .int .i64 se] 66)) (.int .i64 0) (.int .i64 0) (.int .i64 0) (.int .i64 0) (.bool false) (.int .i64 0) (.int .i64 0) (.int .i64 0) (.int .i64 0) (.int .i64 0) (.slice none 0 0) (.slice none 0 0) (.bool false) (.int .i64 0) (.slice none 0 0) (.int .i64 0) 66
  have B := A0.trans (A1.mono A0.size)
  have hj : w.heap.size + 2 ≤ ((w.alloc (.cells #[.int .i64 ni, .int .i64 mo, .int .i64 ep, .int .i64 si, .bool kn, .int .i64 lo, .int .i64 hi, .int .i64 la, .int .i64 te, .int .i64 us, .slice aa na ac, .slice pa np pc, .bool hs, .int .i64 ls, .slice ha nh hc, .int .i64 se] 66)).alloc (.cells #[.int .i64 0, .int .i64 0, .int .i64 0, .int .i64 0, .bool false, .int .i64 0, .int .i64 0, .int .i64 0, .int .i64 0, .int .i64 0, .slice none 0 0, .slice none 0 0, .bool false, .int .i64 0, .slice none 0 0, .int .i64 0] 66)).heap.size := by simp
  simp only [World.size_alloc] at R
  clear A0 A1
  have C1 := fun (w' : World) (h : Below w.heap.size w w') => l7Copy_opt te us aa na ac AM w' (by omega) (rA.below h).froms
  have HP : Hid (RwO w pa np pc 5 (MFPeer QM)) := rP
  have HH : Hid (RwO w ha nh hc 2 (MFIval HM)) := rH
  clear rA rP rH
  go_enter Tryz.func68, Tryz.ntmps68
  go_upto_region 1 with fail
  generalize (w.alloc (.cells #[.int .i64 ni, .int .i64 mo, .int .i64 ep, .int .i64 si, .bool kn, .int .i64 lo, .int .i64 hi, .int .i64 la, .int .i64 te, .int .i64 us, .slice aa na ac, .slice pa np pc, .bool hs, .int .i64 ls, .slice ha nh hc, .int .i64 se] 66)).alloc (.cells #[.int .i64 0, .int .i64 0, .int .i64 0, .int .i64 0, .bool false, .int .i64 0, .int .i64 0, .int .i64 0, .int .i64 0, .int .i64 0, .slice none 0 0, .slice none 0 0, .bool false, .int .i64 0, .slice none 0 0, .int .i64 0] 66) = v at *
  obtain ⟨n0, n1, n2, n3, n4, n5, n6, n7, n8, n9, n10, n11, n12, n13, n14, n15, n16, m0, m1, m2, m3, m4, m5, m6, m7, m8, m9, m10, m11, m12, m13, m14, m15⟩ := id N
  go_wp2_with fail
  refine (C1 _ B).mono ?_
  clear C1
  rintro e v1 ⟨a1, c1, rfl, OA, hb⟩
  clear n0 n1 n2 n3 n4 n5 n6 n7 n8 n9 n10 n11 n12 n13 n14 n15 n16 m0 m1 m2 m3 m4 m5 m6 m7 m8 m9 m10 m11 m12 m13 m14 m15
  replace OA := own_baseI16 OA hj
  replace B := B.trans (hb.mono B.size)
  replace N := N.below hb
  replace R := R.below hb
  replace hj := Nat.le_trans hj hb.size
  clear hb
  obtain ⟨n0, n1, n2, n3, n4, n5, n6, n7, n8, n9, n10, n11, n12, n13, n14, n15, n16, m0, m1, m2, m3, m4, m5, m6, m7, m8, m9, m10, m11, m12, m13, m14, m15⟩ := id N
  go_upto_region 2 with fail
  clear n0 n1 n2 n3 n4 n5 n6 n7 n8 n9 n10 n11 n12 n13 n14 n15 n16 m0 m1 m2 m3 m4 m5 m6 m7 m8 m9 m10 m11 m12 m13 m14 m15
  replace N := ((N.set8 (.int .i64 te)).set9 (.int .i64 us)).set10 (.slice a1 na c1)
  replace R := ((R.setO (j := w.heap.size) (by omega) 8 (.int .i64 te)).setO (j := w.heap.size) (by omega) 9 (.int .i64 us)).setO (j := w.heap.size) (by omega) 10 (.slice a1 na c1)
  replace OA := ownZ_set (ownZ_set (ownZ_set OA (show w.heap.size < w.heap.size + 2 by omega) 8 (.int .i64 te)) (show w.heap.size < w.heap.size + 2 by omega) 9 (.int .i64 us)) (show w.heap.size < w.heap.size + 2 by omega) 10 (.slice a1 na c1)
  replace B := ((B.setCell (p := ⟨w.heap.size, 8, none⟩) (Nat.le_refl _) (.int .i64 te)).setCell (p := ⟨w.heap.size, 9, none⟩) (Nat.le_refl _) (.int .i64 us)).setCell (p := ⟨w.heap.size, 10, none⟩) (Nat.le_refl _) (.slice a1 na c1)
  replace hj : w.heap.size + 2 ≤ (((v1.setCell ⟨w.heap.size, 8, none⟩ (.int .i64 te)).setCell ⟨w.heap.size, 9, none⟩ (.int .i64 us)).setCell ⟨w.heap.size, 10, none⟩ (.slice a1 na c1)).heap.size := by simpa using hj
  generalize ((v1.setCell ⟨w.heap.size, 8, none⟩ (.int .i64 te)).setCell ⟨w.heap.size, 9, none⟩ (.int .i64 us)).setCell ⟨w.heap.size, 10, none⟩ (.slice a1 na c1) = v2 at *
  have A2 := Below.nw v2 (.cells #[] 171)
  have OW := made_peerZ v2
  have hsz : v2.heap.size ≤ (v2.alloc (.cells #[] 171)).heap.size := A2.size
  have NA := N.below A2
  obtain ⟨n0, n1, n2, n3, n4, n5, n6, n7, n8, n9, n10, n11, n12, n13, n14, n15, n16, m0, m1, m2, m3, m4, m5, m6, m7, m8, m9, m10, m11, m12, m13, m14, m15⟩ := id NA
  go_upto_region 3 with (at_builtin; refine copy_peers rfl _ _ rfl v2.heap.size QM _ rfl OW _ np pc rfl ((HP.out.below B).below A2) (by omega) hsz ?_; intro v' w9 O9 hg9; (have BB := A2.trans (grown_belowK OW hg9 hsz)); (obtain ⟨a2, c2, rfl⟩ := own_formZ O9); (clear NA n0 n1 n2 n3 n4 n5 n6 n7 n8 n9 n10 n11 n12 n13 n14 n15 n16 m0 m1 m2 m3 m4 m5 m6 m7 m8 m9 m10 m11 m12 m13 m14 m15); (have N9 := N.below BB); (obtain ⟨n0, n1, n2, n3, n4, n5, n6, n7, n8, n9, n10, n11, n12, n13, n14, n15, n16, m0, m1, m2, m3, m4, m5, m6, m7, m8, m9, m10, m11, m12, m13, m14, m15⟩ := id N9))
  clear n0 n1 n2 n3 n4 n5 n6 n7 n8 n9 n10 n11 n12 n13 n14 n15 n16 m0 m1 m2 m3 m4 m5 m6 m7 m8 m9 m10 m11 m12 m13 m14 m15
  replace OA := ownZ_set (own_belK' OA BB) (show w.heap.size < w.heap.size + 2 by omega) 11 (.slice a2 np c2)
  have OP := ownZ_set (own_baseI16 O9 hj) (show w.heap.size < w.heap.size + 2 by omega) 11 (.slice a2 np c2)
  replace N := N9.set11 (.slice a2 np c2)
  replace R := (R.below BB).setO (j := w.heap.size) (by omega) 11 (.slice a2 np c2)
  replace B := (B.trans (BB.mono B.size)).setCell (p := ⟨w.heap.size, 11, none⟩) (Nat.le_refl _) (.slice a2 np c2)
  replace hj : w.heap.size + 2 ≤ (w9.setCell ⟨w.heap.size, 11, none⟩ (.slice a2 np c2)).heap.size := by simpa using Nat.le_trans hj BB.size
  clear A2 OW hsz BB O9 hg9 N9 HP
  generalize w9.setCell ⟨w.heap.size, 11, none⟩ (.slice a2 np c2) = v3 at *
  have A2 := Below.nw v3 (.cells #[] 176)
  have OW := made_heard v3
  have hsz : v3.heap.size ≤ (v3.alloc (.cells #[] 176)).heap.size := A2.size
  have NA := N.below A2
  obtain ⟨n0, n1, n2, n3, n4, n5, n6, n7, n8, n9, n10, n11, n12, n13, n14, n15, n16, m0, m1, m2, m3, m4, m5, m6, m7, m8, m9, m10, m11, m12, m13, m14, m15⟩ := id NA
  go_upto_region 4 with (at_builtin; refine copy_heards rfl _ _ rfl v3.heap.size HM _ rfl OW _ nh hc rfl ((HH.out.below B).below A2) (by omega) hsz ?_; intro v' w10 O9 hg9; (have BB := A2.trans (grown_belowK OW hg9 hsz)); (obtain ⟨a3, c3, rfl⟩ := own_formZ O9); (clear NA n0 n1 n2 n3 n4 n5 n6 n7 n8 n9 n10 n11 n12 n13 n14 n15 n16 m0 m1 m2 m3 m4 m5 m6 m7 m8 m9 m10 m11 m12 m13 m14 m15); (have N9 := N.below BB); (obtain ⟨n0, n1, n2, n3, n4, n5, n6, n7, n8, n9, n10, n11, n12, n13, n14, n15, n16, m0, m1, m2, m3, m4, m5, m6, m7, m8, m9, m10, m11, m12, m13, m14, m15⟩ := id N9))
  clear n0 n1 n2 n3 n4 n5 n6 n7 n8 n9 n10 n11 n12 n13 n14 n15 n16 m0 m1 m2 m3 m4 m5 m6 m7 m8 m9 m10 m11 m12 m13 m14 m15
  replace OA := ownZ_set (own_belK' OA BB) (show w.heap.size < w.heap.size + 2 by omega) 14 (.slice a3 nh c3)
  replace OP := ownZ_set (own_belK' OP BB) (show w.heap.size < w.heap.size + 2 by omega) 14 (.slice a3 nh c3)
  have OH := ownZ_set (own_baseI16 O9 hj) (show w.heap.size < w.heap.size + 2 by omega) 14 (.slice a3 nh c3)
  replace N := N9.set14 (.slice a3 nh c3)
  replace R := (R.below BB).setO (j := w.heap.size) (by omega) 14 (.slice a3 nh c3)
  replace B := (B.trans (BB.mono B.size)).setCell (p := ⟨w.heap.size, 14, none⟩) (Nat.le_refl _) (.slice a3 nh c3)
  clear A2 OW hsz BB O9 hg9 N9 HH hj
  generalize w10.setCell ⟨w.heap.size, 14, none⟩ (.slice a3 nh c3) = v6 at *
  have HOA : Hid ((((((((((((((((((v6).setCell ⟨w.heap.size + 1, 0, none⟩ (.int .i64 ni)).setCell ⟨w.heap.size + 1, 1, none⟩ (.int .i64 mo)).setCell ⟨w.heap.size + 1, 2, none⟩ (.int .i64 ep)).setCell ⟨w.heap.size + 1, 3, none⟩ (.int .i64 si)).setCell ⟨w.heap.size + 1, 4, none⟩ (.bool kn)).setCell ⟨w.heap.size + 1, 5, none⟩ (.int .i64 lo)).setCell ⟨w.heap.size + 1, 6, none⟩ (.int .i64 hi)).setCell ⟨w.heap.size + 1, 7, none⟩ (.int .i64 la)).setCell ⟨w.heap.size + 1, 8, none⟩ (.int .i64 te)).setCell ⟨w.heap.size + 1, 9, none⟩ (.int .i64 us)).setCell ⟨w.heap.size + 1, 10, none⟩ (.slice a1 na c1)).setCell ⟨w.heap.size + 1, 11, none⟩ (.slice a2 np c2)).setCell ⟨w.heap.size + 1, 12, none⟩ (.bool hs)).setCell ⟨w.heap.size + 1, 13, none⟩ (.int .i64 ls)).setCell ⟨w.heap.size + 1, 14, none⟩ (.slice a3 nh c3)).setCell ⟨w.heap.size + 1, 15, none⟩ (.int .i64 se)).ownsRow (w.heap.size + 2) 142 4 (.slice a1 na c1) na (krow AM na)) := (ownZ_set (ownZ_set (ownZ_set (ownZ_set (ownZ_set (ownZ_set (ownZ_set (ownZ_set (ownZ_set (ownZ_set (ownZ_set (ownZ_set (ownZ_set (ownZ_set (ownZ_set (ownZ_set OA (show w.heap.size + 1 < w.heap.size + 2 by omega) 0 (.int .i64 ni)) (show w.heap.size + 1 < w.heap.size + 2 by omega) 1 (.int .i64 mo)) (show w.heap.size + 1 < w.heap.size + 2 by omega) 2 (.int .i64 ep)) (show w.heap.size + 1 < w.heap.size + 2 by omega) 3 (.int .i64 si)) (show w.heap.size + 1 < w.heap.size + 2 by omega) 4 (.bool kn)) (show w.heap.size + 1 < w.heap.size + 2 by omega) 5 (.int .i64 lo)) (show w.heap.size + 1 < w.heap.size + 2 by omega) 6 (.int .i64 hi)) (show w.heap.size + 1 < w.heap.size + 2 by omega) 7 (.int .i64 la)) (show w.heap.size + 1 < w.heap.size + 2 by omega) 8 (.int .i64 te)) (show w.heap.size + 1 < w.heap.size + 2 by omega) 9 (.int .i64 us)) (show w.heap.size + 1 < w.heap.size + 2 by omega) 10 (.slice a1 na c1)) (show w.heap.size + 1 < w.heap.size + 2 by omega) 11 (.slice a2 np c2)) (show w.heap.size + 1 < w.heap.size + 2 by omega) 12 (.bool hs)) (show w.heap.size + 1 < w.heap.size + 2 by omega) 13 (.int .i64 ls)) (show w.heap.size + 1 < w.heap.size + 2 by omega) 14 (.slice a3 nh c3)) (show w.heap.size + 1 < w.heap.size + 2 by omega) 15 (.int .i64 se))
  have HOP : Hid ((((((((((((((((((v6).setCell ⟨w.heap.size + 1, 0, none⟩ (.int .i64 ni)).setCell ⟨w.heap.size + 1, 1, none⟩ (.int .i64 mo)).setCell ⟨w.heap.size + 1, 2, none⟩ (.int .i64 ep)).setCell ⟨w.heap.size + 1, 3, none⟩ (.int .i64 si)).setCell ⟨w.heap.size + 1, 4, none⟩ (.bool kn)).setCell ⟨w.heap.size + 1, 5, none⟩ (.int .i64 lo)).setCell ⟨w.heap.size + 1, 6, none⟩ (.int .i64 hi)).setCell ⟨w.heap.size + 1, 7, none⟩ (.int .i64 la)).setCell ⟨w.heap.size + 1, 8, none⟩ (.int .i64 te)).setCell ⟨w.heap.size + 1, 9, none⟩ (.int .i64 us)).setCell ⟨w.heap.size + 1, 10, none⟩ (.slice a1 na c1)).setCell ⟨w.heap.size + 1, 11, none⟩ (.slice a2 np c2)).setCell ⟨w.heap.size + 1, 12, none⟩ (.bool hs)).setCell ⟨w.heap.size + 1, 13, none⟩ (.int .i64 ls)).setCell ⟨w.heap.size + 1, 14, none⟩ (.slice a3 nh c3)).setCell ⟨w.heap.size + 1, 15, none⟩ (.int .i64 se)).ownsRow (w.heap.size + 2) 171 5 (.slice a2 np c2) np ((List.range (np * 5)).map (MFPeer QM))) := (ownZ_set (ownZ_set (ownZ_set (ownZ_set (ownZ_set (ownZ_set (ownZ_set (ownZ_set (ownZ_set (ownZ_set (ownZ_set (ownZ_set (ownZ_set (ownZ_set (ownZ_set (ownZ_set OP (show w.heap.size + 1 < w.heap.size + 2 by omega) 0 (.int .i64 ni)) (show w.heap.size + 1 < w.heap.size + 2 by omega) 1 (.int .i64 mo)) (show w.heap.size + 1 < w.heap.size + 2 by omega) 2 (.int .i64 ep)) (show w.heap.size + 1 < w.heap.size + 2 by omega) 3 (.int .i64 si)) (show w.heap.size + 1 < w.heap.size + 2 by omega) 4 (.bool kn)) (show w.heap.size + 1 < w.heap.size + 2 by omega) 5 (.int .i64 lo)) (show w.heap.size + 1 < w.heap.size + 2 by omega) 6 (.int .i64 hi)) (show w.heap.size + 1 < w.heap.size + 2 by omega) 7 (.int .i64 la)) (show w.heap.size + 1 < w.heap.size + 2 by omega) 8 (.int .i64 te)) (show w.heap.size + 1 < w.heap.size + 2 by omega) 9 (.int .i64 us)) (show w.heap.size + 1 < w.heap.size + 2 by omega) 10 (.slice a1 na c1)) (show w.heap.size + 1 < w.heap.size + 2 by omega) 11 (.slice a2 np c2)) (show w.heap.size + 1 < w.heap.size + 2 by omega) 12 (.bool hs)) (show w.heap.size + 1 < w.heap.size + 2 by omega) 13 (.int .i64 ls)) (show w.heap.size + 1 < w.heap.size + 2 by omega) 14 (.slice a3 nh c3)) (show w.heap.size + 1 < w.heap.size + 2 by omega) 15 (.int .i64 se))
  have HOH : Hid ((((((((((((((((((v6).setCell ⟨w.heap.size + 1, 0, none⟩ (.int .i64 ni)).setCell ⟨w.heap.size + 1, 1, none⟩ (.int .i64 mo)).setCell ⟨w.heap.size + 1, 2, none⟩ (.int .i64 ep)).setCell ⟨w.heap.size + 1, 3, none⟩ (.int .i64 si)).setCell ⟨w.heap.size + 1, 4, none⟩ (.bool kn)).setCell ⟨w.heap.size + 1, 5, none⟩ (.int .i64 lo)).setCell ⟨w.heap.size + 1, 6, none⟩ (.int .i64 hi)).setCell ⟨w.heap.size + 1, 7, none⟩ (.int .i64 la)).setCell ⟨w.heap.size + 1, 8, none⟩ (.int .i64 te)).setCell ⟨w.heap.size + 1, 9, none⟩ (.int .i64 us)).setCell ⟨w.heap.size + 1, 10, none⟩ (.slice a1 na c1)).setCell ⟨w.heap.size + 1, 11, none⟩ (.slice a2 np c2)).setCell ⟨w.heap.size + 1, 12, none⟩ (.bool hs)).setCell ⟨w.heap.size + 1, 13, none⟩ (.int .i64 ls)).setCell ⟨w.heap.size + 1, 14, none⟩ (.slice a3 nh c3)).setCell ⟨w.heap.size + 1, 15, none⟩ (.int .i64 se)).ownsRow (w.heap.size + 2) 176 2 (.slice a3 nh c3) nh ((List.range (nh * 2)).map (MFIval HM))) := (ownZ_set (ownZ_set (ownZ_set (ownZ_set (ownZ_set (ownZ_set (ownZ_set (ownZ_set (ownZ_set (ownZ_set (ownZ_set (ownZ_set (ownZ_set (ownZ_set (ownZ_set (ownZ_set OH (show w.heap.size + 1 < w.heap.size + 2 by omega) 0 (.int .i64 ni)) (show w.heap.size + 1 < w.heap.size + 2 by omega) 1 (.int .i64 mo)) (show w.heap.size + 1 < w.heap.size + 2 by omega) 2 (.int .i64 ep)) (show w.heap.size + 1 < w.heap.size + 2 by omega) 3 (.int .i64 si)) (show w.heap.size + 1 < w.heap.size + 2 by omega) 4 (.bool kn)) (show w.heap.size + 1 < w.heap.size + 2 by omega) 5 (.int .i64 lo)) (show w.heap.size + 1 < w.heap.size + 2 by omega) 6 (.int .i64 hi)) (show w.heap.size + 1 < w.heap.size + 2 by omega) 7 (.int .i64 la)) (show w.heap.size + 1 < w.heap.size + 2 by omega) 8 (.int .i64 te)) (show w.heap.size + 1 < w.heap.size + 2 by omega) 9 (.int .i64 us)) (show w.heap.size + 1 < w.heap.size + 2 by omega) 10 (.slice a1 na c1)) (show w.heap.size + 1 < w.heap.size + 2 by omega) 11 (.slice a2 np c2)) (show w.heap.size + 1 < w.heap.size + 2 by omega) 12 (.bool hs)) (show w.heap.size + 1 < w.heap.size + 2 by omega) 13 (.int .i64 ls)) (show w.heap.size + 1 < w.heap.size + 2 by omega) 14 (.slice a3 nh c3)) (show w.heap.size + 1 < w.heap.size + 2 by omega) 15 (.int .i64 se))
  have R1 := ((((((((((((((((R.set0 (.int .i64 ni)).set1 (.int .i64 mo)).set2 (.int .i64 ep)).set3 (.int .i64 si)).set4 (.bool kn)).set5 (.int .i64 lo)).set6 (.int .i64 hi)).set7 (.int .i64 la)).set8 (.int .i64 te)).set9 (.int .i64 us)).set10 (.slice a1 na c1)).set11 (.slice a2 np c2)).set12 (.bool hs)).set13 (.int .i64 ls)).set14 (.slice a3 nh c3)).set15 (.int .i64 se))
  have B1 := ((((((((((((((((B.setCell (p := ⟨w.heap.size + 1, 0, none⟩) (by simp) (.int .i64 ni)).setCell (p := ⟨w.heap.size + 1, 1, none⟩) (by simp) (.int .i64 mo)).setCell (p := ⟨w.heap.size + 1, 2, none⟩) (by simp) (.int .i64 ep)).setCell (p := ⟨w.heap.size + 1, 3, none⟩) (by simp) (.int .i64 si)).setCell (p := ⟨w.heap.size + 1, 4, none⟩) (by simp) (.bool kn)).setCell (p := ⟨w.heap.size + 1, 5, none⟩) (by simp) (.int .i64 lo)).setCell (p := ⟨w.heap.size + 1, 6, none⟩) (by simp) (.int .i64 hi)).setCell (p := ⟨w.heap.size + 1, 7, none⟩) (by simp) (.int .i64 la)).setCell (p := ⟨w.heap.size + 1, 8, none⟩) (by simp) (.int .i64 te)).setCell (p := ⟨w.heap.size + 1, 9, none⟩) (by simp) (.int .i64 us)).setCell (p := ⟨w.heap.size + 1, 10, none⟩) (by simp) (.slice a1 na c1)).setCell (p := ⟨w.heap.size + 1, 11, none⟩) (by simp) (.slice a2 np c2)).setCell (p := ⟨w.heap.size + 1, 12, none⟩) (by simp) (.bool hs)).setCell (p := ⟨w.heap.size + 1, 13, none⟩) (by simp) (.int .i64 ls)).setCell (p := ⟨w.heap.size + 1, 14, none⟩) (by simp) (.slice a3 nh c3)).setCell (p := ⟨w.heap.size + 1, 15, none⟩) (by simp) (.int .i64 se))
  clear OA OP OH
  obtain ⟨n0, n1, n2, n3, n4, n5, n6, n7, n8, n9, n10, n11, n12, n13, n14, n15, n16, m0, m1, m2, m3, m4, m5, m6, m7, m8, m9, m10, m11, m12, m13, m14, m15⟩ := id N
  obtain ⟨p0, p1, p2, p3, p4, p5, p6, p7, p8, p9, p10, p11, p12, p13, p14, p15, p16, q0, q1, q2, q3, q4, q5, q6, q7, q8, q9, q10, q11, q12, q13, q14, q15⟩ := id R
  go_wp2_with fail
  clear n0 n1 n2 n3 n4 n5 n6 n7 n8 n9 n10 n11 n12 n13 n14 n15 n16 m0 m1 m2 m3 m4 m5 m6 m7 m8 m9 m10 m11 m12 m13 m14 m15
  clear p0 p1 p2 p3 p4 p5 p6 p7 p8 p9 p10 p11 p12 p13 p14 p15 p16 q0 q1 q2 q3 q4 q5 q6 q7 q8 q9 q10 q11 q12 q13 q14 q15 R N B
  generalize ((((((((((((((((v6).setCell ⟨w.heap.size + 1, 0, none⟩ (.int .i64 ni)).setCell ⟨w.heap.size + 1, 1, none⟩ (.int .i64 mo)).setCell ⟨w.heap.size + 1, 2, none⟩ (.int .i64 ep)).setCell ⟨w.heap.size + 1, 3, none⟩ (.int .i64 si)).setCell ⟨w.heap.size + 1, 4, none⟩ (.bool kn)).setCell ⟨w.heap.size + 1, 5, none⟩ (.int .i64 lo)).setCell ⟨w.heap.size + 1, 6, none⟩ (.int .i64 hi)).setCell ⟨w.heap.size + 1, 7, none⟩ (.int .i64 la)).setCell ⟨w.heap.size + 1, 8, none⟩ (.int .i64 te)).setCell ⟨w.heap.size + 1, 9, none⟩ (.int .i64 us)).setCell ⟨w.heap.size + 1, 10, none⟩ (.slice a1 na c1)).setCell ⟨w.heap.size + 1, 11, none⟩ (.slice a2 np c2)).setCell ⟨w.heap.size + 1, 12, none⟩ (.bool hs)).setCell ⟨w.heap.size + 1, 13, none⟩ (.int .i64 ls)).setCell ⟨w.heap.size + 1, 14, none⟩ (.slice a3 nh c3)).setCell ⟨w.heap.size + 1, 15, none⟩ (.int .i64 se) = v7 at *
  obtain ⟨p0, p1, p2, p3, p4, p5, p6, p7, p8, p9, p10, p11, p12, p13, p14, p15, p16, q0, q1, q2, q3, q4, q5, q6, q7, q8, q9, q10, q11, q12, q13, q14, q15⟩ := id R1
  exact bodyPost_ret (v := (.agg #[.int .i64 ni, .int .i64 mo, .int .i64 ep, .int .i64 si, .bool kn, .int .i64 lo, .int .i64 hi, .int .i64 la, .int .i64 te, .int .i64 us, .slice a1 na c1, .slice a2 np c2, .bool hs, .int .i64 ls, .slice a3 nh c3, .int .i64 se])) (by simp (maxDischargeDepth := 6) [results, Tryz.results68, go_sem, *]) rfl ⟨a1, c1, a2, c2, a3, c3, rfl, ⟨own_baseI16 HOA.out (by omega), own_baseI16 HOP.out (by omega), own_baseI16 HOH.out (by omega)⟩, B1⟩
set_option maxRecDepth 100000 in
set_option maxHeartbeats 16000000 in
theorem specBack_bad (ni mo ep si : Int) (kn : Bool) (lo hi la te us : Int) (aa : Option Addr) (na ac : Nat) (AM : Nat → KT) (pa : Option Addr) (np pc : Nat) (QM : Nat → PT) (hs : Bool) (ls : Int) (ha : Option Addr) (nh hc : Nat) (HM : Nat → VT) (se : Int) (w : World) :
    Calls Tryz.prog 66 #[.agg #[.int .i64 ni, .int .i64 mo, .int .i64 ep, .int .i64 si, .bool kn, .int .i64 lo, .int .i64 hi, .int .i64 la, .int .i64 te, .int .i64 us, .slice aa na ac, .slice pa np pc, .bool hs, .int .i64 ls, .slice ha nh hc, .int .i64 se], .int .i64 1] w fun e w' => e = .returned (.agg #[.int .i64 0, .int .i64 0, .int .i64 0, .int .i64 0, .bool false, .int .i64 0, .int .i64 0, .int .i64 0, .int .i64 0, .int .i64 0, .slice none 0 0, .slice none 0 0, .bool false, .int .i64 0, .slice none 0 0, .int .i64 0]) ∧ Below w.heap.size w w' := by
  have A0 := Below.nw w (.cells #[.int .i64 ni, .int .i64 mo, .int .i64 ep, .int .i64 si, .bool kn, .int .i64 lo, .int .i64 hi, .int .i64 la, .int .i64 te, .int .i64 us, .slice aa na ac, .slice pa np pc, .bool hs, .int .i64 ls, .slice ha nh hc, .int .i64 se] 66)
  have A1 := Below.nw (w.alloc (.cells #[.int .i64 ni, .int .i64 mo, .int .i64 ep, .int .i64 si, .bool kn, .int .i64 lo, .int .i64 hi, .int .i64 la, .int .i64 te, .int .i64 us, .slice aa na ac, .slice pa np pc, .bool hs, .int .i64 ls, .slice ha nh hc, .int .i64 se] 66)) (.cells #[.int .i64 0, .int .i64 0, .int .i64 0, .int .i64 0, .bool false, .int .i64 0, .int .i64 0, .int .i64 0, .int .i64 0, .int .i64 0, .slice none 0 0, .slice none 0 0, .bool false, .int .i64 0, .slice none 0 0, .int .i64 0] 66)
  have R := Nx16.new (w.alloc (.cells #[.int .i64 ni, .int .i64 mo, .int .i64 ep, .int .i64 si, .bool kn, .int .i64 lo, .int .i64 hi, .int .i64 la, .int .i64 te, .int .i64 us, .slice aa na ac, .slice pa np pc, .bool hs, .int .i64 ls, .slice ha nh hc, .int .i64 se] 66)) (.int .i64 0) (.int .i64 0) (.int .i64 0) (.int .i64 0) (.bool false) (.int .i64 0) (.int .i64 0) (.int .i64 0) (.int .i64 0) (.int .i64 0) (.slice none 0 0) (.slice none 0 0) (.bool false) (.int .i64 0) (.slice none 0 0) (.int .i64 0) 66
  have B := A0.trans (A1.mono A0.size)
  simp only [World.size_alloc] at R
  clear A0 A1
  go_enter Tryz.func66, Tryz.ntmps66
  go_wp2_with fail
  generalize (w.alloc (.cells #[.int .i64 ni, .int .i64 mo, .int .i64 ep, .int .i64 si, .bool kn, .int .i64 lo, .int .i64 hi, .int .i64 la, .int .i64 te, .int .i64 us, .slice aa na ac, .slice pa np pc, .bool hs, .int .i64 ls, .slice ha nh hc, .int .i64 se] 66)).alloc (.cells #[.int .i64 0, .int .i64 0, .int .i64 0, .int .i64 0, .bool false, .int .i64 0, .int .i64 0, .int .i64 0, .int .i64 0, .int .i64 0, .slice none 0 0, .slice none 0 0, .bool false, .int .i64 0, .slice none 0 0, .int .i64 0] 66) = v at *
  obtain ⟨p0, p1, p2, p3, p4, p5, p6, p7, p8, p9, p10, p11, p12, p13, p14, p15, p16, q0, q1, q2, q3, q4, q5, q6, q7, q8, q9, q10, q11, q12, q13, q14, q15⟩ := id R
  exact bodyPost_ret (v := (.agg #[.int .i64 0, .int .i64 0, .int .i64 0, .int .i64 0, .bool false, .int .i64 0, .int .i64 0, .int .i64 0, .int .i64 0, .int .i64 0, .slice none 0 0, .slice none 0 0, .bool false, .int .i64 0, .slice none 0 0, .int .i64 0])) (by simp (maxDischargeDepth := 6) [results, Tryz.results66, go_sem, *]) rfl ⟨rfl, B⟩
set_option maxRecDepth 100000 in
set_option maxHeartbeats 16000000 in
theorem specBack_any (ni mo ep si : Int) (kn : Bool) (lo hi la te us : Int) (aa : Option Addr) (na ac : Nat) (AM : Nat → KT) (pa : Option Addr) (np pc : Nat) (QM : Nat → PT) (hs : Bool) (ls : Int) (ha : Option Addr) (nh hc : Nat) (HM : Nat → VT) (se : Int) (cd : Int) (w : World) (hcd : cd ≠ 1) (hna : na ≤ 16) (rA : RwO w aa na ac 4 (MFAsk AM)) (hnp : np ≤ 8) (rP : RwO w pa np pc 5 (MFPeer QM)) (hnh : nh ≤ 16) (rH : RwO w ha nh hc 2 (MFIval HM)) :
    Calls Tryz.prog 66 #[.agg #[.int .i64 ni, .int .i64 mo, .int .i64 ep, .int .i64 si, .bool kn, .int .i64 lo, .int .i64 hi, .int .i64 la, .int .i64 te, .int .i64 us, .slice aa na ac, .slice pa np pc, .bool hs, .int .i64 ls, .slice ha nh hc, .int .i64 se], .int .i64 cd] w fun e w' => ∃ a1 c1 a2 c2 a3 c3, e = .returned (.agg #[.int .i64 ni, .int .i64 mo, .int .i64 ep, .int .i64 si, .bool kn, .int .i64 lo, .int .i64 hi, .int .i64 la, .int .i64 te, .int .i64 us, .slice a1 na c1, .slice a2 np c2, .bool hs, .int .i64 ls, .slice a3 nh c3, .int .i64 se]) ∧ (w'.ownsRow w.heap.size 142 4 (.slice a1 na c1) na (krow AM na) ∧ w'.ownsRow w.heap.size 171 5 (.slice a2 np c2) np ((List.range (np * 5)).map (MFPeer QM)) ∧ w'.ownsRow w.heap.size 176 2 (.slice a3 nh c3) nh ((List.range (nh * 2)).map (MFIval HM))) ∧ Below w.heap.size w w' := by
  have A0 := Below.nw w (.cells #[.int .i64 ni, .int .i64 mo, .int .i64 ep, .int .i64 si, .bool kn, .int .i64 lo, .int .i64 hi, .int .i64 la, .int .i64 te, .int .i64 us, .slice aa na ac, .slice pa np pc, .bool hs, .int .i64 ls, .slice ha nh hc, .int .i64 se] 66)
  have A1 := Below.nw (w.alloc (.cells #[.int .i64 ni, .int .i64 mo, .int .i64 ep, .int .i64 si, .bool kn, .int .i64 lo, .int .i64 hi, .int .i64 la, .int .i64 te, .int .i64 us, .slice aa na ac, .slice pa np pc, .bool hs, .int .i64 ls, .slice ha nh hc, .int .i64 se] 66)) (.cells #[.int .i64 0, .int .i64 0, .int .i64 0, .int .i64 0, .bool false, .int .i64 0, .int .i64 0, .int .i64 0, .int .i64 0, .int .i64 0, .slice none 0 0, .slice none 0 0, .bool false, .int .i64 0, .slice none 0 0, .int .i64 0] 66)
  have N := (Nx16.new w (.int .i64 ni) (.int .i64 mo) (.int .i64 ep) (.int .i64 si) (.bool kn) (.int .i64 lo) (.int .i64 hi) (.int .i64 la) (.int .i64 te) (.int .i64 us) (.slice aa na ac) (.slice pa np pc) (.bool hs) (.int .i64 ls) (.slice ha nh hc) (.int .i64 se) 66).below A1
  have R := Nx16.new (w.alloc (.cells #[.int .i64 ni, .int .i64 mo, .int .i64 ep, .int .i64 si, .bool kn, .int .i64 lo, .int .i64 hi, .int .i64 la, .int .i64 te, .int .i64 us, .slice aa na ac, .slice pa np pc, .bool hs, .int .i64 ls, .slice ha nh hc, .int .i64 se] 66)) (.int .i64 0) (.int .i64 0) (.int .i64 0) (.int .i64 0) (.bool false) (.int .i64 0) (.int .i64 0) (.int .i64 0) (.int .i64 0) (.int .i64 0) (.slice none 0 0) (.slice none 0 0) (.bool false) (.int .i64 0) (.slice none 0 0) (.int .i64 0) 66
  have B := A0.trans (A1.mono A0.size)
  have hj : w.heap.size + 2 ≤ ((w.alloc (.cells #[.int .i64 ni, .int .i64 mo, .int .i64 ep, .int .i64 si, .bool kn, .int .i64 lo, .int .i64 hi, .int .i64 la, .int .i64 te, .int .i64 us, .slice aa na ac, .slice pa np pc, .bool hs, .int .i64 ls, .slice ha nh hc, .int .i64 se] 66)).alloc (.cells #[.int .i64 0, .int .i64 0, .int .i64 0, .int .i64 0, .bool false, .int .i64 0, .int .i64 0, .int .i64 0, .int .i64 0, .int .i64 0, .slice none 0 0, .slice none 0 0, .bool false, .int .i64 0, .slice none 0 0, .int .i64 0] 66)).heap.size := by simp
  simp only [World.size_alloc] at R
  clear A0 A1
  have C1 := fun (w' : World) (h : Below w.heap.size w w') => specCopy_any ni mo ep si kn lo hi la te us aa na ac AM pa np pc QM hs ls ha nh hc HM se w' hna (rA.below h) hnp (rP.below h) hnh (rH.below h)
  have hq : (cd == 1) = false := by rw [beq_eq_false_iff_ne]; exact hcd
  clear rA rP rH hcd
  go_enter Tryz.func66, Tryz.ntmps66
  go_upto_region 1 with fail
  generalize (w.alloc (.cells #[.int .i64 ni, .int .i64 mo, .int .i64 ep, .int .i64 si, .bool kn, .int .i64 lo, .int .i64 hi, .int .i64 la, .int .i64 te, .int .i64 us, .slice aa na ac, .slice pa np pc, .bool hs, .int .i64 ls, .slice ha nh hc, .int .i64 se] 66)).alloc (.cells #[.int .i64 0, .int .i64 0, .int .i64 0, .int .i64 0, .bool false, .int .i64 0, .int .i64 0, .int .i64 0, .int .i64 0, .int .i64 0, .slice none 0 0, .slice none 0 0, .bool false, .int .i64 0, .slice none 0 0, .int .i64 0] 66) = v at *
  obtain ⟨n0, n1, n2, n3, n4, n5, n6, n7, n8, n9, n10, n11, n12, n13, n14, n15, n16, m0, m1, m2, m3, m4, m5, m6, m7, m8, m9, m10, m11, m12, m13, m14, m15⟩ := id N
  go_wp2_with fail
  refine (C1 _ B).mono ?_
  clear C1
  rintro e v6 ⟨a1, c1, a2, c2, a3, c3, rfl, ⟨OA, OP, OH⟩, hb⟩
  clear n0 n1 n2 n3 n4 n5 n6 n7 n8 n9 n10 n11 n12 n13 n14 n15 n16 m0 m1 m2 m3 m4 m5 m6 m7 m8 m9 m10 m11 m12 m13 m14 m15
  replace OA := own_baseI16 OA hj
  replace OP := own_baseI16 OP hj
  replace OH := own_baseI16 OH hj
  replace B := B.trans (hb.mono B.size)
  replace R := R.below hb
  clear hb N hj
  have HOA : Hid ((((((((((((((((((v6).setCell ⟨w.heap.size + 1, 0, none⟩ (.int .i64 ni)).setCell ⟨w.heap.size + 1, 1, none⟩ (.int .i64 mo)).setCell ⟨w.heap.size + 1, 2, none⟩ (.int .i64 ep)).setCell ⟨w.heap.size + 1, 3, none⟩ (.int .i64 si)).setCell ⟨w.heap.size + 1, 4, none⟩ (.bool kn)).setCell ⟨w.heap.size + 1, 5, none⟩ (.int .i64 lo)).setCell ⟨w.heap.size + 1, 6, none⟩ (.int .i64 hi)).setCell ⟨w.heap.size + 1, 7, none⟩ (.int .i64 la)).setCell ⟨w.heap.size + 1, 8, none⟩ (.int .i64 te)).setCell ⟨w.heap.size + 1, 9, none⟩ (.int .i64 us)).setCell ⟨w.heap.size + 1, 10, none⟩ (.slice a1 na c1)).setCell ⟨w.heap.size + 1, 11, none⟩ (.slice a2 np c2)).setCell ⟨w.heap.size + 1, 12, none⟩ (.bool hs)).setCell ⟨w.heap.size + 1, 13, none⟩ (.int .i64 ls)).setCell ⟨w.heap.size + 1, 14, none⟩ (.slice a3 nh c3)).setCell ⟨w.heap.size + 1, 15, none⟩ (.int .i64 se)).ownsRow (w.heap.size + 2) 142 4 (.slice a1 na c1) na (krow AM na)) := (ownZ_set (ownZ_set (ownZ_set (ownZ_set (ownZ_set (ownZ_set (ownZ_set (ownZ_set (ownZ_set (ownZ_set (ownZ_set (ownZ_set (ownZ_set (ownZ_set (ownZ_set (ownZ_set OA (show w.heap.size + 1 < w.heap.size + 2 by omega) 0 (.int .i64 ni)) (show w.heap.size + 1 < w.heap.size + 2 by omega) 1 (.int .i64 mo)) (show w.heap.size + 1 < w.heap.size + 2 by omega) 2 (.int .i64 ep)) (show w.heap.size + 1 < w.heap.size + 2 by omega) 3 (.int .i64 si)) (show w.heap.size + 1 < w.heap.size + 2 by omega) 4 (.bool kn)) (show w.heap.size + 1 < w.heap.size + 2 by omega) 5 (.int .i64 lo)) (show w.heap.size + 1 < w.heap.size + 2 by omega) 6 (.int .i64 hi)) (show w.heap.size + 1 < w.heap.size + 2 by omega) 7 (.int .i64 la)) (show w.heap.size + 1 < w.heap.size + 2 by omega) 8 (.int .i64 te)) (show w.heap.size + 1 < w.heap.size + 2 by omega) 9 (.int .i64 us)) (show w.heap.size + 1 < w.heap.size + 2 by omega) 10 (.slice a1 na c1)) (show w.heap.size + 1 < w.heap.size + 2 by omega) 11 (.slice a2 np c2)) (show w.heap.size + 1 < w.heap.size + 2 by omega) 12 (.bool hs)) (show w.heap.size + 1 < w.heap.size + 2 by omega) 13 (.int .i64 ls)) (show w.heap.size + 1 < w.heap.size + 2 by omega) 14 (.slice a3 nh c3)) (show w.heap.size + 1 < w.heap.size + 2 by omega) 15 (.int .i64 se))
  have HOP : Hid ((((((((((((((((((v6).setCell ⟨w.heap.size + 1, 0, none⟩ (.int .i64 ni)).setCell ⟨w.heap.size + 1, 1, none⟩ (.int .i64 mo)).setCell ⟨w.heap.size + 1, 2, none⟩ (.int .i64 ep)).setCell ⟨w.heap.size + 1, 3, none⟩ (.int .i64 si)).setCell ⟨w.heap.size + 1, 4, none⟩ (.bool kn)).setCell ⟨w.heap.size + 1, 5, none⟩ (.int .i64 lo)).setCell ⟨w.heap.size + 1, 6, none⟩ (.int .i64 hi)).setCell ⟨w.heap.size + 1, 7, none⟩ (.int .i64 la)).setCell ⟨w.heap.size + 1, 8, none⟩ (.int .i64 te)).setCell ⟨w.heap.size + 1, 9, none⟩ (.int .i64 us)).setCell ⟨w.heap.size + 1, 10, none⟩ (.slice a1 na c1)).setCell ⟨w.heap.size + 1, 11, none⟩ (.slice a2 np c2)).setCell ⟨w.heap.size + 1, 12, none⟩ (.bool hs)).setCell ⟨w.heap.size + 1, 13, none⟩ (.int .i64 ls)).setCell ⟨w.heap.size + 1, 14, none⟩ (.slice a3 nh c3)).setCell ⟨w.heap.size + 1, 15, none⟩ (.int .i64 se)).ownsRow (w.heap.size + 2) 171 5 (.slice a2 np c2) np ((List.range (np * 5)).map (MFPeer QM))) := (ownZ_set (ownZ_set (ownZ_set (ownZ_set (ownZ_set (ownZ_set (ownZ_set (ownZ_set (ownZ_set (ownZ_set (ownZ_set (ownZ_set (ownZ_set (ownZ_set (ownZ_set (ownZ_set OP (show w.heap.size + 1 < w.heap.size + 2 by omega) 0 (.int .i64 ni)) (show w.heap.size + 1 < w.heap.size + 2 by omega) 1 (.int .i64 mo)) (show w.heap.size + 1 < w.heap.size + 2 by omega) 2 (.int .i64 ep)) (show w.heap.size + 1 < w.heap.size + 2 by omega) 3 (.int .i64 si)) (show w.heap.size + 1 < w.heap.size + 2 by omega) 4 (.bool kn)) (show w.heap.size + 1 < w.heap.size + 2 by omega) 5 (.int .i64 lo)) (show w.heap.size + 1 < w.heap.size + 2 by omega) 6 (.int .i64 hi)) (show w.heap.size + 1 < w.heap.size + 2 by omega) 7 (.int .i64 la)) (show w.heap.size + 1 < w.heap.size + 2 by omega) 8 (.int .i64 te)) (show w.heap.size + 1 < w.heap.size + 2 by omega) 9 (.int .i64 us)) (show w.heap.size + 1 < w.heap.size + 2 by omega) 10 (.slice a1 na c1)) (show w.heap.size + 1 < w.heap.size + 2 by omega) 11 (.slice a2 np c2)) (show w.heap.size + 1 < w.heap.size + 2 by omega) 12 (.bool hs)) (show w.heap.size + 1 < w.heap.size + 2 by omega) 13 (.int .i64 ls)) (show w.heap.size + 1 < w.heap.size + 2 by omega) 14 (.slice a3 nh c3)) (show w.heap.size + 1 < w.heap.size + 2 by omega) 15 (.int .i64 se))
  have HOH : Hid ((((((((((((((((((v6).setCell ⟨w.heap.size + 1, 0, none⟩ (.int .i64 ni)).setCell ⟨w.heap.size + 1, 1, none⟩ (.int .i64 mo)).setCell ⟨w.heap.size + 1, 2, none⟩ (.int .i64 ep)).setCell ⟨w.heap.size + 1, 3, none⟩ (.int .i64 si)).setCell ⟨w.heap.size + 1, 4, none⟩ (.bool kn)).setCell ⟨w.heap.size + 1, 5, none⟩ (.int .i64 lo)).setCell ⟨w.heap.size + 1, 6, none⟩ (.int .i64 hi)).setCell ⟨w.heap.size + 1, 7, none⟩ (.int .i64 la)).setCell ⟨w.heap.size + 1, 8, none⟩ (.int .i64 te)).setCell ⟨w.heap.size + 1, 9, none⟩ (.int .i64 us)).setCell ⟨w.heap.size + 1, 10, none⟩ (.slice a1 na c1)).setCell ⟨w.heap.size + 1, 11, none⟩ (.slice a2 np c2)).setCell ⟨w.heap.size + 1, 12, none⟩ (.bool hs)).setCell ⟨w.heap.size + 1, 13, none⟩ (.int .i64 ls)).setCell ⟨w.heap.size + 1, 14, none⟩ (.slice a3 nh c3)).setCell ⟨w.heap.size + 1, 15, none⟩ (.int .i64 se)).ownsRow (w.heap.size + 2) 176 2 (.slice a3 nh c3) nh ((List.range (nh * 2)).map (MFIval HM))) := (ownZ_set (ownZ_set (ownZ_set (ownZ_set (ownZ_set (ownZ_set (ownZ_set (ownZ_set (ownZ_set (ownZ_set (ownZ_set (ownZ_set (ownZ_set (ownZ_set (ownZ_set (ownZ_set OH (show w.heap.size + 1 < w.heap.size + 2 by omega) 0 (.int .i64 ni)) (show w.heap.size + 1 < w.heap.size + 2 by omega) 1 (.int .i64 mo)) (show w.heap.size + 1 < w.heap.size + 2 by omega) 2 (.int .i64 ep)) (show w.heap.size + 1 < w.heap.size + 2 by omega) 3 (.int .i64 si)) (show w.heap.size + 1 < w.heap.size + 2 by omega) 4 (.bool kn)) (show w.heap.size + 1 < w.heap.size + 2 by omega) 5 (.int .i64 lo)) (show w.heap.size + 1 < w.heap.size + 2 by omega) 6 (.int .i64 hi)) (show w.heap.size + 1 < w.heap.size + 2 by omega) 7 (.int .i64 la)) (show w.heap.size + 1 < w.heap.size + 2 by omega) 8 (.int .i64 te)) (show w.heap.size + 1 < w.heap.size + 2 by omega) 9 (.int .i64 us)) (show w.heap.size + 1 < w.heap.size + 2 by omega) 10 (.slice a1 na c1)) (show w.heap.size + 1 < w.heap.size + 2 by omega) 11 (.slice a2 np c2)) (show w.heap.size + 1 < w.heap.size + 2 by omega) 12 (.bool hs)) (show w.heap.size + 1 < w.heap.size + 2 by omega) 13 (.int .i64 ls)) (show w.heap.size + 1 < w.heap.size + 2 by omega) 14 (.slice a3 nh c3)) (show w.heap.size + 1 < w.heap.size + 2 by omega) 15 (.int .i64 se))
  have R1 := ((((((((((((((((R.set0 (.int .i64 ni)).set1 (.int .i64 mo)).set2 (.int .i64 ep)).set3 (.int .i64 si)).set4 (.bool kn)).set5 (.int .i64 lo)).set6 (.int .i64 hi)).set7 (.int .i64 la)).set8 (.int .i64 te)).set9 (.int .i64 us)).set10 (.slice a1 na c1)).set11 (.slice a2 np c2)).set12 (.bool hs)).set13 (.int .i64 ls)).set14 (.slice a3 nh c3)).set15 (.int .i64 se))
  have B1 := ((((((((((((((((B.setCell (p := ⟨w.heap.size + 1, 0, none⟩) (by simp) (.int .i64 ni)).setCell (p := ⟨w.heap.size + 1, 1, none⟩) (by simp) (.int .i64 mo)).setCell (p := ⟨w.heap.size + 1, 2, none⟩) (by simp) (.int .i64 ep)).setCell (p := ⟨w.heap.size + 1, 3, none⟩) (by simp) (.int .i64 si)).setCell (p := ⟨w.heap.size + 1, 4, none⟩) (by simp) (.bool kn)).setCell (p := ⟨w.heap.size + 1, 5, none⟩) (by simp) (.int .i64 lo)).setCell (p := ⟨w.heap.size + 1, 6, none⟩) (by simp) (.int .i64 hi)).setCell (p := ⟨w.heap.size + 1, 7, none⟩) (by simp) (.int .i64 la)).setCell (p := ⟨w.heap.size + 1, 8, none⟩) (by simp) (.int .i64 te)).setCell (p := ⟨w.heap.size + 1, 9, none⟩) (by simp) (.int .i64 us)).setCell (p := ⟨w.heap.size + 1, 10, none⟩) (by simp) (.slice a1 na c1)).setCell (p := ⟨w.heap.size + 1, 11, none⟩) (by simp) (.slice a2 np c2)).setCell (p := ⟨w.heap.size + 1, 12, none⟩) (by simp) (.bool hs)).setCell (p := ⟨w.heap.size + 1, 13, none⟩) (by simp) (.int .i64 ls)).setCell (p := ⟨w.heap.size + 1, 14, none⟩) (by simp) (.slice a3 nh c3)).setCell (p := ⟨w.heap.size + 1, 15, none⟩) (by simp) (.int .i64 se))
  clear OA OP OH
  obtain ⟨p0, p1, p2, p3, p4, p5, p6, p7, p8, p9, p10, p11, p12, p13, p14, p15, p16, q0, q1, q2, q3, q4, q5, q6, q7, q8, q9, q10, q11, q12, q13, q14, q15⟩ := id R
  go_wp2_with fail
  clear p0 p1 p2 p3 p4 p5 p6 p7 p8 p9 p10 p11 p12 p13 p14 p15 p16 q0 q1 q2 q3 q4 q5 q6 q7 q8 q9 q10 q11 q12 q13 q14 q15 R B
  generalize ((((((((((((((((v6).setCell ⟨w.heap.size + 1, 0, none⟩ (.int .i64 ni)).setCell ⟨w.heap.size + 1, 1, none⟩ (.int .i64 mo)).setCell ⟨w.heap.size + 1, 2, none⟩ (.int .i64 ep)).setCell ⟨w.heap.size + 1, 3, none⟩ (.int .i64 si)).setCell ⟨w.heap.size + 1, 4, none⟩ (.bool kn)).setCell ⟨w.heap.size + 1, 5, none⟩ (.int .i64 lo)).setCell ⟨w.heap.size + 1, 6, none⟩ (.int .i64 hi)).setCell ⟨w.heap.size + 1, 7, none⟩ (.int .i64 la)).setCell ⟨w.heap.size + 1, 8, none⟩ (.int .i64 te)).setCell ⟨w.heap.size + 1, 9, none⟩ (.int .i64 us)).setCell ⟨w.heap.size + 1, 10, none⟩ (.slice a1 na c1)).setCell ⟨w.heap.size + 1, 11, none⟩ (.slice a2 np c2)).setCell ⟨w.heap.size + 1, 12, none⟩ (.bool hs)).setCell ⟨w.heap.size + 1, 13, none⟩ (.int .i64 ls)).setCell ⟨w.heap.size + 1, 14, none⟩ (.slice a3 nh c3)).setCell ⟨w.heap.size + 1, 15, none⟩ (.int .i64 se) = v7 at *
  obtain ⟨p0, p1, p2, p3, p4, p5, p6, p7, p8, p9, p10, p11, p12, p13, p14, p15, p16, q0, q1, q2, q3, q4, q5, q6, q7, q8, q9, q10, q11, q12, q13, q14, q15⟩ := id R1
  exact bodyPost_ret (v := (.agg #[.int .i64 ni, .int .i64 mo, .int .i64 ep, .int .i64 si, .bool kn, .int .i64 lo, .int .i64 hi, .int .i64 la, .int .i64 te, .int .i64 us, .slice a1 na c1, .slice a2 np c2, .bool hs, .int .i64 ls, .slice a3 nh c3, .int .i64 se])) (by simp (maxDischargeDepth := 6) [results, Tryz.results66, go_sem, *]) rfl ⟨a1, c1, a2, c2, a3, c3, rfl, ⟨own_baseI16 HOA.out (by omega), own_baseI16 HOP.out (by omega), own_baseI16 HOH.out (by omega)⟩, B1⟩
end Go.Proofs.YtfhappkeipcemaaGreat
namespace Go.Proofs.YtfhappkeipcemaaGreat
open Go.RowKit
set_option linter.unusedVariables false
theorem specCopyX (A : Array Value) (x : NdX) (w : World) (h : NdS w A x) (hb : x.na ≤ 16 ∧ x.np ≤ 8 ∧ x.nh ≤ 16) :
    Calls Tryz.prog 68 #[.agg A] w fun e w' => ∃ R, e = .returned (.agg R) ∧ NdO w' w.heap.size w'.heap.size R x ∧ Below w.heap.size w w' := by
  obtain ⟨aa, ac, pa, pc, ha, hc, rfl, hl, h1, h2, h3⟩ := h
  refine (specCopy_any x.ni x.mo x.ep x.si x.kn x.lo x.hi x.la x.te x.us aa x.na ac x.AM pa x.np pc x.QM x.hs x.ls ha x.nh hc x.HM x.se w hb.1 h1 hb.2.1 h2 hb.2.2 h3).mono ?_
  rintro e w' ⟨a1, c1, a2, c2, a3, c3, rfl, ⟨o1, o2, o3⟩, hB⟩
  exact ⟨_, rfl, ⟨a1, c1, a2, c2, a3, c3, rfl, ⟨by omega, by omega, by omega⟩, rwo_of o1, rwo_of o2, rwo_of o3⟩, hB⟩
theorem zX_own (id mo ep si te se : Int) (w : World) (l u : Nat) : NdO w l u (ndV (zX id mo ep si te se) none 0 none 0 none 0) (zX id mo ep si te se) :=
  ⟨none, 0, none, 0, none, 0, rfl, ⟨Nat.zero_le _, Nat.zero_le _, Nat.zero_le _⟩, ⟨⟨rfl, .inl ⟨rfl, rfl⟩⟩, fun g e => by cases e⟩, ⟨⟨rfl, .inl ⟨rfl, rfl⟩⟩, fun g e => by cases e⟩, ⟨⟨rfl, .inl ⟨rfl, rfl⟩⟩, fun g e => by cases e⟩⟩
end Go.Proofs.YtfhappkeipcemaaGreat
namespace Go.Proofs.YtfhappkeipcemaaGreat
open Go.RowKit
set_option linter.unusedVariables false
attribute [-go_sem] loadCells storeCells in
set_option maxRecDepth 100000 in
set_option maxHeartbeats 8000000 in
theorem specStartX (AC AN : Array Value) (y : CfX) (x : NdX) (ct : Int) (w : World) (HC : CfS w AC y) (HN : NdS w AN x) :
    Calls Tryz.prog 64 #[.agg AC, .agg AN, .int .i64 ct] w fun e w' => e = .returned (.int .i64 (staI y x ct)) ∧ Below w.heap.size w w' := by
  unfold staI
  cases hk : cokX y
  · have A0 := Below.nw w (.cells AC 54)
    have A1 := Below.nw (w.alloc (.cells AC 54)) (.cells AN 66)
    have C := (Bo.new w AC 54).below A1
    have N := Bo.new (w.alloc (.cells AC 54)) AN 66
    have B := A0
    replace B := B.trans (A1.mono B.size)
    simp only [World.size_alloc] at N
    clear A0 A1
    have hC := HC.size
    have hN := HN.size
    have CF := fun (v : World) (h : Below w.heap.size w v) => specFirstX AN x ct v (HN.below h)
    have CK := fun (v : World) (h : Below w.heap.size w v) => specCfgOkX AC y v (HC.below h)
    clear HC HN
    go_enter Tryz.func64, Tryz.ntmps64
    go_upto_region 1 with fail
    generalize ((w.alloc (.cells AC 54))).alloc (.cells AN 66) = v0 at *
    have hL0 := C.load (P := Tryz.prog) hC
    go_wp2_with (rw [hL0])
    refine (CK v0 B).mono ?_
    rintro e v1 ⟨rfl, hb⟩
    clear hL0
    rw [hk]
    replace B := B.trans (hb.mono B.size)
    replace C := C.below hb
    replace N := N.below hb
    clear hb
    go_wp2_with fail
    go_ret
    exact ⟨rfl, B⟩
  · have A0 := Below.nw w (.cells AC 54)
    have A1 := Below.nw (w.alloc (.cells AC 54)) (.cells AN 66)
    have C := (Bo.new w AC 54).below A1
    have N := Bo.new (w.alloc (.cells AC 54)) AN 66
    have B := A0
    replace B := B.trans (A1.mono B.size)
    simp only [World.size_alloc] at N
    clear A0 A1
    have hC := HC.size
    have hN := HN.size
    have CF := fun (v : World) (h : Below w.heap.size w v) => specFirstX AN x ct v (HN.below h)
    have CK := fun (v : World) (h : Below w.heap.size w v) => specCfgOkX AC y v (HC.below h)
    clear HC HN
    go_enter Tryz.func64, Tryz.ntmps64
    go_upto_region 1 with fail
    generalize ((w.alloc (.cells AC 54))).alloc (.cells AN 66) = v0 at *
    have hL0 := C.load (P := Tryz.prog) hC
    go_wp2_with (rw [hL0])
    refine (CK v0 B).mono ?_
    rintro e v1 ⟨rfl, hb⟩
    clear hL0
    rw [hk]
    replace B := B.trans (hb.mono B.size)
    replace C := C.below hb
    replace N := N.below hb
    clear hb
    have hL0 := N.load (P := Tryz.prog) hN
    go_wp2_with (rw [hL0])
    refine (CF v1 B).mono ?_
    rintro e v2 ⟨rfl, hb⟩
    clear hL0
    replace B := B.trans (hb.mono B.size)
    replace C := C.below hb
    replace N := N.below hb
    clear hb
    go_wp2_with fail
    go_ret
    exact ⟨rfl, B⟩
end Go.Proofs.YtfhappkeipcemaaGreat
namespace Go.Proofs.YtfhappkeipcemaaGreat
open Go.RowKit
set_option linter.unusedVariables false
theorem sta_cases (y : CfX) (x : NdX) (ct : Int) : staI y x ct = 1 ∨ (staI y x ct = 2 ∧ okX x = true) ∨ (staI y x ct = 0 ∧ okX x = true) := by
  unfold staI
  cases cokX y
  · exact .inl rfl
  · unfold fiI
    cases h1 : okX x
    · exact .inl rfl
    · cases h2 : cmX x ct
      · exact .inl rfl
      · cases h3 : (x.mo == 0)
        · exact .inr (.inr ⟨rfl, rfl⟩)
        · exact .inr (.inl ⟨rfl, rfl⟩)
theorem specBackX_bad (A : Array Value) (x : NdX) (w : World) (h : NdS w A x) :
    Calls Tryz.prog 66 #[.agg A, .int .i64 1] w fun e w' => ∃ R, e = .returned (.agg R) ∧ NdO w' w.heap.size w'.heap.size R (zX 0 0 0 0 0 0) ∧ Below w.heap.size w w' := by
  obtain ⟨aa, ac, pa, pc, ha, hc, rfl, hl, h1, h2, h3⟩ := h
  refine (specBack_bad x.ni x.mo x.ep x.si x.kn x.lo x.hi x.la x.te x.us aa x.na ac x.AM pa x.np pc x.QM x.hs x.ls ha x.nh hc x.HM x.se w).mono ?_
  rintro e w' ⟨rfl, hB⟩
  exact ⟨_, rfl, zX_own _ _ _ _ _ _ _ _ _, hB⟩
theorem specBackX_any (A : Array Value) (x : NdX) (cd : Int) (w : World) (h : NdS w A x) (hcd : cd ≠ 1) (hb : x.na ≤ 16 ∧ x.np ≤ 8 ∧ x.nh ≤ 16) :
    Calls Tryz.prog 66 #[.agg A, .int .i64 cd] w fun e w' => ∃ R, e = .returned (.agg R) ∧ NdO w' w.heap.size w'.heap.size R x ∧ Below w.heap.size w w' := by
  obtain ⟨aa, ac, pa, pc, ha, hc, rfl, hl, h1, h2, h3⟩ := h
  refine (specBack_any x.ni x.mo x.ep x.si x.kn x.lo x.hi x.la x.te x.us aa x.na ac x.AM pa x.np pc x.QM x.hs x.ls ha x.nh hc x.HM x.se cd w hcd hb.1 h1 hb.2.1 h2 hb.2.2 h3).mono ?_
  rintro e w' ⟨a1, c1, a2, c2, a3, c3, rfl, ⟨o1, o2, o3⟩, hB⟩
  exact ⟨_, rfl, ⟨a1, c1, a2, c2, a3, c3, rfl, ⟨by omega, by omega, by omega⟩, rwo_of o1, rwo_of o2, rwo_of o3⟩, hB⟩
end Go.Proofs.YtfhappkeipcemaaGreat
