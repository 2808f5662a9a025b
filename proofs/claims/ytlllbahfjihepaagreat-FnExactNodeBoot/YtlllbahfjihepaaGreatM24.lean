/- The code that is looked at first; a new node (the specification). -/
import Derived.Deep.RegionHeld3
import Derived.WalkKit
import Derived.WalkSpells
import Derived.WalkLawsBesides
import Derived.Deep.RegionHeld
import Derived.Test.YtlllbahfjihepaaGreatM22
import Derived.Test.YtlllbahfjihepaaGreatM23
namespace Go.Proofs.YtlllbahfjihepaaGreat
open Go.RowKit
set_option linter.unusedVariables false
def RwO (w : World) (a : Option Addr) (n c sz : Nat) (F : Nat → Value) : Prop := (a = none ∧ n = 0 ∧ c = 0) ∨ ∃ b off, a = some ⟨b, off, none⟩ ∧ (n = 0 ∨ Cs w b off (n * sz) F)
theorem RwO.below {w w' : World} {a : Option Addr} {n c sz : Nat} {F : Nat → Value} (h : RwO w a n c sz F) (hb : Below w.heap.size w w') : RwO w' a n c sz F := by
  rcases h with h | ⟨b, off, e, h⟩
  · exact .inl h
  · exact .inr ⟨b, off, e, h.imp id fun h => h.below hb h.1⟩
theorem RwO.src {w : World} {a : Option Addr} {n c sz : Nat} {F : Nat → Value} (h : RwO w a n c sz F) : SrcC w a (n * sz) F := by
  rcases h with ⟨_, h, _⟩ | ⟨b, off, e, h | h⟩
  · exact .inl (by rw [h, Nat.zero_mul])
  · exact .inl (by rw [h, Nat.zero_mul])
  · exact .inr ⟨b, off, e, h⟩
def fiI (nb cb : Bool) (mo : Int) : Int := match nb && cb with | true => (match mo == 0 with | true => 2 | false => 0) | false => 1
set_option maxRecDepth 100000 in
set_option maxHeartbeats 8000000 in
theorem specFirst_any (ni mo ep si : Int) (kn : Bool) (lo hi la te us : Int) (aa : Option Addr) (na ac : Nat) (AM : Nat → KT) (pa : Option Addr) (np pc : Nat) (QM : Nat → PT) (hs : Bool) (ls : Int) (ha : Option Addr) (nh hc : Nat) (HM : Nat → VT) (se : Int) (ct : Int) (w : World) (hna : na ≤ maxLen) (sA : SrcC w aa (na * 4) (MFAsk AM)) (hnp : np ≤ maxLen) (sP : SrcC w pa (np * 5) (MFPeer QM)) (hnh : nh ≤ maxLen) (sH : SrcC w ha (nh * 2) (MFIval HM)) :
    Calls Tryz.prog 17 #[.agg #[.int .i64 ni, .int .i64 mo, .int .i64 ep, .int .i64 si, .bool kn, .int .i64 lo, .int .i64 hi, .int .i64 la, .int .i64 te, .int .i64 us, .slice aa na ac, .slice pa np pc, .bool hs, .int .i64 ls, .slice ha nh hc, .int .i64 se], .int .i64 ct] w fun e w' => e = .returned (.int .i64 (fiI (ndB ni mo ep si kn lo hi la te us AM na QM np hs ls HM nh se) (cmB si la se AM na QM np HM nh ct) mo)) ∧ Below w.heap.size w w' := by
  have B := Below.nw w (.cells #[.int .i64 ni, .int .i64 mo, .int .i64 ep, .int .i64 si, .bool kn, .int .i64 lo, .int .i64 hi, .int .i64 la, .int .i64 te, .int .i64 us, .slice aa na ac, .slice pa np pc, .bool hs, .int .i64 ls, .slice ha nh hc, .int .i64 se] 49)
  have N := Nx16.new w (.int .i64 ni) (.int .i64 mo) (.int .i64 ep) (.int .i64 si) (.bool kn) (.int .i64 lo) (.int .i64 hi) (.int .i64 la) (.int .i64 te) (.int .i64 us) (.slice aa na ac) (.slice pa np pc) (.bool hs) (.int .i64 ls) (.slice ha nh hc) (.int .i64 se) 49
  have C1 := fun (w' : World) (h : Below w.heap.size w w') => specNodeOk_any ni mo ep si kn lo hi la te us aa na ac AM pa np pc QM hs ls ha nh hc HM se w' hna (sA.below h) hnp (sP.below h) hnh (sH.below h)
  have C2 := fun (w' : World) (h : Below w.heap.size w w') => specCame_any ni mo ep si kn lo hi la te us aa na ac AM pa np pc QM hs ls ha nh hc HM se ct w' hna (sA.below h) hnp (sP.below h) hnh (sH.below h)
  clear hna sA hnp sP hnh sH
  generalize ndB ni mo ep si kn lo hi la te us AM na QM np hs ls HM nh se = nb at *
  generalize cmB si la se AM na QM np HM nh ct = cb at *
  cases nb
  · have e0 : fiI false cb mo = 1 := rfl
    rw [e0]
    go_enter Tryz.func17, Tryz.ntmps17
    go_upto_region 1 with fail
    generalize w.alloc (.cells #[.int .i64 ni, .int .i64 mo, .int .i64 ep, .int .i64 si, .bool kn, .int .i64 lo, .int .i64 hi, .int .i64 la, .int .i64 te, .int .i64 us, .slice aa na ac, .slice pa np pc, .bool hs, .int .i64 ls, .slice ha nh hc, .int .i64 se] 49) = v at *
    obtain ⟨n0, n1, n2, n3, n4, n5, n6, n7, n8, n9, n10, n11, n12, n13, n14, n15, n16, m0, m1, m2, m3, m4, m5, m6, m7, m8, m9, m10, m11, m12, m13, m14, m15⟩ := id N
    go_wp2_with fail
    refine (C1 _ B).mono ?_
    rintro e v1 ⟨rfl, hb⟩
    clear n0 n1 n2 n3 n4 n5 n6 n7 n8 n9 n10 n11 n12 n13 n14 n15 n16 m0 m1 m2 m3 m4 m5 m6 m7 m8 m9 m10 m11 m12 m13 m14 m15
    replace B := B.trans (hb.mono B.size)
    clear hb N C1 C2
    go_wp2_with fail
    go_ret
    exact ⟨rfl, B⟩
  cases cb
  · have e0 : fiI true false mo = 1 := rfl
    rw [e0]
    go_enter Tryz.func17, Tryz.ntmps17
    go_upto_region 1 with fail
    generalize w.alloc (.cells #[.int .i64 ni, .int .i64 mo, .int .i64 ep, .int .i64 si, .bool kn, .int .i64 lo, .int .i64 hi, .int .i64 la, .int .i64 te, .int .i64 us, .slice aa na ac, .slice pa np pc, .bool hs, .int .i64 ls, .slice ha nh hc, .int .i64 se] 49) = v at *
    obtain ⟨n0, n1, n2, n3, n4, n5, n6, n7, n8, n9, n10, n11, n12, n13, n14, n15, n16, m0, m1, m2, m3, m4, m5, m6, m7, m8, m9, m10, m11, m12, m13, m14, m15⟩ := id N
    go_wp2_with fail
    refine (C1 _ B).mono ?_
    rintro e v1 ⟨rfl, hb⟩
    clear n0 n1 n2 n3 n4 n5 n6 n7 n8 n9 n10 n11 n12 n13 n14 n15 n16 m0 m1 m2 m3 m4 m5 m6 m7 m8 m9 m10 m11 m12 m13 m14 m15
    replace B := B.trans (hb.mono B.size)
    replace N := N.below hb
    clear hb C1
    obtain ⟨n0, n1, n2, n3, n4, n5, n6, n7, n8, n9, n10, n11, n12, n13, n14, n15, n16, m0, m1, m2, m3, m4, m5, m6, m7, m8, m9, m10, m11, m12, m13, m14, m15⟩ := id N
    go_wp2_with fail
    refine (C2 _ B).mono ?_
    rintro e v2 ⟨rfl, hb⟩
    clear n0 n1 n2 n3 n4 n5 n6 n7 n8 n9 n10 n11 n12 n13 n14 n15 n16 m0 m1 m2 m3 m4 m5 m6 m7 m8 m9 m10 m11 m12 m13 m14 m15
    replace B := B.trans (hb.mono B.size)
    clear hb N C2
    go_wp2_with fail
    go_ret
    exact ⟨rfl, B⟩
  cases hq : (mo == 0)
  · have e0 : fiI true true mo = 0 := by unfold fiI; rw [hq]; rfl
    rw [e0]
    clear e0
    go_enter Tryz.func17, Tryz.ntmps17
    go_upto_region 1 with fail
    generalize w.alloc (.cells #[.int .i64 ni, .int .i64 mo, .int .i64 ep, .int .i64 si, .bool kn, .int .i64 lo, .int .i64 hi, .int .i64 la, .int .i64 te, .int .i64 us, .slice aa na ac, .slice pa np pc, .bool hs, .int .i64 ls, .slice ha nh hc, .int .i64 se] 49) = v at *
    obtain ⟨n0, n1, n2, n3, n4, n5, n6, n7, n8, n9, n10, n11, n12, n13, n14, n15, n16, m0, m1, m2, m3, m4, m5, m6, m7, m8, m9, m10, m11, m12, m13, m14, m15⟩ := id N
    go_wp2_with fail
    refine (C1 _ B).mono ?_
    rintro e v1 ⟨rfl, hb⟩
    clear n0 n1 n2 n3 n4 n5 n6 n7 n8 n9 n10 n11 n12 n13 n14 n15 n16 m0 m1 m2 m3 m4 m5 m6 m7 m8 m9 m10 m11 m12 m13 m14 m15
    replace B := B.trans (hb.mono B.size)
    replace N := N.below hb
    clear hb C1
    obtain ⟨n0, n1, n2, n3, n4, n5, n6, n7, n8, n9, n10, n11, n12, n13, n14, n15, n16, m0, m1, m2, m3, m4, m5, m6, m7, m8, m9, m10, m11, m12, m13, m14, m15⟩ := id N
    go_wp2_with fail
    refine (C2 _ B).mono ?_
    rintro e v2 ⟨rfl, hb⟩
    clear n0 n1 n2 n3 n4 n5 n6 n7 n8 n9 n10 n11 n12 n13 n14 n15 n16 m0 m1 m2 m3 m4 m5 m6 m7 m8 m9 m10 m11 m12 m13 m14 m15
    replace B := B.trans (hb.mono B.size)
    replace N := N.below hb
    clear hb C2
    obtain ⟨n0, n1, n2, n3, n4, n5, n6, n7, n8, n9, n10, n11, n12, n13, n14, n15, n16, m0, m1, m2, m3, m4, m5, m6, m7, m8, m9, m10, m11, m12, m13, m14, m15⟩ := id N
    go_wp2_with fail
    go_ret
    exact ⟨rfl, B⟩
  · have e0 : fiI true true mo = 2 := by unfold fiI; rw [hq]; rfl
    rw [e0]
    clear e0
    go_enter Tryz.func17, Tryz.ntmps17
    go_upto_region 1 with fail
    generalize w.alloc (.cells #[.int .i64 ni, .int .i64 mo, .int .i64 ep, .int .i64 si, .bool kn, .int .i64 lo, .int .i64 hi, .int .i64 la, .int .i64 te, .int .i64 us, .slice aa na ac, .slice pa np pc, .bool hs, .int .i64 ls, .slice ha nh hc, .int .i64 se] 49) = v at *
    obtain ⟨n0, n1, n2, n3, n4, n5, n6, n7, n8, n9, n10, n11, n12, n13, n14, n15, n16, m0, m1, m2, m3, m4, m5, m6, m7, m8, m9, m10, m11, m12, m13, m14, m15⟩ := id N
    go_wp2_with fail
    refine (C1 _ B).mono ?_
    rintro e v1 ⟨rfl, hb⟩
    clear n0 n1 n2 n3 n4 n5 n6 n7 n8 n9 n10 n11 n12 n13 n14 n15 n16 m0 m1 m2 m3 m4 m5 m6 m7 m8 m9 m10 m11 m12 m13 m14 m15
    replace B := B.trans (hb.mono B.size)
    replace N := N.below hb
    clear hb C1
    obtain ⟨n0, n1, n2, n3, n4, n5, n6, n7, n8, n9, n10, n11, n12, n13, n14, n15, n16, m0, m1, m2, m3, m4, m5, m6, m7, m8, m9, m10, m11, m12, m13, m14, m15⟩ := id N
    go_wp2_with fail
    refine (C2 _ B).mono ?_
    rintro e v2 ⟨rfl, hb⟩
    clear n0 n1 n2 n3 n4 n5 n6 n7 n8 n9 n10 n11 n12 n13 n14 n15 n16 m0 m1 m2 m3 m4 m5 m6 m7 m8 m9 m10 m11 m12 m13 m14 m15
    replace B := B.trans (hb.mono B.size)
    replace N := N.below hb
    clear hb C2
    obtain ⟨n0, n1, n2, n3, n4, n5, n6, n7, n8, n9, n10, n11, n12, n13, n14, n15, n16, m0, m1, m2, m3, m4, m5, m6, m7, m8, m9, m10, m11, m12, m13, m14, m15⟩ := id N
    go_wp2_with fail
    go_ret
    exact ⟨rfl, B⟩
end Go.Proofs.YtlllbahfjihepaaGreat
