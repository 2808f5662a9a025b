/- How great a node is (the laws). The contracts of a node, told of arrays of cells. NewNode, NodeBoot, NodeCrash in the specification, told of arrays of cells. What the laws are handed: arrays that read as a node. A new node (the program). -/
import Derived.Deep.OwnRows
import Derived.Deep.RegionHeld3
import Derived.WalkKit
import Derived.WalkSpells
import Derived.WalkLawsBesides
import Derived.Deep.RegionHeld
import Derived.Test.YtlllbahfjihepaaGreatM27
import Derived.Test.YtlllbahfjihepaaGreatM13
import Derived.Test.YtlllbahfjihepaaGreatM3
import Derived.Test.YtlllbahfjihepaaGreatM9
import Derived.Test.YtlllbahfjihepaaGreatM11
import Derived.Test.YtlllbahfjihepaaGreatM25
import Derived.Test.YtlllbahfjihepaaGreatM29
import Derived.Test.YtlllbahfjihepaaGreatM30
import Derived.Test.YtlllbahfjihepaaGreatM22
import Derived.Test.YtlllbahfjihepaaGreatM31
import Derived.Test.YtlllbahfjihepaaGreatM32
import Derived.Test.YtlllbahfjihepaaGreatM33
import Derived.Test.YtlllbahfjihepaaGreatM34
import Derived.Test.YtlllbahfjihepaaGreatM35
import Derived.Test.YtlllbahfjihepaaGreatM4
namespace Go.Proofs.YtlllbahfjihepaaGreat
open Go.RowKit
set_option linter.unusedVariables false
set_option maxHeartbeats 2000000 in
theorem szTable_at (ep us : Int) (a : Option Addr) (n c : Nat) (Z : Int) (w : World) (hm : n ≤ maxLen) (h0 : 0 ≤ Z) (h1 : Z ≤ 1048576) :
    Calls Tryz.prog 14 #[.agg #[.int .i64 ep, .int .i64 us, .slice a n c], .int .i64 Z] w fun e w' => ∃ L : Int, e = .returned (.int .i64 L) ∧ (0 ≤ L → n ≤ 1048576 ∧ L ≤ 1048576) ∧ Below w.heap.size w w' := by
  have A0 := Below.nw w (.cells #[.int .i64 ep, .int .i64 us, .slice a n c] 30)
  by_cases h : (n : Int) ≤ Z
  · have hneg : ¬ (Z - (n : Int) < 0) := by omega
    go_enter Tryz.func14, Tryz.ntmps14
    go_wp2_with fail
    refine (szAskS_any _ _ _ _ _ hm h0 h1).mono ?_
    rintro e w1 ⟨rfl, rfl⟩
    rw [if_pos h]
    go_wp2_with fail
    go_ret
    exact ⟨_, rfl, fun _ => by omega, A0⟩
  · go_enter Tryz.func14, Tryz.ntmps14
    go_wp2_with fail
    refine (szAskS_any _ _ _ _ _ hm h0 h1).mono ?_
    rintro e w1 ⟨rfl, rfl⟩
    rw [if_neg (Int.not_le.2 h)]
    go_wp2_with fail
    go_ret
    exact ⟨_, rfl, fun h => absurd h (by decide), A0⟩
theorem szPeerS_le (a : Option Addr) (n c : Nat) (Z : Int) (w : World) (hm : n ≤ maxLen) (h0 : 0 ≤ Z) (h1 : Z ≤ 1048576) :
    Calls Tryz.prog 15 #[.slice a n c, .int .i64 Z] w fun e w' => ∃ L : Int, e = .returned (.int .i64 L) ∧ (0 ≤ L → n ≤ 1048576 ∧ L ≤ 1048576) ∧ Below w.heap.size w w' := by
  refine (szPeerS_any a n c Z w hm h0 h1).mono ?_
  rintro e w' ⟨rfl, rfl⟩
  refine ⟨_, rfl, fun h => ?_, Below.refl _ _⟩
  split at h
  · rename_i hq; rw [if_pos hq]; constructor <;> omega
  · omega
set_option maxRecDepth 100000 in
set_option maxHeartbeats 8000000 in
theorem szNode_at (ni mo ep si : Int) (kn : Bool) (lo hi la te us : Int) (aa : Option Addr) (na ac : Nat) (AM : Nat → KT) (pa : Option Addr) (np pc : Nat) (QM : Nat → PT) (hs : Bool) (ls : Int) (ha : Option Addr) (nh hc : Nat) (HM : Nat → VT) (se : Int) (Z : Int) (w : World) (hna : na ≤ maxLen) (hnp : np ≤ maxLen) (hnh : nh ≤ maxLen) (h0 : 0 ≤ Z) (h1 : Z ≤ 1048576) :
    Calls Tryz.prog 5 #[.agg #[.int .i64 ni, .int .i64 mo, .int .i64 ep, .int .i64 si, .bool kn, .int .i64 lo, .int .i64 hi, .int .i64 la, .int .i64 te, .int .i64 us, .slice aa na ac, .slice pa np pc, .bool hs, .int .i64 ls, .slice ha nh hc, .int .i64 se], .int .i64 Z] w fun e w' => ∃ L : Int, e = .returned (.int .i64 L) ∧ (0 ≤ L → na ≤ 1048576 ∧ np ≤ 1048576 ∧ nh ≤ 1048576 ∧ L ≤ 1048576) ∧ Below w.heap.size w w' := by
  have B := Below.nw w (.cells #[.int .i64 ni, .int .i64 mo, .int .i64 ep, .int .i64 si, .bool kn, .int .i64 lo, .int .i64 hi, .int .i64 la, .int .i64 te, .int .i64 us, .slice aa na ac, .slice pa np pc, .bool hs, .int .i64 ls, .slice ha nh hc, .int .i64 se] 36)
  have N := Nx16.new w (.int .i64 ni) (.int .i64 mo) (.int .i64 ep) (.int .i64 si) (.bool kn) (.int .i64 lo) (.int .i64 hi) (.int .i64 la) (.int .i64 te) (.int .i64 us) (.slice aa na ac) (.slice pa np pc) (.bool hs) (.int .i64 ls) (.slice ha nh hc) (.int .i64 se) 36
  have C1 := fun w' => szTable_at te us aa na ac Z w' hna h0 h1
  have C2 := fun (Z : Int) (h0 : 0 ≤ Z) (h1 : Z ≤ 1048576) w' => szPeerS_le pa np pc Z w' hnp h0 h1
  have C3 := fun (Z : Int) (h0 : 0 ≤ Z) (h1 : Z ≤ 1048576) w' => szHeardS_le ha nh hc Z w' hnh h0 h1
  clear hna hnp hnh h0 h1
  go_enter Tryz.func5, Tryz.ntmps5
  go_upto_region 1 with fail
  generalize w.alloc (.cells #[.int .i64 ni, .int .i64 mo, .int .i64 ep, .int .i64 si, .bool kn, .int .i64 lo, .int .i64 hi, .int .i64 la, .int .i64 te, .int .i64 us, .slice aa na ac, .slice pa np pc, .bool hs, .int .i64 ls, .slice ha nh hc, .int .i64 se] 36) = v at *
  obtain ⟨n0, n1, n2, n3, n4, n5, n6, n7, n8, n9, n10, n11, n12, n13, n14, n15, n16, m0, m1, m2, m3, m4, m5, m6, m7, m8, m9, m10, m11, m12, m13, m14, m15⟩ := id N
  go_wp2_with fail
  refine (C1 _).mono ?_
  rintro e v1 ⟨L1, rfl, hL, hb⟩
  clear n0 n1 n2 n3 n4 n5 n6 n7 n8 n9 n10 n11 n12 n13 n14 n15 n16 m0 m1 m2 m3 m4 m5 m6 m7 m8 m9 m10 m11 m12 m13 m14 m15
  replace B := B.trans (hb.mono B.size)
  replace N := N.below hb
  clear hb C1
  by_cases z1 : L1 < 0
  · clear hL
    go_wp2_with fail
    go_ret
    exact ⟨-1, rfl, fun h => absurd h (by decide), B⟩
  have F1 : Hid (na ≤ 1048576 ∧ L1 ≤ 1048576) := hL (by omega)
  clear hL
  obtain ⟨n0, n1, n2, n3, n4, n5, n6, n7, n8, n9, n10, n11, n12, n13, n14, n15, n16, m0, m1, m2, m3, m4, m5, m6, m7, m8, m9, m10, m11, m12, m13, m14, m15⟩ := id N
  go_wp2_with fail
  refine (C2 _ (by omega) F1.out.2 _).mono ?_
  rintro e v2 ⟨L2, rfl, hL, hb⟩
  clear n0 n1 n2 n3 n4 n5 n6 n7 n8 n9 n10 n11 n12 n13 n14 n15 n16 m0 m1 m2 m3 m4 m5 m6 m7 m8 m9 m10 m11 m12 m13 m14 m15
  replace B := B.trans (hb.mono B.size)
  replace N := N.below hb
  clear hb C2
  by_cases z2 : L2 < 0
  · clear hL
    go_wp2_with fail
    go_ret
    exact ⟨-1, rfl, fun h => absurd h (by decide), B⟩
  have F2 : Hid (np ≤ 1048576 ∧ L2 ≤ 1048576) := hL (by omega)
  clear hL
  obtain ⟨n0, n1, n2, n3, n4, n5, n6, n7, n8, n9, n10, n11, n12, n13, n14, n15, n16, m0, m1, m2, m3, m4, m5, m6, m7, m8, m9, m10, m11, m12, m13, m14, m15⟩ := id N
  go_wp2_with fail
  refine (C3 _ (by omega) F2.out.2 _).mono ?_
  rintro e v3 ⟨L3, rfl, hL, hb⟩
  clear n0 n1 n2 n3 n4 n5 n6 n7 n8 n9 n10 n11 n12 n13 n14 n15 n16 m0 m1 m2 m3 m4 m5 m6 m7 m8 m9 m10 m11 m12 m13 m14 m15
  replace B := B.trans (hb.mono B.size)
  replace N := N.below hb
  clear hb C3
  by_cases z3 : L3 < 0
  · clear hL
    go_wp2_with fail
    go_ret
    exact ⟨-1, rfl, fun h => absurd h (by decide), B⟩
  have F3 : Hid (nh ≤ 1048576 ∧ L3 ≤ 1048576) := hL (by omega)
  clear hL
  clear N
  go_wp2_with fail
  go_ret
  exact ⟨L3, rfl, fun _ => ⟨F1.out.1, F2.out.1, F3.out.1, F3.out.2⟩, B⟩
end Go.Proofs.YtlllbahfjihepaaGreat
namespace Go.Proofs.YtlllbahfjihepaaGreat
open Go.RowKit
set_option linter.unusedVariables false
theorem RowF.rwo {w : World} {b n sz base : Nat} {T : TypeId} {F : Nat → Value} (h : RowF w b T (n * sz) (n * sz) F) (hn : n ≤ 1048576) (hb : base ≤ b) : Rwo w base w.heap.size T sz (some ⟨b, 0, none⟩) n n F := by
  obtain ⟨g, ⟨c, hc, hs, hv⟩, hg⟩ := h
  have hlt : b < w.heap.size := (Array.getElem?_eq_some_iff.1 hc).1
  refine ⟨⟨by simp, .inr ⟨b, n, c, rfl, hb, hc, Nat.le_refl _, by unfold maxLen; omega, hs, ?_⟩⟩, fun g' e => by cases e; exact hlt⟩
  apply List.ext_getElem?
  intro j
  by_cases hj : j < n * sz
  · rw [List.getElem?_take, if_pos hj]
    have h1 := hv j hj
    have e : c.toList[j]? = c[j]? := by simp
    rw [e, h1, hg j hj]
    simp [hj]
  · rw [List.getElem?_eq_none (by simp; omega), List.getElem?_eq_none (by simp; omega)]
theorem eqNodeX (A A' : Array Value) (x : NdX) (w : World) (h : NdS w A x) (h' : NdS w A' x) :
    Calls Tryz.prog 9 #[.agg A, .agg A'] w fun e w' => e = .returned (.bool true) ∧ Below w.heap.size w w' := by
  obtain ⟨aa, ac, pa, pc, ha, hc, rfl, hl, h1, h2, h3⟩ := h
  obtain ⟨aa', ac', pa', pc', ha', hc', rfl, hl', h1', h2', h3'⟩ := h'
  exact eqNode_same x.ni x.mo x.ep x.si x.kn x.lo x.hi x.la x.te x.us aa x.na ac x.AM pa x.np pc x.QM x.hs x.ls ha x.nh hc x.HM x.se aa' pa' ha' ac' pc' hc' w hl.1 h1.src hl.2.1 h2.src hl.2.2 h3.src h1'.src h2'.src h3'.src
def okX (x : NdX) : Bool := ndB x.ni x.mo x.ep x.si x.kn x.lo x.hi x.la x.te x.us x.AM x.na x.QM x.np x.hs x.ls x.HM x.nh x.se
def cmX (x : NdX) (ct : Int) : Bool := cmB x.si x.la x.se x.AM x.na x.QM x.np x.HM x.nh ct
theorem rwo_of {w : World} {base : Nat} {T : TypeId} {sz : Nat} {a : Option Addr} {n c : Nat} {F : Nat → Value} (h : w.ownsRow base T sz (.slice a n c) n ((List.range (n * sz)).map F)) : Rwo w base w.heap.size T sz a n c F :=
  ⟨h, fun g hg => (World.ownsRow.lt h g hg).2⟩
def zX (id mo ep si te se : Int) : NdX := ⟨id, mo, ep, si, false, 0, 0, 0, te, 0, fun _ => (0, 0, 0, 0), 0, fun _ => (0, 0, 0, 0, false), 0, false, 0, fun _ => (0, 0), 0, se⟩
theorem zX_own (id mo ep si te se : Int) (w : World) (l u : Nat) : NdO w l u (ndV (zX id mo ep si te se) none 0 none 0 none 0) (zX id mo ep si te se) :=
  ⟨none, 0, none, 0, none, 0, rfl, ⟨Nat.zero_le _, Nat.zero_le _, Nat.zero_le _⟩, ⟨⟨rfl, .inl ⟨rfl, rfl⟩⟩, fun g e => by cases e⟩, ⟨⟨rfl, .inl ⟨rfl, rfl⟩⟩, fun g e => by cases e⟩, ⟨⟨rfl, .inl ⟨rfl, rfl⟩⟩, fun g e => by cases e⟩⟩
end Go.Proofs.YtlllbahfjihepaaGreat
namespace Go.Proofs.YtlllbahfjihepaaGreat
open Go.RowKit
set_option linter.unusedVariables false
theorem okX_short {x : NdX} (h : okX x = true) : x.na ≤ 16 ∧ x.np ≤ 8 ∧ x.nh ≤ 16 := by
  unfold okX ndB ndA at h
  simp only [Bool.and_eq_true] at h
  obtain ⟨⟨_, _, _, h1, h2, _, h3, _⟩, _⟩ := h
  refine ⟨?_, ?_, ?_⟩
  · unfold tabB at h1
    simp only [Bool.and_eq_true, decide_eq_true_eq] at h1
    omega
  · exact oks_le h2
  · unfold hrB at h3
    simp only [Bool.and_eq_true, decide_eq_true_eq] at h3
    omega
def bootX (x : NdX) (ct : Int) : NdX × Int := match okX x && cmX x ct with
  | false => (zX 0 0 0 0 0 0, 1)
  | true => match x.mo == 0 with
    | false => (x, 14)
    | true => match x.ep == 100000 with
      | true => (x, 4)
      | false => (zX (nwN x.ni) (stM x.mo x.ep x.si 1 ct) (stE x.mo x.ep x.si 1 ct) (stS x.mo x.ep x.si 1 ct) (stE x.mo x.ep x.si 1 ct) ct, 0)
def crashX (x : NdX) (ct : Int) : NdX × Int := match okX x && cmX x ct with
  | false => (zX 0 0 0 0 0 0, 1)
  | true => match x.mo == 0 with
    | true => (x, 2)
    | false => (zX (nwN x.ni) (stM x.mo x.ep x.si 2 ct) (stE x.mo x.ep x.si 2 ct) (stS x.mo x.ep x.si 2 ct) (stE x.mo x.ep x.si 2 ct) (nwS x.ni), 0)
theorem copied {w w' : World} {x : NdX} {a1 : Option Addr} {c1 : Nat} {a2 : Option Addr} {c2 : Nat} {a3 : Option Addr} {c3 : Nat} {base : Nat} (hb : x.na ≤ 16 ∧ x.np ≤ 8 ∧ x.nh ≤ 16)
    (o1 : w'.ownsRow base 104 4 (.slice a1 x.na c1) x.na (krow x.AM x.na)) (o2 : w'.ownsRow base 94 5 (.slice a2 x.np c2) x.np ((List.range (x.np * 5)).map (MFPeer x.QM))) (o3 : w'.ownsRow base 99 2 (.slice a3 x.nh c3) x.nh ((List.range (x.nh * 2)).map (MFIval x.HM))) :
    NdO w' base w'.heap.size (ndV x a1 c1 a2 c2 a3 c3) x :=
  ⟨a1, c1, a2, c2, a3, c3, rfl, ⟨by omega, by omega, by omega⟩, rwo_of o1, rwo_of o2, rwo_of o3⟩
theorem specBootX (A : Array Value) (x : NdX) (ct : Int) (w : World) (h : NdS w A x) :
    Calls Tryz.prog 6 #[.agg A, .int .i64 ct] w fun e w' => ∃ R, e = .returned (.tuple #[.agg R, .int .i64 (bootX x ct).2]) ∧ NdO w' w.heap.size w'.heap.size R (bootX x ct).1 ∧ Below w.heap.size w w' := by
  obtain ⟨aa, ac, pa, pc, ha, hc, rfl, hl, h1, h2, h3⟩ := h
  unfold bootX
  cases hk : okX x && cmX x ct
  · refine (specBoot_bad x.ni x.mo x.ep x.si x.kn x.lo x.hi x.la x.te x.us aa x.na ac x.AM pa x.np pc x.QM x.hs x.ls ha x.nh hc x.HM x.se ct w hl.1 h1.src hl.2.1 h2.src hl.2.2 h3.src hk).mono ?_
    rintro e w' ⟨rfl, hB⟩
    exact ⟨_, rfl, zX_own _ _ _ _ _ _ _ _ _, hB⟩
  have hb := okX_short (x := x) (by simp only [Bool.and_eq_true] at hk; exact hk.1)
  cases hm : x.mo == 0
  · refine (specBoot_not x.ni x.mo x.ep x.si x.kn x.lo x.hi x.la x.te x.us aa x.na ac x.AM pa x.np pc x.QM x.hs x.ls ha x.nh hc x.HM x.se ct w hb.1 h1 hb.2.1 h2 hb.2.2 h3 hk hm).mono ?_
    rintro e w' ⟨a1, c1, a2, c2, a3, c3, rfl, ⟨o1, o2, o3⟩, hB⟩
    exact ⟨_, rfl, copied (w := w) hb o1 o2 o3, hB⟩
  cases he : x.ep == 100000
  · refine (specBoot_done x.ni x.mo x.ep x.si x.kn x.lo x.hi x.la x.te x.us aa x.na ac x.AM pa x.np pc x.QM x.hs x.ls ha x.nh hc x.HM x.se ct w hl.1 h1.src hl.2.1 h2.src hl.2.2 h3.src hk hm he).mono ?_
    rintro e w' ⟨rfl, hB⟩
    exact ⟨_, rfl, zX_own _ _ _ _ _ _ _ _ _, hB⟩
  · refine (specBoot_spent x.ni x.mo x.ep x.si x.kn x.lo x.hi x.la x.te x.us aa x.na ac x.AM pa x.np pc x.QM x.hs x.ls ha x.nh hc x.HM x.se ct w hb.1 h1 hb.2.1 h2 hb.2.2 h3 hk hm he).mono ?_
    rintro e w' ⟨a1, c1, a2, c2, a3, c3, rfl, ⟨o1, o2, o3⟩, hB⟩
    exact ⟨_, rfl, copied (w := w) hb o1 o2 o3, hB⟩
theorem specCrashX (A : Array Value) (x : NdX) (ct : Int) (w : World) (h : NdS w A x) :
    Calls Tryz.prog 12 #[.agg A, .int .i64 ct] w fun e w' => ∃ R, e = .returned (.tuple #[.agg R, .int .i64 (crashX x ct).2]) ∧ NdO w' w.heap.size w'.heap.size R (crashX x ct).1 ∧ Below w.heap.size w w' := by
  obtain ⟨aa, ac, pa, pc, ha, hc, rfl, hl, h1, h2, h3⟩ := h
  unfold crashX
  cases hk : okX x && cmX x ct
  · refine (specCrash_bad x.ni x.mo x.ep x.si x.kn x.lo x.hi x.la x.te x.us aa x.na ac x.AM pa x.np pc x.QM x.hs x.ls ha x.nh hc x.HM x.se ct w hl.1 h1.src hl.2.1 h2.src hl.2.2 h3.src hk).mono ?_
    rintro e w' ⟨rfl, hB⟩
    exact ⟨_, rfl, zX_own _ _ _ _ _ _ _ _ _, hB⟩
  have hb := okX_short (x := x) (by simp only [Bool.and_eq_true] at hk; exact hk.1)
  cases hm : x.mo == 0
  · refine (specCrash_done x.ni x.mo x.ep x.si x.kn x.lo x.hi x.la x.te x.us aa x.na ac x.AM pa x.np pc x.QM x.hs x.ls ha x.nh hc x.HM x.se ct w hl.1 h1.src hl.2.1 h2.src hl.2.2 h3.src hk hm).mono ?_
    rintro e w' ⟨rfl, hB⟩
    exact ⟨_, rfl, zX_own _ _ _ _ _ _ _ _ _, hB⟩
  · refine (specCrash_off x.ni x.mo x.ep x.si x.kn x.lo x.hi x.la x.te x.us aa x.na ac x.AM pa x.np pc x.QM x.hs x.ls ha x.nh hc x.HM x.se ct w hb.1 h1 hb.2.1 h2 hb.2.2 h3 hk hm).mono ?_
    rintro e w' ⟨a1, c1, a2, c2, a3, c3, rfl, ⟨o1, o2, o3⟩, hB⟩
    exact ⟨_, rfl, copied (w := w) hb o1 o2 o3, hB⟩
end Go.Proofs.YtlllbahfjihepaaGreat
namespace Go.Proofs.YtlllbahfjihepaaGreat
open Go.RowKit
set_option linter.unusedVariables false
def wfX (x : NdX) : Prop := ∀ i, i < x.na → (Lit.int .i64 (x.AM i).1).wf = true
def NdW (w : World) (A : Array Value) (x : NdX) : Prop := ∃ aa ac pa pc ha hc, A = ndV x aa ac pa pc ha hc ∧ (x.na ≤ maxLen ∧ x.np ≤ maxLen ∧ x.nh ≤ maxLen) ∧ SrcC w aa (x.na * 4) (MFAsk x.AM) ∧ SrcC w pa (x.np * 5) (MFPeer x.QM) ∧ SrcC w ha (x.nh * 2) (MFIval x.HM)
theorem NdS.weak {w : World} {A : Array Value} {x : NdX} (h : NdS w A x) : NdW w A x := by
  obtain ⟨aa, ac, pa, pc, ha, hc, e, hl, h1, h2, h3⟩ := h
  exact ⟨aa, ac, pa, pc, ha, hc, e, hl, h1.src, h2.src, h3.src⟩
theorem NdW.below {w w' : World} {A : Array Value} {x : NdX} (h : NdW w A x) (hb : Below w.heap.size w w') : NdW w' A x := by
  obtain ⟨aa, ac, pa, pc, ha, hc, e, hl, h1, h2, h3⟩ := h
  exact ⟨aa, ac, pa, pc, ha, hc, e, hl, h1.below hb, h2.below hb, h3.below hb⟩
theorem NdW.size {w : World} {A : Array Value} {x : NdX} (h : NdW w A x) : A.size = 16 := by
  obtain ⟨aa, ac, pa, pc, ha, hc, e, _⟩ := h
  rw [e]; rfl
theorem toNodeW (A : Array Value) (x : NdX) (w : World) (h : NdW w A x) (hb : x.na ≤ 1048576 ∧ x.np ≤ 1048576 ∧ x.nh ≤ 1048576) :
    Calls Tryz.prog 7 #[.agg A] w fun e w' => ∃ R, e = .returned (.agg R) ∧ NdO w' w.heap.size w'.heap.size R x ∧ Below w.heap.size w w' := by
  obtain ⟨aa, ac, pa, pc, ha, hc, rfl, hl, h1, h2, h3⟩ := h
  refine (toNode_any x.ni x.mo x.ep x.si x.kn x.lo x.hi x.la x.te x.us aa x.na ac x.AM pa x.np pc x.QM x.hs x.ls ha x.nh hc x.HM x.se w hb.1 h1 hb.2.1 h2 hb.2.2 h3).mono ?_
  rintro e w' ⟨jA, jP, jH, rfl, q1, q2, q3, r1, r2, r3, hB⟩
  exact ⟨_, rfl, ⟨some ⟨jA, 0, none⟩, x.na, some ⟨jP, 0, none⟩, x.np, some ⟨jH, 0, none⟩, x.nh, rfl, hb, r1.rwo hb.1 q1, r2.rwo hb.2.1 (by omega), r3.rwo hb.2.2 (by omega)⟩, hB⟩
theorem szNodeW (A : Array Value) (x : NdX) (Z : Int) (w : World) (h : NdW w A x) (h0 : 0 ≤ Z) (h1 : Z ≤ 1048576) :
    Calls Tryz.prog 5 #[.agg A, .int .i64 Z] w fun e w' => ∃ L : Int, e = .returned (.int .i64 L) ∧ (0 ≤ L → (x.na ≤ 1048576 ∧ x.np ≤ 1048576 ∧ x.nh ≤ 1048576) ∧ L ≤ 1048576) ∧ Below w.heap.size w w' := by
  obtain ⟨aa, ac, pa, pc, ha, hc, rfl, hl, r1, r2, r3⟩ := h
  refine (szNode_at x.ni x.mo x.ep x.si x.kn x.lo x.hi x.la x.te x.us aa x.na ac x.AM pa x.np pc x.QM x.hs x.ls ha x.nh hc x.HM x.se Z w hl.1 hl.2.1 hl.2.2 h0 h1).mono ?_
  rintro e w' ⟨L, rfl, hL, hB⟩
  exact ⟨L, rfl, fun h => ⟨⟨(hL h).1, (hL h).2.1, (hL h).2.2.1⟩, (hL h).2.2.2⟩, hB⟩
end Go.Proofs.YtlllbahfjihepaaGreat
namespace Go.Proofs.YtlllbahfjihepaaGreat
open Go.RowKit
set_option linter.unusedVariables false
set_option maxRecDepth 100000 in
set_option maxHeartbeats 8000000 in
theorem implNewNode_any (ni : Int) (w : World) :
    Calls Tryz.prog 59 #[.int .i64 ni] w fun e w' => e = .returned (.agg #[.int .i64 (nwN ni), .int .i64 0, .int .i64 0, .int .i64 0, .bool false, .int .i64 0, .int .i64 0, .int .i64 0, .int .i64 0, .int .i64 0, .slice none 0 0, .slice none 0 0, .bool false, .int .i64 0, .slice none 0 0, .int .i64 (nwS ni)]) ∧ Below w.heap.size w w' := by
  have C1 := fun w' => isNode_any ni w'
  cases h1 : nodB ni
  · have e0 : nwN ni = 0 := by unfold nwN; rw [h1]
    have e1 : nwS ni = 0 := by unfold nwS; rw [h1]
    rw [e0, e1]
    clear e0 e1
    go_enter Tryz.func59, Tryz.ntmps59
    go_wp2_with fail
    refine (C1 _).mono ?_
    rintro e v1 ⟨rfl, rfl⟩
    rw [h1]
    go_wp2_with fail
    have N := Nx16.new w (.int .i64 0) (.int .i64 0) (.int .i64 0) (.int .i64 0) (.bool false) (.int .i64 0) (.int .i64 0) (.int .i64 0) (.int .i64 0) (.int .i64 0) (.slice none 0 0) (.slice none 0 0) (.bool false) (.int .i64 0) (.slice none 0 0) (.int .i64 0) 49
    have B := Below.nw w (.cells #[.int .i64 0, .int .i64 0, .int .i64 0, .int .i64 0, .bool false, .int .i64 0, .int .i64 0, .int .i64 0, .int .i64 0, .int .i64 0, .slice none 0 0, .slice none 0 0, .bool false, .int .i64 0, .slice none 0 0, .int .i64 0] 49)
    generalize w.alloc (.cells #[.int .i64 0, .int .i64 0, .int .i64 0, .int .i64 0, .bool false, .int .i64 0, .int .i64 0, .int .i64 0, .int .i64 0, .int .i64 0, .slice none 0 0, .slice none 0 0, .bool false, .int .i64 0, .slice none 0 0, .int .i64 0] 49) = v at *
    obtain ⟨n0, n1, n2, n3, n4, n5, n6, n7, n8, n9, n10, n11, n12, n13, n14, n15, n16, m0, m1, m2, m3, m4, m5, m6, m7, m8, m9, m10, m11, m12, m13, m14, m15⟩ := id N
    exact bodyPost_ret (v := (.agg #[.int .i64 0, .int .i64 0, .int .i64 0, .int .i64 0, .bool false, .int .i64 0, .int .i64 0, .int .i64 0, .int .i64 0, .int .i64 0, .slice none 0 0, .slice none 0 0, .bool false, .int .i64 0, .slice none 0 0, .int .i64 0])) (by simp (maxDischargeDepth := 6) [results, Tryz.results59, go_sem, *]) rfl ⟨rfl, B⟩
  · have e0 : nwN ni = ni := by unfold nwN; rw [h1]
    have e1 : nwS ni = -1 := by unfold nwS; rw [h1]
    rw [e0, e1]
    clear e0 e1
    go_enter Tryz.func59, Tryz.ntmps59
    go_wp2_with fail
    refine (C1 _).mono ?_
    rintro e v1 ⟨rfl, rfl⟩
    rw [h1]
    go_wp2_with fail
    have N := Nx16.new w (.int .i64 ni) (.int .i64 0) (.int .i64 0) (.int .i64 0) (.bool false) (.int .i64 0) (.int .i64 0) (.int .i64 0) (.int .i64 0) (.int .i64 0) (.slice none 0 0) (.slice none 0 0) (.bool false) (.int .i64 0) (.slice none 0 0) (.int .i64 (-1)) 49
    have B := Below.nw w (.cells #[.int .i64 ni, .int .i64 0, .int .i64 0, .int .i64 0, .bool false, .int .i64 0, .int .i64 0, .int .i64 0, .int .i64 0, .int .i64 0, .slice none 0 0, .slice none 0 0, .bool false, .int .i64 0, .slice none 0 0, .int .i64 (-1)] 49)
    generalize w.alloc (.cells #[.int .i64 ni, .int .i64 0, .int .i64 0, .int .i64 0, .bool false, .int .i64 0, .int .i64 0, .int .i64 0, .int .i64 0, .int .i64 0, .slice none 0 0, .slice none 0 0, .bool false, .int .i64 0, .slice none 0 0, .int .i64 (-1)] 49) = v at *
    obtain ⟨n0, n1, n2, n3, n4, n5, n6, n7, n8, n9, n10, n11, n12, n13, n14, n15, n16, m0, m1, m2, m3, m4, m5, m6, m7, m8, m9, m10, m11, m12, m13, m14, m15⟩ := id N
    exact bodyPost_ret (v := (.agg #[.int .i64 ni, .int .i64 0, .int .i64 0, .int .i64 0, .bool false, .int .i64 0, .int .i64 0, .int .i64 0, .int .i64 0, .int .i64 0, .slice none 0 0, .slice none 0 0, .bool false, .int .i64 0, .slice none 0 0, .int .i64 (-1)])) (by simp (maxDischargeDepth := 6) [results, Tryz.results59, go_sem, *]) rfl ⟨rfl, B⟩
end Go.Proofs.YtlllbahfjihepaaGreat
