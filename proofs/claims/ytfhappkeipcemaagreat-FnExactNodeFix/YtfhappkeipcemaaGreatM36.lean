/- A new node; the life behind an event (the specification). What a refused call leaves; the life behind an event (the specification), over arrays of cells. -/
import Derived.Test.YtfhappkeipcemaaGreatRows
import Derived.WalkKit
import Derived.WalkSpells
import Derived.WalkLawsBesides
import Derived.Deep.QuietTactic
import Derived.BigQuiet
import Derived.Deep.OwnRows
import Derived.Deep.RegionHeld
import Derived.Laws.BytesArg
import Derived.Deep.RegionHeld3
import Derived.Deep.DeepCutAuto
import Derived.WalkSmall
import Derived.Deep.DeepAppendRoom
import Derived.Laws.OwnMore
import Derived.Test.YtfhappkeipcemaaGreatM1
import Derived.Test.YtfhappkeipcemaaGreatM2
import Derived.Test.YtfhappkeipcemaaGreatM3
import Derived.Test.YtfhappkeipcemaaGreatM4
import Derived.Test.YtfhappkeipcemaaGreatM5
import Derived.Test.YtfhappkeipcemaaGreatM6
import Derived.Test.YtfhappkeipcemaaGreatM7
import Derived.Test.YtfhappkeipcemaaGreatM12
import Derived.Test.YtfhappkeipcemaaGreatM14
import Derived.Test.YtfhappkeipcemaaGreatM22
import Derived.Test.YtfhappkeipcemaaGreatM26
import Derived.Test.YtfhappkeipcemaaGreatM30
import Derived.Test.YtfhappkeipcemaaGreatM31
namespace Go.Proofs.YtfhappkeipcemaaGreat
open Go.RowKit
set_option linter.unusedVariables false
set_option maxRecDepth 100000 in
set_option maxHeartbeats 8000000 in
theorem specLive_any (ni mo ep si : Int) (kn : Bool) (lo hi la te us : Int) (aa : Option Addr) (na ac : Nat) (AM : Nat → KT) (pa : Option Addr) (np pc : Nat) (QM : Nat → PT) (hs : Bool) (ls : Int) (ha : Option Addr) (nh hc : Nat) (HM : Nat → VT) (se : Int) (kd ct : Int) (w : World) :
    Calls Tryz.prog 69 #[.agg #[.int .i64 ni, .int .i64 mo, .int .i64 ep, .int .i64 si, .bool kn, .int .i64 lo, .int .i64 hi, .int .i64 la, .int .i64 te, .int .i64 us, .slice aa na ac, .slice pa np pc, .bool hs, .int .i64 ls, .slice ha nh hc, .int .i64 se], .int .i64 kd, .int .i64 ct] w fun e w' => e = .returned (.agg #[.int .i64 (stM mo ep si kd ct), .int .i64 (stE mo ep si kd ct), .int .i64 (stS mo ep si kd ct)]) ∧ Below w.heap.size w w' := by
  have A0 := Below.nw w (.cells #[.int .i64 ni, .int .i64 mo, .int .i64 ep, .int .i64 si, .bool kn, .int .i64 lo, .int .i64 hi, .int .i64 la, .int .i64 te, .int .i64 us, .slice aa na ac, .slice pa np pc, .bool hs, .int .i64 ls, .slice ha nh hc, .int .i64 se] 66)
  have A1 := Below.nw (w.alloc (.cells #[.int .i64 ni, .int .i64 mo, .int .i64 ep, .int .i64 si, .bool kn, .int .i64 lo, .int .i64 hi, .int .i64 la, .int .i64 te, .int .i64 us, .slice aa na ac, .slice pa np pc, .bool hs, .int .i64 ls, .slice ha nh hc, .int .i64 se] 66)) (.cells #[.int .i64 0, .int .i64 0, .int .i64 0] 56)
  have N := (Nx16.new w (.int .i64 ni) (.int .i64 mo) (.int .i64 ep) (.int .i64 si) (.bool kn) (.int .i64 lo) (.int .i64 hi) (.int .i64 la) (.int .i64 te) (.int .i64 us) (.slice aa na ac) (.slice pa np pc) (.bool hs) (.int .i64 ls) (.slice ha nh hc) (.int .i64 se) 66).below A1
  have R := Tx3.new (w.alloc (.cells #[.int .i64 ni, .int .i64 mo, .int .i64 ep, .int .i64 si, .bool kn, .int .i64 lo, .int .i64 hi, .int .i64 la, .int .i64 te, .int .i64 us, .slice aa na ac, .slice pa np pc, .bool hs, .int .i64 ls, .slice ha nh hc, .int .i64 se] 66)) (.int .i64 0) (.int .i64 0) (.int .i64 0) 56
  have B := A0.trans (A1.mono A0.size)
  simp only [World.size_alloc] at R
  clear A0 A1
  have C1 := fun w' => specLifeStep_any mo ep si kd ct w'
  generalize stM mo ep si kd ct = M1 at *
  generalize stE mo ep si kd ct = E1 at *
  generalize stS mo ep si kd ct = S1 at *
  generalize stC mo ep si kd ct = K1 at *
  go_enter Tryz.func69, Tryz.ntmps69
  go_upto_region 1 with fail
  generalize (w.alloc (.cells #[.int .i64 ni, .int .i64 mo, .int .i64 ep, .int .i64 si, .bool kn, .int .i64 lo, .int .i64 hi, .int .i64 la, .int .i64 te, .int .i64 us, .slice aa na ac, .slice pa np pc, .bool hs, .int .i64 ls, .slice ha nh hc, .int .i64 se] 66)).alloc (.cells #[.int .i64 0, .int .i64 0, .int .i64 0] 56) = v at *
  obtain ⟨n0, n1, n2, n3, n4, n5, n6, n7, n8, n9, n10, n11, n12, n13, n14, n15, n16, m0, m1, m2, m3, m4, m5, m6, m7, m8, m9, m10, m11, m12, m13, m14, m15⟩ := id N
  go_wp2_with fail
  refine (C1 _).mono ?_
  rintro e v1 ⟨rfl, hb⟩
  clear n0 n1 n2 n3 n4 n5 n6 n7 n8 n9 n10 n11 n12 n13 n14 n15 n16 m0 m1 m2 m3 m4 m5 m6 m7 m8 m9 m10 m11 m12 m13 m14 m15
  replace B := B.trans (hb.mono B.size)
  replace R := R.below hb
  clear hb C1 N
  have A2 := Below.nw v1 (.cells #[.int .i64 M1, .int .i64 E1, .int .i64 S1] 56)
  have Q := Tx3.new v1 (.int .i64 M1) (.int .i64 E1) (.int .i64 S1) 56
  go_upto_region 2 with fail
  replace B := B.trans (A2.mono B.size)
  replace R := R.below A2
  clear A2
  generalize v1.alloc (.cells #[.int .i64 M1, .int .i64 E1, .int .i64 S1] 56) = v2 at *
  generalize v1.heap.size = jq at *
  obtain ⟨r0, r1, r2, r3, r4, r5, r6⟩ := id R
  obtain ⟨q0, q1, q2, q3, q4, q5, q6⟩ := id Q
  have R1 := ((R.set0 (.int .i64 M1)).set1 (.int .i64 E1)).set2 (.int .i64 S1)
  have B1 := ((B.setCell (p := ⟨w.heap.size + 1, 0, none⟩) (by simp) (.int .i64 M1)).setCell (p := ⟨w.heap.size + 1, 1, none⟩) (by simp) (.int .i64 E1)).setCell (p := ⟨w.heap.size + 1, 2, none⟩) (by simp) (.int .i64 S1)
  go_wp2_with fail
  clear r0 r1 r2 r3 r4 r5 r6 q0 q1 q2 q3 q4 q5 q6 R Q B
  generalize ((v2.setCell ⟨w.heap.size + 1, 0, none⟩ (.int .i64 M1)).setCell ⟨w.heap.size + 1, 1, none⟩ (.int .i64 E1)).setCell ⟨w.heap.size + 1, 2, none⟩ (.int .i64 S1) = v3 at *
  obtain ⟨r0, r1, r2, r3, r4, r5, r6⟩ := id R1
  exact bodyPost_ret (v := (.agg #[.int .i64 M1, .int .i64 E1, .int .i64 S1])) (by simp (maxDischargeDepth := 6) [results, Tryz.results69, go_sem, *]) rfl ⟨rfl, B1⟩
end Go.Proofs.YtfhappkeipcemaaGreat
namespace Go.Proofs.YtfhappkeipcemaaGreat
open Go.RowKit
set_option linter.unusedVariables false
theorem specLiveX (A : Array Value) (x : NdX) (kd ct : Int) (w : World) (h : NdS w A x) :
    Calls Tryz.prog 69 #[.agg A, .int .i64 kd, .int .i64 ct] w fun e w' => e = .returned (.agg #[.int .i64 (stM x.mo x.ep x.si kd ct), .int .i64 (stE x.mo x.ep x.si kd ct), .int .i64 (stS x.mo x.ep x.si kd ct)]) ∧ Below w.heap.size w w' := by
  obtain ⟨aa, ac, pa, pc, ha, hc, rfl, hl, h1, h2, h3⟩ := h
  exact specLive_any x.ni x.mo x.ep x.si x.kn x.lo x.hi x.la x.te x.us aa x.na ac x.AM pa x.np pc x.QM x.hs x.ls ha x.nh hc x.HM x.se kd ct w
end Go.Proofs.YtfhappkeipcemaaGreat
