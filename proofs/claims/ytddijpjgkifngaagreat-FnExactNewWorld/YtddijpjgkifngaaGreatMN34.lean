/- Plans in the program: which are right, how long a round is, which roun -/
import Derived.Test.YtddijpjgkifngaaGreatMN22
namespace Go.Proofs.YtddijpjgkifngaaGreat
open Go.RowKit
set_option linter.unusedVariables false
set_option maxRecDepth 100000
set_option maxHeartbeats 16000000
theorem iq (o l : Int) (w : World) :
 Calls Tryz.prog 176 #[.agg #[.int .i64 o, .int .i64 l]] w fun e w' => e = .returned (.bool (slB o l)) ∧ Below w.heap.size w w' := by
 have B := Below.nw w (.cells #[.int .i64 o, .int .i64 l] 173)
 have C1 := fun w' => au o w'
 cases h1 : aO o
 ·have e0 : slB o l = false := by unfold slB; rw [h1]; rfl
  rw [e0]
  go_enter Tryz.func176, Tryz.ntmps176
  go_wp2_with fail
  refine (C1 _).mono ?_
  rintro e w' ⟨rfl, rfl⟩
  rw [h1]
  go_wp2_with fail
  go_ret
  exact ⟨rfl, B⟩
 ·have e0 : slB o l = lnB l := by unfold slB; rw [h1]; rfl
  rw [e0]
  clear e0
  by_cases ha : 1 ≤ l
  ·by_cases hb : l ≤ 1000000
   ·have e0 : lnB l = true := decide_eq_true ⟨ha, hb⟩
    rw [e0]
    clear e0
    go_enter Tryz.func176, Tryz.ntmps176
    go_wp2_with fail
    refine (C1 _).mono ?_
    rintro e w' ⟨rfl, rfl⟩
    rw [h1]
    go_wp2_with fail
    go_ret
    exact ⟨rfl, B⟩
   ·have e0 : lnB l = false := decide_eq_false (by omega)
    rw [e0]
    clear e0
    go_enter Tryz.func176, Tryz.ntmps176
    go_wp2_with fail
    refine (C1 _).mono ?_
    rintro e w' ⟨rfl, rfl⟩
    rw [h1]
    go_wp2_with fail
    go_ret
    exact ⟨ab (decide_eq_false (by omega)), B⟩
  ·have e0 : lnB l = false := decide_eq_false (by omega)
   rw [e0]
   clear e0
   go_enter Tryz.func176, Tryz.ntmps176
   go_wp2_with fail
   refine (C1 _).mono ?_
   rintro e w' ⟨rfl, rfl⟩
   rw [h1]
   go_wp2_with fail
   go_ret
   exact ⟨rfl, B⟩
theorem io (s g : Int) (a : Option Addr) (n c : Nat) (M : Nat → SlT) (w : World) (hm : n ≤ maxLen) (hs : ae w a (n * 2) (ak M)) :
 Calls Tryz.prog 147 #[.agg #[.int .i64 s, .int .i64 g, .slice a n c]] w fun e w' => e = .returned (.bool (plB s g M n)) ∧ Below w.heap.size w w' := by
 unfold maxLen at hm
 have B := Below.nw w (.cells #[.int .i64 s, .int .i64 g, .slice a n c] 43)
 have N := Tx3.new w (.int .i64 s) (.int .i64 g) (.slice a n c) 43
 have C1 := fun w' => aD s w'
 cases h1 : okT s
 ·have e0 : plB s g M n = false := by unfold plB; rw [h1]; rfl
  rw [e0]
  clear e0 hs
  go_enter Tryz.func147, Tryz.ntmps147; go_upto_region 1 with fail; generalize w.alloc (.cells #[.int .i64 s, .int .i64 g, .slice a n c] 43) = v at *; have n0 : _ ∧ _ := N; go_wp2_with fail; refine (C1 _).mono ?_; rintro e w' ⟨rfl, rfl⟩; rw [h1]; go_wp2_with fail; go_ret; exact ⟨rfl, B⟩
 by_cases h2 : g < 0
 ·have e0 : plB s g M n = false := by unfold plB; rw [h1, show gpB g = false from decide_eq_false (by omega)]; rfl
  rw [e0]
  clear e0 hs
  go_enter Tryz.func147, Tryz.ntmps147; go_upto_region 1 with fail; generalize w.alloc (.cells #[.int .i64 s, .int .i64 g, .slice a n c] 43) = v at *; have n0 : _ ∧ _ := N; go_wp2_with fail; refine (C1 _).mono ?_; rintro e w' ⟨rfl, rfl⟩; rw [h1]; go_wp2_with fail; go_ret; exact ⟨rfl, B⟩
 by_cases h3 : 100000 < g
 ·have e0 : plB s g M n = false := by unfold plB; rw [h1, show gpB g = false from decide_eq_false (by omega)]; rfl
  rw [e0]
  clear e0 hs
  go_enter Tryz.func147, Tryz.ntmps147; go_upto_region 1 with fail; generalize w.alloc (.cells #[.int .i64 s, .int .i64 g, .slice a n c] 43) = v at *; have n0 : _ ∧ _ := N; go_wp2_with fail; refine (C1 _).mono ?_; rintro e w' ⟨rfl, rfl⟩; rw [h1]; go_wp2_with fail; go_ret; exact ⟨rfl, B⟩
 have e2 : gpB g = true := decide_eq_true (by omega)
 by_cases h4 : (n : Int) < 1
 ·have e0 : plB s g M n = false := by unfold plB; rw [h1, e2, show cnB n = false from decide_eq_false (by omega)]; rfl
  rw [e0]
  clear e0 hs e2
  go_enter Tryz.func147, Tryz.ntmps147; go_upto_region 1 with fail; generalize w.alloc (.cells #[.int .i64 s, .int .i64 g, .slice a n c] 43) = v at *; have n0 : _ ∧ _ := N; go_wp2_with fail; refine (C1 _).mono ?_; rintro e w' ⟨rfl, rfl⟩; rw [h1]; go_wp2_with fail; go_ret; exact ⟨rfl, B⟩
 by_cases h5 : 12 < (n : Int)
 ·have e0 : plB s g M n = false := by unfold plB; rw [h1, e2, show cnB n = false from decide_eq_false (by omega)]; rfl
  rw [e0]
  clear e0 hs e2
  go_enter Tryz.func147, Tryz.ntmps147; go_upto_region 1 with fail; generalize w.alloc (.cells #[.int .i64 s, .int .i64 g, .slice a n c] 43) = v at *; have n0 : _ ∧ _ := N; go_wp2_with fail; refine (C1 _).mono ?_; rintro e w' ⟨rfl, rfl⟩; rw [h1]; go_wp2_with fail; go_ret; exact ⟨rfl, B⟩
 have e0 : plB s g M n = slA M n := by unfold plB; rw [h1, e2, show cnB n = true from decide_eq_true (by omega)]; rfl
 rw [e0]
 clear e0 e2
 obtain ⟨b, off, rfl, hf⟩ : ∃ b off, a = some ⟨b, off, none⟩ ∧ Cs w b off (n * 2) (ak M) := by
  rcases hs with q | q
  ·exact absurd q (by omega)
  ·exact q
 have HF : Hid (Cs w b off (n * 2) (ak M)) := hf
 clear hf hs
 go_enter Tryz.func147, Tryz.ntmps147; go_upto_region 1 with fail; generalize w.alloc (.cells #[.int .i64 s, .int .i64 g, .slice (some ⟨b, off, none⟩) n c] 43) = v at *
 have n0 : _ ∧ _ := N; go_wp2_with fail; refine (C1 _).mono ?_; rintro e w' ⟨rfl, rfl⟩; rw [h1]
 clear C1 h1
 go_wp2_with fail
 clear h2 h3 h4 h5 N
 clear n0
 go_loopw [34] (fun i wr => ∃ (k : Nat), k ≤ n ∧ i = .int .i64 k ∧ slA M k = true ∧ Below w.heap.size w wr) (fun i _ => n - (intOf i).toNat)
 case atStart => exact ⟨0, Nat.zero_le _, rfl, rfl, B⟩
 case round =>
  clear B
  obtain ⟨k, hk, rfl, hA, B⟩ := hrel
  by_cases hlt : k < n
  ·obtain ⟨o, l, hM⟩ := di M k
   obtain ⟨c1, c2⟩ := (HF.out.below B HF.out.1).elSlot hlt hM
   have HA : Hid (slA M (k + 1) = slB o l) := by rw [Hid, slA, hA, hM]; rfl
   have HLT : Hid (k < n) := hlt
   have hli : (k : Int) < (n : Int) := by omega
   have C1 := fun w' => iq o l w'
   have A1 := Below.nw wr (.cells #[.int .i64 o, .int .i64 l] 173)
   replace B := B.trans (A1.mono B.size)
   clear hM hA HF A1
   go_wp2_with fail
   refine (C1 _).mono ?_
   rintro e v1 ⟨rfl, hb⟩
   replace B := B.trans (hb.mono B.size)
   clear hb
   cases h1 : slB o l
   ·have HN : Hid (slA M (k + 1) = false) := by rw [Hid, HA.out, h1]
    clear HA
    go_wp2_with fail
    go_ret
    exact ⟨ab (ip HN.out HLT.out).symm, B⟩
   ·have HT : Hid (slA M (k + 1) = true) := by rw [Hid, HA.out, h1]
    clear HA
    go_wp2_with fail
    go_roundw
    case rel => exact ⟨k + 1, HLT.out, by go_num, HT.out, B⟩
    case measure => have hlt' := HLT.out; simp [intOf]; omega
  ·have hkn : k = n := by omega
   subst hkn
   have hli : ¬ (k : Int) < (k : Int) := by omega
   go_wp2_with fail
   go_ret
   exact ⟨by first | rfl | exact ab hA.symm, B⟩

attribute [-go_sem] loadCells storeCells in
theorem iT (AC : Array Value) (y : CfX) (w : World) (HC : CfW w AC y) :
 Calls Tryz.prog 98 #[.agg AC] w fun e w' => e = .returned (.bool (dp y)) ∧ Below w.heap.size w w' := by
 have CD := fun v => kb y.dn y.dd v
 have C4 := fun v => aD y.pt v
 have C5 := fun v => aD y.ag v
 have C6 := fun v => aD y.ke v
 obtain ⟨p, d, rfl, hpm, hr⟩ := HC
 have CP := fun (v : World) (h : Below w.heap.size w v) => io y.s y.g p y.m d y.PM v hpm (hr.below h)
 clear hr
 have HK : Hid (dp y = (okD y.dn y.dd && (plB y.s y.g y.PM y.m && ((inI y.li 0 8 && inI y.le 1 8) && ((okT y.pt && (okT y.ag && okT y.ke)) && inI y.lg 1 1000000))))) := by (rw [Hid]; unfold dp cfB; simp only [Bool.and_assoc])
 generalize dp y = R at *
 have A0 := Below.nw w (.cells (cfV y p d) 45)
 have C := Bo.new w (cfV y p d) 45
 have B := A0
 clear A0
 go_enter Tryz.func98, Tryz.ntmps98
 go_upto_region 1 with fail
 generalize w.alloc (.cells (cfV y p d) 45) = v0 at *
 have c2 : v0.cell? ⟨w.heap.size, 2, none⟩ = some (.int .i64 y.li) := C.cell rfl
 have c3 : v0.cell? ⟨w.heap.size, 3, none⟩ = some (.int .i64 y.le) := C.cell rfl
 go_upto_region 1 with fail
 go_cut [3] (fun s3 wx => s3 = .bool (inI y.li 0 8 && inI y.le 1 8) ∧ v0 = wx)
 case first =>
  go_wp2
  all_goals go_meet
  all_goals exact ⟨congrArg Value.bool (by rw [Bool.eq_iff_iff]; simp [inI]; try omega), rfl⟩
 case rest =>
 obtain ⟨rfl, rfl⟩ := hcut
 clear c2 c3
 obtain ⟨b1, hb1⟩ : ∃ b, (inI y.li 0 8 && inI y.le 1 8) = b := ⟨_, rfl⟩
 rw [hb1]
 have c4 : v0.cell? ⟨w.heap.size, 4, none⟩ = some (.int .i64 y.pt) := C.cell rfl
 have c5 : v0.cell? ⟨w.heap.size, 5, none⟩ = some (.int .i64 y.ag) := C.cell rfl
 have c6 : v0.cell? ⟨w.heap.size, 6, none⟩ = some (.int .i64 y.ke) := C.cell rfl
 go_upto_region 2 with fail
 go_cut [4] (fun s4 wx => s4 = .bool (okT y.pt && (okT y.ag && okT y.ke)) ∧ v0 = wx)
 case first =>
  cases h4 : okT y.pt
  ·go_wp2_with fail
   refine (C4 _).mono ?_
   rintro e w' ⟨rfl, rfl⟩
   rw [h4]
   go_wp2_with fail
   go_meet
   exact ⟨congrArg Value.bool (by rw [h4]; rfl), rfl⟩
  cases h5 : okT y.ag
  ·go_wp2_with fail
   refine (C4 _).mono ?_
   rintro e w' ⟨rfl, rfl⟩
   rw [h4]
   go_wp2_with fail
   refine (C5 _).mono ?_
   rintro e w' ⟨rfl, rfl⟩
   rw [h5]
   go_wp2_with fail
   go_meet
   exact ⟨congrArg Value.bool (by rw [h4, h5]; rfl), rfl⟩
  go_wp2_with fail
  refine (C4 _).mono ?_
  rintro e w' ⟨rfl, rfl⟩
  rw [h4]
  go_wp2_with fail
  refine (C5 _).mono ?_
  rintro e w' ⟨rfl, rfl⟩
  rw [h5]
  go_wp2_with fail
  refine (C6 _).mono ?_
  rintro e w' ⟨rfl, rfl⟩
  go_wp2_with fail
  go_meet
  exact ⟨congrArg Value.bool (by rw [h4, h5]; rfl), rfl⟩
 case rest =>
 obtain ⟨rfl, rfl⟩ := hcut
 clear c4 c5 c6 C4 C5 C6
 obtain ⟨b2, hb2⟩ : ∃ b, (okT y.pt && (okT y.ag && okT y.ke)) = b := ⟨_, rfl⟩
 rw [hb2]
 replace HK : Hid (R = (okD y.dn y.dd && (plB y.s y.g y.PM y.m && (b1 && (b2 && inI y.lg 1 1000000))))) := by (rw [Hid, HK.out, hb1, hb2])
 clear hb1 hb2
 have hL0 : (loadCells ⟨w.heap.size, 0, none⟩ 2).run Tryz.prog v0 = .ok #[.int .i64 y.dn, .int .i64 y.dd] v0 := C.loadAt (P := Tryz.prog) 0 2 (show 0 + 2 ≤ 11 by decide)
 go_wp2_with (rw [hL0])
 refine (CD _).mono ?_
 rintro e v1 ⟨rfl, hb⟩
 clear hL0
 replace B := B.trans (hb.mono B.size)
 replace C := C.below hb
 clear hb CD
 cases h6 : okD y.dn y.dd
 ·replace HK : Hid (R = false) := by (rw [Hid, HK.out, h6]; rfl)
  go_wp2_with fail
  go_ret
  exact ⟨ab HK.out.symm, B⟩
 have hL0 : (loadCells ⟨w.heap.size, 8, none⟩ 3).run Tryz.prog v1 = .ok #[.int .i64 y.s, .int .i64 y.g, .slice p y.m d] v1 := C.loadAt (P := Tryz.prog) 8 3 (show 8 + 3 ≤ 11 by decide)
 go_wp2_with (rw [hL0])
 refine (CP _ B).mono ?_
 rintro e v2 ⟨rfl, hb⟩
 clear hL0
 replace B := B.trans (hb.mono B.size)
 replace C := C.below hb
 clear hb CP
 cases h7 : plB y.s y.g y.PM y.m
 ·replace HK : Hid (R = false) := by (rw [Hid, HK.out, h6, h7]; rfl)
  go_wp2_with fail
  go_ret
  exact ⟨ab HK.out.symm, B⟩
 cases b1
 ·replace HK : Hid (R = false) := by (rw [Hid, HK.out, h6, h7]; rfl)
  go_wp2_with fail
  go_ret
  exact ⟨ab HK.out.symm, B⟩
 cases b2
 ·replace HK : Hid (R = false) := by (rw [Hid, HK.out, h6, h7]; rfl)
  go_wp2_with fail
  go_ret
  exact ⟨ab HK.out.symm, B⟩
 replace HK : Hid (R = inI y.lg 1 1000000) := by (rw [Hid, HK.out, h6, h7]; rfl)
 have c7 : v2.cell? ⟨w.heap.size, 7, none⟩ = some (.int .i64 y.lg) := C.cell rfl
 go_wp2
 all_goals go_ret
 all_goals exact ⟨ab (by rw [HK.out, Bool.eq_iff_iff]; simp [inI]; try omega), B⟩
end Go.Proofs.YtddijpjgkifngaaGreat
