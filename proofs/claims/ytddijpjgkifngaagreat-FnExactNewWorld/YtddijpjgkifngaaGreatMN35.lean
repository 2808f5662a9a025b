/- Whether a node is right (the program): its parts, over arrays of cells -/
import Derived.Test.YtddijpjgkifngaaGreatMN13
import Derived.Test.YtddijpjgkifngaaGreatMN22
namespace Go.Proofs.YtddijpjgkifngaaGreat
open Go.RowKit
set_option linter.unusedVariables false
set_option maxRecDepth 100000
set_option maxHeartbeats 16000000
def noA (AM : Nat → KT) (id : Int) : Nat → Bool
 | 0 => true
 | k + 1 => noA AM id k && !((AM k).2.1 == id)
theorem kz {AM : Nat → KT} {id : Int} {k n : Nat} (h : noA AM id (k + 1) = false) (hk : k < n) : noA AM id n = false := by
 induction n with
 | zero => omega
 | succ n ih =>
  by_cases e : k = n
  ·subst e; exact h
  ·rw [noA, ih (by omega)]; rfl
theorem iM (AM : Nat → KT) (id : Int) : ∀ n, decide ((wtN id AM n : Int) ≤ 0) = noA AM id n
 | 0 => rfl
 | n + 1 => by
  rw [noA, ← iM AM id n, wtN]
  by_cases h : (AM n).2.1 = id
  ·simp [h]
  ·simp [h]
def ptB (x : NdX) : Bool := lfB x.mo x.ep x.si && (okL x.kn x.lo x.hi x.la && (aw x.te x.us x.AM x.na && (oks x.QM x.np && (apB x.hs x.ls && hrB x.HM x.nh))))
def nmB (x : NdX) : Bool := !(noA x.AM x.ni x.na && bI x.QM x.ni x.np)
def hnB (x : NdX) : Bool := ndD x.us x.na x.np x.hs x.ls x.nh x.se
theorem jM (x : NdX) : okX x = (aO x.ni && (ptB x && (inI x.se (-1) 1000000000000 && ((x.kn == knB x.mo x.ep x.si) && ((x.te == x.ep) && (!(nmB x) && (!(x.mo == 0) || hnB x))))))) := by
 unfold okX ndB ndA ptB nmB hnB wtI
 cases ht : aw x.te x.us x.AM x.na
 ·simp
 ·rw [show (bif true then ((wtN x.ni x.AM x.na : Nat) : Int) else 0) = (wtN x.ni x.AM x.na : Int) from rfl, iM]
  generalize aO x.ni = a1
  generalize lfB x.mo x.ep x.si = a2
  generalize okL x.kn x.lo x.hi x.la = a3
  generalize oks x.QM x.np = a4
  generalize apB x.hs x.ls = a5
  generalize hrB x.HM x.nh = a6
  generalize inI x.se (-1) 1000000000000 = a7
  generalize (x.kn == knB x.mo x.ep x.si) = a8
  generalize (x.te == x.ep) = a9
  generalize bI x.QM x.ni x.np = b1
  generalize noA x.AM x.ni x.na = b2
  generalize (!(x.mo == 0) || ndD x.us x.na x.np x.hs x.ls x.nh x.se) = b3
  rw [Bool.not_not, Bool.and_comm b2 b1]
  simp only [Bool.and_assoc, Bool.true_and]
attribute [-go_sem] loadCells storeCells in
theorem hI (AN : Array Value) (x : NdX) (w : World) (HN : NdW w AN x) :
 Calls Tryz.prog 180 #[.agg AN] w fun e w' => e = .returned (.bool (x.mo == 0)) ∧ Below w.heap.size w w' := by
 obtain ⟨aa, ac, pa, pc, ha, hc, rfl, hl, sA, sP, sH⟩ := HN
 clear hl sA sP sH
 have A0 := Below.nw w (.cells (ndV x aa ac pa pc ha hc) 98)
 have N := Bo.new w (ndV x aa ac pa pc ha hc) 98
 have B := A0
 clear A0
 go_enter Tryz.func180, Tryz.ntmps180
 go_upto_region 1 with fail
 generalize w.alloc (.cells (ndV x aa ac pa pc ha hc) 98) = v0 at *
 have c1 : v0.cell? ⟨w.heap.size, 1, none⟩ = some (.int .i64 x.mo) := N.cell rfl
 go_wp2_with fail
 go_ret
 exact ⟨rfl, B⟩
attribute [-go_sem] loadCells storeCells in
theorem dv (AN : Array Value) (x : NdX) (w : World) (HN : NdW w AN x) :
 Calls Tryz.prog 181 #[.agg AN] w fun e w' => e = .returned (.bool (hnB x)) ∧ Below w.heap.size w w' := by
 obtain ⟨aa, ac, pa, pc, ha, hc, rfl, hl, sA, sP, sH⟩ := HN
 clear sA sP sH
 unfold maxLen at hl
 have HR : Hid (hnB x = (x.na == 0 && (x.us == 0 && (x.np == 0 && ((!x.hs && (x.ls == 0)) && (x.nh == 0 && (x.se == -1))))))) := rfl
 generalize hnB x = R at *
 have A0 := Below.nw w (.cells (ndV x aa ac pa pc ha hc) 98)
 have N := Bo.new w (ndV x aa ac pa pc ha hc) 98
 have B := A0
 clear A0
 go_enter Tryz.func181, Tryz.ntmps181
 go_upto_region 1 with fail
 generalize w.alloc (.cells (ndV x aa ac pa pc ha hc) 98) = v0 at *
 have c9 : v0.cell? ⟨w.heap.size, 9, none⟩ = some (.int .i64 x.us) := N.cell rfl
 have c10 : v0.cell? ⟨w.heap.size, 10, none⟩ = some (.slice aa x.na ac) := N.cell rfl
 have c11 : v0.cell? ⟨w.heap.size, 11, none⟩ = some (.slice pa x.np pc) := N.cell rfl
 have c14 : v0.cell? ⟨w.heap.size, 14, none⟩ = some (.slice ha x.nh hc) := N.cell rfl
 have c15 : v0.cell? ⟨w.heap.size, 15, none⟩ = some (.int .i64 x.se) := N.cell rfl
 have hL0 : (loadCells ⟨w.heap.size, 12, none⟩ 2).run Tryz.prog v0 = .ok #[.bool x.hs, .int .i64 x.ls] v0 := N.loadAt (P := Tryz.prog) 12 2 (show 12 + 2 ≤ 16 by decide)
 clear N
 have q0 : ((x.na : Int) == 0) = (x.na == 0) := by rw [Bool.eq_iff_iff]; simp only [beq_iff_eq]; omega
 have q2 : ((x.np : Int) == 0) = (x.np == 0) := by rw [Bool.eq_iff_iff]; simp only [beq_iff_eq]; omega
 have q4 : ((x.nh : Int) == 0) = (x.nh == 0) := by rw [Bool.eq_iff_iff]; simp only [beq_iff_eq]; omega
 cases p0 : x.na == 0
 ·rw [p0] at q0
  replace HR : Hid (R = false) := by (show R = false; rw [HR.out, p0]; simp)
  go_wp2_with (rw [hL0])
  go_ret
  exact ⟨ab HR.out.symm, B⟩
 rw [p0] at q0
 cases p1 : x.us == 0
 ·skip
  replace HR : Hid (R = false) := by (show R = false; rw [HR.out, p0, p1]; simp)
  go_wp2_with (rw [hL0])
  go_ret
  exact ⟨ab HR.out.symm, B⟩
 cases p2 : x.np == 0
 ·rw [p2] at q2
  replace HR : Hid (R = false) := by (show R = false; rw [HR.out, p0, p1, p2]; simp)
  go_wp2_with (rw [hL0])
  go_ret
  exact ⟨ab HR.out.symm, B⟩
 rw [p2] at q2
 cases p3 : x.hs
 rotate_left
 ·skip
  replace HR : Hid (R = false) := by (show R = false; rw [HR.out, p0, p1, p2, p3]; simp)
  rw [p3] at hL0
  go_wp2_with (rw [hL0])
  go_ret
  exact ⟨ab HR.out.symm, B⟩
 rw [p3] at hL0
 cases p5 : x.ls == 0
 ·skip
  replace HR : Hid (R = false) := by (show R = false; rw [HR.out, p0, p1, p2, p3, p5]; simp)
  go_wp2_with (rw [hL0])
  go_ret
  exact ⟨ab HR.out.symm, B⟩
 cases p4 : x.nh == 0
 ·rw [p4] at q4
  replace HR : Hid (R = false) := by (show R = false; rw [HR.out, p0, p1, p2, p3, p5, p4]; simp)
  go_wp2_with (rw [hL0])
  go_ret
  exact ⟨ab HR.out.symm, B⟩
 rw [p4] at q4
 cases p6 : x.se == -1
 ·skip
  replace HR : Hid (R = false) := by (show R = false; rw [HR.out, p0, p1, p2, p3, p5, p4, p6]; simp)
  go_wp2_with (rw [hL0])
  go_ret
  exact ⟨ab HR.out.symm, B⟩
 replace HR : Hid (R = true) := by (show R = true; rw [HR.out, p0, p1, p2, p3, p5, p4, p6]; rfl)
 go_wp2_with (rw [hL0])
 go_ret
 exact ⟨ab HR.out.symm, B⟩
theorem cV (AN : Array Value) (x : NdX) (w : World) (HN : NdW w AN x) :
 Calls Tryz.prog 179 #[.agg AN] w fun e w' => e = .returned (.bool (nmB x)) ∧ Below w.heap.size w w' := by
 obtain ⟨aa, ac, pa, pc, ha, hc, rfl, hl, sA, sP, sH⟩ := HN
 have HA : Hid (ae w aa (x.na * 4) (aA x.AM)) := sA
 have HQ : Hid (ae w pa (x.np * 5) (ay x.QM)) := sP
 clear sA sP sH
 obtain ⟨hna, hnp, -⟩ := hl
 unfold maxLen at hna hnp
 have A0 := Below.nw w (.cells (ndV x aa ac pa pc ha hc) 98)
 have N := Bo.new w (ndV x aa ac pa pc ha hc) 98
 have B := A0
 clear A0
 go_enter Tryz.func179, Tryz.ntmps179
 go_upto_region 1 with fail
 generalize w.alloc (.cells (ndV x aa ac pa pc ha hc) 98) = v0 at *
 have c10 : v0.cell? ⟨w.heap.size, 10, none⟩ = some (.slice aa x.na ac) := N.cell rfl
 go_wp2_with fail
 clear c10
 go_loopw [11] (fun i wr => ∃ (k : Nat), k ≤ x.na ∧ i = .int .i64 (k : Int) ∧ noA x.AM x.ni k = true ∧ Bo wr w.heap.size (ndV x aa ac pa pc ha hc) ∧ Below w.heap.size w wr) (fun i _ => x.na - (intOf i).toNat)
 case atStart => exact ⟨0, Nat.zero_le _, rfl, rfl, N, B⟩
 case round =>
  clear N B
  obtain ⟨k, hk, rfl, hA, N, B⟩ := hrel
  by_cases hlt : k < x.na
  ·obtain ⟨x0, x1, x2, x3, hM⟩ := bW x.AM k
   obtain ⟨b, off, rfl, hf⟩ : ∃ b off, aa = some ⟨b, off, none⟩ ∧ Cs w b off (x.na * 4) (aA x.AM) := by
    rcases HA.out with q | q
    ·exact absurd q (by omega)
    ·exact q
   obtain ⟨c0, c1, c2, c3⟩ := (hf.below B hf.1).elAsk hlt hM
   have HLT : Hid (k < x.na) := hlt
   have hli : (k : Int) < (x.na : Int) := by omega
   have A1 := Below.nw wr (.cells #[.int .i64 x0, .int .i64 x1, .int .i64 x2, .int .i64 x3] 160)
   have K := Bo.new wr #[.int .i64 x0, .int .i64 x1, .int .i64 x2, .int .i64 x3] 160
   go_upto_region 4 with fail
   clear c0 c1 c2 c3
   replace B := B.trans (A1.mono B.size)
   replace N := N.below A1
   clear A1
   generalize wr.alloc (.cells #[.int .i64 x0, .int .i64 x1, .int .i64 x2, .int .i64 x3] 160) = v1 at *
   generalize wr.heap.size = bk at *
   have c0 : v1.cell? ⟨w.heap.size, 0, none⟩ = some (.int .i64 x.ni) := N.cell rfl
   have d0 : v1.cell? ⟨bk, 1, none⟩ = some (.int .i64 x1) := K.cell rfl
   clear K
   cases q : (x1 == x.ni)
   ·have HT : Hid (noA x.AM x.ni (k + 1) = true) := by rw [Hid, noA, hA, hM]; show (_ && !(x1 == x.ni)) = true; rw [q]; rfl
    clear hM hf hA
    go_wp2_with fail
    clear c0 d0
    go_roundw
    case rel => first | exact ⟨k + 1, HLT.out, by go_num, HT.out, N, B⟩ | exact ⟨_, ⟨k + 1, HLT.out, by go_num, HT.out, N, B⟩, rfl⟩
    case measure => have hlt' := HLT.out; simp [intOf]; omega
   ·have HR : Hid (nmB x = true) := by
     have e1 : noA x.AM x.ni (k + 1) = false := by rw [noA, hM]; show (_ && !(x1 == x.ni)) = false; rw [q]; simp
     show nmB x = true; unfold nmB; rw [kz e1 hlt]; simp
    clear hM hf hA
    go_wp2_with fail
    go_ret
    exact ⟨ab HR.out.symm, B⟩
  ·obtain rfl : k = x.na := by omega
   have hli : ¬ (x.na : Int) < (x.na : Int) := by omega
   have c11 : wr.cell? ⟨w.heap.size, 11, none⟩ = some (.slice pa x.np pc) := N.cell rfl
   go_wp2_with fail
   clear c11
   have hA1 := hA
   clear hA hli hlt
   go_loopw [24] (fun i wr => ∃ (k : Nat), k ≤ x.np ∧ i = .int .i64 (k : Int) ∧ bI x.QM x.ni k = true ∧ Bo wr w.heap.size (ndV x aa ac pa pc ha hc) ∧ Below w.heap.size w wr) (fun i _ => x.np - (intOf i).toNat)
   case atStart => exact ⟨0, Nat.zero_le _, rfl, rfl, N, B⟩
   case round =>
    clear N B
    obtain ⟨k, hk, rfl, hA, N, B⟩ := hrel
    by_cases hlt : k < x.np
    ·obtain ⟨x0, x1, x2, x3, x4, hM⟩ := bz x.QM k
     obtain ⟨b, off, rfl, hf⟩ : ∃ b off, pa = some ⟨b, off, none⟩ ∧ Cs w b off (x.np * 5) (ay x.QM) := by
      rcases HQ.out with q | q
      ·exact absurd q (by omega)
      ·exact q
     obtain ⟨c0, c1, c2, c3, c4⟩ := (hf.below B hf.1).elPeer hlt hM
     have HLT : Hid (k < x.np) := hlt
     have hli : (k : Int) < (x.np : Int) := by omega
     have A1 := Below.nw wr (.cells #[.int .i64 x0, .int .i64 x1, .int .i64 x2, .int .i64 x3, .bool x4] 157)
     have K := Bo.new wr #[.int .i64 x0, .int .i64 x1, .int .i64 x2, .int .i64 x3, .bool x4] 157
     go_upto_region 10 with fail
     clear c0 c1 c2 c3 c4
     replace B := B.trans (A1.mono B.size)
     replace N := N.below A1
     clear A1
     generalize wr.alloc (.cells #[.int .i64 x0, .int .i64 x1, .int .i64 x2, .int .i64 x3, .bool x4] 157) = v1 at *
     generalize wr.heap.size = bk at *
     have c0 : v1.cell? ⟨w.heap.size, 0, none⟩ = some (.int .i64 x.ni) := N.cell rfl
     have d0 : v1.cell? ⟨bk, 0, none⟩ = some (.int .i64 x0) := K.cell rfl
     clear K
     cases q : (x0 == x.ni)
     ·have HT : Hid (bI x.QM x.ni (k + 1) = true) := by rw [Hid, bI, hA, hM]; show (_ && !(x0 == x.ni)) = true; rw [q]; rfl
      clear hM hf hA
      go_wp2_with fail
      clear c0 d0
      go_roundw
      case rel => first | exact ⟨k + 1, HLT.out, by go_num, HT.out, N, B⟩ | exact ⟨_, ⟨k + 1, HLT.out, by go_num, HT.out, N, B⟩, rfl⟩
      case measure => have hlt' := HLT.out; simp [intOf]; omega
     ·have HR : Hid (nmB x = true) := by
       have e1 : bI x.QM x.ni (k + 1) = false := by rw [bI, hM]; show (_ && !(x0 == x.ni)) = false; rw [q]; simp
       show nmB x = true; unfold nmB; rw [iQ e1 hlt]; simp
      clear hM hf hA
      go_wp2_with fail
      go_ret
      exact ⟨ab HR.out.symm, B⟩
    ·obtain rfl : k = x.np := by omega
     have hli : ¬ (x.np : Int) < (x.np : Int) := by omega
     have HR : Hid (nmB x = false) := by (show nmB x = false; unfold nmB; rw [hA1, hA]; rfl)
     clear hA hA1
     go_wp2_with fail
     go_ret
     exact ⟨ab HR.out.symm, B⟩
theorem i7 (k : Nat) (kn : Bool) (lo hi a : Int) (A : Array Value) (w : World) (H : Bo w k A) (e0 : A[4]? = some (.bool kn)) (e1 : A[5]? = some (.int .i64 lo)) (e2 : A[6]? = some (.int .i64 hi)) (e3 : A[7]? = some (.int .i64 a)) :
 Calls Tryz.prog 195 #[.pointer (some ⟨k, 4, none⟩)] w fun e w' => e = .returned (.bool (okL kn lo hi a)) ∧ Below w.heap.size w w' := by
 have h1 := H.cell e0
 have h2 := H.cell e1
 have h3 := H.cell e2
 have h4 := H.cell e3
 cases kn
 ·go_enter Tryz.func195, Tryz.ntmps195
  go_wp2
  all_goals go_ret
  all_goals exact ⟨ab (by rw [Bool.eq_iff_iff]; simp [okL]; try omega), Below.refl _ _⟩
 cases c1 : okI lo hi <;> cases c2 : okT a
 all_goals
  go_enter Tryz.func195, Tryz.ntmps195
  go_wp2_with fail
  refine (il _ _ _).mono ?_
  rintro e v ⟨rfl, hb⟩
  rw [c1]
  have B := hb
  replace h1 := (H.below hb).cell e0
  replace h2 := (H.below hb).cell e1
  replace h3 := (H.below hb).cell e2
  replace h4 := (H.below hb).cell e3
  clear hb H
  go_wp2_with (first | (go_at_call 99; refine (aD _ _).mono ?_; rintro e w' ⟨rfl, rfl⟩))
  go_ret
  exact ⟨ab (by simp [okL, *]), B⟩
attribute [-go_sem] loadCells storeCells in
theorem gq (AN : Array Value) (x : NdX) (w : World) (HN : NdW w AN x) (hwf : wfX x) :
 Calls Tryz.prog 177 #[.agg AN] w fun e w' => e = .returned (.bool (ptB x)) ∧ Below w.heap.size w w' := by
 obtain ⟨aa, ac, pa, pc, ha, hc, rfl, hl, sA, sP, sH⟩ := HN
 have C1 := fun v => dE x.mo x.ep x.si v
 have C3 := fun (v : World) (h : Below w.heap.size w v) => gd x.te x.us aa x.na ac x.AM v hl.1 (sA.below h) hwf
 have C4 := fun (v : World) (h : Below w.heap.size w v) => cS pa x.np pc x.QM v hl.2.1 (sP.below h)
 have C5 := fun v => iR x.hs x.ls v
 have C6 := fun (v : World) (h : Below w.heap.size w v) => cQ ha x.nh hc x.HM v hl.2.2 (sH.below h)
 clear hl sA sP sH hwf
 have HR : Hid (ptB x = (lfB x.mo x.ep x.si && (okL x.kn x.lo x.hi x.la && (aw x.te x.us x.AM x.na && (oks x.QM x.np && (apB x.hs x.ls && hrB x.HM x.nh)))))) := rfl
 generalize ptB x = R at *
 have A0 := Below.nw w (.cells (ndV x aa ac pa pc ha hc) 98)
 have N := Bo.new w (ndV x aa ac pa pc ha hc) 98
 have B := A0
 clear A0
 go_enter Tryz.func177, Tryz.ntmps177
 go_upto_region 1 with fail
 generalize w.alloc (.cells (ndV x aa ac pa pc ha hc) 98) = v0 at *
 have hL0 : (loadCells ⟨w.heap.size, 1, none⟩ 3).run Tryz.prog v0 = .ok #[.int .i64 x.mo, .int .i64 x.ep, .int .i64 x.si] v0 := N.loadAt (P := Tryz.prog) 1 3 (show 1 + 3 ≤ 16 by decide)
 go_wp2_with (rw [hL0])
 refine (C1 v0).mono ?_
 rintro e v1 ⟨rfl, hb⟩
 clear hL0
 replace B := B.trans (hb.mono B.size)
 replace N := N.below hb
 clear hb
 cases h0 : lfB x.mo x.ep x.si
 ·replace HR : Hid (R = false) := by (show R = false; rw [HR.out, h0]; rfl)
  go_wp2_with fail
  go_ret
  exact ⟨ab HR.out.symm, B⟩
 go_wp2_with fail
 refine (i7 w.heap.size x.kn x.lo x.hi x.la _ v1 N rfl rfl rfl rfl).mono ?_
 rintro e v2 ⟨rfl, hb⟩
 replace B := B.trans (hb.mono B.size)
 replace N := N.below hb
 clear hb
 cases h1 : okL x.kn x.lo x.hi x.la
 ·replace HR : Hid (R = false) := by (show R = false; rw [HR.out, h0, h1]; rfl)
  go_wp2_with fail
  go_ret
  exact ⟨ab HR.out.symm, B⟩
 have hL0 : (loadCells ⟨w.heap.size, 8, none⟩ 3).run Tryz.prog v2 = .ok #[.int .i64 x.te, .int .i64 x.us, .slice aa x.na ac] v2 := N.loadAt (P := Tryz.prog) 8 3 (show 8 + 3 ≤ 16 by decide)
 go_wp2_with (rw [hL0])
 refine (C3 v2 B).mono ?_
 rintro e v3 ⟨rfl, hb⟩
 clear hL0
 replace B := B.trans (hb.mono B.size)
 replace N := N.below hb
 clear hb
 cases h2 : aw x.te x.us x.AM x.na
 ·replace HR : Hid (R = false) := by (show R = false; rw [HR.out, h0, h1, h2]; rfl)
  go_wp2_with fail
  go_ret
  exact ⟨ab HR.out.symm, B⟩
 have hL0 : v3.cell? ⟨w.heap.size, 11, none⟩ = some (.slice pa x.np pc) := N.cell rfl
 go_wp2_with fail
 refine (C4 v3 B).mono ?_
 rintro e v4 ⟨rfl, hb⟩
 clear hL0
 replace B := B.trans (hb.mono B.size)
 replace N := N.below hb
 clear hb
 cases h3 : oks x.QM x.np
 ·replace HR : Hid (R = false) := by (show R = false; rw [HR.out, h0, h1, h2, h3]; rfl)
  go_wp2_with fail
  go_ret
  exact ⟨ab HR.out.symm, B⟩
 have hL0 : (loadCells ⟨w.heap.size, 12, none⟩ 2).run Tryz.prog v4 = .ok #[.bool x.hs, .int .i64 x.ls] v4 := N.loadAt (P := Tryz.prog) 12 2 (show 12 + 2 ≤ 16 by decide)
 go_wp2_with (rw [hL0])
 refine (C5 v4).mono ?_
 rintro e v5 ⟨rfl, hb⟩
 clear hL0
 replace B := B.trans (hb.mono B.size)
 replace N := N.below hb
 clear hb
 cases h4 : apB x.hs x.ls
 ·replace HR : Hid (R = false) := by (show R = false; rw [HR.out, h0, h1, h2, h3, h4]; rfl)
  go_wp2_with fail
  go_ret
  exact ⟨ab HR.out.symm, B⟩
 have hL0 : v5.cell? ⟨w.heap.size, 14, none⟩ = some (.slice ha x.nh hc) := N.cell rfl
 go_wp2_with fail
 refine (C6 v5 B).mono ?_
 rintro e v6 ⟨rfl, hb⟩
 clear hL0
 replace B := B.trans (hb.mono B.size)
 replace N := N.below hb
 clear hb
 cases h5 : hrB x.HM x.nh
 ·replace HR : Hid (R = false) := by (show R = false; rw [HR.out, h0, h1, h2, h3, h4, h5]; rfl)
  go_wp2_with fail
  go_ret
  exact ⟨ab HR.out.symm, B⟩
 replace HR : Hid (R = true) := by (show R = true; rw [HR.out, h0, h1, h2, h3, h4, h5]; rfl)
 go_wp2_with fail
 go_ret
 exact ⟨ab HR.out.symm, B⟩
end Go.Proofs.YtddijpjgkifngaaGreat
