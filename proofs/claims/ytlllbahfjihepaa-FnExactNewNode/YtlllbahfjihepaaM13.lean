/- A node, marked and held against its marks (the laws). The walk of the exact law of NewNode. -/
import Derived.WalkKit
import Derived.WalkSpells
import Derived.WalkLawsBesides
import Derived.Deep.RegionHeld
import Derived.Deep.RegionHeld3
import Derived.Deep.DeepCutAuto
import Derived.Test.YtlllbahfjihepaaM10
import Derived.Test.YtlllbahfjihepaaM2
import Derived.Test.YtlllbahfjihepaaM1
import Derived.Test.YtlllbahfjihepaaM6
import Derived.Test.YtlllbahfjihepaaM12
namespace Go.Proofs.Ytlllbahfjihepaa
open Go.RowKit
set_option linter.unusedVariables false
theorem bel_grownZ {w w' : World} (h : Below w.heap.size w w') : w.grownBy w' none := ⟨h.os, h.tape, h.output, h.size, fun k hk _ => h.block k hk⟩
theorem grownZ {w v w' : World} {o : Option Nat} (h : Below w.heap.size w v) (k : v.grownBy w' o) : w.grownBy w' o :=
  ⟨k.os.trans h.os, k.tape.trans h.tape, k.output.trans h.output, Nat.le_trans h.size k.size, fun i hi hne => (k.block i (Nat.lt_of_lt_of_le hi h.size) hne).trans (h.block i hi)⟩
theorem markAskS_ownZ (a : Option Addr) (n c base : Nat) (q0 : Int) (xs : List Value) (w : World) (hn : n ≤ 1048576) (hq : 0 < q0) (hq1 : q0 ≤ 1073741824) (h : w.ownsRow base 118 4 (.slice a n c) n xs) :
    Calls Try.prog 84 #[.slice a n c, .int .i64 q0] w fun e w' => e = .returned (.int .i64 (q0 + (n : Int) * 4)) ∧ SrcC w' a (n * 4) (mkAsk q0) ∧ w.grownBy w' (Value.slice a n c).ownBlock := by
  rcases h.2 with ⟨he, h0⟩ | ⟨g, cap, cur, he, _⟩
  · simp at he
    obtain ⟨rfl, rfl, rfl⟩ := he
    exact (markAskS_zero none 0 q0 w).mono fun e w' ⟨h1, h2⟩ => ⟨by rw [h1]; simp, .inl (by omega), h2 ▸ bel_grownZ (Below.refl _ _)⟩
  · simp at he
    obtain ⟨rfl, rfl⟩ := he
    obtain ⟨h1, h2, _, h3⟩ := ownF_row (mkAsk q0) h
    exact (markAskS_row g (c * 4) n c q0 w hn hq hq1 (Nat.mul_le_mul_right _ h2) h3).mono fun e w' ⟨r1, r2, r3⟩ => ⟨r1, .inr ⟨g, 0, rfl, r2.cs (Nat.mul_le_mul_right _ h2)⟩, r3.grK⟩
set_option maxHeartbeats 2000000 in
theorem markTable_q (ep us : Int) (a : Option Addr) (n c base : Nat) (q0 : Int) (xs : List Value) (w : World) (hn : n ≤ 1048576) (hq : 0 < q0) (hq1 : q0 ≤ 1073741824) (h : w.ownsRow base 118 4 (.slice a n c) n xs) :
    Calls Try.prog 56 #[.agg #[.int .i64 ep, .int .i64 us, .slice a n c], .int .i64 q0] w fun e w' => e = .returned (.int .i64 (q0 + (n : Int) * 4)) ∧ SrcC w' a (n * 4) (mkAsk q0) ∧ w.grownBy w' (Value.slice a n c).ownBlock := by
  have A0 := Below.nw w (.cells #[.int .i64 ep, .int .i64 us, .slice a n c] 63)
  have C := markAskS_ownZ a n c base q0 xs _ hn hq hq1 (World.ownsRow.alloc h (.cells #[.int .i64 ep, .int .i64 us, .slice a n c] 63))
  clear h
  go_enter Try.func56, Try.ntmps56
  go_wp2_with fail
  refine C.mono ?_
  rintro e w1 ⟨rfl, R1, hg⟩
  have G := grownZ A0 hg
  go_wp2_with fail
  go_ret
  exact ⟨rfl, R1, G⟩
set_option maxHeartbeats 2000000 in
theorem heldTable_q (ep us : Int) (a : Option Addr) (n c : Nat) (q0 : Int) (w : World) (hn : n ≤ 1048576) (hq : 0 < q0) (hq1 : q0 ≤ 1073741824) (h : SrcC w a (n * 4) (mkAsk q0)) :
    Calls Try.prog 59 #[.agg #[.int .i64 ep, .int .i64 us, .slice a n c], .int .i64 q0] w fun e w' => e = .returned (.int .i64 (q0 + (n : Int) * 4)) ∧ Below w.heap.size w w' := by
  have A0 := Below.nw w (.cells #[.int .i64 ep, .int .i64 us, .slice a n c] 63)
  have C := heldAskS_any a n c q0 _ hn hq hq1 (h.below A0)
  have hk : ¬ (q0 + (n : Int) * 4 < 0) := by omega
  clear h
  go_enter Try.func59, Try.ntmps59
  go_wp2_with fail
  refine C.mono ?_
  rintro e w1 ⟨rfl, rfl⟩
  go_wp2_with fail
  go_ret
  exact ⟨rfl, A0⟩
theorem ownB_some {a : Option Addr} {n c b off : Nat} (h : a = some ⟨b, off, none⟩) : (Value.slice a n c).ownBlock = some b := by subst h; rfl
def mkN (x : NdX) (q : Int) : Int := q + (x.na : Int) * 4 + (x.np : Int) * 5 + (x.nh : Int) * 2
attribute [-go_sem] loadCells in
set_option maxRecDepth 100000 in
set_option maxHeartbeats 4000000 in
theorem markNodeX (A : Array Value) (x : NdX) (q : Int) (l u : Nat) (w : World) (h : NdO w l u A x) (hq : 0 < q) (hq1 : q ≤ 16777216) :
    Calls Try.prog 18 #[.agg A, .int .i64 q] w fun e w' => e = .returned (.int .i64 (mkN x q)) ∧ NdM w' A x q ∧ Btw l u w w' := by
  obtain ⟨aa, ac, pa, pc, ha, hc, rfl, hl, r1, r2, r3⟩ := h
  have B := Below.nw w (.cells (ndV x aa ac pa pc ha hc) 68)
  have N := Bo.new w (ndV x aa ac pa pc ha hc) 68
  have l1 : ∀ g, (Value.slice aa x.na ac).ownBlock = some g → l ≤ g ∧ g < u ∧ g < w.heap.size := fun g hg => r1.lt hg
  have l2 : ∀ g, (Value.slice pa x.np pc).ownBlock = some g → l ≤ g ∧ g < u ∧ g < w.heap.size := fun g hg => r2.lt hg
  have l3 : ∀ g, (Value.slice ha x.nh hc).ownBlock = some g → l ≤ g ∧ g < u ∧ g < w.heap.size := fun g hg => r3.lt hg
  have n12 := r1.ne r2 (by decide)
  have n13 := r1.ne r3 (by decide)
  have n23 := r2.ne r3 (by decide)
  have n21 := r2.ne r1 (by decide)
  have n31 := r3.ne r1 (by decide)
  have n32 := r3.ne r2 (by decide)
  have p1 := r1.below B
  have p2 := r2.below B
  have p3 := r3.below B
  clear r1 r2 r3
  have T0 : Btw l u w _ := Btw.ofBelow B
  go_enter Try.func18, Try.ntmps18
  go_upto_region 1 with fail
  generalize w.alloc (.cells (ndV x aa ac pa pc ha hc) 68) = v at *
  have hL : (loadCells ⟨w.heap.size, 8, none⟩ 3).run Try.prog v = .ok #[.int .i64 x.te, .int .i64 x.us, .slice aa x.na ac] v := N.loadAt (P := Try.prog) 8 3 (show 8 + 3 ≤ 16 by decide)
  go_wp2_with (rw [hL])
  refine (markTable_q x.te x.us aa x.na ac l q _ v hl.1 hq (by omega) p1.1).mono ?_
  rintro e v1 ⟨rfl, s1, g1⟩
  clear hL p1
  replace N := N.kept g1 (fun e => by have := (l1 _ e.symm).2.2; omega)
  replace p2 := p2.kept g1 n21
  replace p3 := p3.kept g1 n31
  replace T0 := T0.trans (Btw.ofGrown g1 fun g e => ⟨(l1 g e).1, (l1 g e).2.1⟩)
  clear g1 B
  have c11 : v1.cell? ⟨w.heap.size, 11, none⟩ = some (.slice pa x.np pc) := N.cell rfl
  go_wp2_with fail
  refine (markPeerS_own pa x.np pc l (q + (x.na : Int) * 4) _ v1 hl.2.1 (by omega) (by omega) p2.1).mono ?_
  rintro e v2 ⟨rfl, s2, g2⟩
  clear c11 p2
  replace N := N.kept g2 (fun e => by have := (l2 _ e.symm).2.2; omega)
  replace s1 := SrcC.keptK s1 g2 (fun b off e => n12 b (ownB_some e))
  replace p3 := p3.kept g2 n32
  replace T0 := T0.trans (Btw.ofGrown g2 fun g e => ⟨(l2 g e).1, (l2 g e).2.1⟩)
  clear g2
  have c14 : v2.cell? ⟨w.heap.size, 14, none⟩ = some (.slice ha x.nh hc) := N.cell rfl
  go_wp2_with fail
  refine (markHeardS_own ha x.nh hc l (q + (x.na : Int) * 4 + (x.np : Int) * 5) _ v2 hl.2.2 (by omega) (by omega) p3.1).mono ?_
  rintro e v3 ⟨rfl, s3, g3⟩
  clear c14 p3
  replace s1 := SrcC.keptK s1 g3 (fun b off e => n13 b (ownB_some e))
  replace s2 := SrcC.keptK s2 g3 (fun b off e => n23 b (ownB_some e))
  replace T0 := T0.trans (Btw.ofGrown g3 fun g e => ⟨(l3 g e).1, (l3 g e).2.1⟩)
  clear g3 N
  go_wp2_with fail
  go_ret
  exact ⟨rfl, ⟨aa, ac, pa, pc, ha, hc, rfl, hl, s1, s2, s3⟩, T0⟩
attribute [-go_sem] loadCells in
set_option maxRecDepth 100000 in
set_option maxHeartbeats 4000000 in
theorem heldNodeX (A : Array Value) (x : NdX) (q : Int) (w : World) (h : NdM w A x q) (hq : 0 < q) (hq1 : q ≤ 16777216) :
    Calls Try.prog 19 #[.agg A, .int .i64 q] w fun e w' => e = .returned (.int .i64 (mkN x q)) ∧ Below w.heap.size w w' := by
  obtain ⟨aa, ac, pa, pc, ha, hc, rfl, hl, s1, s2, s3⟩ := h
  have B := Below.nw w (.cells (ndV x aa ac pa pc ha hc) 68)
  have N := Bo.new w (ndV x aa ac pa pc ha hc) 68
  have p1 := s1.below B
  have p2 := s2.below B
  have p3 := s3.below B
  clear s1 s2 s3
  have h1 : ¬ (q + (x.na : Int) * 4 < 0) := by omega
  have h2 : ¬ (q + (x.na : Int) * 4 + (x.np : Int) * 5 < 0) := by omega
  have h3 : ¬ (q + (x.na : Int) * 4 + (x.np : Int) * 5 + (x.nh : Int) * 2 < 0) := by omega
  go_enter Try.func19, Try.ntmps19
  go_upto_region 1 with fail
  generalize w.alloc (.cells (ndV x aa ac pa pc ha hc) 68) = v at *
  have hL : (loadCells ⟨w.heap.size, 8, none⟩ 3).run Try.prog v = .ok #[.int .i64 x.te, .int .i64 x.us, .slice aa x.na ac] v := N.loadAt (P := Try.prog) 8 3 (show 8 + 3 ≤ 16 by decide)
  go_wp2_with (rw [hL])
  refine (heldTable_q x.te x.us aa x.na ac q v hl.1 hq (by omega) p1).mono ?_
  rintro e v1 ⟨rfl, hb⟩
  clear hL p1
  replace N := N.below hb
  replace p2 := p2.below hb
  replace p3 := p3.below hb
  replace B := B.trans (hb.mono B.size)
  clear hb
  have c11 : v1.cell? ⟨w.heap.size, 11, none⟩ = some (.slice pa x.np pc) := N.cell rfl
  go_wp2_with fail
  refine (heldPeerS_any pa x.np pc (q + (x.na : Int) * 4) v1 hl.2.1 (by omega) (by omega) p2).mono ?_
  rintro e v2 ⟨rfl, rfl⟩
  clear c11
  have c14 : v1.cell? ⟨w.heap.size, 14, none⟩ = some (.slice ha x.nh hc) := N.cell rfl
  go_wp2_with fail
  refine (heldHeardS_any ha x.nh hc (q + (x.na : Int) * 4 + (x.np : Int) * 5) v1 hl.2.2 (by omega) (by omega) p3).mono ?_
  rintro e v2 ⟨rfl, rfl⟩
  clear c14
  go_wp2_with fail
  go_ret
  exact ⟨rfl, B⟩
end Go.Proofs.Ytlllbahfjihepaa
namespace Go.Proofs.Ytlllbahfjihepaa
open Go.RowKit
set_option linter.unusedVariables false
attribute [-go_sem] loadCells storeCells in
set_option maxRecDepth 100000 in
set_option maxHeartbeats 16000000 in
theorem lawNewNode (id : Int) (w : World) (hw : (Lit.int .i64 id).wf = true) :
    Calls Try.prog 5 #[.int .i64 id] w fun e w' => e = .returned (.bool true) ∧ Below w.heap.size w w' := by
  have B : Below w.heap.size w w := Below.refl _ _
  have CS := fun v => specNewNodeX' id v
  have CP := fun v => implNewNodeX id v
  generalize zX (nwN id) 0 0 0 0 (nwS id) = x1 at *
  go_enter Try.func5, Try.ntmps5
  go_upto_region 1 with fail
  go_wp2_with fail
  refine (CS _).mono ?_
  rintro e v3 ⟨RW, rfl, OW, hb⟩
  replace B := B.trans (hb.mono B.size)
  clear hb
  have hlw0 : w.heap.size ≤ v3.heap.size := B.size
  have hRW := OW.size
  have hst := storeNew (P := Try.prog) v3 (#[.int .i64 0, .int .i64 0, .int .i64 0, .int .i64 0, .bool false, .int .i64 0, .int .i64 0, .int .i64 0, .int .i64 0, .int .i64 0, .slice none 0 0, .slice none 0 0, .bool false, .int .i64 0, .slice none 0 0, .int .i64 0]) RW 68 (by rw [hRW]; rfl) OW.one
  have hb := Below.nw v3 (.cells RW 68)
  have W := Bo.new v3 RW 68
  go_upto_region 2 with (rw [hst])
  clear hst
  replace B := B.trans (hb.mono B.size)
  replace OW := OW.below hb
  clear hb
  generalize v3.alloc (.cells RW 68) = v4 at *
  generalize v3.heap.size = kW at *
  have hwx : kW < v4.heap.size := W.1
  go_wp2_with fail
  refine (CP _).mono ?_
  rintro e v7 ⟨RG, rfl, OG, hb⟩
  have hgg : v4.heap.size ≤ v7.heap.size := hb.size
  replace B := B.trans (hb.mono B.size)
  replace OW := OW.below hb
  replace W := W.below hb
  clear hb
  generalize v4.heap.size = lg at *
  have hRG := OG.size
  have hst := storeNew (P := Try.prog) v7 (#[.int .i64 0, .int .i64 0, .int .i64 0, .int .i64 0, .bool false, .int .i64 0, .int .i64 0, .int .i64 0, .int .i64 0, .int .i64 0, .slice none 0 0, .slice none 0 0, .bool false, .int .i64 0, .slice none 0 0, .int .i64 0]) RG 68 (by rw [hRG]; rfl) OG.one
  have hb := Below.nw v7 (.cells RG 68)
  have G := Bo.new v7 RG 68
  go_upto_region 3 with (rw [hst])
  clear hst
  replace B := B.trans (hb.mono B.size)
  replace OW := OW.below hb
  replace W := W.below hb
  replace OG := OG.below hb
  clear hb
  generalize v7.alloc (.cells RG 68) = v8 at *
  generalize v7.heap.size = kG at *
  have hL := G.load (P := Try.prog) hRG
  have hL2 := W.load (P := Try.prog) hRW
  go_wp2_with (first | rw [hL] | rw [hL2])
  refine (eqNodeX RG RW x1 v8 OG.src OW.src).mono ?_
  rintro e vb ⟨rfl, hb⟩
  clear hL hL2
  replace B := B.trans (hb.mono B.size)
  replace OW := OW.below hb
  replace W := W.below hb
  replace OG := OG.below hb
  replace G := G.below hb
  clear hb
  have hL := G.load (P := Try.prog) hRG
  go_wp2_with (rw [hL])
  refine (markNodeX RG x1 1 lg kG vb OG (by decide) (by decide)).mono ?_
  rintro e vc ⟨rfl, MG, hb⟩
  clear hL
  replace B := B.trans ((hb.belowL (Nat.le_of_lt (Nat.lt_of_le_of_lt (by omega : lg ≤ kG) G.1))).mono (by omega))
  replace W := W.btw hb (.inl (by omega))
  replace OW := OW.btw hb (.inl (by omega))
  replace G := G.btw hb (.inr (by omega))
  clear hb OG
  have hk1 : ¬ (mkN x1 1 < 0) := by unfold mkN; omega
  have hkk : (mkN x1 1 != mkN x1 1) = false := by simp
  have hL := G.load (P := Try.prog) hRG
  go_wp2_with (rw [hL])
  refine (heldNodeX RG x1 1 vc MG (by decide) (by decide)).mono ?_
  rintro e vd ⟨rfl, hb⟩
  clear hL
  replace B := B.trans (hb.mono B.size)
  replace OW := OW.below hb
  replace W := W.below hb
  replace G := G.below hb
  replace MG := MG.below hb
  clear hb
  go_wp2_with fail
  refine (CP _).mono ?_
  rintro e vf ⟨RH, rfl, OH, hb⟩
  replace B := B.trans (hb.mono B.size)
  replace OW := OW.below hb
  replace W := W.below hb
  replace G := G.below hb
  replace MG := MG.below hb
  clear hb
  generalize vd.heap.size = lh at *
  have hRH := OH.size
  have hst := storeNew (P := Try.prog) vf (#[.int .i64 0, .int .i64 0, .int .i64 0, .int .i64 0, .bool false, .int .i64 0, .int .i64 0, .int .i64 0, .int .i64 0, .int .i64 0, .slice none 0 0, .slice none 0 0, .bool false, .int .i64 0, .slice none 0 0, .int .i64 0]) RH 68 (by rw [hRH]; rfl) OH.one
  have hb := Below.nw vf (.cells RH 68)
  have H := Bo.new vf RH 68
  go_upto_region 14 with (rw [hst])
  clear hst
  replace B := B.trans (hb.mono B.size)
  replace OW := OW.below hb
  replace W := W.below hb
  replace G := G.below hb
  replace MG := MG.below hb
  replace OH := OH.below hb
  clear hb
  generalize vf.alloc (.cells RH 68) = vg at *
  generalize vf.heap.size = kH at *
  have hL := H.load (P := Try.prog) hRH
  have hL2 := W.load (P := Try.prog) hRW
  go_wp2_with (first | rw [hL] | rw [hL2])
  refine (eqNodeX RH RW x1 vg OH.src OW.src).mono ?_
  rintro e vh ⟨rfl, hb⟩
  clear hL hL2
  replace B := B.trans (hb.mono B.size)
  replace OW := OW.below hb
  replace W := W.below hb
  replace G := G.below hb
  replace MG := MG.below hb
  replace OH := OH.below hb
  replace H := H.below hb
  clear hb
  have hL := G.load (P := Try.prog) hRG
  go_wp2_with (rw [hL])
  refine (heldNodeX RG x1 1 vh MG (by decide) (by decide)).mono ?_
  rintro e vi ⟨rfl, hb⟩
  clear hL
  replace B := B.trans (hb.mono B.size)
  replace OW := OW.below hb
  replace W := W.below hb
  replace G := G.below hb
  replace MG := MG.below hb
  replace OH := OH.below hb
  replace H := H.below hb
  clear hb
  go_wp2_with fail
  go_ret
  exact ⟨rfl, B⟩
end Go.Proofs.Ytlllbahfjihepaa
