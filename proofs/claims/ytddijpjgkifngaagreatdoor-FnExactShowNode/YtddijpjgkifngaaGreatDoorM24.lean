/- A world as data; what the laws make of it, ask of it. -/
import Derived.Test.YtddijpjgkifngaaGreatDoorM20
import Derived.Test.YtddijpjgkifngaaGreatDoorM21
import Derived.Test.YtddijpjgkifngaaGreatDoorM22
import Derived.Test.YtddijpjgkifngaaGreatDoorM23
namespace Go.Proofs.YtddijpjgkifngaaGreatDoor
open Go.RowKit
set_option linter.unusedVariables false
structure WdX where
 y : CfX
 LB : Nat → Bool
 nl : Nat
 ti : Int
 CM : Nat → Int
 nc : Nat
 XM : Nat → NdX
 nn : Nat
 nx : Int
 FM : Nat → FT
 nf : Nat
 BM : Nat → FrT
 nb : Nat
def wdV (x : WdX) (p : Option Addr) (d : Nat) (la : Option Addr) (lc : Nat) (ca : Option Addr) (cc : Nat) (na : Option Addr) (nk : Nat) (fa : Option Addr) (fc : Nat) (ba : Option Addr) (bc : Nat) : Array Value :=
 #[.int .i64 x.y.dn, .int .i64 x.y.dd, .int .i64 x.y.li, .int .i64 x.y.le, .int .i64 x.y.pt, .int .i64 x.y.ag, .int .i64 x.y.ke, .int .i64 x.y.lg, .int .i64 x.y.s, .int .i64 x.y.g, .slice p x.y.m d, .slice la x.nl lc, .int .i64 x.ti, .slice ca x.nc cc, .slice na x.nn nk, .int .i64 x.nx, .slice fa x.nf fc, .slice ba x.nb bc]
def mxW (x : WdX) : Prop := x.y.m ≤ maxLen ∧ x.nl ≤ maxLen ∧ x.nc ≤ maxLen ∧ x.nn ≤ maxLen ∧ x.nf ≤ maxLen ∧ x.nb ≤ maxLen
def txW (x : WdX) : Prop := (∀ i, i < x.nf → (x.FM i).2.2.2.1.size ≤ maxLen) ∧ ∀ i, i < x.nb → (x.BM i).2.2.2.2.2.size ≤ maxLen
def shW (x : WdX) : Prop := x.y.m ≤ 1048576 ∧ x.nl ≤ 1048576 ∧ x.nc ≤ 1048576 ∧ x.nn ≤ 1048576 ∧ (∀ i, i < x.nn → shX (x.XM i)) ∧ x.nf ≤ 1048576 ∧ x.nb ≤ 1048576
def WdW (w : World) (A : Array Value) (x : WdX) : Prop := ∃ p d la lc ca cc na nk fa fc ba bc, A = wdV x p d la lc ca cc na nk fa fc ba bc ∧ mxW x ∧ SrcC w p (x.y.m * 2) (MFSlot x.y.PM) ∧ SrcC w la x.nl (boG x.LB) ∧ SrcC w ca x.nc (itG x.CM) ∧ RwN NdW w na x.nn x.XM ∧ SrcC w fa (x.nf * 5) (MFFlight x.FM) ∧ SrcC w ba (x.nb * 6) (MFFrame x.BM)
def WdS (w : World) (A : Array Value) (x : WdX) : Prop := ∃ p d la lc ca cc na nk fa fc ba bc, A = wdV x p d la lc ca cc na nk fa fc ba bc ∧ mxW x ∧ RwO w p x.y.m d 2 (MFSlot x.y.PM) ∧ SrcC w la x.nl (boG x.LB) ∧ SrcC w ca x.nc (itG x.CM) ∧ RwN NdS w na x.nn x.XM ∧ SrcC w fa (x.nf * 5) (MFFlight x.FM) ∧ SrcC w ba (x.nb * 6) (MFFrame x.BM)
theorem WdW.below {w w' : World} {A : Array Value} {x : WdX} (h : WdW w A x) (hb : Below w.heap.size w w') : WdW w' A x := by
 obtain ⟨p, d, la, lc, ca, cc, na, nk, fa, fc, ba, bc, e, hm, h1, h2, h3, h4, h5, h6⟩ := h
 exact ⟨p, d, la, lc, ca, cc, na, nk, fa, fc, ba, bc, e, hm, h1.below hb, h2.below hb, h3.below hb, h4.belowW hb, h5.below hb, h6.below hb⟩
theorem WdS.below {w w' : World} {A : Array Value} {x : WdX} (h : WdS w A x) (hb : Below w.heap.size w w') : WdS w' A x := by
 obtain ⟨p, d, la, lc, ca, cc, na, nk, fa, fc, ba, bc, e, hm, h1, h2, h3, h4, h5, h6⟩ := h
 exact ⟨p, d, la, lc, ca, cc, na, nk, fa, fc, ba, bc, e, hm, h1.below hb, h2.below hb, h3.below hb, h4.belowS hb, h5.below hb, h6.below hb⟩
theorem WdS.weak {w : World} {A : Array Value} {x : WdX} (h : WdS w A x) : WdW w A x := by
 obtain ⟨p, d, la, lc, ca, cc, na, nk, fa, fc, ba, bc, e, hm, h1, h2, h3, h4, h5, h6⟩ := h
 exact ⟨p, d, la, lc, ca, cc, na, nk, fa, fc, ba, bc, e, hm, h1.src, h2, h3, h4.weak, h5, h6⟩
theorem WdW.size {w : World} {A : Array Value} {x : WdX} (h : WdW w A x) : A.size = 18 := by
 obtain ⟨p, d, la, lc, ca, cc, na, nk, fa, fc, ba, bc, e, _⟩ := h
 rw [e]; rfl
theorem wdV_one (x : WdX) (p : Option Addr) (d : Nat) (la : Option Addr) (lc : Nat) (ca : Option Addr) (cc : Nat) (na : Option Addr) (nk : Nat) (fa : Option Addr) (fc : Nat) (ba : Option Addr) (bc : Nat) : ∀ u ∈ (wdV x p d la lc ca cc na nk fa fc ba bc).toList, u.oneCell' = true := by
 intro u hu
 simp only [wdV, List.mem_cons, List.not_mem_nil, or_false] at hu
 rcases hu with h | h | h | h | h | h | h | h | h | h | h | h | h | h | h | h | h | h <;> (subst h; rfl)
theorem WdW.one {w : World} {A : Array Value} {x : WdX} (h : WdW w A x) : ∀ u ∈ A.toList, u.oneCell' = true := by
 obtain ⟨p, d, la, lc, ca, cc, na, nk, fa, fc, ba, bc, e, _⟩ := h
 rw [e]; exact wdV_one x p d la lc ca cc na nk fa fc ba bc
theorem Rwo.srcC {w : World} {lo hi : Nat} {T : TypeId} {sz : Nat} {a : Option Addr} {n c : Nat} {F : Nat → Value} (h : Rwo w lo hi T sz a n c F) : SrcC w a (n * sz) F := h.rw.src
theorem NvP.btw {w w' : World} {g n k l u : Nat} {XM : Nat → NdX} (h : NvP w g n k XM) (hb : Btw l u w w') (ho : u ≤ g) : NvP w' g n k XM := by
 obtain ⟨A, AM, h1, h2, h3, h4⟩ := h
 exact ⟨A, AM, h1.btw hb (.inr ho), h2, h3, fun i hi => ((h4 i hi).btw hb (.inr (by omega))).wide (Nat.le_refl _) hb.2.2.2.1⟩
theorem eqCfgW (A A' : Array Value) (y : CfX) (w : World) (h : CfW w A y) (h' : CfW w A' y) :
 Calls Tryz.prog 36 #[.agg A, .agg A'] w fun e w' => e = .returned (.bool true) ∧ Below w.heap.size w w' := by
 obtain ⟨p, d, rfl, hl, h1⟩ := h
 obtain ⟨p', d', rfl, hl', h1'⟩ := h'
 exact eqCfg_same y.dn y.dd y.li y.le y.pt y.ag y.ke y.lg y.s y.g p y.m d y.PM p' d' w hl h1 h1'
theorem toBoolW (a : Option Addr) (n c : Nat) (f : Nat → Bool) (w : World) (hn : n ≤ 1048576) (h : SrcC w a n (boG f)) :
 Calls Tryz.prog 27 #[.slice a n c] w fun e w' => ∃ g, e = .returned (.slice (some ⟨g, 0, none⟩) n n) ∧ Rwo w' w.heap.size w'.heap.size 4 1 (some ⟨g, 0, none⟩) n n (boG f) ∧ Below w.heap.size w w' :=
 (toBoolG_any a n c f w hn h).mono fun e w' ⟨h1, h2, h3⟩ => ⟨w.heap.size, h1, RowF.rwo (by rw [Nat.mul_one]; exact h2) hn (Nat.le_refl _), h3⟩
theorem toIntW (a : Option Addr) (n c : Nat) (f : Nat → Int) (w : World) (hn : n ≤ 1048576) (h : SrcC w a n (itG f)) :
 Calls Tryz.prog 28 #[.slice a n c] w fun e w' => ∃ g, e = .returned (.slice (some ⟨g, 0, none⟩) n n) ∧ Rwo w' w.heap.size w'.heap.size 3 1 (some ⟨g, 0, none⟩) n n (itG f) ∧ Below w.heap.size w w' :=
 (toIntG_any a n c f w hn h).mono fun e w' ⟨h1, h2, h3⟩ => ⟨w.heap.size, h1, RowF.rwo (by rw [Nat.mul_one]; exact h2) hn (Nat.le_refl _), h3⟩
theorem toNetW (nx : Int) (a : Option Addr) (n c : Nat) (M : Nat → FT) (w : World) (hn : n ≤ 1048576) (h : SrcC w a (n * 5) (MFFlight M)) :
 Calls Tryz.prog 30 #[.agg #[.int .i64 nx, .slice a n c]] w fun e w' => ∃ g, e = .returned (.agg #[.int .i64 nx, .slice (some ⟨g, 0, none⟩) n n]) ∧ Rwo w' w.heap.size w'.heap.size 105 5 (some ⟨g, 0, none⟩) n n (MFFlight M) ∧ Below w.heap.size w w' :=
 (toNet_any nx a n c M w hn h).mono fun e w' ⟨h1, h2, h3⟩ => ⟨w.heap.size + 3, h1, RowF.rwo h2 hn (by omega), h3⟩
theorem toFrameW (a : Option Addr) (n c : Nat) (M : Nat → FrT) (w : World) (hn : n ≤ 1048576) (h : SrcC w a (n * 6) (MFFrame M)) :
 Calls Tryz.prog 31 #[.slice a n c] w fun e w' => ∃ g, e = .returned (.slice (some ⟨g, 0, none⟩) n n) ∧ Rwo w' w.heap.size w'.heap.size 108 6 (some ⟨g, 0, none⟩) n n (MFFrame M) ∧ Below w.heap.size w w' :=
 (toFrameS_any a n c M w hn h).mono fun e w' ⟨h1, h2, h3⟩ => ⟨w.heap.size, h1, RowF.rwo h2 hn (Nat.le_refl _), h3⟩
theorem toNodeNW (a : Option Addr) (n c : Nat) (XM : Nat → NdX) (w : World) (hn : n ≤ 1048576) (h : RwN NdW w a n XM) (hz : ∀ i, i < n → shX (XM i)) :
 Calls Tryz.prog 29 #[.slice a n c] w fun e w' => ∃ g, e = .returned (.slice (some ⟨g, 0, none⟩) n n) ∧ (NvP w' g n n XM ∧ w.heap.size ≤ g) ∧ Below w.heap.size w w' :=
 (toNodeN_any a n c XM w hn h hz).mono fun e w' ⟨h1, h2, h3⟩ => ⟨w.heap.size, h1, ⟨h2, Nat.le_refl _⟩, h3⟩
def wdZ : Array Value := #[.int .i64 0, .int .i64 0, .int .i64 0, .int .i64 0, .int .i64 0, .int .i64 0, .int .i64 0, .int .i64 0, .int .i64 0, .int .i64 0, .slice none 0 0, .slice none 0 0, .int .i64 0, .slice none 0 0, .slice none 0 0, .int .i64 0, .slice none 0 0, .slice none 0 0]
theorem spl_cf (x : WdX) (p : Option Addr) (d : Nat) : spl wdZ 0 (cfV x.y p d).toList = #[.int .i64 x.y.dn, .int .i64 x.y.dd, .int .i64 x.y.li, .int .i64 x.y.le, .int .i64 x.y.pt, .int .i64 x.y.ag, .int .i64 x.y.ke, .int .i64 x.y.lg, .int .i64 x.y.s, .int .i64 x.y.g, .slice p x.y.m d, .slice none 0 0, .int .i64 0, .slice none 0 0, .slice none 0 0, .int .i64 0, .slice none 0 0, .slice none 0 0] := by
 simp only [cfV, wdZ, spl, List.setIfInBounds_toArray, List.set_cons_zero, List.set_cons_succ, Nat.zero_add, Nat.reduceAdd]
attribute [-go_sem] loadCells storeCells in
set_option maxRecDepth 100000 in
set_option maxHeartbeats 8000000 in
theorem toWorldW (A : Array Value) (x : WdX) (w : World) (h : WdW w A x) (hb0 : shW x) :
 Calls Tryz.prog 8 #[.agg A] w fun e w' => ∃ R, e = .returned (.agg R) ∧ WdS w' R x ∧ Below w.heap.size w w' := by
 obtain ⟨p, d, la, lc, ca, cc, na, nk, fa, fc, ba, bc, rfl, hm, h1, h2, h3, h4, h5, h6⟩ := h
 obtain ⟨s1, s2, s3, s4, s5, s6, s7⟩ := hb0
 obtain ⟨m1, m2, m3, m4, m5, m6⟩ := hm
 have CC := fun (v : World) (h : Below w.heap.size w v) => toCfgW (cfV x.y p d) x.y v ⟨p, d, rfl, m1, h1.below h⟩ s1
 have CB := fun (v : World) (h : Below w.heap.size w v) => toBoolW la x.nl lc x.LB v s2 (h2.below h)
 have CI := fun (v : World) (h : Below w.heap.size w v) => toIntW ca x.nc cc x.CM v s3 (h3.below h)
 have CN := fun (v : World) (h : Below w.heap.size w v) => toNodeNW na x.nn nk x.XM v s4 (h4.belowW h) s5
 have CF := fun (v : World) (h : Below w.heap.size w v) => toNetW x.nx fa x.nf fc x.FM v s6 (h5.below h)
 have CR := fun (v : World) (h : Below w.heap.size w v) => toFrameW ba x.nb bc x.BM v s7 (h6.below h)
 have HM : Hid (mxW x) := ⟨m1, m2, m3, m4, m5, m6⟩
 clear h1 h2 h3 h4 h5 h6 s1 s2 s3 s4 s5 s6 s7 m1 m2 m3 m4 m5 m6
 have A0 := Below.nw w (.cells (wdV x p d la lc ca cc na nk fa fc ba bc) 37)
 have A1 := Below.nw (w.alloc (.cells (wdV x p d la lc ca cc na nk fa fc ba bc) 37)) (.cells #[.int .i64 0, .int .i64 0, .int .i64 0, .int .i64 0, .int .i64 0, .int .i64 0, .int .i64 0, .int .i64 0, .int .i64 0, .int .i64 0, .slice none 0 0, .slice none 0 0, .int .i64 0, .slice none 0 0, .slice none 0 0, .int .i64 0, .slice none 0 0, .slice none 0 0] 52)
 have A2 := Below.nw (((w.alloc (.cells (wdV x p d la lc ca cc na nk fa fc ba bc) 37))).alloc (.cells #[.int .i64 0, .int .i64 0, .int .i64 0, .int .i64 0, .int .i64 0, .int .i64 0, .int .i64 0, .int .i64 0, .int .i64 0, .int .i64 0, .slice none 0 0, .slice none 0 0, .int .i64 0, .slice none 0 0, .slice none 0 0, .int .i64 0, .slice none 0 0, .slice none 0 0] 52)) (.cells #[.int .i64 0, .int .i64 0, .int .i64 0, .int .i64 0, .int .i64 0, .int .i64 0, .int .i64 0, .int .i64 0, .int .i64 0, .int .i64 0, .slice none 0 0, .slice none 0 0, .int .i64 0, .slice none 0 0, .slice none 0 0, .int .i64 0, .slice none 0 0, .slice none 0 0] 52)
 have L := ((Bo.new w (wdV x p d la lc ca cc na nk fa fc ba bc) 37).below A1).below A2
 have R := (Bo.new (w.alloc (.cells (wdV x p d la lc ca cc na nk fa fc ba bc) 37)) #[.int .i64 0, .int .i64 0, .int .i64 0, .int .i64 0, .int .i64 0, .int .i64 0, .int .i64 0, .int .i64 0, .int .i64 0, .int .i64 0, .slice none 0 0, .slice none 0 0, .int .i64 0, .slice none 0 0, .slice none 0 0, .int .i64 0, .slice none 0 0, .slice none 0 0] 52).below A2
 have O := Bo.new (((w.alloc (.cells (wdV x p d la lc ca cc na nk fa fc ba bc) 37))).alloc (.cells #[.int .i64 0, .int .i64 0, .int .i64 0, .int .i64 0, .int .i64 0, .int .i64 0, .int .i64 0, .int .i64 0, .int .i64 0, .int .i64 0, .slice none 0 0, .slice none 0 0, .int .i64 0, .slice none 0 0, .slice none 0 0, .int .i64 0, .slice none 0 0, .slice none 0 0] 52)) #[.int .i64 0, .int .i64 0, .int .i64 0, .int .i64 0, .int .i64 0, .int .i64 0, .int .i64 0, .int .i64 0, .int .i64 0, .int .i64 0, .slice none 0 0, .slice none 0 0, .int .i64 0, .slice none 0 0, .slice none 0 0, .int .i64 0, .slice none 0 0, .slice none 0 0] 52
 have B := A0
 replace B := B.trans (A1.mono B.size)
 replace B := B.trans (A2.mono B.size)
 simp only [World.size_alloc] at R O
 clear A0 A1 A2
 go_enter Tryz.func8, Tryz.ntmps8
 go_upto_region 2 with fail
 generalize ((((w.alloc (.cells (wdV x p d la lc ca cc na nk fa fc ba bc) 37))).alloc (.cells #[.int .i64 0, .int .i64 0, .int .i64 0, .int .i64 0, .int .i64 0, .int .i64 0, .int .i64 0, .int .i64 0, .int .i64 0, .int .i64 0, .slice none 0 0, .slice none 0 0, .int .i64 0, .slice none 0 0, .slice none 0 0, .int .i64 0, .slice none 0 0, .slice none 0 0] 52))).alloc (.cells #[.int .i64 0, .int .i64 0, .int .i64 0, .int .i64 0, .int .i64 0, .int .i64 0, .int .i64 0, .int .i64 0, .int .i64 0, .int .i64 0, .slice none 0 0, .slice none 0 0, .int .i64 0, .slice none 0 0, .slice none 0 0, .int .i64 0, .slice none 0 0, .slice none 0 0] 52) = v0 at *
 have hL0 : (loadCells ⟨w.heap.size, 0, none⟩ 11).run Tryz.prog v0 = .ok (cfV x.y p d) v0 := L.loadAt (P := Tryz.prog) 0 11 (show 0 + 11 ≤ 18 by decide)
 go_wp2_with (rw [hL0])
 refine (CC v0 B).mono ?_
 rintro e v1 ⟨RC, rfl, OC, hb⟩
 clear hL0
 have q1L : w.heap.size < v0.heap.size := L.1
 have q1R : w.heap.size + 1 < v0.heap.size := R.1
 have q1O : w.heap.size + 2 < v0.heap.size := O.1
 have q1 : w.heap.size ≤ v0.heap.size := B.size
 have zv1 : v0.heap.size ≤ v1.heap.size := hb.size
 replace B := B.trans (hb.mono B.size)
 replace L := L.below hb
 replace R := R.below hb
 replace O := O.below hb
 clear hb
 obtain ⟨p2, d2, rfl, hbm, P1⟩ := OC
 have hst := Bo.store (P := Tryz.prog) (b := 0) ((cfV x.y p2 d2).toList) 0 0 O rfl (show 0 + 11 ≤ 18 by decide) (CfO.one ⟨p2, d2, rfl, hbm, P1⟩)
 have hb : Btw (w.heap.size + 2) (w.heap.size + 2 + 1) v1 _ := putA_btw ((cfV x.y p2 d2).toList) v1 0 (w.heap.size + 2)
 have B1 := putA_below (k := w.heap.size + 2) ((cfV x.y p2 d2).toList) w v1 0 B (by omega)
 have N1 : Bo (putA v1 (w.heap.size + 2) 0 ((cfV x.y p2 d2).toList)) (w.heap.size + 2) ((spl wdZ 0 (cfV x.y p2 d2).toList)) := Bo.put ((cfV x.y p2 d2).toList) 0 O
 go_upto_region 3 with (rw [hst])
 clear hst  O B
 replace L := L.btw hb (by omega)
 replace R := R.btw hb (by omega)
 replace P1 := P1.btw hb (by omega)
 have zv2 := hb.2.2.2.1
 clear hb
 generalize putA v1 (w.heap.size + 2) 0 ((cfV x.y p2 d2).toList) = v2 at *
 have B := B1
 have O := N1
 clear B1 N1
 rw [spl_cf] at O
 have hL0 : v2.cell? ⟨w.heap.size, 11, none⟩ = some (.slice la x.nl lc) := L.cell rfl
 go_wp2_with fail
 refine (CB v2 B).mono ?_
 rintro e v3 ⟨la2, rfl, P2, hb⟩
 clear hL0
 have q2L : w.heap.size < v2.heap.size := L.1
 have q2R : w.heap.size + 1 < v2.heap.size := R.1
 have q2O : w.heap.size + 2 < v2.heap.size := O.1
 have q2 : w.heap.size ≤ v2.heap.size := B.size
 have zv3 : v2.heap.size ≤ v3.heap.size := hb.size
 replace B := B.trans (hb.mono B.size)
 replace L := L.below hb
 replace R := R.below hb
 replace O := O.below hb
 replace P1 := P1.below hb
 clear hb
 have hst := Bo.store (P := Tryz.prog) (b := 11) [.slice (some ⟨la2, 0, none⟩) x.nl x.nl] 11 0 O rfl (show 11 + 1 ≤ 18 by decide) (List.forall_mem_cons.2 ⟨rfl, fun _ h => nomatch h⟩)
 have hb : Btw (w.heap.size + 2) (w.heap.size + 2 + 1) v3 (putA v3 (w.heap.size + 2) 11 [.slice (some ⟨la2, 0, none⟩) x.nl x.nl]) := putA_btw [.slice (some ⟨la2, 0, none⟩) x.nl x.nl] v3 11 (w.heap.size + 2)
 have B1 := putA_below (k := w.heap.size + 2) [.slice (some ⟨la2, 0, none⟩) x.nl x.nl] w v3 11 B (by omega)
 have N1 : Bo (putA v3 (w.heap.size + 2) 11 [.slice (some ⟨la2, 0, none⟩) x.nl x.nl]) (w.heap.size + 2) (#[.int .i64 x.y.dn, .int .i64 x.y.dd, .int .i64 x.y.li, .int .i64 x.y.le, .int .i64 x.y.pt, .int .i64 x.y.ag, .int .i64 x.y.ke, .int .i64 x.y.lg, .int .i64 x.y.s, .int .i64 x.y.g, .slice p2 x.y.m d2, .slice (some ⟨la2, 0, none⟩) x.nl x.nl, .int .i64 0, .slice none 0 0, .slice none 0 0, .int .i64 0, .slice none 0 0, .slice none 0 0]) := Bo.put [.slice (some ⟨la2, 0, none⟩) x.nl x.nl] 11 O
 go_upto_region 4 with (rw [hst])
 clear hst  O B
 replace L := L.btw hb (by omega)
 replace R := R.btw hb (by omega)
 replace P1 := P1.btw hb (by omega)
 replace P2 := P2.btw hb (by omega)
 have zv4 := hb.2.2.2.1
 clear hb
 generalize putA v3 (w.heap.size + 2) 11 [.slice (some ⟨la2, 0, none⟩) x.nl x.nl] = v4 at *
 have B := B1
 have O := N1
 clear B1 N1
 have hL0 : v4.cell? ⟨w.heap.size, 12, none⟩ = some (.int .i64 x.ti) := L.cell rfl
 have hst := Bo.store (P := Tryz.prog) (b := 12) [.int .i64 x.ti] 12 0 O rfl (show 12 + 1 ≤ 18 by decide) (List.forall_mem_cons.2 ⟨rfl, fun _ h => nomatch h⟩)
 have hb : Btw (w.heap.size + 2) (w.heap.size + 2 + 1) v4 (putA v4 (w.heap.size + 2) 12 [.int .i64 x.ti]) := putA_btw [.int .i64 x.ti] v4 12 (w.heap.size + 2)
 have B1 := putA_below (k := w.heap.size + 2) [.int .i64 x.ti] w v4 12 B (by omega)
 have N1 : Bo (putA v4 (w.heap.size + 2) 12 [.int .i64 x.ti]) (w.heap.size + 2) (#[.int .i64 x.y.dn, .int .i64 x.y.dd, .int .i64 x.y.li, .int .i64 x.y.le, .int .i64 x.y.pt, .int .i64 x.y.ag, .int .i64 x.y.ke, .int .i64 x.y.lg, .int .i64 x.y.s, .int .i64 x.y.g, .slice p2 x.y.m d2, .slice (some ⟨la2, 0, none⟩) x.nl x.nl, .int .i64 x.ti, .slice none 0 0, .slice none 0 0, .int .i64 0, .slice none 0 0, .slice none 0 0]) := Bo.put [.int .i64 x.ti] 12 O
 go_upto_region 5 with (rw [hst])
 clear hst hL0 O B
 replace L := L.btw hb (by omega)
 replace R := R.btw hb (by omega)
 replace P1 := P1.btw hb (by omega)
 replace P2 := P2.btw hb (by omega)
 have zv5 := hb.2.2.2.1
 clear hb
 generalize putA v4 (w.heap.size + 2) 12 [.int .i64 x.ti] = v5 at *
 have B := B1
 have O := N1
 clear B1 N1
 have hL0 : v5.cell? ⟨w.heap.size, 13, none⟩ = some (.slice ca x.nc cc) := L.cell rfl
 go_wp2_with fail
 refine (CI v5 B).mono ?_
 rintro e v6 ⟨ca2, rfl, P3, hb⟩
 clear hL0
 have q3L : w.heap.size < v5.heap.size := L.1
 have q3R : w.heap.size + 1 < v5.heap.size := R.1
 have q3O : w.heap.size + 2 < v5.heap.size := O.1
 have q3 : w.heap.size ≤ v5.heap.size := B.size
 have zv6 : v5.heap.size ≤ v6.heap.size := hb.size
 replace B := B.trans (hb.mono B.size)
 replace L := L.below hb
 replace R := R.below hb
 replace O := O.below hb
 replace P1 := P1.below hb
 replace P2 := P2.below hb
 clear hb
 have hst := Bo.store (P := Tryz.prog) (b := 13) [.slice (some ⟨ca2, 0, none⟩) x.nc x.nc] 13 0 O rfl (show 13 + 1 ≤ 18 by decide) (List.forall_mem_cons.2 ⟨rfl, fun _ h => nomatch h⟩)
 have hb : Btw (w.heap.size + 2) (w.heap.size + 2 + 1) v6 (putA v6 (w.heap.size + 2) 13 [.slice (some ⟨ca2, 0, none⟩) x.nc x.nc]) := putA_btw [.slice (some ⟨ca2, 0, none⟩) x.nc x.nc] v6 13 (w.heap.size + 2)
 have B1 := putA_below (k := w.heap.size + 2) [.slice (some ⟨ca2, 0, none⟩) x.nc x.nc] w v6 13 B (by omega)
 have N1 : Bo (putA v6 (w.heap.size + 2) 13 [.slice (some ⟨ca2, 0, none⟩) x.nc x.nc]) (w.heap.size + 2) (#[.int .i64 x.y.dn, .int .i64 x.y.dd, .int .i64 x.y.li, .int .i64 x.y.le, .int .i64 x.y.pt, .int .i64 x.y.ag, .int .i64 x.y.ke, .int .i64 x.y.lg, .int .i64 x.y.s, .int .i64 x.y.g, .slice p2 x.y.m d2, .slice (some ⟨la2, 0, none⟩) x.nl x.nl, .int .i64 x.ti, .slice (some ⟨ca2, 0, none⟩) x.nc x.nc, .slice none 0 0, .int .i64 0, .slice none 0 0, .slice none 0 0]) := Bo.put [.slice (some ⟨ca2, 0, none⟩) x.nc x.nc] 13 O
 go_upto_region 6 with (rw [hst])
 clear hst  O B
 replace L := L.btw hb (by omega)
 replace R := R.btw hb (by omega)
 replace P1 := P1.btw hb (by omega)
 replace P2 := P2.btw hb (by omega)
 replace P3 := P3.btw hb (by omega)
 have zv7 := hb.2.2.2.1
 clear hb
 generalize putA v6 (w.heap.size + 2) 13 [.slice (some ⟨ca2, 0, none⟩) x.nc x.nc] = v7 at *
 have B := B1
 have O := N1
 clear B1 N1
 have hL0 : v7.cell? ⟨w.heap.size, 14, none⟩ = some (.slice na x.nn nk) := L.cell rfl
 go_wp2_with fail
 refine (CN v7 B).mono ?_
 rintro e v8 ⟨na2, rfl, ⟨P4, hg4⟩, hb⟩
 clear hL0
 have q4L : w.heap.size < v7.heap.size := L.1
 have q4R : w.heap.size + 1 < v7.heap.size := R.1
 have q4O : w.heap.size + 2 < v7.heap.size := O.1
 have q4 : w.heap.size ≤ v7.heap.size := B.size
 have zv8 : v7.heap.size ≤ v8.heap.size := hb.size
 replace B := B.trans (hb.mono B.size)
 replace L := L.below hb
 replace R := R.below hb
 replace O := O.below hb
 replace P1 := P1.below hb
 replace P2 := P2.below hb
 replace P3 := P3.below hb
 clear hb
 have hst := Bo.store (P := Tryz.prog) (b := 14) [.slice (some ⟨na2, 0, none⟩) x.nn x.nn] 14 0 O rfl (show 14 + 1 ≤ 18 by decide) (List.forall_mem_cons.2 ⟨rfl, fun _ h => nomatch h⟩)
 have hb : Btw (w.heap.size + 2) (w.heap.size + 2 + 1) v8 (putA v8 (w.heap.size + 2) 14 [.slice (some ⟨na2, 0, none⟩) x.nn x.nn]) := putA_btw [.slice (some ⟨na2, 0, none⟩) x.nn x.nn] v8 14 (w.heap.size + 2)
 have B1 := putA_below (k := w.heap.size + 2) [.slice (some ⟨na2, 0, none⟩) x.nn x.nn] w v8 14 B (by omega)
 have N1 : Bo (putA v8 (w.heap.size + 2) 14 [.slice (some ⟨na2, 0, none⟩) x.nn x.nn]) (w.heap.size + 2) (#[.int .i64 x.y.dn, .int .i64 x.y.dd, .int .i64 x.y.li, .int .i64 x.y.le, .int .i64 x.y.pt, .int .i64 x.y.ag, .int .i64 x.y.ke, .int .i64 x.y.lg, .int .i64 x.y.s, .int .i64 x.y.g, .slice p2 x.y.m d2, .slice (some ⟨la2, 0, none⟩) x.nl x.nl, .int .i64 x.ti, .slice (some ⟨ca2, 0, none⟩) x.nc x.nc, .slice (some ⟨na2, 0, none⟩) x.nn x.nn, .int .i64 0, .slice none 0 0, .slice none 0 0]) := Bo.put [.slice (some ⟨na2, 0, none⟩) x.nn x.nn] 14 O
 go_upto_region 7 with (rw [hst])
 clear hst  O B
 replace L := L.btw hb (by omega)
 replace R := R.btw hb (by omega)
 replace P1 := P1.btw hb (by omega)
 replace P2 := P2.btw hb (by omega)
 replace P3 := P3.btw hb (by omega)
 replace P4 := P4.btw hb (by omega)
 have zv9 := hb.2.2.2.1
 clear hb
 generalize putA v8 (w.heap.size + 2) 14 [.slice (some ⟨na2, 0, none⟩) x.nn x.nn] = v9 at *
 have B := B1
 have O := N1
 clear B1 N1
 have hL0 : (loadCells ⟨w.heap.size, 15, none⟩ 2).run Tryz.prog v9 = .ok #[.int .i64 x.nx, .slice fa x.nf fc] v9 := L.loadAt (P := Tryz.prog) 15 2 (show 15 + 2 ≤ 18 by decide)
 go_wp2_with (rw [hL0])
 refine (CF v9 B).mono ?_
 rintro e v10 ⟨fa2, rfl, P5, hb⟩
 clear hL0
 have q5L : w.heap.size < v9.heap.size := L.1
 have q5R : w.heap.size + 1 < v9.heap.size := R.1
 have q5O : w.heap.size + 2 < v9.heap.size := O.1
 have q5 : w.heap.size ≤ v9.heap.size := B.size
 have zv10 : v9.heap.size ≤ v10.heap.size := hb.size
 replace B := B.trans (hb.mono B.size)
 replace L := L.below hb
 replace R := R.below hb
 replace O := O.below hb
 replace P1 := P1.below hb
 replace P2 := P2.below hb
 replace P3 := P3.below hb
 replace P4 := P4.below hb
 clear hb
 have hst := Bo.store (P := Tryz.prog) (b := 15) ([.int .i64 x.nx, .slice (some ⟨fa2, 0, none⟩) x.nf x.nf]) 15 0 O rfl (show 15 + 2 ≤ 18 by decide) (List.forall_mem_cons.2 ⟨rfl, (List.forall_mem_cons.2 ⟨rfl, fun _ h => nomatch h⟩)⟩)
 have hb : Btw (w.heap.size + 2) (w.heap.size + 2 + 1) v10 _ := putA_btw ([.int .i64 x.nx, .slice (some ⟨fa2, 0, none⟩) x.nf x.nf]) v10 15 (w.heap.size + 2)
 have B1 := putA_below (k := w.heap.size + 2) ([.int .i64 x.nx, .slice (some ⟨fa2, 0, none⟩) x.nf x.nf]) w v10 15 B (by omega)
 have N1 : Bo (putA v10 (w.heap.size + 2) 15 ([.int .i64 x.nx, .slice (some ⟨fa2, 0, none⟩) x.nf x.nf])) (w.heap.size + 2) (#[.int .i64 x.y.dn, .int .i64 x.y.dd, .int .i64 x.y.li, .int .i64 x.y.le, .int .i64 x.y.pt, .int .i64 x.y.ag, .int .i64 x.y.ke, .int .i64 x.y.lg, .int .i64 x.y.s, .int .i64 x.y.g, .slice p2 x.y.m d2, .slice (some ⟨la2, 0, none⟩) x.nl x.nl, .int .i64 x.ti, .slice (some ⟨ca2, 0, none⟩) x.nc x.nc, .slice (some ⟨na2, 0, none⟩) x.nn x.nn, .int .i64 x.nx, .slice (some ⟨fa2, 0, none⟩) x.nf x.nf, .slice none 0 0]) := Bo.put ([.int .i64 x.nx, .slice (some ⟨fa2, 0, none⟩) x.nf x.nf]) 15 O
 go_upto_region 8 with (rw [hst])
 clear hst  O B
 replace L := L.btw hb (by omega)
 replace R := R.btw hb (by omega)
 replace P1 := P1.btw hb (by omega)
 replace P2 := P2.btw hb (by omega)
 replace P3 := P3.btw hb (by omega)
 replace P4 := P4.btw hb (by omega)
 replace P5 := P5.btw hb (by omega)
 have zv11 := hb.2.2.2.1
 clear hb
 generalize putA v10 (w.heap.size + 2) 15 ([.int .i64 x.nx, .slice (some ⟨fa2, 0, none⟩) x.nf x.nf]) = v11 at *
 have B := B1
 have O := N1
 clear B1 N1
 have hL0 : v11.cell? ⟨w.heap.size, 17, none⟩ = some (.slice ba x.nb bc) := L.cell rfl
 go_wp2_with fail
 refine (CR v11 B).mono ?_
 rintro e v12 ⟨ba2, rfl, P6, hb⟩
 clear hL0
 have q6L : w.heap.size < v11.heap.size := L.1
 have q6R : w.heap.size + 1 < v11.heap.size := R.1
 have q6O : w.heap.size + 2 < v11.heap.size := O.1
 have q6 : w.heap.size ≤ v11.heap.size := B.size
 have zv12 : v11.heap.size ≤ v12.heap.size := hb.size
 replace B := B.trans (hb.mono B.size)
 replace L := L.below hb
 replace R := R.below hb
 replace O := O.below hb
 replace P1 := P1.below hb
 replace P2 := P2.below hb
 replace P3 := P3.below hb
 replace P4 := P4.below hb
 replace P5 := P5.below hb
 clear hb
 have hst := Bo.store (P := Tryz.prog) (b := 17) [.slice (some ⟨ba2, 0, none⟩) x.nb x.nb] 17 0 O rfl (show 17 + 1 ≤ 18 by decide) (List.forall_mem_cons.2 ⟨rfl, fun _ h => nomatch h⟩)
 have hb : Btw (w.heap.size + 2) (w.heap.size + 2 + 1) v12 (putA v12 (w.heap.size + 2) 17 [.slice (some ⟨ba2, 0, none⟩) x.nb x.nb]) := putA_btw [.slice (some ⟨ba2, 0, none⟩) x.nb x.nb] v12 17 (w.heap.size + 2)
 have B1 := putA_below (k := w.heap.size + 2) [.slice (some ⟨ba2, 0, none⟩) x.nb x.nb] w v12 17 B (by omega)
 have N1 : Bo (putA v12 (w.heap.size + 2) 17 [.slice (some ⟨ba2, 0, none⟩) x.nb x.nb]) (w.heap.size + 2) (#[.int .i64 x.y.dn, .int .i64 x.y.dd, .int .i64 x.y.li, .int .i64 x.y.le, .int .i64 x.y.pt, .int .i64 x.y.ag, .int .i64 x.y.ke, .int .i64 x.y.lg, .int .i64 x.y.s, .int .i64 x.y.g, .slice p2 x.y.m d2, .slice (some ⟨la2, 0, none⟩) x.nl x.nl, .int .i64 x.ti, .slice (some ⟨ca2, 0, none⟩) x.nc x.nc, .slice (some ⟨na2, 0, none⟩) x.nn x.nn, .int .i64 x.nx, .slice (some ⟨fa2, 0, none⟩) x.nf x.nf, .slice (some ⟨ba2, 0, none⟩) x.nb x.nb]) := Bo.put [.slice (some ⟨ba2, 0, none⟩) x.nb x.nb] 17 O
 go_upto_region 9 with (rw [hst])
 clear hst  O B
 replace L := L.btw hb (by omega)
 replace R := R.btw hb (by omega)
 replace P1 := P1.btw hb (by omega)
 replace P2 := P2.btw hb (by omega)
 replace P3 := P3.btw hb (by omega)
 replace P4 := P4.btw hb (by omega)
 replace P5 := P5.btw hb (by omega)
 replace P6 := P6.btw hb (by omega)
 have zv13 := hb.2.2.2.1
 clear hb
 generalize putA v12 (w.heap.size + 2) 17 [.slice (some ⟨ba2, 0, none⟩) x.nb x.nb] = v13 at *
 have B := B1
 have O := N1
 clear B1 N1
 have O : Bo v13 (w.heap.size + 2) (wdV x p2 d2 (some ⟨la2, 0, none⟩) x.nl (some ⟨ca2, 0, none⟩) x.nc (some ⟨na2, 0, none⟩) x.nn (some ⟨fa2, 0, none⟩) x.nf (some ⟨ba2, 0, none⟩) x.nb) := O
 have hU : (wdV x p2 d2 (some ⟨la2, 0, none⟩) x.nl (some ⟨ca2, 0, none⟩) x.nc (some ⟨na2, 0, none⟩) x.nn (some ⟨fa2, 0, none⟩) x.nf (some ⟨ba2, 0, none⟩) x.nb).size = 18 := rfl
 have hUl : 0 + (wdV x p2 d2 (some ⟨la2, 0, none⟩) x.nl (some ⟨ca2, 0, none⟩) x.nc (some ⟨na2, 0, none⟩) x.nn (some ⟨fa2, 0, none⟩) x.nf (some ⟨ba2, 0, none⟩) x.nb).toList.length ≤ 18 := by simp [hU]
 have hL0 := O.load (P := Tryz.prog) (show ((wdV x p2 d2 (some ⟨la2, 0, none⟩) x.nl (some ⟨ca2, 0, none⟩) x.nc (some ⟨na2, 0, none⟩) x.nn (some ⟨fa2, 0, none⟩) x.nf (some ⟨ba2, 0, none⟩) x.nb) : Array Value).size = 18 from rfl)
 have hst := Bo.store (P := Tryz.prog) (b := 0) ((wdV x p2 d2 (some ⟨la2, 0, none⟩) x.nl (some ⟨ca2, 0, none⟩) x.nc (some ⟨na2, 0, none⟩) x.nn (some ⟨fa2, 0, none⟩) x.nf (some ⟨ba2, 0, none⟩) x.nb).toList) 0 0 R rfl hUl (wdV_one _ _ _ _ _ _ _ _ _ _ _ _ _)
 have hb : Btw (w.heap.size + 1) (w.heap.size + 1 + 1) v13 _ := putA_btw ((wdV x p2 d2 (some ⟨la2, 0, none⟩) x.nl (some ⟨ca2, 0, none⟩) x.nc (some ⟨na2, 0, none⟩) x.nn (some ⟨fa2, 0, none⟩) x.nf (some ⟨ba2, 0, none⟩) x.nb).toList) v13 0 (w.heap.size + 1)
 have B1 := putA_below (k := w.heap.size + 1) ((wdV x p2 d2 (some ⟨la2, 0, none⟩) x.nl (some ⟨ca2, 0, none⟩) x.nc (some ⟨na2, 0, none⟩) x.nn (some ⟨fa2, 0, none⟩) x.nf (some ⟨ba2, 0, none⟩) x.nb).toList) w v13 0 B (by omega)
 have N1 : Bo (putA v13 (w.heap.size + 1) 0 ((wdV x p2 d2 (some ⟨la2, 0, none⟩) x.nl (some ⟨ca2, 0, none⟩) x.nc (some ⟨na2, 0, none⟩) x.nn (some ⟨fa2, 0, none⟩) x.nf (some ⟨ba2, 0, none⟩) x.nb).toList)) (w.heap.size + 1) ((wdV x p2 d2 (some ⟨la2, 0, none⟩) x.nl (some ⟨ca2, 0, none⟩) x.nc (some ⟨na2, 0, none⟩) x.nn (some ⟨fa2, 0, none⟩) x.nf (some ⟨ba2, 0, none⟩) x.nb)) := R.putW (U := (wdV x p2 d2 (some ⟨la2, 0, none⟩) x.nl (some ⟨ca2, 0, none⟩) x.nc (some ⟨na2, 0, none⟩) x.nn (some ⟨fa2, 0, none⟩) x.nf (some ⟨ba2, 0, none⟩) x.nb)) hU
 go_wp2_with (first | rw [hL0] | rw [hst])
 clear hst hL0 R B
 replace L := L.btw hb (by omega)
 replace O := O.btw hb (by omega)
 replace P1 := P1.btw hb (by omega)
 replace P2 := P2.btw hb (by omega)
 replace P3 := P3.btw hb (by omega)
 replace P4 := P4.btw hb (by omega)
 replace P5 := P5.btw hb (by omega)
 replace P6 := P6.btw hb (by omega)
 have zv14 := hb.2.2.2.1
 clear hb
 generalize putA v13 (w.heap.size + 1) 0 ((wdV x p2 d2 (some ⟨la2, 0, none⟩) x.nl (some ⟨ca2, 0, none⟩) x.nc (some ⟨na2, 0, none⟩) x.nn (some ⟨fa2, 0, none⟩) x.nf (some ⟨ba2, 0, none⟩) x.nb).toList) = v14 at *
 have B := B1
 have R := N1
 clear B1 N1
 have e1 := P2.srcC
 have e2 := P3.srcC
 rw [Nat.mul_one] at e1 e2
 have hL0 := R.load (P := Tryz.prog) hU
 exact bodyPost_ret (v := .agg (wdV x p2 d2 (some ⟨la2, 0, none⟩) x.nl (some ⟨ca2, 0, none⟩) x.nc (some ⟨na2, 0, none⟩) x.nn (some ⟨fa2, 0, none⟩) x.nf (some ⟨ba2, 0, none⟩) x.nb)) (by simp [results, Tryz.results8, go_sem]; rw [hL0]; rfl) rfl ⟨_, rfl, ⟨p2, d2, some ⟨la2, 0, none⟩, x.nl, some ⟨ca2, 0, none⟩, x.nc, some ⟨na2, 0, none⟩, x.nn, some ⟨fa2, 0, none⟩, x.nf, some ⟨ba2, 0, none⟩, x.nb, rfl, HM.out, P1.rw, e1, e2, P4.row, P5.srcC, P6.srcC⟩, B⟩
attribute [-go_sem] loadCells storeCells in
set_option maxRecDepth 100000 in
set_option maxHeartbeats 8000000 in
theorem eqWorldW (A A' : Array Value) (x : WdX) (w : World) (h : WdW w A x) (h' : WdW w A' x) :
 Calls Tryz.prog 10 #[.agg A, .agg A'] w fun e w' => e = .returned (.bool true) ∧ Below w.heap.size w w' := by
 obtain ⟨p, d, la, lc, ca, cc, na, nk, fa, fc, ba, bc, rfl, hm, h1, h2, h3, h4, h5, h6⟩ := h
 obtain ⟨p', d', la', lc', ca', cc', na', nk', fa', fc', ba', bc', rfl, -, k1, k2, k3, k4, k5, k6⟩ := h'
 obtain ⟨m1, m2, m3, m4, m5, m6⟩ := hm
 have CC := fun (v : World) (h : Below w.heap.size w v) => eqCfgW (cfV x.y p d) (cfV x.y p' d') x.y v ⟨p, d, rfl, m1, h1.below h⟩ ⟨p', d', rfl, m1, k1.below h⟩
 have CB := fun (v : World) (h : Below w.heap.size w v) => eqBoolG_src la la' x.nl lc lc' x.LB v m2 (h2.below h) (k2.below h)
 have CI := fun (v : World) (h : Below w.heap.size w v) => eqIntG_src ca ca' x.nc cc cc' x.CM v m3 (h3.below h) (k3.below h)
 have CN := fun (v : World) (h : Below w.heap.size w v) => eqNodeN_any na na' x.nn nk nk' x.XM v m4 (h4.belowW h) (k4.belowW h)
 have CF := fun (v : World) (h : Below w.heap.size w v) => eqNet_same x.nx fa fa' x.nf fc fc' x.FM v m5 (h5.below h) (k5.below h)
 have CR := fun (v : World) (h : Below w.heap.size w v) => eqFrameS_src ba ba' x.nb bc bc' x.BM v m6 (h6.below h) (k6.below h)
 have hti : (x.ti != x.ti) = false := by simp
 clear h1 h2 h3 h4 h5 h6 k1 k2 k3 k4 k5 k6 m1 m2 m3 m4 m5 m6
 have A0 := Below.nw w (.cells (wdV x p d la lc ca cc na nk fa fc ba bc) 52)
 have A1 := Below.nw (w.alloc (.cells (wdV x p d la lc ca cc na nk fa fc ba bc) 52)) (.cells (wdV x p' d' la' lc' ca' cc' na' nk' fa' fc' ba' bc') 52)
 have L := (Bo.new w (wdV x p d la lc ca cc na nk fa fc ba bc) 52).below A1
 have M := Bo.new (w.alloc (.cells (wdV x p d la lc ca cc na nk fa fc ba bc) 52)) (wdV x p' d' la' lc' ca' cc' na' nk' fa' fc' ba' bc') 52
 have B := A0
 replace B := B.trans (A1.mono B.size)
 simp only [World.size_alloc] at M
 clear A0 A1
 go_enter Tryz.func10, Tryz.ntmps10
 go_upto_region 1 with fail
 generalize ((w.alloc (.cells (wdV x p d la lc ca cc na nk fa fc ba bc) 52))).alloc (.cells (wdV x p' d' la' lc' ca' cc' na' nk' fa' fc' ba' bc') 52) = v0 at *
 have hL0 : (loadCells ⟨w.heap.size, 0, none⟩ 11).run Tryz.prog v0 = .ok (cfV x.y p d) v0 := L.loadAt (P := Tryz.prog) 0 11 (show 0 + 11 ≤ 18 by decide)
 have hL1 : (loadCells ⟨w.heap.size + 1, 0, none⟩ 11).run Tryz.prog v0 = .ok (cfV x.y p' d') v0 := M.loadAt (P := Tryz.prog) 0 11 (show 0 + 11 ≤ 18 by decide)
 go_wp2_with (first | rw [hL0] | rw [hL1])
 refine (CC v0 B).mono ?_
 rintro e v1 ⟨rfl, hb⟩
 clear hL0 hL1
 replace B := B.trans (hb.mono B.size)
 replace L := L.below hb
 replace M := M.below hb
 clear hb
 have hL0 : v1.cell? ⟨w.heap.size, 11, none⟩ = some (.slice la x.nl lc) := L.cell rfl
 have hL1 : v1.cell? ⟨w.heap.size + 1, 11, none⟩ = some (.slice la' x.nl lc') := M.cell rfl
 go_wp2_with fail
 refine (CB v1 B).mono ?_
 rintro e v2 ⟨rfl, hb⟩
 clear hL0 hL1
 replace B := B.trans (hb.mono B.size)
 replace L := L.below hb
 replace M := M.below hb
 clear hb
 have hT0 : v2.cell? ⟨w.heap.size, 12, none⟩ = some (.int .i64 x.ti) := L.cell rfl
 have hT1 : v2.cell? ⟨w.heap.size + 1, 12, none⟩ = some (.int .i64 x.ti) := M.cell rfl
 have hL0 : v2.cell? ⟨w.heap.size, 13, none⟩ = some (.slice ca x.nc cc) := L.cell rfl
 have hL1 : v2.cell? ⟨w.heap.size + 1, 13, none⟩ = some (.slice ca' x.nc cc') := M.cell rfl
 go_wp2_with fail
 refine (CI v2 B).mono ?_
 rintro e v3 ⟨rfl, hb⟩
 clear hL0 hL1
 replace B := B.trans (hb.mono B.size)
 replace L := L.below hb
 replace M := M.below hb
 clear hb
 clear hT0 hT1
 have hL0 : v3.cell? ⟨w.heap.size, 14, none⟩ = some (.slice na x.nn nk) := L.cell rfl
 have hL1 : v3.cell? ⟨w.heap.size + 1, 14, none⟩ = some (.slice na' x.nn nk') := M.cell rfl
 go_wp2_with fail
 refine (CN v3 B).mono ?_
 rintro e v4 ⟨rfl, hb⟩
 clear hL0 hL1
 replace B := B.trans (hb.mono B.size)
 replace L := L.below hb
 replace M := M.below hb
 clear hb
 have hL0 : (loadCells ⟨w.heap.size, 15, none⟩ 2).run Tryz.prog v4 = .ok #[.int .i64 x.nx, .slice fa x.nf fc] v4 := L.loadAt (P := Tryz.prog) 15 2 (show 15 + 2 ≤ 18 by decide)
 have hL1 : (loadCells ⟨w.heap.size + 1, 15, none⟩ 2).run Tryz.prog v4 = .ok #[.int .i64 x.nx, .slice fa' x.nf fc'] v4 := M.loadAt (P := Tryz.prog) 15 2 (show 15 + 2 ≤ 18 by decide)
 go_wp2_with (first | rw [hL0] | rw [hL1])
 refine (CF v4 B).mono ?_
 rintro e v5 ⟨rfl, hb⟩
 clear hL0 hL1
 replace B := B.trans (hb.mono B.size)
 replace L := L.below hb
 replace M := M.below hb
 clear hb
 have hL0 : v5.cell? ⟨w.heap.size, 17, none⟩ = some (.slice ba x.nb bc) := L.cell rfl
 have hL1 : v5.cell? ⟨w.heap.size + 1, 17, none⟩ = some (.slice ba' x.nb bc') := M.cell rfl
 go_wp2_with fail
 refine (CR v5 B).mono ?_
 rintro e v6 ⟨rfl, hb⟩
 clear hL0 hL1
 replace B := B.trans (hb.mono B.size)
 replace L := L.below hb
 replace M := M.below hb
 clear hb
 go_wp2_with fail
 go_ret
 exact ⟨rfl, B⟩
attribute [-go_sem] loadCells storeCells in
set_option maxRecDepth 100000 in
set_option maxHeartbeats 8000000 in
theorem szWorldW (A : Array Value) (x : WdX) (w : World) (h : WdW w A x) (ht : txW x) :
 Calls Tryz.prog 6 #[.agg A, .int .i64 1048576] w fun e w' => ∃ L : Int, e = .returned (.int .i64 L) ∧ (0 ≤ L → shW x) ∧ Below w.heap.size w w' := by
 obtain ⟨p, d, la, lc, ca, cc, na, nk, fa, fc, ba, bc, rfl, hm, h1, h2, h3, h4, h5, h6⟩ := h
 obtain ⟨m1, m2, m3, m4, m5, m6⟩ := hm
 obtain ⟨t1, t2⟩ := ht
 have CC := fun (v : World) (h : Below w.heap.size w v) => szCfgW (cfV x.y p d) x.y 1048576 v ⟨p, d, rfl, m1, h1.below h⟩ (by decide) (by decide)
 have CB := fun (Z : Int) (q0 : 0 ≤ Z) (q1 : Z ≤ 1048576) (v : World) => szBoolG_any la x.nl lc Z v m2 q0 q1
 have CI := fun (Z : Int) (q0 : 0 ≤ Z) (q1 : Z ≤ 1048576) (v : World) => szIntG_any ca x.nc cc Z v m3 q0 q1
 have CN := fun (Z : Int) (q : 0 ≤ Z ∧ Z ≤ 1048576) (v : World) (h : Below w.heap.size w v) => szNodeN_any na x.nn nk x.XM Z q v m4 (h4.belowW h)
 have CF := fun (Z : Int) (q : 0 ≤ Z ∧ Z ≤ 1048576) (v : World) (h : Below w.heap.size w v) => szNet_at x.nx fa x.nf fc x.FM Z q v m5 (h5.below h) t1
 have CR := fun (Z : Int) (q : 0 ≤ Z ∧ Z ≤ 1048576) (v : World) (h : Below w.heap.size w v) => szFrameS_at ba x.nb bc x.BM Z q v m6 (h6.below h) t2
 clear h1 h2 h3 h4 h5 h6 m1 m2 m3 m4 m5 m6 t1 t2
 have A0 := Below.nw w (.cells (wdV x p d la lc ca cc na nk fa fc ba bc) 37)
 have L := Bo.new w (wdV x p d la lc ca cc na nk fa fc ba bc) 37
 have B := A0
 clear A0
 go_enter Tryz.func6, Tryz.ntmps6
 go_upto_region 1 with fail
 generalize w.alloc (.cells (wdV x p d la lc ca cc na nk fa fc ba bc) 37) = v0 at *
 have hL0 : (loadCells ⟨w.heap.size, 0, none⟩ 11).run Tryz.prog v0 = .ok (cfV x.y p d) v0 := L.loadAt (P := Tryz.prog) 0 11 (show 0 + 11 ≤ 18 by decide)
 go_wp2_with (rw [hL0])
 refine (CC v0 B).mono ?_
 rintro e v1 ⟨z1, rfl, f1, hb⟩
 clear hL0
 replace B := B.trans (hb.mono B.size)
 replace L := L.below hb
 clear hb
 by_cases hnz1 : z1 < 0
 ·have hd : decide (z1 < 0) = true := by simp [hnz1]
  clear f1
  go_wp2_with fail
  go_ret
  exact ⟨-1, rfl, fun h => absurd h (by decide), B⟩
 have hdz1 : decide (z1 < 0) = false := by simp; omega
 have hpz1 : 0 ≤ z1 := by omega
 obtain ⟨g1, u1⟩ := f1 hpz1
 clear f1
 have q1 := CB z1 hpz1 u1
 have hL0 : v1.cell? ⟨w.heap.size, 11, none⟩ = some (.slice la x.nl lc) := L.cell rfl
 go_wp2_with fail
 refine (q1 _).mono ?_
 rintro e vz ⟨rfl, rfl⟩
 clear hL0 q1
 by_cases hcz2 : (x.nl : Int) ≤ z1
 rotate_left
 ·rw [if_neg hcz2]
  go_wp2_with fail
  go_ret
  exact ⟨-1, rfl, fun h => absurd h (by decide), B⟩
 rw [if_pos hcz2]
 obtain ⟨z2, hzz2⟩ : ∃ z2 : Int, z2 = z1 - (x.nl : Int) := ⟨_, rfl⟩
 rw [← hzz2]
 have hpz2 : 0 ≤ z2 := by omega
 have uz2 : z2 ≤ 1048576 := by omega
 have gz2 : x.nl ≤ 1048576 := by omega
 have hdz2 : decide (z2 < 0) = false := by simp; omega
 clear hzz2 hcz2
 have q2 := CI z2 hpz2 uz2
 have hL0 : v1.cell? ⟨w.heap.size, 13, none⟩ = some (.slice ca x.nc cc) := L.cell rfl
 go_wp2_with fail
 refine (q2 _).mono ?_
 rintro e vz ⟨rfl, rfl⟩
 clear hL0 q2
 by_cases hcz3 : (x.nc : Int) ≤ z2
 rotate_left
 ·rw [if_neg hcz3]
  go_wp2_with fail
  go_ret
  exact ⟨-1, rfl, fun h => absurd h (by decide), B⟩
 rw [if_pos hcz3]
 obtain ⟨z3, hzz3⟩ : ∃ z3 : Int, z3 = z2 - (x.nc : Int) := ⟨_, rfl⟩
 rw [← hzz3]
 have hpz3 : 0 ≤ z3 := by omega
 have uz3 : z3 ≤ 1048576 := by omega
 have gz3 : x.nc ≤ 1048576 := by omega
 have hdz3 : decide (z3 < 0) = false := by simp; omega
 clear hzz3 hcz3
 have hL0 : v1.cell? ⟨w.heap.size, 14, none⟩ = some (.slice na x.nn nk) := L.cell rfl
 go_wp2_with fail
 refine (CN z3 ⟨hpz3, uz3⟩ v1 B).mono ?_
 rintro e v2 ⟨z4, rfl, f4, hb⟩
 clear hL0
 replace B := B.trans (hb.mono B.size)
 replace L := L.below hb
 clear hb
 by_cases hnz4 : z4 < 0
 ·have hd : decide (z4 < 0) = true := by simp [hnz4]
  clear f4
  go_wp2_with fail
  go_ret
  exact ⟨-1, rfl, fun h => absurd h (by decide), B⟩
 have hdz4 : decide (z4 < 0) = false := by simp; omega
 have hpz4 : 0 ≤ z4 := by omega
 obtain ⟨u4, g4, j4⟩ := f4 hpz4
 clear f4
 have HJ : Hid (∀ i, i < x.nn → shX (x.XM i)) := j4
 clear j4
 have hL0 : (loadCells ⟨w.heap.size, 15, none⟩ 2).run Tryz.prog v2 = .ok #[.int .i64 x.nx, .slice fa x.nf fc] v2 := L.loadAt (P := Tryz.prog) 15 2 (show 15 + 2 ≤ 18 by decide)
 go_wp2_with (rw [hL0])
 refine (CF z4 ⟨hpz4, u4⟩ v2 B).mono ?_
 rintro e v3 ⟨z5, rfl, f5, hb⟩
 clear hL0
 replace B := B.trans (hb.mono B.size)
 replace L := L.below hb
 clear hb
 by_cases hnz5 : z5 < 0
 ·have hd : decide (z5 < 0) = true := by simp [hnz5]
  clear f5
  go_wp2_with fail
  go_ret
  exact ⟨-1, rfl, fun h => absurd h (by decide), B⟩
 have hdz5 : decide (z5 < 0) = false := by simp; omega
 have hpz5 : 0 ≤ z5 := by omega
 obtain ⟨u5, g5, -⟩ := f5 hpz5
 clear f5
 have hL0 : v3.cell? ⟨w.heap.size, 17, none⟩ = some (.slice ba x.nb bc) := L.cell rfl
 go_wp2_with fail
 refine (CR z5 ⟨hpz5, Int.le_trans u5 u4⟩ v3 B).mono ?_
 rintro e v4 ⟨z6, rfl, f6, hb⟩
 clear hL0
 replace B := B.trans (hb.mono B.size)
 replace L := L.below hb
 clear hb
 by_cases hnz6 : z6 < 0
 ·have hd : decide (z6 < 0) = true := by simp [hnz6]
  clear f6
  go_wp2_with fail
  go_ret
  exact ⟨-1, rfl, fun h => absurd h (by decide), B⟩
 have hdz6 : decide (z6 < 0) = false := by simp; omega
 have hpz6 : 0 ≤ z6 := by omega
 obtain ⟨u6, g6, -⟩ := f6 hpz6
 clear f6
 go_wp2_with fail
 go_ret
 exact ⟨z6, rfl, fun _ => ⟨g1, gz2, gz3, g4, HJ.out, g5, g6⟩, B⟩
end Go.Proofs.YtddijpjgkifngaaGreatDoor
