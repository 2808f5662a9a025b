/- Rows of flights: what the laws make of them, and whether two are the s -/
import Derived.Test.YtddijpjgkifngaaGreatMN0
import Derived.Test.YtddijpjgkifngaaGreatMN7
import Derived.Test.YtddijpjgkifngaaGreatMN23
import Derived.Test.YtddijpjgkifngaaGreatMN24
namespace Go.Proofs.YtddijpjgkifngaaGreat
open Go.RowKit
set_option linter.unusedVariables false
set_option maxRecDepth 100000
set_option maxHeartbeats 16000000
def fE (M : FT) : Nat → Value
 | 0 => .int .i64 M.1
 | 1 => .int .i64 M.2.1
 | 2 => .int .i64 M.2.2.1
 | 3 => .string M.2.2.2.1
 | _ => .int .i64 M.2.2.2.2
def ap (M : Nat → FT) (c : Nat) : Value := fE (M (c / 5)) (c % 5)
theorem bi (M : Nat → FT) (k j : Nat) (hj : j < 5) : ap M (k * 5 + j) = fE (M k) j := by
 have h1 : (k * 5 + j) / 5 = k := by omega
 have h2 : (k * 5 + j) % 5 = j := by omega
 rw [ap, h1, h2]
theorem dX {M : Nat → FT} {k : Nat} {x0 : Int} {x1 : Int} {x2 : Int} {x3 : ByteArray} {x4 : Int} (hM : M k = (x0, x1, x2, x3, x4)) : ap M (k * 5) = .int .i64 x0 ∧ ap M (k * 5 + 1) = .int .i64 x1 ∧ ap M (k * 5 + 2) = .int .i64 x2 ∧ ap M (k * 5 + 3) = .string x3 ∧ ap M (k * 5 + 4) = .int .i64 x4 :=
 ⟨by have q := bi M k 0 (by decide); rw [hM] at q; exact q, by have q := bi M k 1 (by decide); rw [hM] at q; exact q, by have q := bi M k 2 (by decide); rw [hM] at q; exact q, by have q := bi M k 3 (by decide); rw [hM] at q; exact q, by have q := bi M k 4 (by decide); rw [hM] at q; exact q⟩
theorem Cs.elFlight {w : World} {b off n k : Nat} {M : Nat → FT} {x0 : Int} {x1 : Int} {x2 : Int} {x3 : ByteArray} {x4 : Int} (h : Cs w b off (n * 5) (ap M)) (hk : k < n) (hM : M k = (x0, x1, x2, x3, x4)) : w.cell? ⟨b, off + k * 5, none⟩ = some (.int .i64 x0) ∧ w.cell? ⟨b, off + k * 5 + 1, none⟩ = some (.int .i64 x1) ∧ w.cell? ⟨b, off + k * 5 + 2, none⟩ = some (.int .i64 x2) ∧ w.cell? ⟨b, off + k * 5 + 3, none⟩ = some (.string x3) ∧ w.cell? ⟨b, off + k * 5 + 4, none⟩ = some (.int .i64 x4) := by
 obtain ⟨q0, q1, q2, q3, q4⟩ := dX hM
 exact ⟨by have := h.2 (k * 5) (by omega); rw [q0] at this; exact this, by have := h.2 (k * 5 + 1) (by omega); rw [q1] at this; exact this, by have := h.2 (k * 5 + 2) (by omega); rw [q2] at this; exact this, by have := h.2 (k * 5 + 3) (by omega); rw [q3] at this; exact this, by have := h.2 (k * 5 + 4) (by omega); rw [q4] at this; exact this⟩
theorem be (M : Nat → FT) (k : Nat) : ∃ (x0 : Int) (x1 : Int) (x2 : Int) (x3 : ByteArray) (x4 : Int), M k = (x0, x1, x2, x3, x4) := ⟨_, _, _, _, _, rfl⟩
theorem dr (b off b' off' n c c' : Nat) (M : Nat → FT) (w : World) (hn : n ≤ maxLen) (hf : Cs w b off (n * 5) (ap M)) (hg : Cs w b' off' (n * 5) (ap M)) :
 Calls Tryz.prog 104 #[.slice (some ⟨b, off, none⟩) n c, .slice (some ⟨b', off', none⟩) n c'] w fun e w' => e = .returned (.bool true) ∧ Below w.heap.size w w' := by
 unfold maxLen at hn
 go_enter Tryz.func104, Tryz.ntmps104
 go_wp2_with fail
 go_loopw [5] (fun i wr => ∃ k : Nat, k ≤ n ∧ i = .int .i64 k ∧ Below w.heap.size w wr) (fun i _ => n - (intOf i).toNat)
 case atStart => exact ⟨0, Nat.zero_le _, rfl, Below.refl _ _⟩
 case round =>
  obtain ⟨k, hk, rfl, hB⟩ := hrel
  by_cases hlt : k < n
  ·obtain ⟨x0, x1, x2, x3, x4, hM⟩ := be M k
   obtain ⟨c0, c1, c2, c3, c4⟩ := (hf.below hB hf.1).elFlight hlt hM
   obtain ⟨d0, d1, d2, d3, d4⟩ := (hg.below hB hg.1).elFlight hlt hM
   have hb1 : b < wr.drew.heap.size := Nat.lt_of_lt_of_le hf.1 hB.size
   have hb2 : b' < wr.drew.heap.size := Nat.lt_of_lt_of_le hg.1 hB.size
   have hsz : w.heap.size ≤ wr.drew.heap.size := hB.size
   have hli : (k : Int) < (n : Int) := by omega
   clear hM
   go_wp2_with fail
   refine wp_region_held_drew (S := (fun w' => w'.cell? ⟨b, off + k * 5, none⟩ = some (.int .i64 x0) ∧ w'.cell? ⟨b, off + k * 5 + 1, none⟩ = some (.int .i64 x1) ∧ w'.cell? ⟨b, off + k * 5 + 2, none⟩ = some (.int .i64 x2) ∧ w'.cell? ⟨b, off + k * 5 + 3, none⟩ = some (.string x3) ∧ w'.cell? ⟨b, off + k * 5 + 4, none⟩ = some (.int .i64 x4) ∧ w'.cell? ⟨b', off' + k * 5, none⟩ = some (.int .i64 x0) ∧ w'.cell? ⟨b', off' + k * 5 + 1, none⟩ = some (.int .i64 x1) ∧ w'.cell? ⟨b', off' + k * 5 + 2, none⟩ = some (.int .i64 x2) ∧ w'.cell? ⟨b', off' + k * 5 + 3, none⟩ = some (.string x3) ∧ w'.cell? ⟨b', off' + k * 5 + 4, none⟩ = some (.int .i64 x4))) (by kernel_rfl) ?_ (fun hHeld => ?_)
   ·first | exact ⟨c0, c1, c2, c3, c4, d0, d1, d2, d3, d4⟩ | (simp (maxDischargeDepth := 6) [go_sem, *]; done)
   refine zT8 0 ?_
   refine zQ 8 fun K hK => ?_
   go_simp
   refine (dZ _ _ _ _ _ _).mono ?_; rintro e w' ⟨rfl, hb⟩; (replace c0 := (hb.cell (p := ⟨b, off + k * 5, none⟩) hb1).trans c0); (replace c1 := (hb.cell (p := ⟨b, off + k * 5 + 1, none⟩) hb1).trans c1); (replace c2 := (hb.cell (p := ⟨b, off + k * 5 + 2, none⟩) hb1).trans c2); (replace c3 := (hb.cell (p := ⟨b, off + k * 5 + 3, none⟩) hb1).trans c3); (replace c4 := (hb.cell (p := ⟨b, off + k * 5 + 4, none⟩) hb1).trans c4); (replace d0 := (hb.cell (p := ⟨b', off' + k * 5, none⟩) hb2).trans d0); (replace d1 := (hb.cell (p := ⟨b', off' + k * 5 + 1, none⟩) hb2).trans d1); (replace d2 := (hb.cell (p := ⟨b', off' + k * 5 + 2, none⟩) hb2).trans d2); (replace d3 := (hb.cell (p := ⟨b', off' + k * 5 + 3, none⟩) hb2).trans d3); (replace d4 := (hb.cell (p := ⟨b', off' + k * 5 + 4, none⟩) hb2).trans d4)
   (try go_wp2_with fail)
   refine hK.out _ _ ?_ (fun hHeld => ?_)
   ·first | exact ⟨c0, c1, c2, c3, c4, d0, d1, d2, d3, d4⟩ | (simp (maxDischargeDepth := 6) [go_sem, *]; done)
   clear hK K
   (try simp only [zA])
   refine zTk 9 ?_
   refine wpAnyH_done (by kernel_rfl) ?_ _
   go_wp2_with fail
   go_roundw
   case rel => exact ⟨k + 1, by omega, by go_num, (Below.drew hB).trans (hb.mono hsz)⟩
   case measure => simp [intOf]; omega
  ·go_wp2_with fail
   go_ret
   exact ⟨rfl, hB⟩
theorem dt (a a' : Option Addr) (c c' : Nat) (w : World) :
 Calls Tryz.prog 104 #[.slice a 0 c, .slice a' 0 c'] w fun e w' => e = .returned (.bool true) ∧ Below w.heap.size w w' := by
 go_enter Tryz.func104, Tryz.ntmps104
 go_wp2_with fail
 go_loopw [5] (fun i wr => i = .int .i64 0 ∧ w = wr) (fun i _ => 0)
 case atStart => exact ⟨rfl, rfl⟩
 case round =>
  obtain ⟨rfl, rfl⟩ := hrel
  go_wp2_with fail
  go_ret
  exact ⟨rfl, Below.refl _ _⟩
theorem dY (a a' : Option Addr) (n c c' : Nat) (M : Nat → FT) (w : World) (hn : n ≤ maxLen) (h : ae w a (n * 5) (ap M)) (h' : ae w a' (n * 5) (ap M)) :
 Calls Tryz.prog 104 #[.slice a n c, .slice a' n c'] w fun e w' => e = .returned (.bool true) ∧ Below w.heap.size w w' := by
 by_cases h0 : n = 0
 ·subst h0; exact dt a a' c c' w
 ·rcases h with h | ⟨b, off, rfl, hp⟩
  ·omega
  ·rcases h' with h | ⟨b', off', rfl, hp'⟩
   ·omega
   ·exact dr b off b' off' n c c' M w hn hp hp'
theorem gU (nx : Int) (a a' : Option Addr) (n c c' : Nat) (M : Nat → FT) (w : World) (hn : n ≤ maxLen) (h : ae w a (n * 5) (ap M)) (h' : ae w a' (n * 5) (ap M)) :
 Calls Tryz.prog 54 #[.agg #[.int .i64 nx, .slice a n c], .agg #[.int .i64 nx, .slice a' n c']] w fun e w' => e = .returned (.bool true) ∧ Below w.heap.size w w' := by
 have A0 := (Below.nw w (.cells #[.int .i64 nx, .slice a n c] 49)).alloc (by simp) (.cells #[.int .i64 nx, .slice a' n c'] 49)
 have C := dY a a' n c c' M _ hn (h.below A0) (h'.below A0)
 clear h h'
 go_enter Tryz.func54, Tryz.ntmps54
 go_wp2_with fail
 refine C.mono ?_
 rintro e w1 ⟨rfl, hb⟩
 go_wp2_with fail
 go_ret
 exact ⟨rfl, A0.trans (hb.mono A0.size)⟩
structure WdX where
 y : CfX
 LB : Nat → Bool
 nl : Nat
 ti : Int
 CM : Nat → Int
 nc : Nat
 XM : Nat → NdX
 nn : Nat
 nx : Int
 FM : Nat → FT
 nf : Nat
 BM : Nat → FrT
 nb : Nat
def wdV (x : WdX) (p : Option Addr) (d : Nat) (la : Option Addr) (lc : Nat) (ca : Option Addr) (cc : Nat) (na : Option Addr) (nk : Nat) (fa : Option Addr) (fc : Nat) (ba : Option Addr) (bc : Nat) : Array Value :=
 #[.int .i64 x.y.dn, .int .i64 x.y.dd, .int .i64 x.y.li, .int .i64 x.y.le, .int .i64 x.y.pt, .int .i64 x.y.ag, .int .i64 x.y.ke, .int .i64 x.y.lg, .int .i64 x.y.s, .int .i64 x.y.g, .slice p x.y.m d, .slice la x.nl lc, .int .i64 x.ti, .slice ca x.nc cc, .slice na x.nn nk, .int .i64 x.nx, .slice fa x.nf fc, .slice ba x.nb bc]
def mxW (x : WdX) : Prop := x.y.m ≤ maxLen ∧ x.nl ≤ maxLen ∧ x.nc ≤ maxLen ∧ x.nn ≤ maxLen ∧ x.nf ≤ maxLen ∧ x.nb ≤ maxLen
def txW (x : WdX) : Prop := (∀ i, i < x.nf → (x.FM i).2.2.2.1.size ≤ maxLen) ∧ ∀ i, i < x.nb → (x.BM i).2.2.2.2.2.size ≤ maxLen
def shW (x : WdX) : Prop := x.y.m ≤ 1048576 ∧ x.nl ≤ 1048576 ∧ x.nc ≤ 1048576 ∧ x.nn ≤ 1048576 ∧ (∀ i, i < x.nn → shX (x.XM i)) ∧ x.nf ≤ 1048576 ∧ x.nb ≤ 1048576
def WdW (w : World) (A : Array Value) (x : WdX) : Prop := ∃ p d la lc ca cc na nk fa fc ba bc, A = wdV x p d la lc ca cc na nk fa fc ba bc ∧ mxW x ∧ ae w p (x.y.m * 2) (ak x.y.PM) ∧ ae w la x.nl (boG x.LB) ∧ ae w ca x.nc (itG x.CM) ∧ RwN NdW w na x.nn x.XM ∧ ae w fa (x.nf * 5) (ap x.FM) ∧ ae w ba (x.nb * 6) (av x.BM)
def WdS (w : World) (A : Array Value) (x : WdX) : Prop := ∃ p d la lc ca cc na nk fa fc ba bc, A = wdV x p d la lc ca cc na nk fa fc ba bc ∧ mxW x ∧ RwO w p x.y.m d 2 (ak x.y.PM) ∧ ae w la x.nl (boG x.LB) ∧ ae w ca x.nc (itG x.CM) ∧ RwN NdS w na x.nn x.XM ∧ ae w fa (x.nf * 5) (ap x.FM) ∧ ae w ba (x.nb * 6) (av x.BM)
theorem WdW.below {w w' : World} {A : Array Value} {x : WdX} (h : WdW w A x) (hb : Below w.heap.size w w') : WdW w' A x := by
 obtain ⟨p, d, la, lc, ca, cc, na, nk, fa, fc, ba, bc, e, hm, h1, h2, h3, h4, h5, h6⟩ := h
 exact ⟨p, d, la, lc, ca, cc, na, nk, fa, fc, ba, bc, e, hm, h1.below hb, h2.below hb, h3.below hb, h4.belowW hb, h5.below hb, h6.below hb⟩
theorem WdS.below {w w' : World} {A : Array Value} {x : WdX} (h : WdS w A x) (hb : Below w.heap.size w w') : WdS w' A x := by
 obtain ⟨p, d, la, lc, ca, cc, na, nk, fa, fc, ba, bc, e, hm, h1, h2, h3, h4, h5, h6⟩ := h
 exact ⟨p, d, la, lc, ca, cc, na, nk, fa, fc, ba, bc, e, hm, h1.below hb, h2.below hb, h3.below hb, h4.belowS hb, h5.below hb, h6.below hb⟩
theorem WdS.weak {w : World} {A : Array Value} {x : WdX} (h : WdS w A x) : WdW w A x := by
 obtain ⟨p, d, la, lc, ca, cc, na, nk, fa, fc, ba, bc, e, hm, h1, h2, h3, h4, h5, h6⟩ := h
 exact ⟨p, d, la, lc, ca, cc, na, nk, fa, fc, ba, bc, e, hm, h1.src, h2, h3, h4.weak, h5, h6⟩
theorem WdW.size {w : World} {A : Array Value} {x : WdX} (h : WdW w A x) : A.size = 18 := by
 obtain ⟨p, d, la, lc, ca, cc, na, nk, fa, fc, ba, bc, e, _⟩ := h
 rw [e]; rfl
theorem kc (x : WdX) (p : Option Addr) (d : Nat) (la : Option Addr) (lc : Nat) (ca : Option Addr) (cc : Nat) (na : Option Addr) (nk : Nat) (fa : Option Addr) (fc : Nat) (ba : Option Addr) (bc : Nat) : ∀ u ∈ (wdV x p d la lc ca cc na nk fa fc ba bc).toList, u.oneCell' = true := by
 intro u hu
 simp only [wdV, List.mem_cons, List.not_mem_nil, or_false] at hu
 rcases hu with h | h | h | h | h | h | h | h | h | h | h | h | h | h | h | h | h | h <;> (subst h; rfl)
theorem WdW.one {w : World} {A : Array Value} {x : WdX} (h : WdW w A x) : ∀ u ∈ A.toList, u.oneCell' = true := by
 obtain ⟨p, d, la, lc, ca, cc, na, nk, fa, fc, ba, bc, e, _⟩ := h
 rw [e]; exact kc x p d la lc ca cc na nk fa fc ba bc
theorem Rwo.srcC {w : World} {lo hi : Nat} {T : TypeId} {sz : Nat} {a : Option Addr} {n c : Nat} {F : Nat → Value} (h : Rwo w lo hi T sz a n c F) : ae w a (n * sz) F := h.rw.src
theorem NvP.btw {w w' : World} {g n k l u : Nat} {XM : Nat → NdX} (h : NvP w g n k XM) (hb : Btw l u w w') (ho : u ≤ g) : NvP w' g n k XM := by
 obtain ⟨A, AM, h1, h2, h3, h4⟩ := h
 exact ⟨A, AM, h1.btw hb (.inr ho), h2, h3, fun i hi => ((h4 i hi).btw hb (.inr (by omega))).wide (Nat.le_refl _) hb.2.2.2.1⟩
theorem jp (A A' : Array Value) (y : CfX) (w : World) (h : CfW w A y) (h' : CfW w A' y) :
 Calls Tryz.prog 18 #[.agg A, .agg A'] w fun e w' => e = .returned (.bool true) ∧ Below w.heap.size w w' := by
 obtain ⟨p, d, rfl, hl, h1⟩ := h
 obtain ⟨p', d', rfl, hl', h1'⟩ := h'
 exact gS y.dn y.dd y.li y.le y.pt y.ag y.ke y.lg y.s y.g p y.m d y.PM p' d' w hl h1 h1'
theorem dh (a : Option Addr) (n c : Nat) (f : Nat → Bool) (w : World) (hn : n ≤ 1048576) (h : ae w a n (boG f)) :
 Calls Tryz.prog 16 #[.slice a n c] w fun e w' => ∃ g, e = .returned (.slice (some ⟨g, 0, none⟩) n n) ∧ Rwo w' w.heap.size w'.heap.size 4 1 (some ⟨g, 0, none⟩) n n (boG f) ∧ Below w.heap.size w w' :=
 (gE a n c f w hn h).mono fun e w' ⟨h1, h2, h3⟩ => ⟨w.heap.size, h1, ao.rwo (by rw [Nat.mul_one]; exact h2) hn (Nat.le_refl _), h3⟩
attribute [-go_sem] loadCells storeCells in
theorem du (A A' : Array Value) (x : WdX) (w : World) (h : WdW w A x) (h' : WdW w A' x) :
 Calls Tryz.prog 12 #[.agg A, .agg A'] w fun e w' => e = .returned (.bool true) ∧ Below w.heap.size w w' := by
 obtain ⟨p, d, la, lc, ca, cc, na, nk, fa, fc, ba, bc, rfl, hm, h1, h2, h3, h4, h5, h6⟩ := h
 obtain ⟨p', d', la', lc', ca', cc', na', nk', fa', fc', ba', bc', rfl, -, k1, k2, k3, k4, k5, k6⟩ := h'
 obtain ⟨m1, m2, m3, m4, m5, m6⟩ := hm
 have CC := fun (v : World) (h : Below w.heap.size w v) => jp (cfV x.y p d) (cfV x.y p' d') x.y v ⟨p, d, rfl, m1, h1.below h⟩ ⟨p', d', rfl, m1, k1.below h⟩
 have CB := fun (v : World) (h : Below w.heap.size w v) => cK la la' x.nl lc lc' x.LB v m2 (h2.below h) (k2.below h)
 have CI := fun (v : World) (h : Below w.heap.size w v) => gT ca ca' x.nc cc cc' x.CM v m3 (h3.below h) (k3.below h)
 have CN := fun (v : World) (h : Below w.heap.size w v) => fR na na' x.nn nk nk' x.XM v m4 (h4.belowW h) (k4.belowW h)
 have CF := fun (v : World) (h : Below w.heap.size w v) => gU x.nx fa fa' x.nf fc fc' x.FM v m5 (h5.below h) (k5.below h)
 have CR := fun (v : World) (h : Below w.heap.size w v) => eP ba ba' x.nb bc bc' x.BM v m6 (h6.below h) (k6.below h)
 have hti : (x.ti != x.ti) = false := by simp
 clear h1 h2 h3 h4 h5 h6 k1 k2 k3 k4 k5 k6 m1 m2 m3 m4 m5 m6
 have A0 := Below.nw w (.cells (wdV x p d la lc ca cc na nk fa fc ba bc) 52)
 have A1 := Below.nw (w.alloc (.cells (wdV x p d la lc ca cc na nk fa fc ba bc) 52)) (.cells (wdV x p' d' la' lc' ca' cc' na' nk' fa' fc' ba' bc') 52)
 have L := (Bo.new w (wdV x p d la lc ca cc na nk fa fc ba bc) 52).below A1
 have M := Bo.new (w.alloc (.cells (wdV x p d la lc ca cc na nk fa fc ba bc) 52)) (wdV x p' d' la' lc' ca' cc' na' nk' fa' fc' ba' bc') 52
 have B := A0
 replace B := B.trans (A1.mono B.size)
 simp only [World.size_alloc] at M
 clear A0 A1
 go_enter Tryz.func12, Tryz.ntmps12
 go_upto_region 1 with fail
 generalize ((w.alloc (.cells (wdV x p d la lc ca cc na nk fa fc ba bc) 52))).alloc (.cells (wdV x p' d' la' lc' ca' cc' na' nk' fa' fc' ba' bc') 52) = v0 at *
 have hL0 : (loadCells ⟨w.heap.size, 0, none⟩ 11).run Tryz.prog v0 = .ok (cfV x.y p d) v0 := L.loadAt (P := Tryz.prog) 0 11 (show 0 + 11 ≤ 18 by decide)
 have hL1 : (loadCells ⟨w.heap.size + 1, 0, none⟩ 11).run Tryz.prog v0 = .ok (cfV x.y p' d') v0 := M.loadAt (P := Tryz.prog) 0 11 (show 0 + 11 ≤ 18 by decide)
 go_wp2_with (first | rw [hL0] | rw [hL1])
 refine (CC v0 B).mono ?_
 rintro e v1 ⟨rfl, hb⟩
 clear hL0 hL1
 replace B := B.trans (hb.mono B.size)
 replace L := L.below hb
 replace M := M.below hb
 clear hb
 have hL0 : v1.cell? ⟨w.heap.size, 11, none⟩ = some (.slice la x.nl lc) := L.cell rfl
 have hL1 : v1.cell? ⟨w.heap.size + 1, 11, none⟩ = some (.slice la' x.nl lc') := M.cell rfl
 go_wp2_with fail
 refine (CB v1 B).mono ?_
 rintro e v2 ⟨rfl, hb⟩
 clear hL0 hL1
 replace B := B.trans (hb.mono B.size)
 replace L := L.below hb
 replace M := M.below hb
 clear hb
 have hT0 : v2.cell? ⟨w.heap.size, 12, none⟩ = some (.int .i64 x.ti) := L.cell rfl
 have hT1 : v2.cell? ⟨w.heap.size + 1, 12, none⟩ = some (.int .i64 x.ti) := M.cell rfl
 have hL0 : v2.cell? ⟨w.heap.size, 13, none⟩ = some (.slice ca x.nc cc) := L.cell rfl
 have hL1 : v2.cell? ⟨w.heap.size + 1, 13, none⟩ = some (.slice ca' x.nc cc') := M.cell rfl
 go_wp2_with fail
 refine (CI v2 B).mono ?_
 rintro e v3 ⟨rfl, hb⟩
 clear hL0 hL1
 replace B := B.trans (hb.mono B.size)
 replace L := L.below hb
 replace M := M.below hb
 clear hb
 clear hT0 hT1
 have hL0 : v3.cell? ⟨w.heap.size, 14, none⟩ = some (.slice na x.nn nk) := L.cell rfl
 have hL1 : v3.cell? ⟨w.heap.size + 1, 14, none⟩ = some (.slice na' x.nn nk') := M.cell rfl
 go_wp2_with fail
 refine (CN v3 B).mono ?_
 rintro e v4 ⟨rfl, hb⟩
 clear hL0 hL1
 replace B := B.trans (hb.mono B.size)
 replace L := L.below hb
 replace M := M.below hb
 clear hb
 have hL0 : (loadCells ⟨w.heap.size, 15, none⟩ 2).run Tryz.prog v4 = .ok #[.int .i64 x.nx, .slice fa x.nf fc] v4 := L.loadAt (P := Tryz.prog) 15 2 (show 15 + 2 ≤ 18 by decide)
 have hL1 : (loadCells ⟨w.heap.size + 1, 15, none⟩ 2).run Tryz.prog v4 = .ok #[.int .i64 x.nx, .slice fa' x.nf fc'] v4 := M.loadAt (P := Tryz.prog) 15 2 (show 15 + 2 ≤ 18 by decide)
 go_wp2_with (first | rw [hL0] | rw [hL1])
 refine (CF v4 B).mono ?_
 rintro e v5 ⟨rfl, hb⟩
 clear hL0 hL1
 replace B := B.trans (hb.mono B.size)
 replace L := L.below hb
 replace M := M.below hb
 clear hb
 have hL0 : v5.cell? ⟨w.heap.size, 17, none⟩ = some (.slice ba x.nb bc) := L.cell rfl
 have hL1 : v5.cell? ⟨w.heap.size + 1, 17, none⟩ = some (.slice ba' x.nb bc') := M.cell rfl
 go_wp2_with fail
 refine (CR v5 B).mono ?_
 rintro e v6 ⟨rfl, hb⟩
 clear hL0 hL1
 replace B := B.trans (hb.mono B.size)
 replace L := L.below hb
 replace M := M.below hb
 clear hb
 go_wp2_with fail
 go_ret
 exact ⟨rfl, B⟩
end Go.Proofs.YtddijpjgkifngaaGreat
