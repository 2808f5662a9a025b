/- When a table is right. The contract of impl.TableOk. A copy of a table -/
import Derived.WalkSmall
import Derived.Laws.OwnMore
import Derived.Test.YtikbjljkakabdaaGreatMB0
import Derived.Test.YtikbjljkakabdaaGreatMB7
import Derived.Test.YtikbjljkakabdaaGreatMB8
namespace Go.Proofs.YtikbjljkakabdaaGreat
open Go.RowKit
set_option linter.unusedVariables false
set_option maxRecDepth 100000
set_option maxHeartbeats 16000000
def trB (x : Int) : Bool := decide (1 ≤ x ∧ x ≤ 4)
def akB (x1 x2 x3 : Int) : Bool := bX x1 && tmB x2 && trB x3
def dv (M : Nat → KT) : Nat → Bool
 | 0 => true
 | k + 1 => decide ((M k).1 < (M (k + 1)).1)
def elB (ep us : Int) (M : Nat → KT) (k : Nat) : Bool := npB (M k).1 && decide (npE (M k).1 = ep) && decide (npK (M k).1 < us) && dv M k && akB (M k).2.1 (M k).2.2.1 (M k).2.2.2
def tOk (ep us : Int) (M : Nat → KT) : Nat → Bool
 | 0 => true
 | k + 1 => tOk ep us M k && elB ep us M k
def usB (u : Int) : Bool := decide (0 ≤ u ∧ u ≤ 1000)
def aP (ep us : Int) (M : Nat → KT) (n : Nat) : Bool := epB ep && usB us && decide (n ≤ 16) && tOk ep us M n
theorem ng {ep us : Int} {M : Nat → KT} {k : Nat} (h : elB ep us M k = false) : ∀ n, k < n → tOk ep us M n = false
 | 0, hn => absurd hn (Nat.not_lt_zero _)
 | n + 1, hn => by
  rcases Nat.lt_succ_iff_lt_or_eq.1 hn with h1 | h1
  ·rw [tOk, ng h n h1, Bool.false_and]
  ·subst h1; rw [tOk, h, Bool.and_false]
theorem lN {ep us : Int} {M : Nat → KT} {n : Nat} (h : tOk ep us M n = false) : aP ep us M n = false := by rw [aP, h, Bool.and_false]
theorem ou {ep us : Int} {M : Nat → KT} {n : Nat} (h : epB ep = false) : aP ep us M n = false := by rw [aP, h]; rfl
theorem ov {ep us : Int} {M : Nat → KT} {n : Nat} (h : usB us = false) : aP ep us M n = false := by rw [aP, h, Bool.and_false]; rfl
theorem iG {ep us : Int} {M : Nat → KT} {n : Nat} (h : ¬ n ≤ 16) : aP ep us M n = false := by rw [aP, decide_eq_false h, Bool.and_false]; rfl
theorem fA {ep us : Int} {M : Nat → KT} {n : Nat} (h0 : epB ep = true) (h1 : usB us = true) (h2 : n ≤ 16) (h : tOk ep us M n = true) : aP ep us M n = true := by rw [aP, h, h0, h1, decide_eq_true h2]; rfl
theorem jg {n : Int} (h : npB n = true) : n = npE n * 1000 + npK n ∧ 0 ≤ npK n ∧ npK n ≤ 999 := by
 have g : 0 ≤ n ∧ n ≤ 100000999 := of_decide_eq_true h
 rw [npE, npK, h]
 simp only [cond_true]
 rw [Int.tdiv_eq_ediv_of_nonneg g.1, Int.tmod_eq_emod_of_nonneg g.1]
 omega
def fV (M : Nat → KT) : Nat → Int
 | 0 => -1
 | k + 1 => npK (M k).1
theorem rf {ep us : Int} {M : Nat → KT} : ∀ {k : Nat}, tOk ep us M k = true → npB (M k).1 = true → npE (M k).1 = ep → (fV M k < npK (M k).1 ↔ dv M k = true)
 | 0, _, h1, _ => by simp [fV, dv]; have := (jg h1).2; omega
 | k + 1, h, h1, h2 => by
  rw [tOk, Bool.and_eq_true, elB] at h
  have g := h.2
  simp only [Bool.and_eq_true, decide_eq_true_eq] at g
  obtain ⟨⟨⟨⟨g1, g2⟩, g3⟩, g4⟩, g5⟩ := g
  have a := jg h1
  have b := jg g1
  simp only [fV, dv, decide_eq_true_eq]
  omega
def IB3 (w : World) (j : Nat) (ep us : Int) (a : Option Addr) (n c : Nat) : Prop := j < w.heap.size ∧ w.cell? ⟨j, 0, none⟩ = some (.int .i64 ep) ∧ w.cell? ⟨j, 1, none⟩ = some (.int .i64 us) ∧ w.cell? ⟨j, 2, none⟩ = some (.slice a n c)
theorem IB3.below {w w' : World} {j : Nat} {ep us : Int} {a : Option Addr} {n c : Nat} (h : IB3 w j ep us a n c) (hb : Below w.heap.size w w') : IB3 w' j ep us a n c :=
 ⟨Nat.lt_of_lt_of_le h.1 hb.size, by rw [hb.cell (p := ⟨j, 0, none⟩) h.1]; exact h.2.1, by rw [hb.cell (p := ⟨j, 1, none⟩) h.1]; exact h.2.2.1, by rw [hb.cell (p := ⟨j, 2, none⟩) h.1]; exact h.2.2.2⟩
theorem IB3.but {w w' : World} {j q : Nat} {ep us : Int} {a : Option Addr} {n c : Nat} (h : IB3 w j ep us a n c) (hb : But q w w') (hq : j ≠ q) : IB3 w' j ep us a n c :=
 ⟨Nat.lt_of_lt_of_le h.1 hb.2.2.2.1, by rw [hb.cell h.1 hq]; exact h.2.1, by rw [hb.cell h.1 hq]; exact h.2.2.1, by rw [hb.cell h.1 hq]; exact h.2.2.2⟩
theorem IB3.drew {w : World} {j : Nat} {ep us : Int} {a : Option Addr} {n c : Nat} (h : IB3 w j ep us a n c) : IB3 w.drew j ep us a n c := h
theorem IB3.new (w : World) (ep us : Int) (a : Option Addr) (n c : Nat) (T : TypeId) : IB3 (w.alloc (.cells #[.int .i64 ep, .int .i64 us, .slice a n c] T)) w.heap.size ep us a n c := ⟨by simp, by simp, by simp, by simp⟩
def Bk4 (w : World) (j : Nat) (x0 x1 x2 x3 : Int) : Prop := j < w.heap.size ∧ w.cell? ⟨j, 0, none⟩ = some (.int .i64 x0) ∧ w.cell? ⟨j, 1, none⟩ = some (.int .i64 x1) ∧ w.cell? ⟨j, 2, none⟩ = some (.int .i64 x2) ∧ w.cell? ⟨j, 3, none⟩ = some (.int .i64 x3)
theorem Bk4.below {w w' : World} {j : Nat} {x0 x1 x2 x3 : Int} (h : Bk4 w j x0 x1 x2 x3) (hb : Below w.heap.size w w') : Bk4 w' j x0 x1 x2 x3 :=
 ⟨Nat.lt_of_lt_of_le h.1 hb.size, by rw [hb.cell (p := ⟨j, 0, none⟩) h.1]; exact h.2.1, by rw [hb.cell (p := ⟨j, 1, none⟩) h.1]; exact h.2.2.1, by rw [hb.cell (p := ⟨j, 2, none⟩) h.1]; exact h.2.2.2.1, by rw [hb.cell (p := ⟨j, 3, none⟩) h.1]; exact h.2.2.2.2⟩
theorem Bk4.new (w : World) (x0 x1 x2 x3 : Int) (T : TypeId) : Bk4 (w.alloc (.cells #[.int .i64 x0, .int .i64 x1, .int .i64 x2, .int .i64 x3] T)) w.heap.size x0 x1 x2 x3 := ⟨by simp, by simp, by simp, by simp, by simp⟩
theorem Bk4.but {w w' : World} {j q : Nat} {x0 x1 x2 x3 : Int} (h : Bk4 w j x0 x1 x2 x3) (hb : But q w w') (hq : j ≠ q) : Bk4 w' j x0 x1 x2 x3 :=
 ⟨Nat.lt_of_lt_of_le h.1 hb.2.2.2.1, by rw [hb.cell h.1 hq]; exact h.2.1, by rw [hb.cell h.1 hq]; exact h.2.2.1, by rw [hb.cell h.1 hq]; exact h.2.2.2.1, by rw [hb.cell h.1 hq]; exact h.2.2.2.2⟩
theorem oB (x0 x1 x2 x3 : Int) (w : World) :
 Calls Tryz.prog 211 #[.agg #[.int .i64 x0, .int .i64 x1, .int .i64 x2, .int .i64 x3]] w fun e w' => e = .returned (.bool (akB x1 x2 x3)) ∧ Below w.heap.size w w' := by
 have B0 := Below.nw w (.cells #[.int .i64 x0, .int .i64 x1, .int .i64 x2, .int .i64 x3] 88)
 cases h1 : bX x1
 ·have HN : Hid (akB x1 x2 x3 = false) := by rw [Hid, akB, h1]; rfl
  go_enter Tryz.func211, Tryz.ntmps211
  go_wp2_with fail
  refine (bj _ _).mono ?_
  rintro e w' ⟨rfl, rfl⟩
  rw [h1]
  go_wp2_with fail
  go_ret
  exact ⟨ab HN.out.symm, B0⟩
 ·cases h2 : tmB x2
  ·have HN : Hid (akB x1 x2 x3 = false) := by rw [Hid, akB, h2, Bool.and_false]; rfl
   go_enter Tryz.func211, Tryz.ntmps211
   go_wp2_with fail
   refine (bj _ _).mono ?_
   rintro e w' ⟨rfl, rfl⟩
   rw [h1]
   go_wp2_with fail
   refine (cG _ _).mono ?_
   rintro e w' ⟨rfl, rfl⟩
   rw [h2]
   go_wp2_with fail
   go_ret
   exact ⟨ab HN.out.symm, B0⟩
  ·have HN : Hid (akB x1 x2 x3 = trB x3) := by rw [Hid, akB, h1, h2]; rfl
   by_cases h3 : 1 ≤ x3
   ·by_cases h4 : x3 ≤ 4
    ·have HT : Hid (trB x3 = true) := by simp [Hid, trB]; omega
     go_enter Tryz.func211, Tryz.ntmps211
     go_wp2_with fail
     refine (bj _ _).mono ?_
     rintro e w' ⟨rfl, rfl⟩
     rw [h1]
     go_wp2_with fail
     refine (cG _ _).mono ?_
     rintro e w' ⟨rfl, rfl⟩
     rw [h2]
     go_wp2_with fail
     go_ret
     exact ⟨ab (HN.out.trans HT.out).symm, B0⟩
    ·have HT : Hid (trB x3 = false) := by simp [Hid, trB]; omega
     have hd4 : decide (x3 ≤ 4) = false := decide_eq_false h4
     go_enter Tryz.func211, Tryz.ntmps211
     go_wp2_with fail
     refine (bj _ _).mono ?_
     rintro e w' ⟨rfl, rfl⟩
     rw [h1]
     go_wp2_with fail
     refine (cG _ _).mono ?_
     rintro e w' ⟨rfl, rfl⟩
     rw [h2]
     go_wp2_with fail
     go_ret
     exact ⟨ab (HN.out.trans HT.out).symm, B0⟩
   ·have HT : Hid (trB x3 = false) := by simp [Hid, trB]; omega
    go_enter Tryz.func211, Tryz.ntmps211
    go_wp2_with fail
    refine (bj _ _).mono ?_
    rintro e w' ⟨rfl, rfl⟩
    rw [h1]
    go_wp2_with fail
    refine (cG _ _).mono ?_
    rintro e w' ⟨rfl, rfl⟩
    rw [h2]
    go_wp2_with fail
    go_ret
    exact ⟨ab (HN.out.trans HT.out).symm, B0⟩
theorem mt (ep us : Int) (a : Option Addr) (n c : Nat) (M : Nat → KT) (w : World) (h : epB ep = false) :
 Calls Tryz.prog 189 #[.agg #[.int .i64 ep, .int .i64 us, .slice a n c]] w fun e w' => e = .returned (.bool (aP ep us M n)) ∧ Below w.heap.size w w' := by
 have HB : Hid (aP ep us M n = false) := ou h
 have A0 := Below.nw w (.cells #[.int .i64 ep, .int .i64 us, .slice a n c] 52)
 go_enter Tryz.func189, Tryz.ntmps189
 go_wp2_with fail
 refine (bd _ _).mono ?_
 rintro e w' ⟨rfl, rfl⟩
 rw [h]
 go_wp2_with fail
 go_ret
 exact ⟨ab HB.out.symm, A0⟩
theorem mu (ep us : Int) (a : Option Addr) (n c : Nat) (M : Nat → KT) (w : World) (h : epB ep = true) (h1 : usB us = false) :
 Calls Tryz.prog 189 #[.agg #[.int .i64 ep, .int .i64 us, .slice a n c]] w fun e w' => e = .returned (.bool (aP ep us M n)) ∧ Below w.heap.size w w' := by
 have HB : Hid (aP ep us M n = false) := ov h1
 have A0 := Below.nw w (.cells #[.int .i64 ep, .int .i64 us, .slice a n c] 52)
 by_cases hu : us < 0
 ·clear h1
  go_enter Tryz.func189, Tryz.ntmps189
  go_wp2_with fail
  refine (bd _ _).mono ?_
  rintro e w' ⟨rfl, rfl⟩
  rw [h]
  go_wp2_with fail
  go_ret
  exact ⟨ab HB.out.symm, A0⟩
 ·have hu2 : 1000 < us := by have := of_decide_eq_false h1; omega
  clear h1
  go_enter Tryz.func189, Tryz.ntmps189
  go_wp2_with fail
  refine (bd _ _).mono ?_
  rintro e w' ⟨rfl, rfl⟩
  rw [h]
  go_wp2_with fail
  go_ret
  exact ⟨ab HB.out.symm, A0⟩
theorem i7 (ep us : Int) (a : Option Addr) (n c : Nat) (M : Nat → KT) (w : World) (hm : n ≤ maxLen) (h : epB ep = true) (h1 : usB us = true) (hl : ¬ n ≤ 16) :
 Calls Tryz.prog 189 #[.agg #[.int .i64 ep, .int .i64 us, .slice a n c]] w fun e w' => e = .returned (.bool (aP ep us M n)) ∧ Below w.heap.size w w' := by
 unfold maxLen at hm
 have HB : Hid (aP ep us M n = false) := iG hl
 have hi : (16 : Int) < (n : Int) := by omega
 have hu0 : ¬ us < 0 := by have := of_decide_eq_true h1; omega
 have hu1 : ¬ 1000 < us := by have := of_decide_eq_true h1; omega
 have A0 := Below.nw w (.cells #[.int .i64 ep, .int .i64 us, .slice a n c] 52)
 go_enter Tryz.func189, Tryz.ntmps189
 go_wp2_with fail
 refine (bd _ _).mono ?_
 rintro e w' ⟨rfl, rfl⟩
 rw [h]
 go_wp2_with fail
 go_ret
 exact ⟨ab HB.out.symm, A0⟩
theorem i9 (ep us : Int) (a : Option Addr) (c : Nat) (M : Nat → KT) (w : World) (h : epB ep = true) (h1 : usB us = true) :
 Calls Tryz.prog 189 #[.agg #[.int .i64 ep, .int .i64 us, .slice a 0 c]] w fun e w' => e = .returned (.bool (aP ep us M 0)) ∧ Below w.heap.size w w' := by
 have HB : Hid (aP ep us M 0 = true) := fA h h1 (by omega) rfl
 have hu0 : ¬ us < 0 := by have := of_decide_eq_true h1; omega
 have hu1 : ¬ 1000 < us := by have := of_decide_eq_true h1; omega
 have A0 := Below.nw w (.cells #[.int .i64 ep, .int .i64 us, .slice a 0 c] 52)
 go_enter Tryz.func189, Tryz.ntmps189
 go_wp2_with fail
 refine (bd _ _).mono ?_
 rintro e w' ⟨rfl, rfl⟩
 rw [h]
 go_wp2_with fail
 go_loopw [3, 32] (fun l i wr => i = .int .i64 0 ∧ w.alloc (.cells #[.int .i64 ep, .int .i64 us, .slice a 0 c] 52) = wr) (fun _ i _ => 0)
 case atStart => exact ⟨rfl, by first | rfl | trivial⟩
 case round =>
  obtain ⟨rfl, rfl⟩ := hrel
  go_wp2_with fail
  go_ret
  exact ⟨ab HB.out.symm, A0⟩
theorem i8 (ep us : Int) (b off n c : Nat) (M : Nat → KT) (w : World) (h : epB ep = true) (h1 : usB us = true) (hn : n ≤ 16) (hf : Cs w b off (n * 4) (aA M)) (hw : ∀ i, i < n → (Lit.int .i64 (M i).1).wf = true) :
 Calls Tryz.prog 189 #[.agg #[.int .i64 ep, .int .i64 us, .slice (some ⟨b, off, none⟩) n c]] w fun e w' => e = .returned (.bool (aP ep us M n)) ∧ Below w.heap.size w w' := by
 have HE : Hid (epB ep = true) := h
 have HU : Hid (usB us = true) := h1
 have HW : Hid (∀ i, i < n → (Lit.int .i64 (M i).1).wf = true) := hw
 clear hw
 have hi : ¬ (16 : Int) < (n : Int) := by omega
 have hu0 : ¬ us < 0 := by have := of_decide_eq_true h1; omega
 have hu1 : ¬ 1000 < us := by have := of_decide_eq_true h1; omega
 have A0 := Below.nw w (.cells #[.int .i64 ep, .int .i64 us, .slice (some ⟨b, off, none⟩) n c] 52)
 have N := IB3.new w ep us (some ⟨b, off, none⟩) n c 52
 have HF := hf.below A0 hf.1
 have hb0 := HF.1
 clear hf
 go_enter Tryz.func189, Tryz.ntmps189
 go_wp2_with fail
 refine (bd _ _).mono ?_
 rintro e w' ⟨rfl, rfl⟩
 rw [h]
 go_wp2_with fail
 clear h h1 hi hu0 hu1
 generalize w.alloc (.cells #[.int .i64 ep, .int .i64 us, .slice (some ⟨b, off, none⟩) n c] 52) = w0 at *
 go_loopw [3, 32] (fun l i wr => ∃ k : Nat, k ≤ n ∧ i = .int .i64 k ∧ l = .int .i64 (fV M k) ∧ tOk ep us M k = true ∧ Below w0.heap.size w0 wr) (fun _ i _ => n - (intOf i).toNat)
 case atStart => exact ⟨0, Nat.zero_le _, rfl, rfl, rfl, Below.refl _ _⟩
 case round =>
  obtain ⟨k, hk, rfl, rfl, hok, hB⟩ := hrel
  have HOK : Hid (tOk ep us M k = true) := hok
  clear hok
  have hBw := A0.trans (hB.mono A0.size)
  by_cases hlt : k < n
  ·obtain ⟨x0, x1, x2, x3, hM⟩ := dl M k
   obtain ⟨c0, c1, c2, c3⟩ := (HF.below hB hb0).elAsk hlt hM
   obtain ⟨n9, n0, n1, n2⟩ := id (N.below hB)
   have hli : (k : Int) < (n : Int) := by omega
   have HM : Hid (M k = (x0, x1, x2, x3)) := hM
   have HEL : Hid (elB ep us M k = (npB x0 && decide (npE x0 = ep) && decide (npK x0 < us) && dv M k && akB x1 x2 x3)) := by rw [Hid, elB, hM]
   have hbr : b < wr.heap.size := Nat.lt_of_lt_of_le hb0 hB.size
   have hwf : (Lit.int .i64 x0).wf = true := by have := HW.out k hlt; rw [hM] at this; exact this
   clear hM
   have A1 := Below.nw wr (.cells #[.int .i64 x0, .int .i64 x1, .int .i64 x2, .int .i64 x3] 88)
   have K := Bk4.new wr x0 x1 x2 x3 88
   have B1 := hBw.trans (A1.mono hBw.size)
   have B0 := hB.trans (A1.mono hB.size)
   have HNO : Hid (elB ep us M k = false → aP ep us M n = false) := fun h => lN (ng h n hlt)
   go_upto_region 7 with fail
   clear c0 c1 c2 c3 n9 n0 n1 n2
   have N1 := N.below B0
   generalize hbk : wr.heap.size = bk at *
   generalize wr.alloc (.cells #[.int .i64 x0, .int .i64 x1, .int .i64 x2, .int .i64 x3] 88) = w1 at *
   clear A1
   obtain ⟨n9, n0, n1, n2⟩ := id N1
   have k9 : _ ∧ _ := K
   have HX : Hid (npK (M k).1 = npK x0) := show npK (M k).1 = npK x0 from by rw [HM.out]
   have HLL : Hid (npB x0 = true → npE x0 = ep → (fV M k < npK x0 ↔ dv M k = true)) := fun h1 h2 => by have := rf HOK.out (by rw [HM.out]; exact h1) (by rw [HM.out]; exact h2); rw [HX.out] at this; exact this
   go_wp2_with fail
   refine (dO _ _ hwf).mono ?_
   rintro e w' ⟨rfl, rfl⟩
   clear hwf
   cases g1 : npB x0
   ·have HB' : Hid (aP ep us M n = false) := HNO.out (by rw [HEL.out, g1]; rfl)
    go_wp2_with fail
    go_ret
    exact ⟨ab HB'.out.symm, B1⟩
   ·cases g2 : decide (npE x0 = ep)
    ·have HB' : Hid (aP ep us M n = false) := HNO.out (by rw [HEL.out, g2]; simp)
     have g2' := of_decide_eq_false g2
     go_wp2_with fail
     go_ret
     exact ⟨ab HB'.out.symm, B1⟩
    ·have g2' := of_decide_eq_true g2
     have HL2 := HLL.out g1 g2'
     by_cases g4 : npK x0 ≤ fV M k
     ·have HB' : Hid (aP ep us M n = false) := HNO.out (by
       have : dv M k = false := by
        cases q : dv M k
        ·rfl
        ·exact absurd (HL2.2 q) (by omega)
       rw [HEL.out, this]; simp)
      clear HL2
      go_wp2_with fail
      go_ret
      exact ⟨ab HB'.out.symm, B1⟩
     ·have HLS : Hid (dv M k = true) := HL2.1 (by omega)
      clear HL2
      cases g3 : decide (npK x0 < us)
      ·have HB' : Hid (aP ep us M n = false) := HNO.out (by rw [HEL.out, g3]; simp)
       have g3' : us ≤ npK x0 := by have := of_decide_eq_false g3; omega
       go_wp2_with fail
       go_ret
       exact ⟨ab HB'.out.symm, B1⟩
      ·have g3' : ¬ us ≤ npK x0 := by have := of_decide_eq_true g3; omega
       go_wp2_with fail
       refine (oB _ _ _ _ _).mono ?_
       rintro e w2 ⟨rfl, hb⟩
       replace B0 := B0.trans (hb.mono B0.size)
       replace B1 := B1.trans (hb.mono B1.size)
       cases g5 : akB x1 x2 x3
       ·have HB' : Hid (aP ep us M n = false) := HNO.out (by rw [HEL.out, g5, Bool.and_false])
        go_wp2_with fail
        go_ret
        exact ⟨ab HB'.out.symm, B1⟩
       ·have HG : Hid (tOk ep us M (k + 1) = true) := by rw [Hid, tOk, HOK.out, HEL.out, g1, g2, g3, HLS.out, g5]; rfl
        go_wp2_with fail
        go_roundw
        case rel => exact ⟨k + 1, by omega, by go_num, by rw [fV, HX.out], HG.out, B0⟩
        case measure => simp [intOf]; omega
  ·have hkn : k = n := by omega
   subst hkn
   have hli : ¬ (k : Int) < (k : Int) := by omega
   have HB : Hid (aP ep us M k = true) := fA HE.out HU.out hn HOK.out
   obtain ⟨n9, n0, n1, n2⟩ := id (N.below hB)
   go_wp2_with fail
   go_ret
   exact ⟨ab HB.out.symm, hBw⟩
theorem kE (ep us : Int) (a : Option Addr) (n c : Nat) (M : Nat → KT) (w : World) (hm : n ≤ maxLen) (hf : az w a (n * 4) (aA M)) (hw : ∀ i, i < n → (Lit.int .i64 (M i).1).wf = true) :
 Calls Tryz.prog 189 #[.agg #[.int .i64 ep, .int .i64 us, .slice a n c]] w fun e w' => e = .returned (.bool (aP ep us M n)) ∧ Below w.heap.size w w' := by
 cases h : epB ep
 ·exact mt ep us a n c M w h
 ·cases h1 : usB us
  ·exact mu ep us a n c M w h h1
  ·by_cases hl : n ≤ 16
   ·rcases hf with h0 | ⟨b, off, rfl, hf⟩
    ·have hn0 : n = 0 := by omega
     subst hn0
     exact i9 ep us a c M w h h1
    ·exact i8 ep us b off n c M w h h1 hl hf hw
   ·exact i7 ep us a n c M w hm h h1 hl
def Bx3 (w : World) (j : Nat) (u0 u1 u2 : Value) : Prop := j < w.heap.size ∧ w.cell? ⟨j, 0, none⟩ = some u0 ∧ w.cell? ⟨j, 1, none⟩ = some u1 ∧ w.cell? ⟨j, 2, none⟩ = some u2 ∧ w.frozen? ⟨j, 0, none⟩ = false ∧ w.frozen? ⟨j, 1, none⟩ = false ∧ w.frozen? ⟨j, 2, none⟩ = false
theorem Bx3.below {w w' : World} {j : Nat} {u0 u1 u2 : Value} (h : Bx3 w j u0 u1 u2) (hb : Below w.heap.size w w') : Bx3 w' j u0 u1 u2 := by
 obtain ⟨h0, h1, h2, h3, h4, h5, h6⟩ := h
 exact ⟨Nat.lt_of_lt_of_le h0 hb.size, by rw [hb.cell (p := ⟨j, 0, none⟩) h0]; exact h1, by rw [hb.cell (p := ⟨j, 1, none⟩) h0]; exact h2, by rw [hb.cell (p := ⟨j, 2, none⟩) h0]; exact h3, by rw [hb.frozen (p := ⟨j, 0, none⟩) h0]; exact h4, by rw [hb.frozen (p := ⟨j, 1, none⟩) h0]; exact h5, by rw [hb.frozen (p := ⟨j, 2, none⟩) h0]; exact h6⟩
theorem Bx3.but {w w' : World} {j q : Nat} {u0 u1 u2 : Value} (h : Bx3 w j u0 u1 u2) (hb : But q w w') (hq : j ≠ q) : Bx3 w' j u0 u1 u2 := by
 obtain ⟨h0, h1, h2, h3, h4, h5, h6⟩ := h
 exact ⟨Nat.lt_of_lt_of_le h0 hb.2.2.2.1, by rw [hb.cell h0 hq]; exact h1, by rw [hb.cell h0 hq]; exact h2, by rw [hb.cell h0 hq]; exact h3, by rw [hb.frozen h0 hq]; exact h4, by rw [hb.frozen h0 hq]; exact h5, by rw [hb.frozen h0 hq]; exact h6⟩
theorem Bx3.drew {w : World} {j : Nat} {u0 u1 u2 : Value} (h : Bx3 w j u0 u1 u2) : Bx3 w.drew j u0 u1 u2 := h
theorem Bx3.new (w : World) (u0 u1 u2 : Value) (T : TypeId) : Bx3 (w.alloc (.cells #[u0, u1, u2] T)) w.heap.size u0 u1 u2 := ⟨by simp, by simp, by simp, by simp, by simp, by simp, by simp⟩
theorem Bx3.set1 {w : World} {j : Nat} {u0 u1 u2 : Value} (h : Bx3 w j u0 u1 u2) (a1 : Value) : Bx3 (w.setCell ⟨j, 1, none⟩ a1) j u0 a1 u2 := by
 obtain ⟨h0, h1, h2, h3, h4, h5, h6⟩ := h
 exact ⟨by simpa using h0, (zO (by simp)).trans h1, World.cell?_setCell_same _ _ _ h2, (zO (by simp)).trans h3, by simpa using h4, by simpa using h5, by simpa using h6⟩
theorem Bx3.set2 {w : World} {j : Nat} {u0 u1 u2 : Value} (h : Bx3 w j u0 u1 u2) (a2 : Value) : Bx3 (w.setCell ⟨j, 2, none⟩ a2) j u0 u1 a2 := by
 obtain ⟨h0, h1, h2, h3, h4, h5, h6⟩ := h
 exact ⟨by simpa using h0, (zO (by simp)).trans h1, (zO (by simp)).trans h2, World.cell?_setCell_same _ _ _ h3, by simpa using h4, by simpa using h5, by simpa using h6⟩
theorem oY (w : World) (j : Nat) (a0 a1 a2 : Value) : But j w (((w.setCell ⟨j, 0, none⟩ a0).setCell ⟨j, 1, none⟩ a1).setCell ⟨j, 2, none⟩ a2) := (((But.refl j w).setCell 0 a0).setCell 1 a1).setCell 2 a2
def d5 (G : Nat → KT) (m : Nat) : List Value := (List.range (m * 4)).map (aA G)
theorem kR (G : Nat → KT) (m : Nat) : (d5 G m).length = m * 4 := by simp [d5]
theorem qg (G : Nat → KT) (m : Nat) : ∀ v ∈ d5 G m, v.oneCell' = true := by
 intro v hv
 simp only [d5, List.mem_map] at hv
 obtain ⟨j, _, rfl⟩ := hv
 unfold aA nC
 split <;> rfl
theorem qf {G : Nat → KT} {m k : Nat} {v : Value} (h : (d5 G m)[k]? = some v) : k < m * 4 ∧ v = aA G k := by
 have hk : k < (d5 G m).length := (List.getElem?_eq_some_iff.1 h).1
 rw [kR] at hk
 refine ⟨hk, ?_⟩
 simp [d5, hk] at h
 exact h.symm
theorem kJ : ∃ i, Tryz.prog.info? 88 = some i ∧ i.zero = some (.agg #[.int .i64 0, .int .i64 0, .int .i64 0, .int .i64 0]) ∧ i.size = 4 ∧ i.bytes = 32 := by
 obtain ⟨i, hi, hz⟩ := Option.map_eq_some_iff.1 nT
 simp only [Prod.mk.injEq] at hz
 exact ⟨i, hi, hz.1, hz.2.1, hz.2.2⟩
theorem ri {w : World} {base base' : Nat} {e : TypeId} {size : Nat} {v : Value} {n : Nat} {xs : List Value} (h : w.ownsRow base e size v n xs) (hb : base' ≤ base) : w.ownsRow base' e size v n xs := by
 refine ⟨h.1, ?_⟩
 rcases h.2 with h | ⟨g, cap, cur, h1, h2, h3, h4⟩
 ·exact .inl h
 ·exact .inr ⟨g, cap, cur, h1, Nat.le_trans hb h2, h3, h4⟩
def l5 (w : World) (ad : Addr) (M : Nat → KT) (n : Nat) : Prop := ∀ j u, (d5 M n)[j]? = some u → w.cell? (ad.add j) = some u
def eM (w : World) (ad : Addr) (M : Nat → KT) (n : Nat) : Prop := n = 0 ∨ (ad.spot = none ∧ Cs w ad.block ad.off (n * 4) (aA M))
theorem eM.at {w : World} {ad : Addr} {M : Nat → KT} {n : Nat} (h : eM w ad M n) : l5 w ad M n := by
 intro j u hu
 obtain ⟨hj, rfl⟩ := qf hu
 rcases h with h | ⟨hs, h⟩
 ·omega
 ·have q := h.2 j hj
  obtain ⟨b, off, s⟩ := ad
  simp only at hs q
  subst hs
  unfold Addr.add
  split
  ·next e => subst e; exact q
  ·exact q
theorem eM.below {w w' : World} {ad : Addr} {M : Nat → KT} {n : Nat} (h : eM w ad M n) (hb : Below w.heap.size w w') : eM w' ad M n := by
 rcases h with h | ⟨hs, h⟩
 ·exact .inl h
 ·exact .inr ⟨hs, h.below hb h.1⟩
theorem eM.src {w : World} {ad : Addr} {M : Nat → KT} {n : Nat} (h : eM w ad M n) : az w (some ad) (n * 4) (aA M) := by
 rcases h with h | ⟨hs, h⟩
 ·exact .inl (by omega)
 ·obtain ⟨b, off, s⟩ := ad
  simp only at hs h
  subst hs
  exact .inr ⟨b, off, rfl, h⟩
theorem ij {P : Program} {w : World} {o : Oper} {a : Act} {K : Act → World → Prop} {Q : Exit → Act → World → Prop} (s x : Operand) (t : TypeId)
 (ho : o.op = .call { callee := .builtin .append, args := #[s, x], argTypes := #[t, t] })
 (base : Nat) (e : TypeId) (i : TypeInfo) (z : Value) (size bytes : Nat) (ht : P.underlying t = some (.slice e)) (hi : P.info? e = some i) (hz : i.zero = some z)
 (hsize : i.size = size) (hby : i.bytes = bytes) (hzs : z.cells.size = size) (hsz : 0 < size)
 (v : Value) (n : Nat) (xs : List Value) (hs : a.eval s = v) (hown : w.ownsRow base e size v n xs)
 (A : Option Addr) (m c : Nat) (news : List Value) (hx : a.eval x = .slice A m c) (hsrc : (A = none ∧ m = 0 ∧ c = 0) ∨ ∃ ad, A = some ad ∧ ∀ j u, news[j]? = some u → w.cell? (ad.add j) = some u) (hl : news.length = m * size) (h1 : ∀ u ∈ news, u.oneCell' = true)
 (h63 : n + m ≤ maxLen) (hbytes : (n + m) * bytes ≤ 140737488355328) (hbase : base ≤ w.heap.size)
 (h : ∀ v' w', w'.ownsRow base e size v' (n + m) (xs ++ news) → w.grownBy w' v.ownBlock → K (a.put o.dst v') w') : o.wp P a w K Q := by
 rcases hsrc with ⟨rfl, rfl, rfl⟩ | ⟨ad, rfl, hnews⟩
 ·have hr := run_append_owned_none (P := P) (w := w) base t o.type e i size ht hi v n xs hown
  have hn0 : news = [] := List.eq_nil_of_length_eq_zero (by rw [hl]; simp)
  subst hn0
  unfold Oper.wp execOp
  simp only [ho, resolve, invoke, builtin, Sem.run_bind, Sem.run_pure, Result.andThen_ok, List.map_toArray, List.map_cons, List.map_nil, hs, hx, hr]
  exact h v w (by rw [List.append_nil]; exact hown) ⟨rfl, rfl, rfl, Nat.le_refl _, fun _ _ _ => rfl⟩
 ·exact wp_append_own w s x t ho base e i z size bytes ht hi hz hsize hby hzs hsz v n xs hs hown ad m c news hx hl hnews h1 h63 hbytes hbase (fun v' w' p1 p2 _ => h v' w' p1 p2)
def cN (w : World) (A : Option Addr) (M : Nat → KT) (n c : Nat) : Prop := (A = none ∧ n = 0 ∧ c = 0) ∨ ∃ ad, A = some ad ∧ eM w ad M n
theorem cN.below {w w' : World} {A : Option Addr} {M : Nat → KT} {n c : Nat} (h : cN w A M n c) (hb : Below w.heap.size w w') : cN w' A M n c := by
 rcases h with h | ⟨ad, e, h⟩
 ·exact .inl h
 ·exact .inr ⟨ad, e, h.below hb⟩
theorem cN.at {w : World} {A : Option Addr} {M : Nat → KT} {n c : Nat} (h : cN w A M n c) : (A = none ∧ n = 0 ∧ c = 0) ∨ ∃ ad, A = some ad ∧ l5 w ad M n := by
 rcases h with h | ⟨ad, e, h⟩
 ·exact .inl h
 ·exact .inr ⟨ad, e, h.at⟩
theorem cN.src {w : World} {A : Option Addr} {M : Nat → KT} {n c : Nat} (h : cN w A M n c) : az w A (n * 4) (aA M) := by
 rcases h with ⟨_, h, _⟩ | ⟨ad, rfl, h⟩
 ·exact .inl (by omega)
 ·exact h.src
theorem mz (ep us : Int) (A : Option Addr) (n c : Nat) (M : Nat → KT) (w : World) (hn : n ≤ 1000) (hf : cN w A M n c) :
 Calls Tryz.prog 70 #[.agg #[.int .i64 ep, .int .i64 us, .slice A n c]] w fun e w' => ∃ a' c', e = .returned (.agg #[.int .i64 ep, .int .i64 us, .slice a' n c']) ∧ w'.ownsRow w.heap.size 88 4 (.slice a' n c') n (d5 M n) ∧ Below w.heap.size w w' := by
 obtain ⟨i0, hi, hz0, hz1, hz2⟩ := kJ
 have N := (IB3.new w ep us A n c 52).below (Below.nw _ (.cells #[.int .i64 0, .int .i64 0, .slice none 0 0] 52))
 have R := Bx3.new (w.alloc (.cells #[.int .i64 ep, .int .i64 us, .slice A n c] 52)) (.int .i64 0) (.int .i64 0) (.slice none 0 0) 52
 have A1 := Below.nw w (.cells #[.int .i64 ep, .int .i64 us, .slice A n c] 52)
 have B := A1.alloc A1.size (.cells #[.int .i64 0, .int .i64 0, .slice none 0 0] 52)
 have CS := (hf.below A1).below (Below.nw _ (.cells #[.int .i64 0, .int .i64 0, .slice none 0 0] 52))
 simp only [World.size_alloc] at R
 clear hf A1
 go_enter Tryz.func70, Tryz.ntmps70
 go_wp2_with fail
 generalize (w.alloc (.cells #[.int .i64 ep, .int .i64 us, .slice A n c] 52)).alloc (.cells #[.int .i64 0, .int .i64 0, .slice none 0 0] 52) = v at *
 obtain ⟨n0, n1, n2, n3⟩ := id N
 have r0 : _ ∧ _ := R
 refine wp_region_held_drew (S := (fun w' => w'.cell? ⟨w.heap.size, 0, none⟩ = some (.int .i64 ep) ∧ w'.cell? ⟨w.heap.size, 1, none⟩ = some (.int .i64 us) ∧ w'.cell? ⟨w.heap.size, 2, none⟩ = some (.slice A n c))) (by kernel_rfl) ?_ (fun hHeld => ?_)
 ·first | exact ⟨n1, n2, n3⟩ | (simp (maxDischargeDepth := 6) [go_sem, *]; done)
 clear n0 n1 n2 n3 r0
 replace N := N.drew
 replace R := R.drew
 replace B := Below.drew B
 replace CS : cN v.drew A M n c := CS
 generalize v.drew = v at *
 (obtain ⟨n0, n1, n2, n3⟩ := id N); (have r0 : _ ∧ _ := R)
 refine zT4 0 ?_
 refine zT2 5 ?_
 refine zQ 4 fun K hK => ?_
 go_simp
 (have hvz : w.heap.size + 2 ≤ v.heap.size := r0.1); (have O := World.ownsRow_made (base := w.heap.size + 2) (size := 4) (e := 88) v #[] 0 hvz (by simp [maxLen]) (by simp)); (have A := Below.nw v (.cells #[] 88)); clear n0 n1 n2 n3 r0; (replace N := N.below A); (replace R := R.below A); (replace CS := CS.below A); (replace B := B.trans (A.mono B.size)); (have hsz : w.heap.size + 2 ≤ (v.alloc (.cells #[] 88)).heap.size := Nat.le_trans hvz A.size); clear A; (generalize v.alloc (.cells #[] 88) = v2 at *); (obtain ⟨n0, n1, n2, n3⟩ := id N); (have r0 : _ ∧ _ := R)
 refine hK.out _ _ ?_ (fun hHeld => ?_)
 ·first | exact ⟨n1, n2, n3⟩ | (simp (maxDischargeDepth := 6) [go_sem, *]; done)
 clear hK K
 (try simp only [zA])
 refine zQ 7 fun K hK => ?_
 rw [if_pos (by rfl)]; (have HN : Hid ((A = none ∧ n = 0 ∧ c = 0) ∨ ∃ ad, A = some ad ∧ l5 v2 ad M n) := CS.at); refine ij _ _ 50 rfl (w.heap.size + 2) 88 i0 (.agg #[.int .i64 0, .int .i64 0, .int .i64 0, .int .i64 0]) 4 32 Tryz.underlying50 hi hz0 hz1 hz2 rfl (by decide) _ _ _ rfl O A n c (d5 M n) rfl HN.out (kR M n) (qg M n) (by unfold maxLen; omega) (by omega) hsz ?_; intro v' wn hown' hgrow; (have Bg := But.ofGrownK hgrow); clear n0 n1 n2 n3 r0; (replace N := N.but Bg (Nat.ne_of_lt (Nat.lt_of_lt_of_le (by omega) hvz))); (replace R := R.but Bg (Nat.ne_of_lt (Nat.lt_of_lt_of_le (by omega) hvz))); (replace B := B.trans (Bg.below (Nat.le_trans (by omega) hvz) B.size)); rw [Nat.zero_add, List.nil_append] at hown'; (obtain ⟨a', c', rfl, _, _, _⟩ := aT hown'); clear hgrow HN Bg; (obtain ⟨n0, n1, n2, n3⟩ := id N); (have r0 : _ ∧ _ := R)
 refine hK.out _ _ ?_ (fun hHeld => ?_)
 ·first | exact ⟨n1, n2, n3⟩ | (simp (maxDischargeDepth := 6) [go_sem, *]; done)
 clear hK K
 (try simp only [zA])
 refine zTk 8 ?_
 refine zQ 9 fun K hK => ?_
 go_simp
 refine hK.out _ _ ?_ (fun hHeld => ?_)
 ·first | exact ⟨n1, n2, n3⟩ | (simp (maxDischargeDepth := 6) [go_sem, *]; done)
 clear hK K
 (try simp only [zA])
 refine wpAnyH_done (by kernel_rfl) ?_ _
 go_wp2_with fail
 have PB := oY wn (w.heap.size + 1) (.int .i64 ep) (.int .i64 us) (.slice a' n c')
 exact bodyPost_ret (v := .agg #[.int .i64 ep, .int .i64 us, .slice a' n c']) (by simp (maxDischargeDepth := 6) [results, Tryz.results70, go_sem, *]) rfl ⟨a', c', rfl, ri (qz hown' PB (by omega)) (by omega), B.trans (PB.below (by omega) B.size)⟩
end Go.Proofs.YtikbjljkakabdaaGreat
