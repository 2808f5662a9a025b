/- The contract of impl.TableOk. -/
import Derived.Deep.DeepCutAuto
import Derived.WalkSmall
import Derived.Test.YtddijpjgkifngaaGreatMN5
namespace Go.Proofs.YtddijpjgkifngaaGreat
open Go.RowKit
set_option linter.unusedVariables false
set_option maxRecDepth 100000
set_option maxHeartbeats 16000000
theorem gY (ep us : Int) (a : Option Addr) (n c : Nat) (M : Nat → KT) (w : World) (h : epB ep = false) :
 Calls Tryz.prog 196 #[.agg #[.int .i64 ep, .int .i64 us, .slice a n c]] w fun e w' => e = .returned (.bool (aw ep us M n)) ∧ Below w.heap.size w w' := by
 have HB : Hid (aw ep us M n = false) := iO h
 have A0 := Below.nw w (.cells #[.int .i64 ep, .int .i64 us, .slice a n c] 92)
 go_enter Tryz.func196, Tryz.ntmps196
 go_wp2_with fail
 refine (aJ _ _).mono ?_
 rintro e w' ⟨rfl, rfl⟩
 rw [h]
 go_wp2_with fail
 go_ret
 exact ⟨ab HB.out.symm, A0⟩
theorem gZ (ep us : Int) (a : Option Addr) (n c : Nat) (M : Nat → KT) (w : World) (h : epB ep = true) (h1 : usB us = false) :
 Calls Tryz.prog 196 #[.agg #[.int .i64 ep, .int .i64 us, .slice a n c]] w fun e w' => e = .returned (.bool (aw ep us M n)) ∧ Below w.heap.size w w' := by
 have HB : Hid (aw ep us M n = false) := iP h1
 have A0 := Below.nw w (.cells #[.int .i64 ep, .int .i64 us, .slice a n c] 92)
 by_cases hu : us < 0
 ·clear h1
  go_enter Tryz.func196, Tryz.ntmps196
  go_wp2_with fail
  refine (aJ _ _).mono ?_
  rintro e w' ⟨rfl, rfl⟩
  rw [h]
  go_wp2_with fail
  go_ret
  exact ⟨ab HB.out.symm, A0⟩
 ·have hu2 : 1000 < us := by have := of_decide_eq_false h1; omega
  clear h1
  go_enter Tryz.func196, Tryz.ntmps196
  go_wp2_with fail
  refine (aJ _ _).mono ?_
  rintro e w' ⟨rfl, rfl⟩
  rw [h]
  go_wp2_with fail
  go_ret
  exact ⟨ab HB.out.symm, A0⟩
theorem fe (ep us : Int) (a : Option Addr) (n c : Nat) (M : Nat → KT) (w : World) (hm : n ≤ maxLen) (h : epB ep = true) (h1 : usB us = true) (hl : ¬ n ≤ 16) :
 Calls Tryz.prog 196 #[.agg #[.int .i64 ep, .int .i64 us, .slice a n c]] w fun e w' => e = .returned (.bool (aw ep us M n)) ∧ Below w.heap.size w w' := by
 unfold maxLen at hm
 have HB : Hid (aw ep us M n = false) := eG hl
 have hi : (16 : Int) < (n : Int) := by omega
 have hu0 : ¬ us < 0 := by have := of_decide_eq_true h1; omega
 have hu1 : ¬ 1000 < us := by have := of_decide_eq_true h1; omega
 have A0 := Below.nw w (.cells #[.int .i64 ep, .int .i64 us, .slice a n c] 92)
 go_enter Tryz.func196, Tryz.ntmps196
 go_wp2_with fail
 refine (aJ _ _).mono ?_
 rintro e w' ⟨rfl, rfl⟩
 rw [h]
 go_wp2_with fail
 go_ret
 exact ⟨ab HB.out.symm, A0⟩
theorem fh (ep us : Int) (a : Option Addr) (c : Nat) (M : Nat → KT) (w : World) (h : epB ep = true) (h1 : usB us = true) :
 Calls Tryz.prog 196 #[.agg #[.int .i64 ep, .int .i64 us, .slice a 0 c]] w fun e w' => e = .returned (.bool (aw ep us M 0)) ∧ Below w.heap.size w w' := by
 have HB : Hid (aw ep us M 0 = true) := dg h h1 (by omega) rfl
 have hu0 : ¬ us < 0 := by have := of_decide_eq_true h1; omega
 have hu1 : ¬ 1000 < us := by have := of_decide_eq_true h1; omega
 have A0 := Below.nw w (.cells #[.int .i64 ep, .int .i64 us, .slice a 0 c] 92)
 go_enter Tryz.func196, Tryz.ntmps196
 go_wp2_with fail
 refine (aJ _ _).mono ?_
 rintro e w' ⟨rfl, rfl⟩
 rw [h]
 go_wp2_with fail
 go_loopw [3, 32] (fun l i wr => i = .int .i64 0 ∧ w.alloc (.cells #[.int .i64 ep, .int .i64 us, .slice a 0 c] 92) = wr) (fun _ i _ => 0)
 case atStart => exact ⟨rfl, by first | rfl | trivial⟩
 case round =>
  obtain ⟨rfl, rfl⟩ := hrel
  go_wp2_with fail
  go_ret
  exact ⟨ab HB.out.symm, A0⟩
theorem fg (ep us : Int) (b off n c : Nat) (M : Nat → KT) (w : World) (h : epB ep = true) (h1 : usB us = true) (hn : n ≤ 16) (hf : Cs w b off (n * 4) (aA M)) (hw : ∀ i, i < n → (Lit.int .i64 (M i).1).wf = true) :
 Calls Tryz.prog 196 #[.agg #[.int .i64 ep, .int .i64 us, .slice (some ⟨b, off, none⟩) n c]] w fun e w' => e = .returned (.bool (aw ep us M n)) ∧ Below w.heap.size w w' := by
 have HE : Hid (epB ep = true) := h
 have HU : Hid (usB us = true) := h1
 have HW : Hid (∀ i, i < n → (Lit.int .i64 (M i).1).wf = true) := hw
 clear hw
 have hi : ¬ (16 : Int) < (n : Int) := by omega
 have hu0 : ¬ us < 0 := by have := of_decide_eq_true h1; omega
 have hu1 : ¬ 1000 < us := by have := of_decide_eq_true h1; omega
 have A0 := Below.nw w (.cells #[.int .i64 ep, .int .i64 us, .slice (some ⟨b, off, none⟩) n c] 92)
 have N := IB3.new w ep us (some ⟨b, off, none⟩) n c 92
 have HF := hf.below A0 hf.1
 have hb0 := HF.1
 clear hf
 go_enter Tryz.func196, Tryz.ntmps196
 go_wp2_with fail
 refine (aJ _ _).mono ?_
 rintro e w' ⟨rfl, rfl⟩
 rw [h]
 go_wp2_with fail
 clear h h1 hi hu0 hu1
 generalize w.alloc (.cells #[.int .i64 ep, .int .i64 us, .slice (some ⟨b, off, none⟩) n c] 92) = w0 at *
 go_loopw [3, 32] (fun l i wr => ∃ k : Nat, k ≤ n ∧ i = .int .i64 k ∧ l = .int .i64 (dD M k) ∧ tOk ep us M k = true ∧ Below w0.heap.size w0 wr) (fun _ i _ => n - (intOf i).toNat)
 case atStart => exact ⟨0, Nat.zero_le _, rfl, rfl, rfl, Below.refl _ _⟩
 case round =>
  obtain ⟨k, hk, rfl, rfl, hok, hB⟩ := hrel
  have HOK : Hid (tOk ep us M k = true) := hok
  clear hok
  have hBw := A0.trans (hB.mono A0.size)
  by_cases hlt : k < n
  ·obtain ⟨x0, x1, x2, x3, hM⟩ := bW M k
   obtain ⟨c0, c1, c2, c3⟩ := (HF.below hB hb0).elAsk hlt hM
   obtain ⟨n9, n0, n1, n2⟩ := id (N.below hB)
   have hli : (k : Int) < (n : Int) := by omega
   have HM : Hid (M k = (x0, x1, x2, x3)) := hM
   have HEL : Hid (elB ep us M k = (npB x0 && decide (npE x0 = ep) && decide (npK x0 < us) && bP M k && akB x1 x2 x3)) := by rw [Hid, elB, hM]
   have hbr : b < wr.heap.size := Nat.lt_of_lt_of_le hb0 hB.size
   have hwf : (Lit.int .i64 x0).wf = true := by have := HW.out k hlt; rw [hM] at this; exact this
   clear hM
   have A1 := Below.nw wr (.cells #[.int .i64 x0, .int .i64 x1, .int .i64 x2, .int .i64 x3] 160)
   have K := Bk4.new wr x0 x1 x2 x3 160
   have B1 := hBw.trans (A1.mono hBw.size)
   have B0 := hB.trans (A1.mono hB.size)
   have HNO : Hid (elB ep us M k = false → aw ep us M n = false) := fun h => gD (iw h n hlt)
   go_upto_region 7 with fail
   clear c0 c1 c2 c3 n9 n0 n1 n2
   have N1 := N.below B0
   generalize hbk : wr.heap.size = bk at *
   generalize wr.alloc (.cells #[.int .i64 x0, .int .i64 x1, .int .i64 x2, .int .i64 x3] 160) = w1 at *
   clear A1
   obtain ⟨n9, n0, n1, n2⟩ := id N1
   have k9 : _ ∧ _ := K
   have HX : Hid (npK (M k).1 = npK x0) := show npK (M k).1 = npK x0 from by rw [HM.out]
   have HLL : Hid (npB x0 = true → npE x0 = ep → (dD M k < npK x0 ↔ bP M k = true)) := fun h1 h2 => by have := j5 HOK.out (by rw [HM.out]; exact h1) (by rw [HM.out]; exact h2); rw [HX.out] at this; exact this
   go_wp2_with fail
   refine (cg _ _ hwf).mono ?_
   rintro e w' ⟨rfl, rfl⟩
   clear hwf
   cases g1 : npB x0
   ·have HB' : Hid (aw ep us M n = false) := HNO.out (by rw [HEL.out, g1]; rfl)
    go_wp2_with fail
    go_ret
    exact ⟨ab HB'.out.symm, B1⟩
   ·cases g2 : decide (npE x0 = ep)
    ·have HB' : Hid (aw ep us M n = false) := HNO.out (by rw [HEL.out, g2]; simp)
     have g2' := of_decide_eq_false g2
     go_wp2_with fail
     go_ret
     exact ⟨ab HB'.out.symm, B1⟩
    ·have g2' := of_decide_eq_true g2
     have HL2 := HLL.out g1 g2'
     by_cases g4 : npK x0 ≤ dD M k
     ·have HB' : Hid (aw ep us M n = false) := HNO.out (by
       have : bP M k = false := by
        cases q : bP M k
        ·rfl
        ·exact absurd (HL2.2 q) (by omega)
       rw [HEL.out, this]; simp)
      clear HL2
      go_wp2_with fail
      go_ret
      exact ⟨ab HB'.out.symm, B1⟩
     ·have HLS : Hid (bP M k = true) := HL2.1 (by omega)
      clear HL2
      cases g3 : decide (npK x0 < us)
      ·have HB' : Hid (aw ep us M n = false) := HNO.out (by rw [HEL.out, g3]; simp)
       have g3' : us ≤ npK x0 := by have := of_decide_eq_false g3; omega
       go_wp2_with fail
       go_ret
       exact ⟨ab HB'.out.symm, B1⟩
      ·have g3' : ¬ us ≤ npK x0 := by have := of_decide_eq_true g3; omega
       go_wp2_with fail
       refine (iS _ _ _ _ _).mono ?_
       rintro e w2 ⟨rfl, hb⟩
       replace B0 := B0.trans (hb.mono B0.size)
       replace B1 := B1.trans (hb.mono B1.size)
       cases g5 : akB x1 x2 x3
       ·have HB' : Hid (aw ep us M n = false) := HNO.out (by rw [HEL.out, g5, Bool.and_false])
        go_wp2_with fail
        go_ret
        exact ⟨ab HB'.out.symm, B1⟩
       ·have HG : Hid (tOk ep us M (k + 1) = true) := by rw [Hid, tOk, HOK.out, HEL.out, g1, g2, g3, HLS.out, g5]; rfl
        go_wp2_with fail
        go_roundw
        case rel => exact ⟨k + 1, by omega, by go_num, by rw [dD, HX.out], HG.out, B0⟩
        case measure => simp [intOf]; omega
  ·have hkn : k = n := by omega
   subst hkn
   have hli : ¬ (k : Int) < (k : Int) := by omega
   have HB : Hid (aw ep us M k = true) := dg HE.out HU.out hn HOK.out
   obtain ⟨n9, n0, n1, n2⟩ := id (N.below hB)
   go_wp2_with fail
   go_ret
   exact ⟨ab HB.out.symm, hBw⟩
theorem gd (ep us : Int) (a : Option Addr) (n c : Nat) (M : Nat → KT) (w : World) (hm : n ≤ maxLen) (hf : ae w a (n * 4) (aA M)) (hw : ∀ i, i < n → (Lit.int .i64 (M i).1).wf = true) :
 Calls Tryz.prog 196 #[.agg #[.int .i64 ep, .int .i64 us, .slice a n c]] w fun e w' => e = .returned (.bool (aw ep us M n)) ∧ Below w.heap.size w w' := by
 cases h : epB ep
 ·exact gY ep us a n c M w h
 ·cases h1 : usB us
  ·exact gZ ep us a n c M w h h1
  ·by_cases hl : n ≤ 16
   ·rcases hf with h0 | ⟨b, off, rfl, hf⟩
    ·have hn0 : n = 0 := by omega
     subst hn0
     exact fh ep us a c M w h h1
    ·exact fg ep us b off n c M w h h1 hl hf hw
   ·exact fe ep us a n c M w hm h h1 hl
end Go.Proofs.YtddijpjgkifngaaGreat
