/- When a table is right. The contract of impl.TableOk. -/
import Derived.WalkSmall
import Derived.Test.YtddijpjgkifngaaGreatM6
import Derived.Test.YtddijpjgkifngaaGreatM7
namespace Go.Proofs.YtddijpjgkifngaaGreat
open Go.RowKit
set_option linter.unusedVariables false
def trB (x : Int) : Bool := decide (1 ≤ x ∧ x ≤ 4)
def akB (x1 x2 x3 : Int) : Bool := nodB x1 && tmB x2 && trB x3
def lsBk (M : Nat → KT) : Nat → Bool
 | 0 => true
 | k + 1 => decide ((M k).1 < (M (k + 1)).1)
def elB (ep us : Int) (M : Nat → KT) (k : Nat) : Bool := npB (M k).1 && decide (npE (M k).1 = ep) && decide (npK (M k).1 < us) && lsBk M k && akB (M k).2.1 (M k).2.2.1 (M k).2.2.2
def tOk (ep us : Int) (M : Nat → KT) : Nat → Bool
 | 0 => true
 | k + 1 => tOk ep us M k && elB ep us M k
def usB (u : Int) : Bool := decide (0 ≤ u ∧ u ≤ 1000)
def tabB (ep us : Int) (M : Nat → KT) (n : Nat) : Bool := epB ep && usB us && decide (n ≤ 16) && tOk ep us M n
theorem tOk_no {ep us : Int} {M : Nat → KT} {k : Nat} (h : elB ep us M k = false) : ∀ n, k < n → tOk ep us M n = false
 | 0, hn => absurd hn (Nat.not_lt_zero _)
 | n + 1, hn => by
  rcases Nat.lt_succ_iff_lt_or_eq.1 hn with h1 | h1
  ·rw [tOk, tOk_no h n h1, Bool.false_and]
  ·subst h1; rw [tOk, h, Bool.and_false]
theorem tabB_bad {ep us : Int} {M : Nat → KT} {n : Nat} (h : tOk ep us M n = false) : tabB ep us M n = false := by rw [tabB, h, Bool.and_false]
theorem tabB_ep {ep us : Int} {M : Nat → KT} {n : Nat} (h : epB ep = false) : tabB ep us M n = false := by rw [tabB, h]; rfl
theorem tabB_us {ep us : Int} {M : Nat → KT} {n : Nat} (h : usB us = false) : tabB ep us M n = false := by rw [tabB, h, Bool.and_false]; rfl
theorem tabB_long {ep us : Int} {M : Nat → KT} {n : Nat} (h : ¬ n ≤ 16) : tabB ep us M n = false := by rw [tabB, decide_eq_false h, Bool.and_false]; rfl
theorem tabB_ok {ep us : Int} {M : Nat → KT} {n : Nat} (h0 : epB ep = true) (h1 : usB us = true) (h2 : n ≤ 16) (h : tOk ep us M n = true) : tabB ep us M n = true := by rw [tabB, h, h0, h1, decide_eq_true h2]; rfl
theorem np_join {n : Int} (h : npB n = true) : n = npE n * 1000 + npK n ∧ 0 ≤ npK n ∧ npK n ≤ 999 := by
 have g : 0 ≤ n ∧ n ≤ 100000999 := of_decide_eq_true h
 rw [npE, npK, h]
 simp only [cond_true]
 rw [Int.tdiv_eq_ediv_of_nonneg g.1, Int.tmod_eq_emod_of_nonneg g.1]
 omega
def lastK (M : Nat → KT) : Nat → Int
 | 0 => -1
 | k + 1 => npK (M k).1
theorem last_ls {ep us : Int} {M : Nat → KT} : ∀ {k : Nat}, tOk ep us M k = true → npB (M k).1 = true → npE (M k).1 = ep → (lastK M k < npK (M k).1 ↔ lsBk M k = true)
 | 0, _, h1, _ => by simp [lastK, lsBk]; have := (np_join h1).2; omega
 | k + 1, h, h1, h2 => by
  rw [tOk, Bool.and_eq_true, elB] at h
  have g := h.2
  simp only [Bool.and_eq_true, decide_eq_true_eq] at g
  obtain ⟨⟨⟨⟨g1, g2⟩, g3⟩, g4⟩, g5⟩ := g
  have a := np_join h1
  have b := np_join g1
  simp only [lastK, lsBk, decide_eq_true_eq]
  omega
def IB3 (w : World) (j : Nat) (ep us : Int) (a : Option Addr) (n c : Nat) : Prop := j < w.heap.size ∧ w.cell? ⟨j, 0, none⟩ = some (.int .i64 ep) ∧ w.cell? ⟨j, 1, none⟩ = some (.int .i64 us) ∧ w.cell? ⟨j, 2, none⟩ = some (.slice a n c)
theorem IB3.below {w w' : World} {j : Nat} {ep us : Int} {a : Option Addr} {n c : Nat} (h : IB3 w j ep us a n c) (hb : Below w.heap.size w w') : IB3 w' j ep us a n c :=
 ⟨Nat.lt_of_lt_of_le h.1 hb.size, by rw [hb.cell (p := ⟨j, 0, none⟩) h.1]; exact h.2.1, by rw [hb.cell (p := ⟨j, 1, none⟩) h.1]; exact h.2.2.1, by rw [hb.cell (p := ⟨j, 2, none⟩) h.1]; exact h.2.2.2⟩
theorem IB3.drew {w : World} {j : Nat} {ep us : Int} {a : Option Addr} {n c : Nat} (h : IB3 w j ep us a n c) : IB3 w.drew j ep us a n c := h
theorem IB3.new (w : World) (ep us : Int) (a : Option Addr) (n c : Nat) (T : TypeId) : IB3 (w.alloc (.cells #[.int .i64 ep, .int .i64 us, .slice a n c] T)) w.heap.size ep us a n c := ⟨by simp, by simp, by simp, by simp⟩
def Bk4 (w : World) (j : Nat) (x0 x1 x2 x3 : Int) : Prop := j < w.heap.size ∧ w.cell? ⟨j, 0, none⟩ = some (.int .i64 x0) ∧ w.cell? ⟨j, 1, none⟩ = some (.int .i64 x1) ∧ w.cell? ⟨j, 2, none⟩ = some (.int .i64 x2) ∧ w.cell? ⟨j, 3, none⟩ = some (.int .i64 x3)
theorem Bk4.below {w w' : World} {j : Nat} {x0 x1 x2 x3 : Int} (h : Bk4 w j x0 x1 x2 x3) (hb : Below w.heap.size w w') : Bk4 w' j x0 x1 x2 x3 :=
 ⟨Nat.lt_of_lt_of_le h.1 hb.size, by rw [hb.cell (p := ⟨j, 0, none⟩) h.1]; exact h.2.1, by rw [hb.cell (p := ⟨j, 1, none⟩) h.1]; exact h.2.2.1, by rw [hb.cell (p := ⟨j, 2, none⟩) h.1]; exact h.2.2.2.1, by rw [hb.cell (p := ⟨j, 3, none⟩) h.1]; exact h.2.2.2.2⟩
theorem Bk4.new (w : World) (x0 x1 x2 x3 : Int) (T : TypeId) : Bk4 (w.alloc (.cells #[.int .i64 x0, .int .i64 x1, .int .i64 x2, .int .i64 x3] T)) w.heap.size x0 x1 x2 x3 := ⟨by simp, by simp, by simp, by simp, by simp⟩
set_option maxHeartbeats 2000000 in
theorem askOk_any (x0 x1 x2 x3 : Int) (w : World) :
 Calls Tryz.prog 209 #[.agg #[.int .i64 x0, .int .i64 x1, .int .i64 x2, .int .i64 x3]] w fun e w' => e = .returned (.bool (akB x1 x2 x3)) ∧ Below w.heap.size w w' := by
 have B0 := Below.nw w (.cells #[.int .i64 x0, .int .i64 x1, .int .i64 x2, .int .i64 x3] 160)
 cases h1 : nodB x1
 ·have HN : Hid (akB x1 x2 x3 = false) := by rw [Hid, akB, h1]; rfl
  go_enter Tryz.func209, Tryz.ntmps209
  go_wp2_with fail
  refine (isNode_any _ _).mono ?_
  rintro e w' ⟨rfl, rfl⟩
  rw [h1]
  go_wp2_with fail
  go_ret
  exact ⟨ret_bool HN.out.symm, B0⟩
 ·cases h2 : tmB x2
  ·have HN : Hid (akB x1 x2 x3 = false) := by rw [Hid, akB, h2, Bool.and_false]; rfl
   go_enter Tryz.func209, Tryz.ntmps209
   go_wp2_with fail
   refine (isNode_any _ _).mono ?_
   rintro e w' ⟨rfl, rfl⟩
   rw [h1]
   go_wp2_with fail
   refine (isTime_any5 _ _).mono ?_
   rintro e w' ⟨rfl, rfl⟩
   rw [h2]
   go_wp2_with fail
   go_ret
   exact ⟨ret_bool HN.out.symm, B0⟩
  ·have HN : Hid (akB x1 x2 x3 = trB x3) := by rw [Hid, akB, h1, h2]; rfl
   by_cases h3 : 1 ≤ x3
   ·by_cases h4 : x3 ≤ 4
    ·have HT : Hid (trB x3 = true) := by simp [Hid, trB]; omega
     go_enter Tryz.func209, Tryz.ntmps209
     go_wp2_with fail
     refine (isNode_any _ _).mono ?_
     rintro e w' ⟨rfl, rfl⟩
     rw [h1]
     go_wp2_with fail
     refine (isTime_any5 _ _).mono ?_
     rintro e w' ⟨rfl, rfl⟩
     rw [h2]
     go_wp2_with fail
     go_ret
     exact ⟨ret_bool (HN.out.trans HT.out).symm, B0⟩
    ·have HT : Hid (trB x3 = false) := by simp [Hid, trB]; omega
     have hd4 : decide (x3 ≤ 4) = false := decide_eq_false h4
     go_enter Tryz.func209, Tryz.ntmps209
     go_wp2_with fail
     refine (isNode_any _ _).mono ?_
     rintro e w' ⟨rfl, rfl⟩
     rw [h1]
     go_wp2_with fail
     refine (isTime_any5 _ _).mono ?_
     rintro e w' ⟨rfl, rfl⟩
     rw [h2]
     go_wp2_with fail
     go_ret
     exact ⟨ret_bool (HN.out.trans HT.out).symm, B0⟩
   ·have HT : Hid (trB x3 = false) := by simp [Hid, trB]; omega
    go_enter Tryz.func209, Tryz.ntmps209
    go_wp2_with fail
    refine (isNode_any _ _).mono ?_
    rintro e w' ⟨rfl, rfl⟩
    rw [h1]
    go_wp2_with fail
    refine (isTime_any5 _ _).mono ?_
    rintro e w' ⟨rfl, rfl⟩
    rw [h2]
    go_wp2_with fail
    go_ret
    exact ⟨ret_bool (HN.out.trans HT.out).symm, B0⟩
end Go.Proofs.YtddijpjgkifngaaGreat
namespace Go.Proofs.YtddijpjgkifngaaGreat
open Go.RowKit
set_option linter.unusedVariables false
set_option maxHeartbeats 1000000 in
theorem implTab_ep (ep us : Int) (a : Option Addr) (n c : Nat) (M : Nat → KT) (w : World) (h : epB ep = false) :
 Calls Tryz.prog 196 #[.agg #[.int .i64 ep, .int .i64 us, .slice a n c]] w fun e w' => e = .returned (.bool (tabB ep us M n)) ∧ Below w.heap.size w w' := by
 have HB : Hid (tabB ep us M n = false) := tabB_ep h
 have A0 := Below.nw w (.cells #[.int .i64 ep, .int .i64 us, .slice a n c] 92)
 go_enter Tryz.func196, Tryz.ntmps196
 go_wp2_with fail
 refine (isEpoch_any _ _).mono ?_
 rintro e w' ⟨rfl, rfl⟩
 rw [h]
 go_wp2_with fail
 go_ret
 exact ⟨ret_bool HB.out.symm, A0⟩
set_option maxHeartbeats 1000000 in
theorem implTab_us (ep us : Int) (a : Option Addr) (n c : Nat) (M : Nat → KT) (w : World) (h : epB ep = true) (h1 : usB us = false) :
 Calls Tryz.prog 196 #[.agg #[.int .i64 ep, .int .i64 us, .slice a n c]] w fun e w' => e = .returned (.bool (tabB ep us M n)) ∧ Below w.heap.size w w' := by
 have HB : Hid (tabB ep us M n = false) := tabB_us h1
 have A0 := Below.nw w (.cells #[.int .i64 ep, .int .i64 us, .slice a n c] 92)
 by_cases hu : us < 0
 ·clear h1
  go_enter Tryz.func196, Tryz.ntmps196
  go_wp2_with fail
  refine (isEpoch_any _ _).mono ?_
  rintro e w' ⟨rfl, rfl⟩
  rw [h]
  go_wp2_with fail
  go_ret
  exact ⟨ret_bool HB.out.symm, A0⟩
 ·have hu2 : 1000 < us := by have := of_decide_eq_false h1; omega
  clear h1
  go_enter Tryz.func196, Tryz.ntmps196
  go_wp2_with fail
  refine (isEpoch_any _ _).mono ?_
  rintro e w' ⟨rfl, rfl⟩
  rw [h]
  go_wp2_with fail
  go_ret
  exact ⟨ret_bool HB.out.symm, A0⟩
set_option maxHeartbeats 1000000 in
theorem implTab_long (ep us : Int) (a : Option Addr) (n c : Nat) (M : Nat → KT) (w : World) (hm : n ≤ maxLen) (h : epB ep = true) (h1 : usB us = true) (hl : ¬ n ≤ 16) :
 Calls Tryz.prog 196 #[.agg #[.int .i64 ep, .int .i64 us, .slice a n c]] w fun e w' => e = .returned (.bool (tabB ep us M n)) ∧ Below w.heap.size w w' := by
 unfold maxLen at hm
 have HB : Hid (tabB ep us M n = false) := tabB_long hl
 have hi : (16 : Int) < (n : Int) := by omega
 have hu0 : ¬ us < 0 := by have := of_decide_eq_true h1; omega
 have hu1 : ¬ 1000 < us := by have := of_decide_eq_true h1; omega
 have A0 := Below.nw w (.cells #[.int .i64 ep, .int .i64 us, .slice a n c] 92)
 go_enter Tryz.func196, Tryz.ntmps196
 go_wp2_with fail
 refine (isEpoch_any _ _).mono ?_
 rintro e w' ⟨rfl, rfl⟩
 rw [h]
 go_wp2_with fail
 go_ret
 exact ⟨ret_bool HB.out.symm, A0⟩
set_option maxHeartbeats 1000000 in
theorem implTab_zero (ep us : Int) (a : Option Addr) (c : Nat) (M : Nat → KT) (w : World) (h : epB ep = true) (h1 : usB us = true) :
 Calls Tryz.prog 196 #[.agg #[.int .i64 ep, .int .i64 us, .slice a 0 c]] w fun e w' => e = .returned (.bool (tabB ep us M 0)) ∧ Below w.heap.size w w' := by
 have HB : Hid (tabB ep us M 0 = true) := tabB_ok h h1 (by omega) rfl
 have hu0 : ¬ us < 0 := by have := of_decide_eq_true h1; omega
 have hu1 : ¬ 1000 < us := by have := of_decide_eq_true h1; omega
 have A0 := Below.nw w (.cells #[.int .i64 ep, .int .i64 us, .slice a 0 c] 92)
 go_enter Tryz.func196, Tryz.ntmps196
 go_wp2_with fail
 refine (isEpoch_any _ _).mono ?_
 rintro e w' ⟨rfl, rfl⟩
 rw [h]
 go_wp2_with fail
 go_loopw [3, 32] (fun l i wr => i = .int .i64 0 ∧ w.alloc (.cells #[.int .i64 ep, .int .i64 us, .slice a 0 c] 92) = wr) (fun _ i _ => 0)
 case atStart => exact ⟨rfl, by first | rfl | trivial⟩
 case round =>
  obtain ⟨rfl, rfl⟩ := hrel
  go_wp2_with fail
  go_ret
  exact ⟨ret_bool HB.out.symm, A0⟩
set_option maxRecDepth 100000 in
set_option maxHeartbeats 8000000 in
theorem implTab_some (ep us : Int) (b off n c : Nat) (M : Nat → KT) (w : World) (h : epB ep = true) (h1 : usB us = true) (hn : n ≤ 16) (hf : Cs w b off (n * 4) (MFAsk M)) (hw : ∀ i, i < n → (Lit.int .i64 (M i).1).wf = true) :
 Calls Tryz.prog 196 #[.agg #[.int .i64 ep, .int .i64 us, .slice (some ⟨b, off, none⟩) n c]] w fun e w' => e = .returned (.bool (tabB ep us M n)) ∧ Below w.heap.size w w' := by
 have HE : Hid (epB ep = true) := h
 have HU : Hid (usB us = true) := h1
 have HW : Hid (∀ i, i < n → (Lit.int .i64 (M i).1).wf = true) := hw
 clear hw
 have hi : ¬ (16 : Int) < (n : Int) := by omega
 have hu0 : ¬ us < 0 := by have := of_decide_eq_true h1; omega
 have hu1 : ¬ 1000 < us := by have := of_decide_eq_true h1; omega
 have A0 := Below.nw w (.cells #[.int .i64 ep, .int .i64 us, .slice (some ⟨b, off, none⟩) n c] 92)
 have N := IB3.new w ep us (some ⟨b, off, none⟩) n c 92
 have HF := hf.below A0 hf.1
 have hb0 := HF.1
 clear hf
 go_enter Tryz.func196, Tryz.ntmps196
 go_wp2_with fail
 refine (isEpoch_any _ _).mono ?_
 rintro e w' ⟨rfl, rfl⟩
 rw [h]
 go_wp2_with fail
 clear h h1 hi hu0 hu1
 generalize w.alloc (.cells #[.int .i64 ep, .int .i64 us, .slice (some ⟨b, off, none⟩) n c] 92) = w0 at *
 go_loopw [3, 32] (fun l i wr => ∃ k : Nat, k ≤ n ∧ i = .int .i64 k ∧ l = .int .i64 (lastK M k) ∧ tOk ep us M k = true ∧ Below w0.heap.size w0 wr) (fun _ i _ => n - (intOf i).toNat)
 case atStart => exact ⟨0, Nat.zero_le _, rfl, rfl, rfl, Below.refl _ _⟩
 case round =>
  obtain ⟨k, hk, rfl, rfl, hok, hB⟩ := hrel
  have HOK : Hid (tOk ep us M k = true) := hok
  clear hok
  have hBw := A0.trans (hB.mono A0.size)
  by_cases hlt : k < n
  ·obtain ⟨x0, x1, x2, x3, hM⟩ := tupAsk M k
   obtain ⟨c0, c1, c2, c3⟩ := (HF.below hB hb0).elAsk hlt hM
   obtain ⟨n9, n0, n1, n2⟩ := id (N.below hB)
   have hli : (k : Int) < (n : Int) := by omega
   have HM : Hid (M k = (x0, x1, x2, x3)) := hM
   have HEL : Hid (elB ep us M k = (npB x0 && decide (npE x0 = ep) && decide (npK x0 < us) && lsBk M k && akB x1 x2 x3)) := by rw [Hid, elB, hM]
   have hbr : b < wr.heap.size := Nat.lt_of_lt_of_le hb0 hB.size
   have hwf : (Lit.int .i64 x0).wf = true := by have := HW.out k hlt; rw [hM] at this; exact this
   clear hM
   have A1 := Below.nw wr (.cells #[.int .i64 x0, .int .i64 x1, .int .i64 x2, .int .i64 x3] 160)
   have K := Bk4.new wr x0 x1 x2 x3 160
   have B1 := hBw.trans (A1.mono hBw.size)
   have B0 := hB.trans (A1.mono hB.size)
   have HNO : Hid (elB ep us M k = false → tabB ep us M n = false) := fun h => tabB_bad (tOk_no h n hlt)
   go_upto_region 7 with fail
   clear c0 c1 c2 c3 n9 n0 n1 n2
   have N1 := N.below B0
   generalize hbk : wr.heap.size = bk at *
   generalize wr.alloc (.cells #[.int .i64 x0, .int .i64 x1, .int .i64 x2, .int .i64 x3] 160) = w1 at *
   clear A1
   obtain ⟨n9, n0, n1, n2⟩ := id N1
   obtain ⟨k9, k0, k1, k2, k3⟩ := id K
   have HX : Hid (npK (M k).1 = npK x0) := show npK (M k).1 = npK x0 from by rw [HM.out]
   have HLL : Hid (npB x0 = true → npE x0 = ep → (lastK M k < npK x0 ↔ lsBk M k = true)) := fun h1 h2 => by have := last_ls HOK.out (by rw [HM.out]; exact h1) (by rw [HM.out]; exact h2); rw [HX.out] at this; exact this
   go_wp2_with fail
   refine (implNonceParts_any _ _ hwf).mono ?_
   rintro e w' ⟨rfl, rfl⟩
   clear hwf
   cases g1 : npB x0
   ·have HB' : Hid (tabB ep us M n = false) := HNO.out (by rw [HEL.out, g1]; rfl)
    go_wp2_with fail
    go_ret
    exact ⟨ret_bool HB'.out.symm, B1⟩
   ·cases g2 : decide (npE x0 = ep)
    ·have HB' : Hid (tabB ep us M n = false) := HNO.out (by rw [HEL.out, g2]; simp)
     have g2' := of_decide_eq_false g2
     go_wp2_with fail
     go_ret
     exact ⟨ret_bool HB'.out.symm, B1⟩
    ·have g2' := of_decide_eq_true g2
     have HL2 := HLL.out g1 g2'
     by_cases g4 : npK x0 ≤ lastK M k
     ·have HB' : Hid (tabB ep us M n = false) := HNO.out (by
       have : lsBk M k = false := by
        cases q : lsBk M k
        ·rfl
        ·exact absurd (HL2.2 q) (by omega)
       rw [HEL.out, this]; simp)
      clear HL2
      go_wp2_with fail
      go_ret
      exact ⟨ret_bool HB'.out.symm, B1⟩
     ·have HLS : Hid (lsBk M k = true) := HL2.1 (by omega)
      clear HL2
      cases g3 : decide (npK x0 < us)
      ·have HB' : Hid (tabB ep us M n = false) := HNO.out (by rw [HEL.out, g3]; simp)
       have g3' : us ≤ npK x0 := by have := of_decide_eq_false g3; omega
       go_wp2_with fail
       go_ret
       exact ⟨ret_bool HB'.out.symm, B1⟩
      ·have g3' : ¬ us ≤ npK x0 := by have := of_decide_eq_true g3; omega
       go_wp2_with fail
       refine (askOk_any _ _ _ _ _).mono ?_
       rintro e w2 ⟨rfl, hb⟩
       replace B0 := B0.trans (hb.mono B0.size)
       replace B1 := B1.trans (hb.mono B1.size)
       cases g5 : akB x1 x2 x3
       ·have HB' : Hid (tabB ep us M n = false) := HNO.out (by rw [HEL.out, g5, Bool.and_false])
        go_wp2_with fail
        go_ret
        exact ⟨ret_bool HB'.out.symm, B1⟩
       ·have HG : Hid (tOk ep us M (k + 1) = true) := by rw [Hid, tOk, HOK.out, HEL.out, g1, g2, g3, HLS.out, g5]; rfl
        go_wp2_with fail
        go_roundw
        case rel => exact ⟨k + 1, by omega, by go_num, by rw [lastK, HX.out], HG.out, B0⟩
        case measure => simp [intOf]; omega
  ·have hkn : k = n := by omega
   subst hkn
   have hli : ¬ (k : Int) < (k : Int) := by omega
   have HB : Hid (tabB ep us M k = true) := tabB_ok HE.out HU.out hn HOK.out
   obtain ⟨n9, n0, n1, n2⟩ := id (N.below hB)
   go_wp2_with fail
   go_ret
   exact ⟨ret_bool HB.out.symm, hBw⟩
theorem implTab_any (ep us : Int) (a : Option Addr) (n c : Nat) (M : Nat → KT) (w : World) (hm : n ≤ maxLen) (hf : SrcC w a (n * 4) (MFAsk M)) (hw : ∀ i, i < n → (Lit.int .i64 (M i).1).wf = true) :
 Calls Tryz.prog 196 #[.agg #[.int .i64 ep, .int .i64 us, .slice a n c]] w fun e w' => e = .returned (.bool (tabB ep us M n)) ∧ Below w.heap.size w w' := by
 cases h : epB ep
 ·exact implTab_ep ep us a n c M w h
 ·cases h1 : usB us
  ·exact implTab_us ep us a n c M w h h1
  ·by_cases hl : n ≤ 16
   ·rcases hf with h0 | ⟨b, off, rfl, hf⟩
    ·have hn0 : n = 0 := by omega
     subst hn0
     exact implTab_zero ep us a c M w h h1
    ·exact implTab_some ep us b off n c M w h h1 hl hf hw
   ·exact implTab_long ep us a n c M w hm h h1 hl
end Go.Proofs.YtddijpjgkifngaaGreat
