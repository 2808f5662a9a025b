/- Peers that are right, ascending; the contract of impl.PeersOk. -/
import Derived.Test.YtddijpjgkifngaaGreatM4
namespace Go.Proofs.YtddijpjgkifngaaGreat
open Go.RowKit
set_option linter.unusedVariables false
def pOk (M : PT) : Bool := nodB M.1 && okI M.2.1 M.2.2.1 && okT M.2.2.2.1
def prv (M : Nat → PT) : Nat → Int
 | 0 => -1
 | k + 1 => (M k).1
def elP (M : Nat → PT) (k : Nat) : Bool := pOk (M k) && decide (prv M k < (M k).1)
def oks (M : Nat → PT) : Nat → Bool
 | 0 => true
 | k + 1 => oks M k && elP M k
theorem oks_step {M : Nat → PT} {k : Nat} (h : oks M k = true) (h2 : elP M k = true) : oks M (k + 1) = true := by rw [oks, h, h2]; rfl
theorem oks_no {M : Nat → PT} {k : Nat} (h : elP M k = false) : ∀ n, k < n → oks M n = false
 | 0, hk => absurd hk (Nat.not_lt_zero _)
 | n + 1, hk => by
  rw [oks]
  by_cases e : k = n
  ·subst e; rw [h]; simp
  ·rw [oks_no h n (by omega)]; rfl
theorem oks_el {M : Nat → PT} : ∀ {n : Nat}, oks M n = true → ∀ k, k < n → elP M k = true
 | 0, _, k, hk => absurd hk (Nat.not_lt_zero _)
 | n + 1, h, k, hk => by
  rw [oks, Bool.and_eq_true] at h
  by_cases e : k = n
  ·subst e; exact h.2
  ·exact oks_el h.1 k (by omega)
theorem nodB_t {x : Int} (h : nodB x = true) : 0 ≤ x ∧ x ≤ 7 := of_decide_eq_true h
theorem elP_t {M : Nat → PT} {k : Nat} (h : elP M k = true) : pOk (M k) = true ∧ prv M k < (M k).1 := by simpa [elP] using h
theorem pOk_t {m : PT} (h : pOk m = true) : nodB m.1 = true ∧ okI m.2.1 m.2.2.1 = true ∧ okT m.2.2.2.1 = true := by
 unfold pOk at h
 simp only [Bool.and_eq_true] at h
 exact ⟨h.1.1, h.1.2, h.2⟩
theorem oks_ge {M : Nat → PT} {n : Nat} (h : oks M n = true) : ∀ k, k < n → (k : Int) ≤ (M k).1
 | 0, hk => by
  have := nodB_t (pOk_t (elP_t (oks_el h 0 hk)).1).1
  omega
 | k + 1, hk => by
  have h1 := oks_ge h k (by omega)
  have h2 : (M k).1 < (M (k + 1)).1 := (elP_t (oks_el h (k + 1) hk)).2
  omega
theorem oks_le {M : Nat → PT} {n : Nat} (h : oks M n = true) : n ≤ 8 := by
 by_cases hn : n ≤ 8
 ·exact hn
 ·have h1 := oks_ge h (n - 1) (by omega)
  have h2 := nodB_t (pOk_t (elP_t (oks_el h (n - 1) (by omega))).1).1
  omega
theorem oks_long {M : Nat → PT} {n : Nat} (h : ¬ n ≤ 8) : oks M n = false := by
 cases e : oks M n
 ·rfl
 ·exact absurd (oks_le e) h
set_option maxHeartbeats 2000000 in
theorem peerOk_any (x0 x1 x2 x3 : Int) (x4 : Bool) (w : World) :
 Calls Tryz.prog 210 #[.agg #[.int .i64 x0, .int .i64 x1, .int .i64 x2, .int .i64 x3, .bool x4]] w fun e w' => e = .returned (.bool (pOk (x0, x1, x2, x3, x4))) ∧ Below w.heap.size w w' := by
 have HB : Hid (pOk (x0, x1, x2, x3, x4) = (nodB x0 && okI x1 x2 && okT x3)) := rfl
 have A0 := Below.nw w (.cells #[.int .i64 x0, .int .i64 x1, .int .i64 x2, .int .i64 x3, .bool x4] 157)
 cases h1 : nodB x0
 ·go_enter Tryz.func210, Tryz.ntmps210
  go_wp2_with fail
  refine (isNode_any _ _).mono ?_
  rintro e w' ⟨rfl, rfl⟩
  rw [h1]
  go_wp2_with fail
  go_ret
  exact ⟨ret_bool (by rw [HB.out, h1]; rfl), A0⟩
 ·have P := Bx5.new w (.int .i64 x0) (.int .i64 x1) (.int .i64 x2) (.int .i64 x3) (.bool x4) 157
  cases h2 : okI x1 x2
  ·go_enter Tryz.func210, Tryz.ntmps210
   go_wp2_with fail
   refine (isNode_any _ _).mono ?_
   rintro e w' ⟨rfl, rfl⟩
   rw [h1]
   go_wp2_with fail
   refine (ok_any _ _ _).mono ?_
   rintro e w1 ⟨rfl, hb⟩
   rw [h2]
   have A1 := A0.trans (hb.mono A0.size)
   clear hb
   go_wp2_with fail
   go_ret
   exact ⟨ret_bool (by rw [HB.out, h2]; simp), A1⟩
  ·go_enter Tryz.func210, Tryz.ntmps210
   go_wp2_with fail
   refine (isNode_any _ _).mono ?_
   rintro e w' ⟨rfl, rfl⟩
   rw [h1]
   go_wp2_with fail
   refine (ok_any _ _ _).mono ?_
   rintro e w1 ⟨rfl, hb⟩
   rw [h2]
   have A1 := A0.trans (hb.mono A0.size)
   obtain ⟨k9, k0, k1, k2, k3, k4, f0, f1, f2, f3, f4⟩ := P.below hb
   clear hb P
   go_wp2_with fail
   refine (isTime_any _ _).mono ?_
   rintro e w' ⟨rfl, rfl⟩
   go_wp2_with fail
   go_ret
   exact ⟨ret_bool (by rw [HB.out, h1, h2]; simp), A1⟩
set_option maxHeartbeats 4000000 in
theorem implPeersOk_some (b off n c : Nat) (M : Nat → PT) (w : World) (hn : n ≤ maxLen) (hf : Cs w b off (n * 5) (MFPeer M)) :
 Calls Tryz.prog 197 #[.slice (some ⟨b, off, none⟩) n c] w fun e w' => e = .returned (.bool (oks M n)) ∧ Below w.heap.size w w' := by
 unfold maxLen at hn
 go_enter Tryz.func197, Tryz.ntmps197
 go_wp2_with fail
 go_loopw [3, 8] (fun l i wr => ∃ k : Nat, k ≤ n ∧ i = .int .i64 k ∧ l = .int .i64 (prv M k) ∧ oks M k = true ∧ Below w.heap.size w wr) (fun _ i _ => n - (intOf i).toNat)
 case atStart => exact ⟨0, Nat.zero_le _, rfl, rfl, rfl, Below.refl _ _⟩
 case round =>
  obtain ⟨k, hk, rfl, rfl, hok, hB⟩ := hrel
  have HOK : Hid (oks M k = true) := hok
  clear hok
  by_cases hlt : k < n
  ·obtain ⟨x0, x1, x2, x3, x4, hM⟩ := tupPeer M k
   obtain ⟨c0, c1, c2, c3, c4⟩ := (hf.below hB hf.1).elPeer hlt hM
   have hli : (k : Int) < (n : Int) := by omega
   have HEL : Hid (elP M k = (pOk (x0, x1, x2, x3, x4) && decide (prv M k < x0))) := by rw [Hid, elP, hM]
   have HPV : Hid (prv M (k + 1) = x0) := by rw [Hid, prv, hM]
   have HNO : Hid (elP M k = false → oks M n = false) := fun h => oks_no h n hlt
   have hbr : b < wr.heap.size := Nat.lt_of_lt_of_le hf.1 hB.size
   clear hM
   have A1 := Below.nw wr (.cells #[.int .i64 x0, .int .i64 x1, .int .i64 x2, .int .i64 x3, .bool x4] 157)
   have K := Bx5.new wr (.int .i64 x0) (.int .i64 x1) (.int .i64 x2) (.int .i64 x3) (.bool x4) 157
   have B1 := hB.trans (A1.mono hB.size)
   generalize prv M k = pl at *
   go_upto_region 5 with fail
   clear c0 c1 c2 c3 c4
   generalize hbk : wr.heap.size = bk at *
   generalize wr.alloc (.cells #[.int .i64 x0, .int .i64 x1, .int .i64 x2, .int .i64 x3, .bool x4] 157) = w1 at *
   clear A1
   obtain ⟨k9, k0, k1, k2, k3, k4, f0, f1, f2, f3, f4⟩ := id K
   cases h1 : pOk (x0, x1, x2, x3, x4)
   ·have HB' : Hid (oks M n = false) := HNO.out (by rw [HEL.out, h1]; rfl)
    go_wp2_with fail
    refine (peerOk_any _ _ _ _ _ _).mono ?_
    rintro e w2 ⟨rfl, hb⟩
    rw [h1]
    have B2 := B1.trans (hb.mono B1.size)
    clear hb k0 k1 k2 k3 k4 f0 f1 f2 f3 f4
    go_wp2_with fail
    go_ret
    exact ⟨ret_bool HB'.out.symm, B2⟩
   ·by_cases h2 : x0 ≤ pl
    ·have HB' : Hid (oks M n = false) := HNO.out (by rw [HEL.out, h1]; simp; omega)
     go_wp2_with fail
     refine (peerOk_any _ _ _ _ _ _).mono ?_
     rintro e w2 ⟨rfl, hb⟩
     rw [h1]
     have B2 := B1.trans (hb.mono B1.size)
     clear k9 k0 k1 k2 k3 k4 f0 f1 f2 f3 f4
     obtain ⟨k9, k0, k1, k2, k3, k4, f0, f1, f2, f3, f4⟩ := K.below hb
     clear hb
     go_wp2_with fail
     go_ret
     exact ⟨ret_bool HB'.out.symm, B2⟩
    ·have HST : Hid (oks M (k + 1) = true) := oks_step HOK.out (by rw [HEL.out, h1]; simp; omega)
     go_wp2_with fail
     refine (peerOk_any _ _ _ _ _ _).mono ?_
     rintro e w2 ⟨rfl, hb⟩
     rw [h1]
     have B2 := B1.trans (hb.mono B1.size)
     clear k9 k0 k1 k2 k3 k4 f0 f1 f2 f3 f4
     obtain ⟨k9, k0, k1, k2, k3, k4, f0, f1, f2, f3, f4⟩ := K.below hb
     clear hb
     go_wp2_with fail
     go_roundw
     case rel => exact ⟨k + 1, by omega, by go_num, by rw [HPV.out], HST.out, B2⟩
     case measure => simp [intOf]; omega
  ·have hkn : k = n := by omega
   subst hkn
   have hli : ¬ (k : Int) < (k : Int) := by omega
   generalize prv M k = pl at *
   go_wp2_with fail
   go_ret
   exact ⟨ret_bool HOK.out.symm, hB⟩
set_option maxHeartbeats 400000 in
theorem implPeersOk_zero (a : Option Addr) (c : Nat) (M : Nat → PT) (w : World) :
 Calls Tryz.prog 197 #[.slice a 0 c] w fun e w' => e = .returned (.bool (oks M 0)) ∧ Below w.heap.size w w' := by
 go_enter Tryz.func197, Tryz.ntmps197
 go_wp2_with fail
 go_loopw [3, 8] (fun l i wr => l = .int .i64 (-1) ∧ i = .int .i64 0 ∧ w = wr) (fun _ i _ => 0)
 case atStart => exact ⟨rfl, rfl, by first | rfl | trivial⟩
 case round =>
  obtain ⟨rfl, rfl, rfl⟩ := hrel
  go_wp2_with fail
  go_ret
  exact ⟨rfl, Below.refl _ _⟩
theorem implPeersOk_any (a : Option Addr) (n c : Nat) (M : Nat → PT) (w : World) (hn : n ≤ maxLen) (h : SrcC w a (n * 5) (MFPeer M)) :
 Calls Tryz.prog 197 #[.slice a n c] w fun e w' => e = .returned (.bool (oks M n)) ∧ Below w.heap.size w w' := by
 rcases h with h0 | ⟨b, off, rfl, h2⟩
 ·have hn0 : n = 0 := by omega
  subst hn0
  exact implPeersOk_zero a c M w
 ·exact implPeersOk_some b off n c M w hn h2
end Go.Proofs.YtddijpjgkifngaaGreat
