/- Contracts of Fold and Unfold, and the walks of their exact laws. Contracts of MsgOk. Peers that are right, ascending; the contract of impl.PeersOk. What the laws keep; rows of numbers, of intervals and of peers, told by lists. Plans: numbers. Frames: numbers; what the laws make of one. -/
import Derived.Deep.DeepCutAuto
import Derived.Test.YtddijpjgkifngaaGreatM2
import Derived.Test.YtddijpjgkifngaaGreatM3
namespace Go.Proofs.YtddijpjgkifngaaGreat
open Go.RowKit
set_option linter.unusedVariables false
set_option maxHeartbeats 400000 in
theorem l1In_any (x l h : Int) (w : World) :
 Calls Tryz.prog 42 #[.int .i64 x, .int .i64 l, .int .i64 h] w fun e w' => e = .returned (.bool (decide (l ≤ x ∧ x ≤ h))) ∧ w = w' := by
 go_enter Tryz.func42, Tryz.ntmps42
 go_wp2
 all_goals go_ret
 all_goals exact ⟨ret_bool (by rw [Bool.eq_iff_iff]; simp; try omega), rfl⟩
end Go.Proofs.YtddijpjgkifngaaGreat
namespace Go.Proofs.YtddijpjgkifngaaGreat
open Go.RowKit
set_option linter.unusedVariables false
def nodB (n : Int) : Bool := decide (0 ≤ n ∧ n ≤ 7)
set_option maxHeartbeats 400000 in
theorem isNode_any (n : Int) (w : World) :
 Calls Tryz.prog 108 #[.int .i64 n] w fun e w' => e = .returned (.bool (nodB n)) ∧ w = w' := by
 go_enter Tryz.func108, Tryz.ntmps108
 go_wp2
 all_goals go_ret
 all_goals exact ⟨ret_bool (by rw [Bool.eq_iff_iff]; simp [nodB]; try omega), rfl⟩
set_option maxHeartbeats 400000 in
theorem l4Node_any (n : Int) (w : World) :
 Calls Tryz.prog 86 #[.int .i64 n] w fun e w' => e = .returned (.bool (nodB n)) ∧ w = w' := by
 go_enter Tryz.func86, Tryz.ntmps86
 go_wp2_with (first | (go_at_call 42; refine (l1In_any _ _ _ _).mono ?_; rintro e w' ⟨rfl, rfl⟩))
 go_ret
 exact ⟨ret_bool (by simp [nodB]), rfl⟩
def Box8 (w : World) (j : Nat) (k fr tuu no lo hi sl : Int) (s : ByteArray) : Prop := j < w.heap.size ∧ w.cell? ⟨j, 0, none⟩ = some (.int .i64 k) ∧ w.cell? ⟨j, 1, none⟩ = some (.int .i64 fr) ∧ w.cell? ⟨j, 2, none⟩ = some (.int .i64 tuu) ∧ w.cell? ⟨j, 3, none⟩ = some (.int .i64 no) ∧ w.cell? ⟨j, 4, none⟩ = some (.int .i64 lo) ∧ w.cell? ⟨j, 5, none⟩ = some (.int .i64 hi) ∧ w.cell? ⟨j, 6, none⟩ = some (.int .i64 sl) ∧ w.cell? ⟨j, 7, none⟩ = some (.string s)
theorem Box8.belowB {j B : Nat} {w w' : World} {k fr tuu no lo hi sl : Int} {s : ByteArray} (h : Box8 w j k fr tuu no lo hi sl s) (hw : Below B w w') (hk : j < B) : Box8 w' j k fr tuu no lo hi sl s := by
 obtain ⟨h0, h1, h2, h3, h4, h5, h6, h7, h8⟩ := h
 exact ⟨Nat.lt_of_lt_of_le h0 hw.size, by rw [hw.cell (p := ⟨j, 0, none⟩) hk]; exact h1, by rw [hw.cell (p := ⟨j, 1, none⟩) hk]; exact h2, by rw [hw.cell (p := ⟨j, 2, none⟩) hk]; exact h3, by rw [hw.cell (p := ⟨j, 3, none⟩) hk]; exact h4, by rw [hw.cell (p := ⟨j, 4, none⟩) hk]; exact h5, by rw [hw.cell (p := ⟨j, 5, none⟩) hk]; exact h6, by rw [hw.cell (p := ⟨j, 6, none⟩) hk]; exact h7, by rw [hw.cell (p := ⟨j, 7, none⟩) hk]; exact h8⟩
theorem Box8.below {j : Nat} {w w' : World} {k fr tuu no lo hi sl : Int} {s : ByteArray} (h : Box8 w j k fr tuu no lo hi sl s) (hw : Below w.heap.size w w') : Box8 w' j k fr tuu no lo hi sl s := h.belowB hw h.1
theorem Box8.new (w : World) (k fr tuu no lo hi sl : Int) (s : ByteArray) (T : TypeId) : Box8 (w.alloc (.cells #[.int .i64 k, .int .i64 fr, .int .i64 tuu, .int .i64 no, .int .i64 lo, .int .i64 hi, .int .i64 sl, .string s] T)) w.heap.size k fr tuu no lo hi sl s := ⟨by simp, by simp, by simp, by simp, by simp, by simp, by simp, by simp, by simp⟩
end Go.Proofs.YtddijpjgkifngaaGreat
namespace Go.Proofs.YtddijpjgkifngaaGreat
open Go.RowKit
set_option linter.unusedVariables false
def pOk (M : PT) : Bool := nodB M.1 && okI M.2.1 M.2.2.1 && okT M.2.2.2.1
def prv (M : Nat → PT) : Nat → Int
 | 0 => -1
 | k + 1 => (M k).1
def elP (M : Nat → PT) (k : Nat) : Bool := pOk (M k) && decide (prv M k < (M k).1)
def oks (M : Nat → PT) : Nat → Bool
 | 0 => true
 | k + 1 => oks M k && elP M k
theorem oks_step {M : Nat → PT} {k : Nat} (h : oks M k = true) (h2 : elP M k = true) : oks M (k + 1) = true := by rw [oks, h, h2]; rfl
theorem oks_no {M : Nat → PT} {k : Nat} (h : elP M k = false) : ∀ n, k < n → oks M n = false
 | 0, hk => absurd hk (Nat.not_lt_zero _)
 | n + 1, hk => by
  rw [oks]
  by_cases e : k = n
  ·subst e; rw [h]; simp
  ·rw [oks_no h n (by omega)]; rfl
theorem oks_el {M : Nat → PT} : ∀ {n : Nat}, oks M n = true → ∀ k, k < n → elP M k = true
 | 0, _, k, hk => absurd hk (Nat.not_lt_zero _)
 | n + 1, h, k, hk => by
  rw [oks, Bool.and_eq_true] at h
  by_cases e : k = n
  ·subst e; exact h.2
  ·exact oks_el h.1 k (by omega)
theorem nodB_t {x : Int} (h : nodB x = true) : 0 ≤ x ∧ x ≤ 7 := of_decide_eq_true h
theorem elP_t {M : Nat → PT} {k : Nat} (h : elP M k = true) : pOk (M k) = true ∧ prv M k < (M k).1 := by simpa [elP] using h
theorem pOk_t {m : PT} (h : pOk m = true) : nodB m.1 = true ∧ okI m.2.1 m.2.2.1 = true ∧ okT m.2.2.2.1 = true := by
 unfold pOk at h
 simp only [Bool.and_eq_true] at h
 exact ⟨h.1.1, h.1.2, h.2⟩
theorem oks_ge {M : Nat → PT} {n : Nat} (h : oks M n = true) : ∀ k, k < n → (k : Int) ≤ (M k).1
 | 0, hk => by
  have := nodB_t (pOk_t (elP_t (oks_el h 0 hk)).1).1
  omega
 | k + 1, hk => by
  have h1 := oks_ge h k (by omega)
  have h2 : (M k).1 < (M (k + 1)).1 := (elP_t (oks_el h (k + 1) hk)).2
  omega
theorem oks_le {M : Nat → PT} {n : Nat} (h : oks M n = true) : n ≤ 8 := by
 by_cases hn : n ≤ 8
 ·exact hn
 ·have h1 := oks_ge h (n - 1) (by omega)
  have h2 := nodB_t (pOk_t (elP_t (oks_el h (n - 1) (by omega))).1).1
  omega
theorem oks_long {M : Nat → PT} {n : Nat} (h : ¬ n ≤ 8) : oks M n = false := by
 cases e : oks M n
 ·rfl
 ·exact absurd (oks_le e) h
set_option maxHeartbeats 2000000 in
theorem peerOk_any (x0 x1 x2 x3 : Int) (x4 : Bool) (w : World) :
 Calls Tryz.prog 210 #[.agg #[.int .i64 x0, .int .i64 x1, .int .i64 x2, .int .i64 x3, .bool x4]] w fun e w' => e = .returned (.bool (pOk (x0, x1, x2, x3, x4))) ∧ Below w.heap.size w w' := by
 have HB : Hid (pOk (x0, x1, x2, x3, x4) = (nodB x0 && okI x1 x2 && okT x3)) := rfl
 have A0 := Below.nw w (.cells #[.int .i64 x0, .int .i64 x1, .int .i64 x2, .int .i64 x3, .bool x4] 157)
 cases h1 : nodB x0
 ·go_enter Tryz.func210, Tryz.ntmps210
  go_wp2_with fail
  refine (isNode_any _ _).mono ?_
  rintro e w' ⟨rfl, rfl⟩
  rw [h1]
  go_wp2_with fail
  go_ret
  exact ⟨ret_bool (by rw [HB.out, h1]; rfl), A0⟩
 ·have P := Bx5.new w (.int .i64 x0) (.int .i64 x1) (.int .i64 x2) (.int .i64 x3) (.bool x4) 157
  cases h2 : okI x1 x2
  ·go_enter Tryz.func210, Tryz.ntmps210
   go_wp2_with fail
   refine (isNode_any _ _).mono ?_
   rintro e w' ⟨rfl, rfl⟩
   rw [h1]
   go_wp2_with fail
   refine (ok_any _ _ _).mono ?_
   rintro e w1 ⟨rfl, hb⟩
   rw [h2]
   have A1 := A0.trans (hb.mono A0.size)
   clear hb
   go_wp2_with fail
   go_ret
   exact ⟨ret_bool (by rw [HB.out, h2]; simp), A1⟩
  ·go_enter Tryz.func210, Tryz.ntmps210
   go_wp2_with fail
   refine (isNode_any _ _).mono ?_
   rintro e w' ⟨rfl, rfl⟩
   rw [h1]
   go_wp2_with fail
   refine (ok_any _ _ _).mono ?_
   rintro e w1 ⟨rfl, hb⟩
   rw [h2]
   have A1 := A0.trans (hb.mono A0.size)
   obtain ⟨k9, k0, k1, k2, k3, k4, f0, f1, f2, f3, f4⟩ := P.below hb
   clear hb P
   go_wp2_with fail
   refine (isTime_any _ _).mono ?_
   rintro e w' ⟨rfl, rfl⟩
   go_wp2_with fail
   go_ret
   exact ⟨ret_bool (by rw [HB.out, h1, h2]; simp), A1⟩
set_option maxHeartbeats 4000000 in
theorem implPeersOk_some (b off n c : Nat) (M : Nat → PT) (w : World) (hn : n ≤ maxLen) (hf : Cs w b off (n * 5) (MFPeer M)) :
 Calls Tryz.prog 197 #[.slice (some ⟨b, off, none⟩) n c] w fun e w' => e = .returned (.bool (oks M n)) ∧ Below w.heap.size w w' := by
 unfold maxLen at hn
 go_enter Tryz.func197, Tryz.ntmps197
 go_wp2_with fail
 go_loopw [3, 8] (fun l i wr => ∃ k : Nat, k ≤ n ∧ i = .int .i64 k ∧ l = .int .i64 (prv M k) ∧ oks M k = true ∧ Below w.heap.size w wr) (fun _ i _ => n - (intOf i).toNat)
 case atStart => exact ⟨0, Nat.zero_le _, rfl, rfl, rfl, Below.refl _ _⟩
 case round =>
  obtain ⟨k, hk, rfl, rfl, hok, hB⟩ := hrel
  have HOK : Hid (oks M k = true) := hok
  clear hok
  by_cases hlt : k < n
  ·obtain ⟨x0, x1, x2, x3, x4, hM⟩ := tupPeer M k
   obtain ⟨c0, c1, c2, c3, c4⟩ := (hf.below hB hf.1).elPeer hlt hM
   have hli : (k : Int) < (n : Int) := by omega
   have HEL : Hid (elP M k = (pOk (x0, x1, x2, x3, x4) && decide (prv M k < x0))) := by rw [Hid, elP, hM]
   have HPV : Hid (prv M (k + 1) = x0) := by rw [Hid, prv, hM]
   have HNO : Hid (elP M k = false → oks M n = false) := fun h => oks_no h n hlt
   have hbr : b < wr.heap.size := Nat.lt_of_lt_of_le hf.1 hB.size
   clear hM
   have A1 := Below.nw wr (.cells #[.int .i64 x0, .int .i64 x1, .int .i64 x2, .int .i64 x3, .bool x4] 157)
   have K := Bx5.new wr (.int .i64 x0) (.int .i64 x1) (.int .i64 x2) (.int .i64 x3) (.bool x4) 157
   have B1 := hB.trans (A1.mono hB.size)
   generalize prv M k = pl at *
   go_upto_region 5 with fail
   clear c0 c1 c2 c3 c4
   generalize hbk : wr.heap.size = bk at *
   generalize wr.alloc (.cells #[.int .i64 x0, .int .i64 x1, .int .i64 x2, .int .i64 x3, .bool x4] 157) = w1 at *
   clear A1
   obtain ⟨k9, k0, k1, k2, k3, k4, f0, f1, f2, f3, f4⟩ := id K
   cases h1 : pOk (x0, x1, x2, x3, x4)
   ·have HB' : Hid (oks M n = false) := HNO.out (by rw [HEL.out, h1]; rfl)
    go_wp2_with fail
    refine (peerOk_any _ _ _ _ _ _).mono ?_
    rintro e w2 ⟨rfl, hb⟩
    rw [h1]
    have B2 := B1.trans (hb.mono B1.size)
    clear hb k0 k1 k2 k3 k4 f0 f1 f2 f3 f4
    go_wp2_with fail
    go_ret
    exact ⟨ret_bool HB'.out.symm, B2⟩
   ·by_cases h2 : x0 ≤ pl
    ·have HB' : Hid (oks M n = false) := HNO.out (by rw [HEL.out, h1]; simp; omega)
     go_wp2_with fail
     refine (peerOk_any _ _ _ _ _ _).mono ?_
     rintro e w2 ⟨rfl, hb⟩
     rw [h1]
     have B2 := B1.trans (hb.mono B1.size)
     clear k9 k0 k1 k2 k3 k4 f0 f1 f2 f3 f4
     obtain ⟨k9, k0, k1, k2, k3, k4, f0, f1, f2, f3, f4⟩ := K.below hb
     clear hb
     go_wp2_with fail
     go_ret
     exact ⟨ret_bool HB'.out.symm, B2⟩
    ·have HST : Hid (oks M (k + 1) = true) := oks_step HOK.out (by rw [HEL.out, h1]; simp; omega)
     go_wp2_with fail
     refine (peerOk_any _ _ _ _ _ _).mono ?_
     rintro e w2 ⟨rfl, hb⟩
     rw [h1]
     have B2 := B1.trans (hb.mono B1.size)
     clear k9 k0 k1 k2 k3 k4 f0 f1 f2 f3 f4
     obtain ⟨k9, k0, k1, k2, k3, k4, f0, f1, f2, f3, f4⟩ := K.below hb
     clear hb
     go_wp2_with fail
     go_roundw
     case rel => exact ⟨k + 1, by omega, by go_num, by rw [HPV.out], HST.out, B2⟩
     case measure => simp [intOf]; omega
  ·have hkn : k = n := by omega
   subst hkn
   have hli : ¬ (k : Int) < (k : Int) := by omega
   generalize prv M k = pl at *
   go_wp2_with fail
   go_ret
   exact ⟨ret_bool HOK.out.symm, hB⟩
set_option maxHeartbeats 400000 in
theorem implPeersOk_zero (a : Option Addr) (c : Nat) (M : Nat → PT) (w : World) :
 Calls Tryz.prog 197 #[.slice a 0 c] w fun e w' => e = .returned (.bool (oks M 0)) ∧ Below w.heap.size w w' := by
 go_enter Tryz.func197, Tryz.ntmps197
 go_wp2_with fail
 go_loopw [3, 8] (fun l i wr => l = .int .i64 (-1) ∧ i = .int .i64 0 ∧ w = wr) (fun _ i _ => 0)
 case atStart => exact ⟨rfl, rfl, by first | rfl | trivial⟩
 case round =>
  obtain ⟨rfl, rfl, rfl⟩ := hrel
  go_wp2_with fail
  go_ret
  exact ⟨rfl, Below.refl _ _⟩
theorem implPeersOk_any (a : Option Addr) (n c : Nat) (M : Nat → PT) (w : World) (hn : n ≤ maxLen) (h : SrcC w a (n * 5) (MFPeer M)) :
 Calls Tryz.prog 197 #[.slice a n c] w fun e w' => e = .returned (.bool (oks M n)) ∧ Below w.heap.size w w' := by
 rcases h with h0 | ⟨b, off, rfl, h2⟩
 ·have hn0 : n = 0 := by omega
  subst hn0
  exact implPeersOk_zero a c M w
 ·exact implPeersOk_some b off n c M w hn h2
end Go.Proofs.YtddijpjgkifngaaGreat
namespace Go.Proofs.YtddijpjgkifngaaGreat
open Go.RowKit
set_option linter.unusedVariables false
theorem But.grK {w w' : World} {q : Nat} (h : But q w w') : w.grownBy w' (some q) := ⟨h.1, h.2.1, h.2.2.1, h.2.2.2.1, fun k hk hp => h.2.2.2.2 k hk (fun e => hp (by rw [e]))⟩
def SrcK (w : World) (a : Option Addr) (m : Nat) (F : Nat → Value) (L : Nat) : Prop := m = 0 ∨ ∃ b off, a = some ⟨b, off, none⟩ ∧ b < L ∧ Cs w b off m F
theorem SrcK.src {w : World} {a : Option Addr} {m L : Nat} {F : Nat → Value} (h : SrcK w a m F L) : SrcC w a m F := by
 rcases h with h | ⟨b, off, h1, _, h2⟩
 ·exact .inl h
 ·exact .inr ⟨b, off, h1, h2⟩
theorem SrcK.below {w w' : World} {a : Option Addr} {m L : Nat} {F : Nat → Value} (h : SrcK w a m F L) (hb : Below w.heap.size w w') : SrcK w' a m F L := by
 rcases h with h | ⟨b, off, h1, h3, h2⟩
 ·exact .inl h
 ·exact .inr ⟨b, off, h1, h3, h2.below hb h2.1⟩
theorem Cs.kept {w w' : World} {o : Option Nat} {b off N : Nat} {F : Nat → Value} (h : Cs w b off N F) (hg : w.grownBy w' o) (hne : some b ≠ o) : Cs w' b off N F :=
 ⟨Nat.lt_of_lt_of_le h.1 hg.size, fun j hj => by
  have := hg.block b h.1 hne
  have q := h.2 j hj
  simp only [World.cell?] at q ⊢
  rw [this]; exact q⟩
theorem SrcK.kept {w w' : World} {o : Option Nat} {a : Option Addr} {m L : Nat} {F : Nat → Value} (h : SrcK w a m F L) (hg : w.grownBy w' o) (hne : ∀ b, b < L → some b ≠ o) : SrcK w' a m F L := by
 rcases h with h | ⟨b, off, h1, h3, h2⟩
 ·exact .inl h
 ·exact .inr ⟨b, off, h1, h3, h2.kept hg (hne b h3)⟩
theorem cell_grown {w w' : World} {o : Option Nat} {b i : Nat} (hg : w.grownBy w' o) (hb : b < w.heap.size) (hne : some b ≠ o) : w'.cell? ⟨b, i, none⟩ = w.cell? ⟨b, i, none⟩ := by
 have := hg.block b hb hne
 simp only [World.cell?]
 rw [this]
theorem bel_grown {w w' : World} (h : Below w.heap.size w w') : w.grownBy w' none := ⟨h.os, h.tape, h.output, h.size, fun k hk _ => h.block k hk⟩
theorem grown_belowK {w w' : World} {base : Nat} {e : TypeId} {size : Nat} {v : Value} {n : Nat} {xs : List Value} (h : w.ownsRow base e size v n xs) (hg : w.grownBy w' v.ownBlock) (hs : base ≤ w.heap.size) : Below base w w' :=
 ⟨hg.os, hg.tape, hg.output, hg.size, fun k hk => hg.block k (by omega) (fun he => by have := (World.ownsRow.lt h k he.symm).1; omega)⟩
def MFInt (f : Nat → Int) (c : Nat) : Value := .int .i64 (f c)
def mkInt (q : Int) (c : Nat) : Value := .int .i64 (q + (c : Int))
set_option maxHeartbeats 1000000 in
theorem markIntS_row (b N n c : Nat) (q0 : Int) (w : World) (hn : n ≤ 1048576) (hq : 0 < q0) (hq1 : q0 ≤ 1073741824) (hN : n ≤ N) (h : RowF w b 3 N 0 (mkInt q0)) :
 Calls Tryz.prog 29 #[.slice (some ⟨b, 0, none⟩) n c, .int .i64 q0] w fun e w' => e = .returned (.int .i64 (q0 + (n : Int))) ∧ RowF w' b 3 N n (mkInt q0) ∧ But b w w' := by
 go_enter Tryz.func29, Tryz.ntmps29
 go_wp2_with fail
 go_loopw [1, 5] (fun q i wr => ∃ (k : Nat) (Q : Int), k ≤ n ∧ i = .int .i64 k ∧ q = .int .i64 Q ∧ Q = q0 + (k : Int) ∧ RowF wr b 3 N k (mkInt q0) ∧ But b w wr) (fun _ i _ => n - (intOf i).toNat)
 case atStart => exact ⟨0, q0, Nat.zero_le _, rfl, rfl, by omega, h, But.refl _ _⟩
 case round =>
  obtain ⟨k, Q, hk, rfl, rfl, hQ, row, hB⟩ := hrel
  clear h
  have HQ : Hid (Q = q0 + (k : Int)) := hQ
  by_cases hlt : k < n
  ·have hli : (k : Int) < (n : Int) := by omega
   have Q0 : 0 < Q := by omega
   have Q1 : Q ≤ 1073741824 + 1048576 := by omega
   clear hQ
   obtain ⟨⟨v1, e1⟩, f1⟩ := row.facts k (by omega)
   have l1 := row.lt
   go_wp2_with fail
   go_roundw
   case rel => exact ⟨k + 1, _, by omega, by go_num, rfl, by have := HQ.out; omega, row.put (k + 1) rfl (by rw [mkInt, ← HQ.out]), hB.setCell _ _⟩
   case measure => simp [intOf]; omega
  ·have hkn : k = n := by omega
   subst hkn
   have hli : ¬ (k : Int) < (k : Int) := by omega
   subst hQ
   go_wp2_with fail
   go_ret
   exact ⟨rfl, row, hB⟩
set_option maxHeartbeats 400000 in
theorem markIntS_zero (a : Option Addr) (c : Nat) (q0 : Int) (w : World) :
 Calls Tryz.prog 29 #[.slice a 0 c, .int .i64 q0] w fun e w' => e = .returned (.int .i64 q0) ∧ w = w' := by
 go_enter Tryz.func29, Tryz.ntmps29
 go_wp2_with fail
 go_loopw [1, 5] (fun q i wr => i = .int .i64 0 ∧ q = .int .i64 q0 ∧ w = wr) (fun _ i _ => 0)
 case atStart => exact ⟨rfl, rfl, by first | rfl | trivial⟩
 case round =>
  obtain ⟨rfl, rfl, rfl⟩ := hrel
  go_wp2_with fail
  go_ret
  exact ⟨rfl, rfl⟩
abbrev VT : Type := Int × Int
def zV : VT := (0, 0)
def MCIval (M : VT) : Nat → Value
 | 0 => .int .i64 M.1
 | _ => .int .i64 M.2
def MFIval (M : Nat → VT) (c : Nat) : Value := MCIval (M (c / 2)) (c % 2)
theorem MFIval_at (M : Nat → VT) (k j : Nat) (hj : j < 2) : MFIval M (k * 2 + j) = MCIval (M k) j := by
 have h1 : (k * 2 + j) / 2 = k := by omega
 have h2 : (k * 2 + j) % 2 = j := by omega
 rw [MFIval, h1, h2]
theorem MFIval_vals {M : Nat → VT} {k : Nat} {x0 : Int} {x1 : Int} (hM : M k = (x0, x1)) : MFIval M (k * 2) = .int .i64 x0 ∧ MFIval M (k * 2 + 1) = .int .i64 x1 :=
 ⟨by have q := MFIval_at M k 0 (by decide); rw [hM] at q; exact q, by have q := MFIval_at M k 1 (by decide); rw [hM] at q; exact q⟩
theorem Cs.elIval {w : World} {b off n k : Nat} {M : Nat → VT} {x0 : Int} {x1 : Int} (h : Cs w b off (n * 2) (MFIval M)) (hk : k < n) (hM : M k = (x0, x1)) : w.cell? ⟨b, off + k * 2, none⟩ = some (.int .i64 x0) ∧ w.cell? ⟨b, off + k * 2 + 1, none⟩ = some (.int .i64 x1) := by
 obtain ⟨q0, q1⟩ := MFIval_vals hM
 exact ⟨by have := h.2 (k * 2) (by omega); rw [q0] at this; exact this, by have := h.2 (k * 2 + 1) (by omega); rw [q1] at this; exact this⟩
theorem tupIval (M : Nat → VT) (k : Nat) : ∃ (x0 : Int) (x1 : Int), M k = (x0, x1) := ⟨_, _, rfl⟩
def mkIval (q : Int) (c : Nat) : Value := .int .i64 (q + (c : Int))
theorem mkIval_i {q : Int} {k j : Nat} {x : Int} (h : x = q + ((k * 2 + j : Nat) : Int)) : mkIval q (k * 2 + j) = .int .i64 x := by rw [mkIval, h]
theorem markPeerS_own (a : Option Addr) (n c base : Nat) (q0 : Int) (xs : List Value) (w : World) (hn : n ≤ 1048576) (hq : 0 < q0) (hq1 : q0 ≤ 1073741824) (h : w.ownsRow base 157 5 (.slice a n c) n xs) :
 Calls Tryz.prog 119 #[.slice a n c, .int .i64 q0] w fun e w' => e = .returned (.int .i64 (q0 + (n : Int) * 5)) ∧ SrcC w' a (n * 5) (mkPeer q0) ∧ w.grownBy w' (Value.slice a n c).ownBlock := by
 rcases h.2 with ⟨he, h0⟩ | ⟨g, cap, cur, he, _⟩
 ·simp at he
  obtain ⟨rfl, rfl, rfl⟩ := he
  exact (markPeerS_zero none 0 q0 w).mono fun e w' ⟨h1, h2⟩ => ⟨by rw [h1]; simp, .inl (by omega), h2 ▸ bel_grown (Below.refl _ _)⟩
 ·simp at he
  obtain ⟨rfl, rfl⟩ := he
  obtain ⟨h1, h2, _, h3⟩ := ownF_row (mkPeer q0) h
  exact (markPeerS_row g (c * 5) n c q0 w hn hq hq1 (Nat.mul_le_mul_right _ h2) h3).mono fun e w' ⟨r1, r2, r3⟩ => ⟨r1, .inr ⟨g, 0, rfl, r2.cs (Nat.mul_le_mul_right _ h2)⟩, r3.grK⟩
def gI (L : List Int) (i : Nat) : Int := L.getD i 0
def irow (L : List Int) : List Value := (List.range (L.length * 1)).map (MFInt (gI L))
theorem gI_old {L : List Int} {p : Int} {i : Nat} (h : i < L.length) : gI (L ++ [p]) i = gI L i := by rw [gI, gI, List.getD_eq_getElem?_getD, List.getD_eq_getElem?_getD, List.getElem?_append_left h]
theorem gI_new (L : List Int) (p : Int) : gI (L ++ [p]) L.length = p := by rw [gI, List.getD_eq_getElem?_getD, List.getElem?_append_right (Nat.le_refl _), Nat.sub_self]; rfl
theorem irow_snoc (L : List Int) (p : Int) : irow (L ++ [p]) = irow L ++ [.int .i64 p] := by
 rw [irow, List.length_append, show [p].length = 1 from rfl, mapF_add, irow]
 congr 1
 ·refine List.map_congr_left fun c hc => ?_
  have hc' : c < L.length * 1 := List.mem_range.1 hc
  show Value.int .i64 (gI (L ++ [p]) c) = .int .i64 (gI L c)
  rw [gI_old (by omega)]
 ·show [Value.int .i64 (gI (L ++ [p]) (L.length * 1 + 0))] = [.int .i64 p]
  rw [Nat.mul_one, Nat.add_zero, gI_new]
def gV (L : List VT) (i : Nat) : VT := L.getD i zV
def vrow (L : List VT) : List Value := (List.range (L.length * 2)).map (MFIval (gV L))
def gP (L : List PT) (i : Nat) : PT := L.getD i zP
def prow (L : List PT) : List Value := (List.range (L.length * 5)).map (MFPeer (gP L))
end Go.Proofs.YtddijpjgkifngaaGreat
namespace Go.Proofs.YtddijpjgkifngaaGreat
open Go.RowKit
set_option linter.unusedVariables false
abbrev SlT : Type := Int × Int
def zSl : SlT := (0, 0)
def lnB (l : Int) : Bool := decide (1 ≤ l ∧ l ≤ 1000000)
def slB (o l : Int) : Bool := nodB o && lnB l
def slA (M : Nat → SlT) : Nat → Bool
 | 0 => true
 | j + 1 => slA M j && slB (M j).1 (M j).2
def gpB (g : Int) : Bool := decide (0 ≤ g ∧ g ≤ 100000)
def cnB (n : Nat) : Bool := decide (1 ≤ (n : Int) ∧ (n : Int) ≤ 12)
def plB (s g : Int) (M : Nat → SlT) (n : Nat) : Bool := okT s && (gpB g && (cnB n && slA M n))
theorem slA_no {M : Nat → SlT} {k n : Nat} (h : slA M (k + 1) = false) (hk : k < n) : slA M n = false := by
 induction n with
 | zero => omega
 | succ n ih =>
  by_cases e : k = n
  ·subst e; exact h
  ·rw [slA, ih (by omega)]; rfl
end Go.Proofs.YtddijpjgkifngaaGreat
namespace Go.Proofs.YtddijpjgkifngaaGreat
open Go.RowKit
set_option linter.unusedVariables false
abbrev FrT : Type := Int × Int × Int × Int × Int × ByteArray
def zFr : FrT := (0, 0, 0, 0, 0, ⟨#[]⟩)
def frB (x0 x1 x2 x3 x4 : Int) (x5 : ByteArray) : Bool := nodB x0 && (decide (0 ≤ x1 ∧ x1 ≤ 15) && (decide (0 ≤ x2 ∧ x2 ≤ 1000000000000) && (decide (0 ≤ x3) && (decide (x3 < x4) && (decide (x4 ≤ 1000000000000) && decide (x5.size ≤ 24))))))
def fSt (M : FrT) : Int := M.2.2.2.1
def fEn (M : FrT) : Int := M.2.2.2.2.1
def frM (M : FrT) : Bool := frB M.1 M.2.1 M.2.2.1 M.2.2.2.1 M.2.2.2.2.1 M.2.2.2.2.2
def buA (M : Nat → FrT) : Nat → Bool
 | 0 => true
 | j + 1 => buA M j && (frM (M j) && (decide (j = 0) || !decide (fSt (M j) < fSt (M (j - 1)))))
def buB (M : Nat → FrT) (n : Nat) : Bool := decide (n ≤ 60) && buA M n
theorem buA_no {M : Nat → FrT} {k n : Nat} (h : buA M (k + 1) = false) (hk : k < n) : buA M n = false := by
 induction n with
 | zero => omega
 | succ n ih =>
  by_cases e : k = n
  ·subst e; exact h
  ·rw [buA, ih (by omega)]; rfl
theorem frM_t {M : FrT} (h : frM M = true) : (0 ≤ M.1 ∧ M.1 ≤ 7) ∧ (0 ≤ M.2.1 ∧ M.2.1 ≤ 15) ∧ (0 ≤ M.2.2.1 ∧ M.2.2.1 ≤ 1000000000000) ∧ 0 ≤ fSt M ∧ fSt M < fEn M ∧ fEn M ≤ 1000000000000 ∧ M.2.2.2.2.2.size ≤ 24 := by
 unfold frM frB nodB at h
 simp at h
 unfold fSt fEn
 omega
def Box6 (w : World) (j : Nat) (x0 x1 x2 x3 x4 : Int) (x5 : ByteArray) : Prop := j < w.heap.size ∧ w.cell? ⟨j, 0, none⟩ = some (.int .i64 x0) ∧ w.cell? ⟨j, 1, none⟩ = some (.int .i64 x1) ∧ w.cell? ⟨j, 2, none⟩ = some (.int .i64 x2) ∧ w.cell? ⟨j, 3, none⟩ = some (.int .i64 x3) ∧ w.cell? ⟨j, 4, none⟩ = some (.int .i64 x4) ∧ w.cell? ⟨j, 5, none⟩ = some (.string x5)
theorem Box6.belowB {j B : Nat} {w w' : World} {x0 x1 x2 x3 x4 : Int} {x5 : ByteArray} (h : Box6 w j x0 x1 x2 x3 x4 x5) (hw : Below B w w') (hk : j < B) : Box6 w' j x0 x1 x2 x3 x4 x5 := by
 obtain ⟨h0, h1, h2, h3, h4, h5, h6⟩ := h
 exact ⟨Nat.lt_of_lt_of_le h0 hw.size, by rw [hw.cell (p := ⟨j, 0, none⟩) hk]; exact h1, by rw [hw.cell (p := ⟨j, 1, none⟩) hk]; exact h2, by rw [hw.cell (p := ⟨j, 2, none⟩) hk]; exact h3, by rw [hw.cell (p := ⟨j, 3, none⟩) hk]; exact h4, by rw [hw.cell (p := ⟨j, 4, none⟩) hk]; exact h5, by rw [hw.cell (p := ⟨j, 5, none⟩) hk]; exact h6⟩
theorem Box6.below {j : Nat} {w w' : World} {x0 x1 x2 x3 x4 : Int} {x5 : ByteArray} (h : Box6 w j x0 x1 x2 x3 x4 x5) (hw : Below w.heap.size w w') : Box6 w' j x0 x1 x2 x3 x4 x5 := h.belowB hw h.1
theorem Box6.new (w : World) (x0 x1 x2 x3 x4 : Int) (x5 : ByteArray) (T : TypeId) : Box6 (w.alloc (.cells #[.int .i64 x0, .int .i64 x1, .int .i64 x2, .int .i64 x3, .int .i64 x4, .string x5] T)) w.heap.size x0 x1 x2 x3 x4 x5 := ⟨by simp, by simp, by simp, by simp, by simp, by simp, by simp⟩
set_option maxHeartbeats 1000000 in
theorem szFrame_left (x0 x1 x2 x3 x4 : Int) (x5 : ByteArray) (L : Int) (w : World) (hs : x5.size ≤ maxLen) (L0 : 0 ≤ L) (L1 : L ≤ 1048576) :
 Calls Tryz.prog 81 #[.agg #[.int .i64 x0, .int .i64 x1, .int .i64 x2, .int .i64 x3, .int .i64 x4, .string x5], .int .i64 L] w fun e w' => e = .returned (.int .i64 (if (x5.size : Int) ≤ L then L - (x5.size : Int) else -1)) ∧ Below w.heap.size w w' := by
 unfold maxLen at hs
 have B0 := Below.nw w (.cells #[.int .i64 x0, .int .i64 x1, .int .i64 x2, .int .i64 x3, .int .i64 x4, .string x5] 145)
 by_cases h : (x5.size : Int) ≤ L
 ·rw [if_pos h]
  have hd : decide (L - (x5.size : Int) < 0) = false := by simp; omega
  go_enter Tryz.func81, Tryz.ntmps81
  go_wp2
  go_ret
  exact ⟨rfl, B0⟩
 ·rw [if_neg h]
  have hd : decide (L - (x5.size : Int) < 0) = true := by simp; omega
  go_enter Tryz.func81, Tryz.ntmps81
  go_wp2
  go_ret
  exact ⟨rfl, B0⟩
set_option maxHeartbeats 2000000 in
theorem toFrame_any (x0 x1 x2 x3 x4 : Int) (x5 : ByteArray) (w : World) :
 Calls Tryz.prog 97 #[.agg #[.int .i64 x0, .int .i64 x1, .int .i64 x2, .int .i64 x3, .int .i64 x4, .string x5]] w fun e w' => e = .returned (.agg #[.int .i64 x0, .int .i64 x1, .int .i64 x2, .int .i64 x3, .int .i64 x4, .string x5]) ∧ Below w.heap.size w w' := by
 go_enter Tryz.func97, Tryz.ntmps97
 go_wp2_with fail
 exact bodyPost_ret (v := .agg #[.int .i64 x0, .int .i64 x1, .int .i64 x2, .int .i64 x3, .int .i64 x4, .string x5]) (by simp (maxDischargeDepth := 6) [results, Tryz.results97, go_sem, *]) rfl ⟨rfl, by repeat (first | exact Below.refl _ _ | refine Below.drew ?_ | refine Below.alloc ?_ (by first | (simp; done) | (simp; omega) | omega) _ | refine Below.setCell ?_ (by first | (simp; done) | (simp; omega) | omega) _ | refine Below.trans ?_ (Below.mono (by assumption) (by first | (simp; done) | (simp; omega) | omega)))⟩
set_option maxHeartbeats 2000000 in
theorem eqFrame_same (x0 x1 x2 x3 x4 : Int) (x5 : ByteArray) (w : World) :
 Calls Tryz.prog 105 #[.agg #[.int .i64 x0, .int .i64 x1, .int .i64 x2, .int .i64 x3, .int .i64 x4, .string x5], .agg #[.int .i64 x0, .int .i64 x1, .int .i64 x2, .int .i64 x3, .int .i64 x4, .string x5]] w fun e w' => e = .returned (.bool true) ∧ Below w.heap.size w w' := by
 go_enter Tryz.func105, Tryz.ntmps105
 go_wp2_with fail
 go_ret
 exact ⟨rfl, by repeat (first | exact Below.refl _ _ | refine Below.drew ?_ | refine Below.alloc ?_ (by first | (simp; done) | (simp; omega) | omega) _ | refine Below.setCell ?_ (by first | (simp; done) | (simp; omega) | omega) _ | refine Below.trans ?_ (Below.mono (by assumption) (by first | (simp; done) | (simp; omega) | omega)))⟩
end Go.Proofs.YtddijpjgkifngaaGreat
