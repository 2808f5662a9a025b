/- Contracts of Fold and Unfold, and the walks of their exact laws. Contr -/
import Derived.Deep.DeepCutAuto
import Derived.Test.YtikbjljkakabdaaGreatMB2
import Derived.Test.YtikbjljkakabdaaGreatMB3
namespace Go.Proofs.YtikbjljkakabdaaGreat
open Go.RowKit
set_option linter.unusedVariables false
set_option maxRecDepth 100000
set_option maxHeartbeats 16000000
theorem aC (x l h : Int) (w : World) :
 Calls Tryz.prog 113 #[.int .i64 x, .int .i64 l, .int .i64 h] w fun e w' => e = .returned (.bool (decide (l ≤ x ∧ x ≤ h))) ∧ w = w' := by
 go_enter Tryz.func113, Tryz.ntmps113
 go_wp2
 all_goals go_ret
 all_goals exact ⟨ab (by rw [Bool.eq_iff_iff]; simp; try omega), rfl⟩
def bX (n : Int) : Bool := decide (0 ≤ n ∧ n ≤ 7)
theorem bj (n : Int) (w : World) :
 Calls Tryz.prog 160 #[.int .i64 n] w fun e w' => e = .returned (.bool (bX n)) ∧ w = w' := by
 go_enter Tryz.func160, Tryz.ntmps160
 go_wp2
 all_goals go_ret
 all_goals exact ⟨ab (by rw [Bool.eq_iff_iff]; simp [bX]; try omega), rfl⟩
theorem aM (n : Int) (w : World) :
 Calls Tryz.prog 143 #[.int .i64 n] w fun e w' => e = .returned (.bool (bX n)) ∧ w = w' := by
 go_enter Tryz.func143, Tryz.ntmps143
 go_wp2_with (first | (go_at_call 113; refine (aC _ _ _ _).mono ?_; rintro e w' ⟨rfl, rfl⟩))
 go_ret
 exact ⟨ab (by simp [bX]), rfl⟩
def fF (w : World) (j : Nat) (k fr tuu no lo hi sl : Int) (s : ByteArray) : Prop := j < w.heap.size ∧ w.cell? ⟨j, 0, none⟩ = some (.int .i64 k) ∧ w.cell? ⟨j, 1, none⟩ = some (.int .i64 fr) ∧ w.cell? ⟨j, 2, none⟩ = some (.int .i64 tuu) ∧ w.cell? ⟨j, 3, none⟩ = some (.int .i64 no) ∧ w.cell? ⟨j, 4, none⟩ = some (.int .i64 lo) ∧ w.cell? ⟨j, 5, none⟩ = some (.int .i64 hi) ∧ w.cell? ⟨j, 6, none⟩ = some (.int .i64 sl) ∧ w.cell? ⟨j, 7, none⟩ = some (.string s)
theorem fF.belowB {j B : Nat} {w w' : World} {k fr tuu no lo hi sl : Int} {s : ByteArray} (h : fF w j k fr tuu no lo hi sl s) (hw : Below B w w') (hk : j < B) : fF w' j k fr tuu no lo hi sl s := by
 obtain ⟨h0, h1, h2, h3, h4, h5, h6, h7, h8⟩ := h
 exact ⟨Nat.lt_of_lt_of_le h0 hw.size, by rw [hw.cell (p := ⟨j, 0, none⟩) hk]; exact h1, by rw [hw.cell (p := ⟨j, 1, none⟩) hk]; exact h2, by rw [hw.cell (p := ⟨j, 2, none⟩) hk]; exact h3, by rw [hw.cell (p := ⟨j, 3, none⟩) hk]; exact h4, by rw [hw.cell (p := ⟨j, 4, none⟩) hk]; exact h5, by rw [hw.cell (p := ⟨j, 5, none⟩) hk]; exact h6, by rw [hw.cell (p := ⟨j, 6, none⟩) hk]; exact h7, by rw [hw.cell (p := ⟨j, 7, none⟩) hk]; exact h8⟩
theorem fF.below {j : Nat} {w w' : World} {k fr tuu no lo hi sl : Int} {s : ByteArray} (h : fF w j k fr tuu no lo hi sl s) (hw : Below w.heap.size w w') : fF w' j k fr tuu no lo hi sl s := h.belowB hw h.1
theorem fF.new (w : World) (k fr tuu no lo hi sl : Int) (s : ByteArray) (T : TypeId) : fF (w.alloc (.cells #[.int .i64 k, .int .i64 fr, .int .i64 tuu, .int .i64 no, .int .i64 lo, .int .i64 hi, .int .i64 sl, .string s] T)) w.heap.size k fr tuu no lo hi sl s := ⟨by simp, by simp, by simp, by simp, by simp, by simp, by simp, by simp, by simp⟩
def pOk (M : PT) : Bool := bX M.1 && okI M.2.1 M.2.2.1 && okT M.2.2.2.1
def prv (M : Nat → PT) : Nat → Int
 | 0 => -1
 | k + 1 => (M k).1
def elP (M : Nat → PT) (k : Nat) : Bool := pOk (M k) && decide (prv M k < (M k).1)
def oks (M : Nat → PT) : Nat → Bool
 | 0 => true
 | k + 1 => oks M k && elP M k
theorem lf {M : Nat → PT} {k : Nat} (h : oks M k = true) (h2 : elP M k = true) : oks M (k + 1) = true := by rw [oks, h, h2]; rfl
theorem mG {M : Nat → PT} {k : Nat} (h : elP M k = false) : ∀ n, k < n → oks M n = false
 | 0, hk => absurd hk (Nat.not_lt_zero _)
 | n + 1, hk => by
  rw [oks]
  by_cases e : k = n
  ·subst e; rw [h]; simp
  ·rw [mG h n (by omega)]; rfl
theorem eD {M : Nat → PT} : ∀ {n : Nat}, oks M n = true → ∀ k, k < n → elP M k = true
 | 0, _, k, hk => absurd hk (Nat.not_lt_zero _)
 | n + 1, h, k, hk => by
  rw [oks, Bool.and_eq_true] at h
  by_cases e : k = n
  ·subst e; exact h.2
  ·exact eD h.1 k (by omega)
theorem gp {x : Int} (h : bX x = true) : 0 ≤ x ∧ x ≤ 7 := of_decide_eq_true h
theorem kb {M : Nat → PT} {k : Nat} (h : elP M k = true) : pOk (M k) = true ∧ prv M k < (M k).1 := by simpa [elP] using h
theorem qC {m : PT} (h : pOk m = true) : bX m.1 = true ∧ okI m.2.1 m.2.2.1 = true ∧ okT m.2.2.2.1 = true := by
 unfold pOk at h
 simp only [Bool.and_eq_true] at h
 exact ⟨h.1.1, h.1.2, h.2⟩
theorem qv {M : Nat → PT} {n : Nat} (h : oks M n = true) : ∀ k, k < n → (k : Int) ≤ (M k).1
 | 0, hk => by
  have := gp (qC (kb (eD h 0 hk)).1).1
  omega
 | k + 1, hk => by
  have h1 := qv h k (by omega)
  have h2 : (M k).1 < (M (k + 1)).1 := (kb (eD h (k + 1) hk)).2
  omega
theorem dh {M : Nat → PT} {n : Nat} (h : oks M n = true) : n ≤ 8 := by
 by_cases hn : n ≤ 8
 ·exact hn
 ·have h1 := qv h (n - 1) (by omega)
  have h2 := gp (qC (kb (eD h (n - 1) (by omega))).1).1
  omega
theorem qw {M : Nat → PT} {n : Nat} (h : ¬ n ≤ 8) : oks M n = false := by
 cases e : oks M n
 ·rfl
 ·exact absurd (dh e) h
theorem fu {M : Nat → PT} {n : Nat} (h : oks M n = true) {i : Nat} : ∀ {j : Nat}, i < j → j < n → (M i).1 < (M j).1
 | 0, hij, _ => absurd hij (Nat.not_lt_zero _)
 | j + 1, hij, hj => by
  have h2 : (M j).1 < (M (j + 1)).1 := (kb (eD h (j + 1) hj)).2
  by_cases e : i = j
  ·subst e; exact h2
  ·exact Int.lt_trans (fu h (by omega) (by omega)) h2
theorem ob {M : Nat → PT} {n : Nat} (h : oks M n = true) {k : Nat} (hk : k < n) : bX (M k).1 = true ∧ okI (M k).2.1 (M k).2.2.1 = true ∧ okT (M k).2.2.2.1 = true := qC (kb (eD h k hk)).1
theorem dQ (x0 x1 x2 x3 : Int) (x4 : Bool) (w : World) :
 Calls Tryz.prog 202 #[.agg #[.int .i64 x0, .int .i64 x1, .int .i64 x2, .int .i64 x3, .bool x4]] w fun e w' => e = .returned (.bool (pOk (x0, x1, x2, x3, x4))) ∧ Below w.heap.size w w' := by
 have HB : Hid (pOk (x0, x1, x2, x3, x4) = (bX x0 && okI x1 x2 && okT x3)) := rfl
 have A0 := Below.nw w (.cells #[.int .i64 x0, .int .i64 x1, .int .i64 x2, .int .i64 x3, .bool x4] 154)
 cases h1 : bX x0
 ·go_enter Tryz.func202, Tryz.ntmps202
  go_wp2_with fail
  refine (bj _ _).mono ?_
  rintro e w' ⟨rfl, rfl⟩
  rw [h1]
  go_wp2_with fail
  go_ret
  exact ⟨ab (by rw [HB.out, h1]; rfl), A0⟩
 ·have P := Bx5.new w (.int .i64 x0) (.int .i64 x1) (.int .i64 x2) (.int .i64 x3) (.bool x4) 154
  cases h2 : okI x1 x2
  ·go_enter Tryz.func202, Tryz.ntmps202
   go_wp2_with fail
   refine (bj _ _).mono ?_
   rintro e w' ⟨rfl, rfl⟩
   rw [h1]
   go_wp2_with fail
   refine (bB _ _ _).mono ?_
   rintro e w1 ⟨rfl, hb⟩
   rw [h2]
   have A1 := A0.trans (hb.mono A0.size)
   clear hb
   go_wp2_with fail
   go_ret
   exact ⟨ab (by rw [HB.out, h2]; simp), A1⟩
  ·go_enter Tryz.func202, Tryz.ntmps202
   go_wp2_with fail
   refine (bj _ _).mono ?_
   rintro e w' ⟨rfl, rfl⟩
   rw [h1]
   go_wp2_with fail
   refine (bB _ _ _).mono ?_
   rintro e w1 ⟨rfl, hb⟩
   rw [h2]
   have A1 := A0.trans (hb.mono A0.size)
   obtain ⟨k9, k0, k1, k2, k3, k4, f0, f1, f2, f3, f4⟩ := P.below hb
   clear hb P
   go_wp2_with fail
   refine (aD _ _).mono ?_
   rintro e w' ⟨rfl, rfl⟩
   go_wp2_with fail
   go_ret
   exact ⟨ab (by rw [HB.out, h1, h2]; simp), A1⟩
theorem ey (b off n c : Nat) (M : Nat → PT) (w : World) (hn : n ≤ maxLen) (hf : Cs w b off (n * 5) (am M)) :
 Calls Tryz.prog 179 #[.slice (some ⟨b, off, none⟩) n c] w fun e w' => e = .returned (.bool (oks M n)) ∧ Below w.heap.size w w' := by
 unfold maxLen at hn
 go_enter Tryz.func179, Tryz.ntmps179
 go_wp2_with fail
 go_loopw [3, 8] (fun l i wr => ∃ k : Nat, k ≤ n ∧ i = .int .i64 k ∧ l = .int .i64 (prv M k) ∧ oks M k = true ∧ Below w.heap.size w wr) (fun _ i _ => n - (intOf i).toNat)
 case atStart => exact ⟨0, Nat.zero_le _, rfl, rfl, rfl, Below.refl _ _⟩
 case round =>
  obtain ⟨k, hk, rfl, rfl, hok, hB⟩ := hrel
  have HOK : Hid (oks M k = true) := hok
  clear hok
  by_cases hlt : k < n
  ·obtain ⟨x0, x1, x2, x3, x4, hM⟩ := bu M k
   obtain ⟨c0, c1, c2, c3, c4⟩ := (hf.below hB hf.1).elPeer hlt hM
   have hli : (k : Int) < (n : Int) := by omega
   have HEL : Hid (elP M k = (pOk (x0, x1, x2, x3, x4) && decide (prv M k < x0))) := by rw [Hid, elP, hM]
   have HPV : Hid (prv M (k + 1) = x0) := by rw [Hid, prv, hM]
   have HNO : Hid (elP M k = false → oks M n = false) := fun h => mG h n hlt
   have hbr : b < wr.heap.size := Nat.lt_of_lt_of_le hf.1 hB.size
   clear hM
   have A1 := Below.nw wr (.cells #[.int .i64 x0, .int .i64 x1, .int .i64 x2, .int .i64 x3, .bool x4] 154)
   have K := Bx5.new wr (.int .i64 x0) (.int .i64 x1) (.int .i64 x2) (.int .i64 x3) (.bool x4) 154
   have B1 := hB.trans (A1.mono hB.size)
   generalize prv M k = pl at *
   go_upto_region 5 with fail
   clear c0 c1 c2 c3 c4
   generalize hbk : wr.heap.size = bk at *
   generalize wr.alloc (.cells #[.int .i64 x0, .int .i64 x1, .int .i64 x2, .int .i64 x3, .bool x4] 154) = w1 at *
   clear A1
   obtain ⟨k9, k0, k1, k2, k3, k4, f0, f1, f2, f3, f4⟩ := id K
   cases h1 : pOk (x0, x1, x2, x3, x4)
   ·have HB' : Hid (oks M n = false) := HNO.out (by rw [HEL.out, h1]; rfl)
    go_wp2_with fail
    refine (dQ _ _ _ _ _ _).mono ?_
    rintro e w2 ⟨rfl, hb⟩
    rw [h1]
    have B2 := B1.trans (hb.mono B1.size)
    clear hb k0 k1 k2 k3 k4 f0 f1 f2 f3 f4
    go_wp2_with fail
    go_ret
    exact ⟨ab HB'.out.symm, B2⟩
   ·by_cases h2 : x0 ≤ pl
    ·have HB' : Hid (oks M n = false) := HNO.out (by rw [HEL.out, h1]; simp; omega)
     go_wp2_with fail
     refine (dQ _ _ _ _ _ _).mono ?_
     rintro e w2 ⟨rfl, hb⟩
     rw [h1]
     have B2 := B1.trans (hb.mono B1.size)
     clear k9 k0 k1 k2 k3 k4 f0 f1 f2 f3 f4
     obtain ⟨k9, k0, k1, k2, k3, k4, f0, f1, f2, f3, f4⟩ := K.below hb
     clear hb
     go_wp2_with fail
     go_ret
     exact ⟨ab HB'.out.symm, B2⟩
    ·have HST : Hid (oks M (k + 1) = true) := lf HOK.out (by rw [HEL.out, h1]; simp; omega)
     go_wp2_with fail
     refine (dQ _ _ _ _ _ _).mono ?_
     rintro e w2 ⟨rfl, hb⟩
     rw [h1]
     have B2 := B1.trans (hb.mono B1.size)
     clear k9 k0 k1 k2 k3 k4 f0 f1 f2 f3 f4
     obtain ⟨k9, k0, k1, k2, k3, k4, f0, f1, f2, f3, f4⟩ := K.below hb
     clear hb
     go_wp2_with fail
     go_roundw
     case rel => exact ⟨k + 1, by omega, by go_num, by rw [HPV.out], HST.out, B2⟩
     case measure => simp [intOf]; omega
  ·have hkn : k = n := by omega
   subst hkn
   have hli : ¬ (k : Int) < (k : Int) := by omega
   generalize prv M k = pl at *
   go_wp2_with fail
   go_ret
   exact ⟨ab HOK.out.symm, hB⟩
theorem ez (a : Option Addr) (c : Nat) (M : Nat → PT) (w : World) :
 Calls Tryz.prog 179 #[.slice a 0 c] w fun e w' => e = .returned (.bool (oks M 0)) ∧ Below w.heap.size w w' := by
 go_enter Tryz.func179, Tryz.ntmps179
 go_wp2_with fail
 go_loopw [3, 8] (fun l i wr => l = .int .i64 (-1) ∧ i = .int .i64 0 ∧ w = wr) (fun _ i _ => 0)
 case atStart => exact ⟨rfl, rfl, by first | rfl | trivial⟩
 case round =>
  obtain ⟨rfl, rfl, rfl⟩ := hrel
  go_wp2_with fail
  go_ret
  exact ⟨rfl, Below.refl _ _⟩
theorem bG (a : Option Addr) (n c : Nat) (M : Nat → PT) (w : World) (hn : n ≤ maxLen) (h : az w a (n * 5) (am M)) :
 Calls Tryz.prog 179 #[.slice a n c] w fun e w' => e = .returned (.bool (oks M n)) ∧ Below w.heap.size w w' := by
 rcases h with h0 | ⟨b, off, rfl, h2⟩
 ·have hn0 : n = 0 := by omega
  subst hn0
  exact ez a c M w
 ·exact ey b off n c M w hn h2
def tmB (t : Int) : Bool := decide (0 ≤ t ∧ t ≤ 1000000000000)
theorem cG (n : Int) (w : World) :
 Calls Tryz.prog 127 #[.int .i64 n] w fun e w' => e = .returned (.bool (tmB n)) ∧ w = w' := by
 go_enter Tryz.func127, Tryz.ntmps127
 go_wp2
 all_goals go_ret
 all_goals exact ⟨ab (by rw [Bool.eq_iff_iff]; simp [tmB]; try omega), rfl⟩
theorem bL (n : Int) (w : World) :
 Calls Tryz.prog 75 #[.int .i64 n] w fun e w' => e = .returned (.bool (tmB n)) ∧ w = w' := by
 go_enter Tryz.func75, Tryz.ntmps75
 go_wp2_with (first | (go_at_call 113; refine (aC _ _ _ _).mono ?_; rintro e w' ⟨rfl, rfl⟩))
 go_ret
 exact ⟨ab (by simp [tmB]), rfl⟩
def jR (w : World) (j : Nat) (x0 x1 x2 : Int) (x3 : ByteArray) (x4 : Int) : Prop := j < w.heap.size ∧ w.cell? ⟨j, 0, none⟩ = some (.int .i64 x0) ∧ w.cell? ⟨j, 1, none⟩ = some (.int .i64 x1) ∧ w.cell? ⟨j, 2, none⟩ = some (.int .i64 x2) ∧ w.cell? ⟨j, 3, none⟩ = some (.string x3) ∧ w.cell? ⟨j, 4, none⟩ = some (.int .i64 x4)
theorem jR.belowB {j B : Nat} {w w' : World} {x0 x1 x2 : Int} {x3 : ByteArray} {x4 : Int} (h : jR w j x0 x1 x2 x3 x4) (hw : Below B w w') (hk : j < B) : jR w' j x0 x1 x2 x3 x4 := by
 obtain ⟨h0, h1, h2, h3, h4, h5⟩ := h
 exact ⟨Nat.lt_of_lt_of_le h0 hw.size, by rw [hw.cell (p := ⟨j, 0, none⟩) hk]; exact h1, by rw [hw.cell (p := ⟨j, 1, none⟩) hk]; exact h2, by rw [hw.cell (p := ⟨j, 2, none⟩) hk]; exact h3, by rw [hw.cell (p := ⟨j, 3, none⟩) hk]; exact h4, by rw [hw.cell (p := ⟨j, 4, none⟩) hk]; exact h5⟩
theorem jR.below {j : Nat} {w w' : World} {x0 x1 x2 : Int} {x3 : ByteArray} {x4 : Int} (h : jR w j x0 x1 x2 x3 x4) (hw : Below w.heap.size w w') : jR w' j x0 x1 x2 x3 x4 := h.belowB hw h.1
theorem jR.new (w : World) (x0 x1 x2 : Int) (x3 : ByteArray) (x4 : Int) (T : TypeId) : jR (w.alloc (.cells #[.int .i64 x0, .int .i64 x1, .int .i64 x2, .string x3, .int .i64 x4] T)) w.heap.size x0 x1 x2 x3 x4 := ⟨by simp, by simp, by simp, by simp, by simp, by simp⟩
def epB (e : Int) : Bool := decide (0 ≤ e ∧ e ≤ 100000)
def kB (k : Int) : Bool := decide (0 ≤ k ∧ k ≤ 999)
def nnB (e k : Int) : Bool := epB e && kB k
def nnI (e k : Int) : Int := bif nnB e k then e * 1000 + k else 0
def npB (n : Int) : Bool := decide (0 ≤ n ∧ n ≤ 100000999)
def npE (n : Int) : Int := bif npB n then Int.tdiv n 1000 else 0
def npK (n : Int) : Int := bif npB n then Int.tmod n 1000 else 0
theorem np_nn (n : Int) : nnB (Int.tdiv n 1000) (Int.tmod n 1000) = npB n := by
 rw [Bool.eq_iff_iff]
 simp only [nnB, epB, kB, npB, Bool.and_eq_true, decide_eq_true_eq]
 rcases Int.le_total 0 n with h | h
 ·rw [Int.tdiv_eq_ediv_of_nonneg h, Int.tmod_eq_emod_of_nonneg h]; omega
 ·obtain ⟨m, rfl⟩ : ∃ m : Int, n = -m := ⟨-n, by omega⟩
  rw [Int.neg_tdiv, Int.neg_tmod, Int.tdiv_eq_ediv_of_nonneg (by omega), Int.tmod_eq_emod_of_nonneg (by omega)]; omega
theorem bd (n : Int) (w : World) :
 Calls Tryz.prog 199 #[.int .i64 n] w fun e w' => e = .returned (.bool (epB n)) ∧ w = w' := by
 go_enter Tryz.func199, Tryz.ntmps199
 go_wp2
 all_goals go_ret
 all_goals exact ⟨ab (by rw [Bool.eq_iff_iff]; simp [epB]; try omega), rfl⟩
theorem dq (a k : Int) (w : World) :
 Calls Tryz.prog 214 #[.int .i64 a, .int .i64 k] w fun e w' => e = .returned (.tuple #[.int .i64 (nnI a k), .bool (nnB a k)]) ∧ w = w' := by
 cases h1 : epB a
 ·have HB : nnB a k = false := by rw [nnB, h1]; rfl
  have HI : nnI a k = 0 := by rw [nnI, HB]; rfl
  rw [HB, HI]
  go_enter Tryz.func214, Tryz.ntmps214
  go_wp2_with fail
  refine (bd _ _).mono ?_
  rintro e w' ⟨rfl, rfl⟩
  rw [h1]
  go_wp2_with fail
  go_ret2
  exact ⟨rfl, rfl⟩
 ·by_cases h3 : k < 0
  ·have h2 : kB k = false := by simp [kB]; omega
   have HB : nnB a k = false := by rw [nnB, h2, Bool.and_false]
   have HI : nnI a k = 0 := by rw [nnI, HB]; rfl
   rw [HB, HI]
   go_enter Tryz.func214, Tryz.ntmps214
   go_wp2_with fail
   refine (bd _ _).mono ?_
   rintro e w' ⟨rfl, rfl⟩
   rw [h1]
   go_wp2_with fail
   go_ret2
   exact ⟨rfl, rfl⟩
  ·by_cases h4 : 1000 ≤ k
   ·have h2 : kB k = false := by simp [kB]; omega
    have HB : nnB a k = false := by rw [nnB, h2, Bool.and_false]
    have HI : nnI a k = 0 := by rw [nnI, HB]; rfl
    rw [HB, HI]
    go_enter Tryz.func214, Tryz.ntmps214
    go_wp2_with fail
    refine (bd _ _).mono ?_
    rintro e w' ⟨rfl, rfl⟩
    rw [h1]
    go_wp2_with fail
    go_ret2
    exact ⟨rfl, rfl⟩
   ·have h2 : kB k = true := by simp [kB]; omega
    have HB : nnB a k = true := by rw [nnB, h1, h2]; rfl
    have HI : nnI a k = a * 1000 + k := by rw [nnI, HB]; rfl
    rw [HB, HI]
    have g1 : 0 ≤ a ∧ a ≤ 100000 := of_decide_eq_true h1
    have q1 : IntKind.i64.wrap (a * 1000) = a * 1000 := Go.IntWalk.i64_in _ ⟨by omega, by omega⟩
    have q2 : IntKind.i64.wrap (a * 1000 + k) = a * 1000 + k := Go.IntWalk.i64_in _ ⟨by omega, by omega⟩
    clear g1
    go_enter Tryz.func214, Tryz.ntmps214
    go_wp2_with fail
    refine (bd _ _).mono ?_
    rintro e w' ⟨rfl, rfl⟩
    rw [h1]
    go_wp2_with fail
    go_ret2
    exact ⟨rfl, rfl⟩
theorem dR (n : Int) (w : World) :
 Calls Tryz.prog 156 #[.int .i64 n] w fun e w' => e = .returned (.tuple #[.int .i64 (npE n), .int .i64 (npK n), .bool (npB n)]) ∧ w = w' := by
 cases h1 : npB n
 ·have HE : npE n = 0 := by rw [npE, h1]; rfl
  have HK : npK n = 0 := by rw [npK, h1]; rfl
  rw [HE, HK]
  unfold npB at h1
  go_enter Tryz.func156, Tryz.ntmps156
  go_wp2_with fail
  refine (aC _ _ _ _).mono ?_
  rintro e w' ⟨rfl, rfl⟩
  rw [h1]
  go_wp2_with fail
  go_ret3
  exact ⟨rfl, rfl⟩
 ·have HE : npE n = Int.tdiv n 1000 := by rw [npE, h1]; rfl
  have HK : npK n = Int.tmod n 1000 := by rw [npK, h1]; rfl
  rw [HE, HK]
  unfold npB at h1
  have g := of_decide_eq_true h1
  have q1 : IntKind.i64.wrap (Int.tdiv n 1000) = Int.tdiv n 1000 := by rw [Int.tdiv_eq_ediv_of_nonneg g.1]; exact Go.IntWalk.i64_in _ ⟨by omega, by omega⟩
  have q2 : IntKind.i64.wrap (Int.tmod n 1000) = Int.tmod n 1000 := by rw [Int.tmod_eq_emod_of_nonneg g.1]; exact Go.IntWalk.i64_in _ ⟨by omega, by omega⟩
  clear g
  go_enter Tryz.func156, Tryz.ntmps156
  go_wp2_with fail
  refine (aC _ _ _ _).mono ?_
  rintro e w' ⟨rfl, rfl⟩
  rw [h1]
  go_wp2_with fail
  go_ret3
  exact ⟨rfl, rfl⟩
theorem dO (n : Int) (w : World) (hw : (Lit.int .i64 n).wf = true) :
 Calls Tryz.prog 210 #[.int .i64 n] w fun e w' => e = .returned (.tuple #[.int .i64 (npE n), .int .i64 (npK n), .bool (npB n)]) ∧ w = w' := by
 have hr : -9223372036854775808 ≤ n ∧ n ≤ 9223372036854775807 := by simp only [Lit.wf, Bool.and_eq_true, decide_eq_true_eq] at hw; exact hw
 have q1 : IntKind.i64.wrap (Int.tdiv n 1000) = Int.tdiv n 1000 := Go.IntWalk.i64_in _ (by
  rcases Int.le_total 0 n with h | h
  ·rw [Int.tdiv_eq_ediv_of_nonneg h]; exact ⟨by omega, by omega⟩
  ·obtain ⟨m, rfl⟩ : ∃ m : Int, n = -m := ⟨-n, by omega⟩
   rw [Int.neg_tdiv, Int.tdiv_eq_ediv_of_nonneg (by omega)]; exact ⟨by omega, by omega⟩)
 have q2 : IntKind.i64.wrap (Int.tmod n 1000) = Int.tmod n 1000 := Go.IntWalk.i64_in _ (by
  rcases Int.le_total 0 n with h | h
  ·rw [Int.tmod_eq_emod_of_nonneg h]; exact ⟨by omega, by omega⟩
  ·obtain ⟨m, rfl⟩ : ∃ m : Int, n = -m := ⟨-n, by omega⟩
   rw [Int.neg_tmod, Int.tmod_eq_emod_of_nonneg (by omega)]; exact ⟨by omega, by omega⟩)
 have hn := np_nn n
 cases h1 : npB n
 ·have HE : npE n = 0 := by rw [npE, h1]; rfl
  have HK : npK n = 0 := by rw [npK, h1]; rfl
  rw [HE, HK]
  rw [h1] at hn
  have hi : nnI (Int.tdiv n 1000) (Int.tmod n 1000) = 0 := by rw [nnI, hn]; rfl
  clear hr hw
  go_enter Tryz.func210, Tryz.ntmps210
  go_wp2_with fail
  refine (dq _ _ _).mono ?_
  rintro e w' ⟨rfl, rfl⟩
  rw [hn]
  go_wp2_with fail
  go_ret3
  exact ⟨rfl, rfl⟩
 ·have HE : npE n = Int.tdiv n 1000 := by rw [npE, h1]; rfl
  have HK : npK n = Int.tmod n 1000 := by rw [npK, h1]; rfl
  rw [HE, HK]
  rw [h1] at hn
  clear hr hw
  go_enter Tryz.func210, Tryz.ntmps210
  go_wp2_with fail
  refine (dq _ _ _).mono ?_
  rintro e w' ⟨rfl, rfl⟩
  rw [hn]
  go_wp2_with fail
  go_ret3
  exact ⟨rfl, rfl⟩
abbrev SlT : Type := Int × Int
def zSl : SlT := (0, 0)
def lnB (l : Int) : Bool := decide (1 ≤ l ∧ l ≤ 1000000)
def slB (o l : Int) : Bool := bX o && lnB l
def slA (M : Nat → SlT) : Nat → Bool
 | 0 => true
 | j + 1 => slA M j && slB (M j).1 (M j).2
def gpB (g : Int) : Bool := decide (0 ≤ g ∧ g ≤ 100000)
def cnB (n : Nat) : Bool := decide (1 ≤ (n : Int) ∧ (n : Int) ≤ 12)
def plB (s g : Int) (M : Nat → SlT) (n : Nat) : Bool := okT s && (gpB g && (cnB n && slA M n))
theorem mQ {M : Nat → SlT} {k n : Nat} (h : slA M (k + 1) = false) (hk : k < n) : slA M n = false := by
 induction n with
 | zero => omega
 | succ n ih =>
  by_cases e : k = n
  ·subst e; exact h
  ·rw [slA, ih (by omega)]; rfl
end Go.Proofs.YtikbjljkakabdaaGreat
