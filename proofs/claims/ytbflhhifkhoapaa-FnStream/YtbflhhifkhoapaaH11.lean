/- The contract of impl.Unpack, whole. -/
import Derived.Test.YtbflhhifkhoapaaH10
import Derived.WalkKit
import Derived.WalkSpells
import Derived.WalkLawsBesides
import Derived.Deep.RegionHeld
namespace Go.Proofs.Ytbflhhifkhoapaa
open Go.RowKit
set_option linter.unusedVariables false
theorem implUnpack_fin (b off n c : Nat) (f : Nat → Int) (w : World) (hn : 2 ≤ n) (hc : n ≤ c) (hcm : c ≤ maxLen) (hf : Byts w b off n f) (hr : ∀ i, i < n → 0 ≤ f i ∧ f i ≤ 255) (h : chk f (n - 1) = f (n - 1)) (k fr tu no lo hi sl x : Int) (s : ByteArray) (hs : s.size ≤ 1048576) (CM : ∀ p v, Rd v p (some ⟨b, off, none⟩) (n - 1) c f 0 → Calls Try.prog 46 #[.pointer (some ⟨p, 0, none⟩)] v fun e w' => e = .returned (.agg #[.int .i64 k, .int .i64 fr, .int .i64 tu, .int .i64 no, .int .i64 lo, .int .i64 hi, .int .i64 sl, .string s]) ∧ Rd w' p (some ⟨b, off, none⟩) (n - 1) c f x ∧ But p v w') (hU : unp f n = fin (n - 1) (k, fr, tu, no, lo, hi, sl, s) x) :
    Calls Try.prog 12 #[.slice (some ⟨b, off, none⟩) n c] w fun e w' => e = .returned (uv (unp f n)) ∧ Below w.heap.size w w' := by
  by_cases hx : x < ((n - 1 : Nat) : Int)
  · have U := hU.trans (fin_long hx)
    rw [U]
    exact implUnpack_long b off n c f w hn hc hcm hf hr h k fr tu no lo hi sl x s hs CM (by omega)
  · cases hm : msgB k fr tu no lo hi sl s
    · have U := hU.trans (fin_bad hx (show msgT (k, fr, tu, no, lo, hi, sl, s) = false from hm))
      rw [U]
      exact implUnpack_bad b off n c f w hn hc hcm hf hr h k fr tu no lo hi sl x s hs CM (by omega) hm
    · have U := hU.trans (fin_well hx (show msgT (k, fr, tu, no, lo, hi, sl, s) = true from hm))
      rw [U]
      exact implUnpack_well b off n c f w hn hc hcm hf hr h k fr tu no lo hi sl x s hs CM (by omega) hm
theorem fin_end (m : Nat) (a b c x y z : Int) (x0 : 0 ≤ x) (x1 : x ≤ 4000000000000) (y0 : 0 ≤ y) (y1 : y ≤ 4000000000000) : fin m (2, a, b, c, endI x, endI y, 0, ⟨#[]⟩) z = fin m (2, a, b, c, unfJ x, unfJ y, 0, ⟨#[]⟩) z := by
  by_cases hz : z < m
  · exact (fin_long hz).trans (fin_long hz).symm
  · by_cases h : x ≤ 2000000000000 ∧ y ≤ 2000000000000
    · have e1 : endI x = unfJ x := by unfold endI unfI; rw [if_neg (by omega), if_pos ⟨x0, h.1⟩]
      have e2 : endI y = unfJ y := by unfold endI unfI; rw [if_neg (by omega), if_pos ⟨y0, h.2⟩]
      exact congrArg (fun r : Int × Int => fin m (2, a, b, c, r.1, r.2, 0, ⟨#[]⟩) z) (show (endI x, endI y) = (unfJ x, unfJ y) by rw [e1, e2])
    · have n1 : okI (unfJ x) (unfJ y) = false := by
        apply decide_eq_false
        unfold unfJ
        split <;> split <;> omega
      have n2 : okI (endI x) (endI y) = false := by
        apply decide_eq_false
        unfold endI unfI unfJ
        split <;> split <;> (try split) <;> (try split) <;> (try split) <;> (try split) <;> omega
      have m1 : msgT (2, a, b, c, endI x, endI y, 0, ⟨#[]⟩) = false := by simp [msgT, msgB, n2]
      have m2 : msgT (2, a, b, c, unfJ x, unfJ y, 0, ⟨#[]⟩) = false := by simp [msgT, msgB, n1]
      exact (fin_bad hz m1).trans (fin_bad hz m2).symm
theorem implUnpack_any (a : Option Addr) (n c : Nat) (f : Nat → Int) (w : World) (hm20 : n ≤ 1048576) (hc : n ≤ c) (hcm : c ≤ maxLen) (hs : SrcB w a n f) (hr : ∀ i, i < n → 0 ≤ f i ∧ f i ≤ 255) :
    Calls Try.prog 12 #[.slice a n c] w fun e w' => e = .returned (uv (unp f n)) ∧ Below w.heap.size w w' := by
  by_cases h2 : n < 2
  · exact implUnpack_short a n c f w h2
  rcases hs with h0 | ⟨b, off, rfl, hf⟩
  · omega
  have hn : 2 ≤ n := by omega
  have hm : 1 ≤ n - 1 := by omega
  by_cases h : chk f (n - 1) = f (n - 1)
  case neg => exact implUnpack_check b off n c f w hn hc hcm hf hr h
  have U0 : unp f n = if ¬ (1 ≤ f 0 ∧ f 0 ≤ 3) then (3, zT) else if f 0 = 3 then unp3 f (n - 1) else if f 0 = 2 then unp2 f (n - 1) else unp1 f (n - 1) := by rw [unp, if_neg h2, if_neg (by rw [h]; simp)]
  by_cases hk : 1 ≤ f 0 ∧ f 0 ≤ 3
  case neg => exact implUnpack_pan b off n c f w hn hc hcm hf hr h 3 (by rw [U0, if_pos hk]) (fun p v hv => msg_nokind p b off (n - 1) c f v hv hm hk)
  have hf0 : ∀ i, i < n - 1 → 0 ≤ f i := fun i hi => (hr i (by omega)).1
  rw [if_neg (by simp; exact hk)] at U0
  by_cases hk3 : f 0 = 3
  case pos =>
    have U1 : unp f n = unp3 f (n - 1) := by rw [U0, if_pos hk3]
    cases q0 : fldC f (n - 1) (ats f (n - 1) 0)
    case false => exact implUnpack_pan b off n c f w hn hc hcm hf hr h 4 (by rw [U1, unp3, okA_no q0 3 (by omega)]; rfl) (fun p v hv => msg_f30 p b off (n - 1) c f v hv hm hk3  q0)
    cases q1 : fldC f (n - 1) (ats f (n - 1) 1)
    case false => exact implUnpack_pan b off n c f w hn hc hcm hf hr h 4 (by rw [U1, unp3, okA_no q1 3 (by omega)]; rfl) (fun p v hv => msg_f31 p b off (n - 1) c f v hv hm hk3 q0 q1)
    cases q2 : fldC f (n - 1) (ats f (n - 1) 2)
    case false => exact implUnpack_pan b off n c f w hn hc hcm hf hr h 4 (by rw [U1, unp3, okA_no q2 3 (by omega)]; rfl) (fun p v hv => msg_f32 p b off (n - 1) c f v hv hm hk3 q0 q1 q2)
    have hok : okA f (n - 1) 3 = true := by simp [okA, q0, q1, q2]
    have ab := (ats_bd hf0 hok).1
    have vb := val_bd hf0 hok (j := 2) (by omega)
    obtain ⟨X, hX⟩ := Int.eq_ofNat_of_zero_le (show 0 ≤ ats f (n - 1) 3 by omega)
    obtain ⟨NN, hN⟩ := Int.eq_ofNat_of_zero_le vb.1
    have U2 : unp f n = if ((n - 1 : Nat) : Int) - X < NN then (4, zT) else fin (n - 1) (3, val f (n - 1) 0, 0, 0, 0, 0, val f (n - 1) 1, strF f X NN) ((X : Int) + NN) := by rw [U1, unp3, hok, hX, hN]; rfl
    by_cases hfew : ((n - 1 : Nat) : Int) - X < NN
    · exact implUnpack_pan b off n c f w hn hc hcm hf hr h 4 (by rw [U2, if_pos hfew]) (fun p v hv => msg_few p b off (n - 1) c f v hv hm hk3 q0 q1 q2 X NN hX hN hfew)
    · rw [if_neg hfew] at U2
      exact implUnpack_fin b off n c f w hn hc hcm hf hr h 3 _ 0 0 0 0 _ _ (strF f X NN) (by unfold strF; rw [strOfNums_size]; simp; omega) (fun p v hv => msg_t3 p b off (n - 1) c f v hv hm hk3 q0 q1 q2 X NN hX hN (by omega) _ rfl) U2
  by_cases hk2 : f 0 = 2
  case pos =>
    have U1 : unp f n = unp2 f (n - 1) := by rw [U0, if_neg (by omega), if_pos hk2]
    cases q0 : fldC f (n - 1) (ats f (n - 1) 0)
    case false => exact implUnpack_pan b off n c f w hn hc hcm hf hr h 4 (by rw [U1, unp2, okA_no q0 5 (by omega)]; rfl) (fun p v hv => msg_f20 p b off (n - 1) c f v hv hm hk2  q0)
    cases q1 : fldC f (n - 1) (ats f (n - 1) 1)
    case false => exact implUnpack_pan b off n c f w hn hc hcm hf hr h 4 (by rw [U1, unp2, okA_no q1 5 (by omega)]; rfl) (fun p v hv => msg_f21 p b off (n - 1) c f v hv hm hk2 q0 q1)
    cases q2 : fldC f (n - 1) (ats f (n - 1) 2)
    case false => exact implUnpack_pan b off n c f w hn hc hcm hf hr h 4 (by rw [U1, unp2, okA_no q2 5 (by omega)]; rfl) (fun p v hv => msg_f22 p b off (n - 1) c f v hv hm hk2 q0 q1 q2)
    cases q3 : fldC f (n - 1) (ats f (n - 1) 3)
    case false => exact implUnpack_pan b off n c f w hn hc hcm hf hr h 4 (by rw [U1, unp2, okA_no q3 5 (by omega)]; rfl) (fun p v hv => msg_f23 p b off (n - 1) c f v hv hm hk2 q0 q1 q2 q3)
    cases q4 : fldC f (n - 1) (ats f (n - 1) 4)
    case false => exact implUnpack_pan b off n c f w hn hc hcm hf hr h 4 (by rw [U1, unp2, okA_no q4 5 (by omega)]; rfl) (fun p v hv => msg_f24 p b off (n - 1) c f v hv hm hk2 q0 q1 q2 q3 q4 (val_bd hf0 (n := 4) (by simp [okA, q0, q1, q2, q3]) (by omega)))
    have hok : okA f (n - 1) 5 = true := by simp [okA, q0, q1, q2, q3, q4]
    have v3 := val_bd hf0 hok (j := 3) (by omega)
    have v4 := val_bd hf0 hok (j := 4) (by omega)
    have U2 : unp f n = fin (n - 1) (2, val f (n - 1) 0, val f (n - 1) 1, val f (n - 1) 2, unfJ (val f (n - 1) 3), unfJ (val f (n - 1) 4), 0, ⟨#[]⟩) (ats f (n - 1) 5) := (U1.trans (show unp2 f (n - 1) = fin (n - 1) (2, val f (n - 1) 0, val f (n - 1) 1, val f (n - 1) 2, endI (val f (n - 1) 3), endI (val f (n - 1) 4), 0, ⟨#[]⟩) (ats f (n - 1) 5) by rw [unp2, hok]; rfl)).trans (fin_end _ _ _ _ _ _ _ v3.1 v3.2 v4.1 v4.2)
    exact implUnpack_fin b off n c f w hn hc hcm hf hr h 2 _ _ _ _ _ 0 _ ⟨#[]⟩ (by decide) (fun p v hv => msg_t2 p b off (n - 1) c f v hv hm hk2 q0 q1 q2 q3 q4 v3 v4) U2
  have hk1 : f 0 = 1 := by omega
  by_cases dummy : True
  case pos =>
    have U1 : unp f n = unp1 f (n - 1) := by rw [U0, if_neg (by omega), if_neg (by omega)]
    cases q0 : fldC f (n - 1) (ats f (n - 1) 0)
    case false => exact implUnpack_pan b off n c f w hn hc hcm hf hr h 4 (by rw [U1, unp1, okA_no q0 3 (by omega)]; rfl) (fun p v hv => msg_f10 p b off (n - 1) c f v hv hm hk1  q0)
    cases q1 : fldC f (n - 1) (ats f (n - 1) 1)
    case false => exact implUnpack_pan b off n c f w hn hc hcm hf hr h 4 (by rw [U1, unp1, okA_no q1 3 (by omega)]; rfl) (fun p v hv => msg_f11 p b off (n - 1) c f v hv hm hk1 q0 q1)
    cases q2 : fldC f (n - 1) (ats f (n - 1) 2)
    case false => exact implUnpack_pan b off n c f w hn hc hcm hf hr h 4 (by rw [U1, unp1, okA_no q2 3 (by omega)]; rfl) (fun p v hv => msg_f12 p b off (n - 1) c f v hv hm hk1 q0 q1 q2)
    have hok : okA f (n - 1) 3 = true := by simp [okA, q0, q1, q2]
    have U2 : unp f n = fin (n - 1) (1, val f (n - 1) 0, val f (n - 1) 1, val f (n - 1) 2, 0, 0, 0, ⟨#[]⟩) (ats f (n - 1) 3) := by rw [U1, unp1, hok]; rfl
    exact implUnpack_fin b off n c f w hn hc hcm hf hr h 1 _ _ _ 0 0 0 _ ⟨#[]⟩ (by decide) (fun p v hv => msg_t1 p b off (n - 1) c f v hv hm hk1 q0 q1 q2) U2
  case neg => exact absurd trivial dummy
end Go.Proofs.Ytbflhhifkhoapaa
