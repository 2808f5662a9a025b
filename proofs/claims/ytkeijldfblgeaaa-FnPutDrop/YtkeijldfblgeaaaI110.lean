/- Contracts of impl.rosterOf, and of what the sort calls. -/
import Derived.Test.YtkeijldfblgeaaaI109
import Derived.Test.YtkeijldfblgeaaaY10
import Derived.Shelf.Small.Bits
import Derived.WalkKit
import Derived.WalkSpells
import Derived.WalkLawsBesides
import Derived.Deep.RegionHeld
namespace Go.Proofs.Ytkeijldfblgeaaa
open Go.RowKit
set_option linter.unusedVariables false
set_option maxHeartbeats 1000000 in
theorem rosterOf_bad (a : Option Addr) (n c : Nat) (M : Nat → PT) (w : World) (hm : n ≤ maxLen) (hs : SrcC w a (n * 5) (MFPeer M)) (h1 : oks M n = false) :
    Calls Try.prog 26 #[.slice a n c] w fun e w' => e = .returned (.tuple #[.map none, .bool false]) ∧ Below w.heap.size w w' := by
  have C1 := implPeersOk_any a n c M w hm hs
  clear hs
  go_enter Try.func26, Try.ntmps26
  go_wp2_with fail
  refine C1.mono ?_
  rintro e w1 ⟨rfl, hb⟩
  rw [h1]
  go_wp2_with fail
  exact bodyPost_ret (v := (.tuple #[.map none, .bool false])) (by simp (maxDischargeDepth := 6) [results, Try.results26, go_sem, *]) rfl ⟨rfl, hb⟩
set_option maxRecDepth 100000 in
set_option maxHeartbeats 4000000 in
theorem rosterOf_ok (a : Option Addr) (n c : Nat) (M : Nat → PT) (w : World) (hm : n ≤ maxLen) (hs : SrcC w a (n * 5) (MFPeer M)) (h1 : oks M n = true) :
    Calls Try.prog 26 #[.slice a n c] w fun e w' => ∃ b, e = .returned (.tuple #[.map (some b), .bool true]) ∧ w.heap.size ≤ b ∧ MapP w' b n (lkP M n) ∧ Below w.heap.size w w' := by
  have C1 := implPeersOk_any a n c M w hm hs
  have HS : Hid (SrcC w a (n * 5) (MFPeer M)) := hs
  have HOK : Hid (oks M n = true) := h1
  have hn8 := oks_le h1
  clear hs
  go_enter Try.func26, Try.ntmps26
  go_wp2_with fail
  refine C1.mono ?_
  rintro e w1 ⟨rfl, B1⟩
  rw [h1]
  clear C1 h1
  have hmk := run_mkmapP n w1
  have R0 := MapP.made w1
  have B2 := B1.trans ((Below.nw w1 (.map #[] 0)).mono B1.size)
  have hb0 : w.heap.size ≤ w1.heap.size := B1.size
  go_upto_region 4 with fail
  clear hmk
  generalize hbm : w1.heap.size = bm at *
  generalize w1.alloc (.map #[] 0) = w2 at *
  go_wp2_with fail
  go_loopw [15] (fun i wr => ∃ k : Nat, k ≤ n ∧ i = .int .i64 k ∧ MapP wr bm k (lkP M k) ∧ Below w.heap.size w wr) (fun i _ => n - (intOf i).toNat)
  case atStart => exact ⟨0, Nat.zero_le _, rfl, R0.congr (fun _ => rfl), B2⟩
  case round =>
    obtain ⟨k, hk, rfl, MP, hB⟩ := hrel
    by_cases hlt : k < n
    · obtain ⟨b, off, rfl, hf⟩ := HS.out.some (by omega)
      obtain ⟨x0, x1, x2, x3, x4, hM⟩ := tupPeer M k
      obtain ⟨c0, c1, c2, c3, c4⟩ := (hf.below hB hf.1).elPeer hlt hM
      have hid := nodB_t (oks_p HOK.out hlt).1
      rw [hM] at hid
      have hwf : (Lit.int .i64 x0).wf = true := by
        have h1 : 0 ≤ x0 := hid.1
        have h2 : x0 ≤ 7 := hid.2
        simp only [Lit.wf, Bool.and_eq_true, decide_eq_true_eq]
        exact ⟨by show (-9223372036854775808 : Int) ≤ x0; omega, by show x0 ≤ (9223372036854775807 : Int); omega⟩
      have hli : (k : Int) < (n : Int) := by omega
      have hbr : b < wr.heap.size := Nat.lt_of_lt_of_le hf.1 hB.size
      have A1 := Below.nw wr (.cells #[.int .i64 x0, .int .i64 x1, .int .i64 x2, .int .i64 x3, .bool x4] 51)
      have KB := Bx5.new wr (.int .i64 x0) (.int .i64 x1) (.int .i64 x2) (.int .i64 x3) (.bool x4) 51
      have HLK : Hid (∀ y, lkP M (k + 1) y = if y = x0 then some (x0, x1, x2, x3, x4) else lkP M k y) := fun y => by rw [lkP_step (x0 := x0) (by rw [hM]), hM]
      clear hM hid hf
      go_upto_region 7 with fail
      clear c0 c1 c2 c3 c4
      replace hB := hB.trans (A1.mono hB.size)
      replace MP := MP.below A1
      have hBs := hB.size
      clear hbr A1
      generalize hbk : wr.heap.size = bk at *
      generalize wr.alloc (.cells #[.int .i64 x0, .int .i64 x1, .int .i64 x2, .int .i64 x3, .bool x4] 51) = w1b at *
      obtain ⟨k9, k0, k1, k2, k3, k4, f0, f1, f2, f3, f4⟩ := id KB
      obtain ⟨w9, hrun, MP9, hg9⟩ := MP.put hwf (by unfold maxLen; omega) (x0, x1, x2, x3, x4)
      have HMP : Hid (MapP w9 bm (k + 1) (lkP M (k + 1))) := MP9.congr (fun y => (HLK.out y).symm)
      have B9 := hB.trans ((But.ofGrownK hg9).below hb0 hBs)
      simp only [pv] at hrun
      clear MP MP9 hg9
      go_wp2_with fail
      clear hrun
      go_roundw
      case rel => exact ⟨k + 1, by omega, by go_num, HMP.out, B9⟩
      case measure => simp [intOf]; omega
    · have hkn : k = n := by omega
      subst hkn
      have hli : ¬ (k : Int) < (k : Int) := by omega
      go_wp2_with fail
      exact bodyPost_ret (v := (.tuple #[.map (some bm), .bool true])) (by simp (maxDischargeDepth := 6) [results, Try.results26, go_sem, *]) rfl ⟨bm, rfl, hb0, MP, hB⟩
def lenR : Go.Shelf.Ren := ⟨fun | 125 => 66 | 128 => 83 | 129 => 84 | n => n, fun | 3 => 3 | 4 => 4 | 5 => 5 | 9 => 9 | 46 => 100 | 51 => 115 | 53 => 117 | n => n, fun | n => n⟩
theorem lenL : Go.Proofs.Lays.n125 Try.prog lenR := {
  mixed := by kernel_rfl
  f125 := Try.func66.trans (congrArg some (by kernel_rfl))
  f128 := Try.func83.trans (congrArg some (by kernel_rfl))
  f129 := Try.func84.trans (congrArg some (by kernel_rfl))
  t3 := Try.underlying3
  a3 := fun w => by kernel_rfl
  z3 := fun w => by kernel_rfl
  v3 := fun w => by kernel_rfl
  t4 := Try.underlying4
  a4 := fun w => by kernel_rfl
  z4 := fun w => by kernel_rfl
  v4 := fun w => by kernel_rfl
  t5 := Try.underlying5
  a5 := fun w => by kernel_rfl
  z5 := fun w => by kernel_rfl
  v5 := fun w => by kernel_rfl
  t9 := Try.underlying9
  a9 := fun w => by kernel_rfl
  z9 := fun w => by kernel_rfl
  v9 := fun w => by kernel_rfl
  t46 := Try.underlying100
  a46 := fun w => by kernel_rfl
  z46 := fun w => by kernel_rfl
  v46 := fun w => by kernel_rfl
  t51 := Try.underlying115
  a51 := fun w => by kernel_rfl
  z51 := fun w => by kernel_rfl
  v51 := fun w => by kernel_rfl
  t53 := Try.underlying117
  a53 := fun w => by kernel_rfl
  z53 := fun w => by kernel_rfl
  v53 := fun w => by kernel_rfl }
theorem bitsLen10 (n : Nat) (W : World) (h : n ≤ 12) : Calls Try.prog 66 #[.int .u64 n] W fun e w' => (∃ l : Int, e = .returned (.int .i64 l)) ∧ w' = W :=
  (Go.Proofs.Any.bits_Len lenL n W (by omega) (by omega)).mono fun _ _ ⟨he, hw⟩ => ⟨⟨_, he⟩, hw⟩
def encP (x : PT) : List Value := [.int .i64 x.1, .int .i64 x.2.1, .int .i64 x.2.2.1, .int .i64 x.2.2.2.1, .bool x.2.2.2.2]
def cmpP (x y : PT) : Int := Go.Lib.compareInt x.1 y.1
set_option maxHeartbeats 1000000 in
theorem closeP (x y : PT) (W : World) : Calls Try.prog 50 #[.agg (encP x).toArray, .agg (encP y).toArray] W fun e w' => e = .returned (.int .i64 (cmpP x y)) ∧ ∃ q os', w' = Go.Sort.grow (W.drewN q) os' := by
  have hcon := fun W' => Go.Proofs.AnyG.cmp_Compare_int cmpI x.1 y.1 W'
  change ∀ W', Calls Try.prog 51 _ _ _ at hcon
  unfold cmpP encP
  generalize Go.Lib.compareInt x.1 y.1 = r at hcon ⊢
  go_enter Try.func50, Try.ntmps50
  go_wp2_with (go_at_call 51; refine (hcon _).mono ?_; rintro e w' ⟨rfl, rfl⟩)
  go_ret
  exact ⟨rfl, 0, _, by rw [Go.Sort.alloc_eq_grow, Go.Sort.alloc_eq_grow, Go.Sort.grow_grow]; rfl⟩
end Go.Proofs.Ytkeijldfblgeaaa
