/- The contract of PeerPut in the specification. -/
import Derived.Test.YtkeijldfblgeaaaI115
import Derived.WalkKit
import Derived.WalkSpells
import Derived.WalkLawsBesides
import Derived.Deep.RegionHeld
namespace Go.Proofs.Ytkeijldfblgeaaa
open Go.RowKit
set_option linter.unusedVariables false
theorem Bx5.kept {w w' : World} {q : Option Nat} {k : Nat} {u0 u1 u2 u3 u4 : Value} (h : Bx5 w k u0 u1 u2 u3 u4) (hg : w.grownBy w' q) (hq : some k ≠ q) : Bx5 w' k u0 u1 u2 u3 u4 := by
  obtain ⟨h0, h1, h2, h3, h4, h5, f1, f2, f3, f4, f5⟩ := h
  have cc : ∀ i, w'.cell? ⟨k, i, none⟩ = w.cell? ⟨k, i, none⟩ := fun i => cell_grown hg h0 hq
  have ff : ∀ i, w'.frozen? ⟨k, i, none⟩ = w.frozen? ⟨k, i, none⟩ := fun i => by have := hg.block k h0 hq; simp only [World.frozen?]; rw [this]
  exact ⟨Nat.lt_of_lt_of_le h0 hg.size, by rw [cc]; exact h1, by rw [cc]; exact h2, by rw [cc]; exact h3, by rw [cc]; exact h4, by rw [cc]; exact h5, by rw [ff]; exact f1, by rw [ff]; exact f2, by rw [ff]; exact f3, by rw [ff]; exact f4, by rw [ff]; exact f5⟩
set_option maxRecDepth 100000 in
set_option maxHeartbeats 16000000 in
theorem specPeerPut_any (a : Option Addr) (n c : Nat) (M : Nat → PT) (x lo hi y : Int) (w : World) (hm : n ≤ maxLen) (hs : SrcC w a (n * 5) (MFPeer M)) :
    Calls Try.prog 11 #[.slice a n c, .int .i64 x, .agg #[.int .i64 lo, .int .i64 hi], .int .i64 y] w fun e w' => ∃ v, e = .returned (.tuple #[v, .int .i64 (ptC M n x lo hi y)]) ∧ w'.ownsRow w.heap.size 51 5 v (ptL M n x lo hi y).length (prow (ptL M n x lo hi y)) ∧ Below w.heap.size w w' := by
  have B0 := Below.nw w (.cells #[.int .i64 lo, .int .i64 hi] 38)
  have P0 := Bx2.new w (.int .i64 lo) (.int .i64 hi) 38
  have HS : Hid (SrcC w a (n * 5) (MFPeer M)) := hs
  have C1 := specPeersOk_any a n c M _ hm (hs.below B0)
  clear hs
  cases h1 : oks M n
  · have hf : ptP M n x lo hi y = false := by unfold ptP; rw [h1]; rfl
    rw [(ptL_f hf).1, (ptL_f hf).2]
    clear hf
    go_enter Try.func11, Try.ntmps11
    go_upto_region 1 with fail
    generalize w.alloc (.cells #[.int .i64 lo, .int .i64 hi] 38) = w0 at *
    go_wp2_with fail
    refine C1.mono ?_
    rintro e w1 ⟨rfl, hb⟩
    rw [h1]
    replace B0 := B0.trans (hb.mono B0.size)
    replace P0 := P0.below hb
    clear hb
    have A9 := B0.alloc B0.size (.cells #[] 51)
    have O9 := made_peer w1
    go_wp2_with fail
    exact bodyPost_ret (v := (.tuple #[.slice (some ⟨w1.heap.size, 0, none⟩) 0 0, .int .i64 1])) (by simp (maxDischargeDepth := 6) [results, Try.results11, go_sem, *]) rfl ⟨_, rfl, own_base O9 B0.size, A9⟩
  cases h2 : nodB x
  · have hf : ptP M n x lo hi y = false := by unfold ptP; rw [h2]; simp
    rw [(ptL_f hf).1, (ptL_f hf).2]
    clear hf
    go_enter Try.func11, Try.ntmps11
    go_upto_region 1 with fail
    generalize w.alloc (.cells #[.int .i64 lo, .int .i64 hi] 38) = w0 at *
    go_wp2_with fail
    refine C1.mono ?_
    rintro e w1 ⟨rfl, hb⟩
    rw [h1]
    replace B0 := B0.trans (hb.mono B0.size)
    replace P0 := P0.below hb
    clear hb
    go_wp2_with fail
    refine (l4Node_any _ _).mono ?_
    rintro e w' ⟨rfl, rfl⟩
    rw [h2]
    have A9 := B0.alloc B0.size (.cells #[] 51)
    have O9 := made_peer w1
    go_wp2_with fail
    exact bodyPost_ret (v := (.tuple #[.slice (some ⟨w1.heap.size, 0, none⟩) 0 0, .int .i64 1])) (by simp (maxDischargeDepth := 6) [results, Try.results11, go_sem, *]) rfl ⟨_, rfl, own_base O9 B0.size, A9⟩
  cases h3 : okI lo hi
  · have hf : ptP M n x lo hi y = false := by unfold ptP; rw [h3]; simp
    rw [(ptL_f hf).1, (ptL_f hf).2]
    clear hf
    go_enter Try.func11, Try.ntmps11
    go_upto_region 1 with fail
    generalize w.alloc (.cells #[.int .i64 lo, .int .i64 hi] 38) = w0 at *
    go_wp2_with fail
    refine C1.mono ?_
    rintro e w1 ⟨rfl, hb⟩
    rw [h1]
    replace B0 := B0.trans (hb.mono B0.size)
    replace P0 := P0.below hb
    clear hb
    go_wp2_with fail
    refine (l4Node_any _ _).mono ?_
    rintro e w' ⟨rfl, rfl⟩
    rw [h2]
    obtain ⟨p0, p1, p2, p3, p4⟩ := id P0
    go_wp2_with fail
    refine (specIvalOk_any _ _ _).mono ?_
    rintro e w2 ⟨rfl, hb⟩
    rw [h3]
    replace B0 := B0.trans (hb.mono B0.size)
    replace P0 := P0.below hb
    clear hb p0 p1 p2 p3 p4
    have A9 := B0.alloc B0.size (.cells #[] 51)
    have O9 := made_peer w2
    go_wp2_with fail
    exact bodyPost_ret (v := (.tuple #[.slice (some ⟨w2.heap.size, 0, none⟩) 0 0, .int .i64 1])) (by simp (maxDischargeDepth := 6) [results, Try.results11, go_sem, *]) rfl ⟨_, rfl, own_base O9 B0.size, A9⟩
  cases h4 : okT y
  · have hf : ptP M n x lo hi y = false := by unfold ptP; rw [h4]; simp
    rw [(ptL_f hf).1, (ptL_f hf).2]
    clear hf
    go_enter Try.func11, Try.ntmps11
    go_upto_region 1 with fail
    generalize w.alloc (.cells #[.int .i64 lo, .int .i64 hi] 38) = w0 at *
    go_wp2_with fail
    refine C1.mono ?_
    rintro e w1 ⟨rfl, hb⟩
    rw [h1]
    replace B0 := B0.trans (hb.mono B0.size)
    replace P0 := P0.below hb
    clear hb
    go_wp2_with fail
    refine (l4Node_any _ _).mono ?_
    rintro e w' ⟨rfl, rfl⟩
    rw [h2]
    obtain ⟨p0, p1, p2, p3, p4⟩ := id P0
    go_wp2_with fail
    refine (specIvalOk_any _ _ _).mono ?_
    rintro e w2 ⟨rfl, hb⟩
    rw [h3]
    replace B0 := B0.trans (hb.mono B0.size)
    replace P0 := P0.below hb
    clear hb p0 p1 p2 p3 p4
    go_wp2_with fail
    refine (l2Time_any _ _).mono ?_
    rintro e w' ⟨rfl, rfl⟩
    rw [h4]
    have A9 := B0.alloc B0.size (.cells #[] 51)
    have O9 := made_peer w2
    go_wp2_with fail
    exact bodyPost_ret (v := (.tuple #[.slice (some ⟨w2.heap.size, 0, none⟩) 0 0, .int .i64 1])) (by simp (maxDischargeDepth := 6) [results, Try.results11, go_sem, *]) rfl ⟨_, rfl, own_base O9 B0.size, A9⟩
  have hf : ptP M n x lo hi y = true := by unfold ptP; rw [h1, h2, h3, h4]; rfl
  rw [(ptL_t hf).1, (ptL_t hf).2]
  clear hf
  have HOK : Hid (oks M n = true) := h1
  have hn8 := oks_le h1
  go_enter Try.func11, Try.ntmps11
  go_upto_region 1 with fail
  generalize w.alloc (.cells #[.int .i64 lo, .int .i64 hi] 38) = w0 at *
  go_wp2_with fail
  refine C1.mono ?_
  rintro e w1 ⟨rfl, hb⟩
  rw [h1]
  replace B0 := B0.trans (hb.mono B0.size)
  replace P0 := P0.below hb
  clear hb
  go_wp2_with fail
  refine (l4Node_any _ _).mono ?_
  rintro e w' ⟨rfl, rfl⟩
  rw [h2]
  obtain ⟨p0, p1, p2, p3, p4⟩ := id P0
  go_wp2_with fail
  refine (specIvalOk_any _ _ _).mono ?_
  rintro e w2 ⟨rfl, hb⟩
  rw [h3]
  replace B0 := B0.trans (hb.mono B0.size)
  replace P0 := P0.below hb
  clear hb p0 p1 p2 p3 p4
  go_wp2_with fail
  refine (l2Time_any _ _).mono ?_
  rintro e w' ⟨rfl, rfl⟩
  rw [h4]
  have A3 := Below.nw w2 (.cells #[.int .i64 x, .int .i64 lo, .int .i64 hi, .int .i64 y, .bool false] 51)
  have KB := Bx5.new w2 (.int .i64 x) (.int .i64 lo) (.int .i64 hi) (.int .i64 y) (.bool false) 51
  replace B0 := B0.trans (A3.mono B0.size)
  obtain ⟨p0, p1, p2, p3, p4⟩ := id P0
  have hB2 : w.heap.size ≤ w2.heap.size := Nat.le_of_lt p0
  go_upto_region 4 with fail
  clear A3 P0 p0 p1 p2 p3 p4 C1 h1 h2 h3 h4
  have hs3 : (w2.alloc (.cells #[.int .i64 x, .int .i64 lo, .int .i64 hi, .int .i64 y, .bool false] 51)).heap.size = w2.heap.size + 1 := by simp
  generalize hbk : w2.heap.size = bk at *
  generalize w2.alloc (.cells #[.int .i64 x, .int .i64 lo, .int .i64 hi, .int .i64 y, .bool false] 51) = w3 at *
  have A4 := Below.nw w3 (.cells #[] 51)
  have O4 := made_peer w3
  replace B0 := B0.trans (A4.mono B0.size)
  replace KB := KB.below A4
  go_upto_region 5 with fail
  clear A4
  rw [hs3] at O4
  clear hbk
  have hg4 : w3.heap.size = bk + 1 := hs3
  clear hs3
  generalize w3.alloc (.cells #[] 51) = w4 at *
  clear hg4
  go_wp2_with fail
  go_loopw [12] (fun i wr => ∃ k : Nat, k ≤ n ∧ i = .int .i64 k ∧ Bx5 wr bk (.int .i64 x) (.int .i64 lo) (.int .i64 hi) (.int .i64 y) (.bool (skB M x k)) ∧ wr.ownsRow (bk + 1) 51 5 (.slice (some ⟨bk + 1, 0, none⟩) 0 0) ([] : List PT).length (prow []) ∧ Below w.heap.size w wr) (fun i _ => n - (intOf i).toNat)
  case atStart => exact ⟨0, Nat.zero_le _, rfl, KB, O4, B0⟩
  case round =>
    obtain ⟨k, hk, rfl, KB1, OW, hB⟩ := hrel
    clear KB O4 B0
    by_cases hlt : k < n
    · obtain ⟨b, off, rfl, hf⟩ := HS.out.some (by omega)
      obtain ⟨x0, x1, x2, x3, x4, hM⟩ := tupPeer M k
      obtain ⟨c0, c1, c2, c3, c4⟩ := (hf.below hB hf.1).elPeer hlt hM
      have hli : (k : Int) < (n : Int) := by omega
      have hbr : b < wr.heap.size := Nat.lt_of_lt_of_le hf.1 hB.size
      have HY : Hid (x0 = x → skB M x (k + 1) = x4) := fun h => by
        have q := skB_yes (M := M) (k := k) (x := x) (by rw [hM]; exact h)
        rw [hM] at q
        exact q
      have HNn : Hid (x0 ≠ x → skB M x (k + 1) = skB M x k) := fun h => skB_no (by rw [hM]; exact h)
      have hBs := hB.size
      clear hM hf
      generalize skB M x k = sk at *
      obtain ⟨k9, k0, k1, k2, k3, k4, f0, f1, f2, f3, f4⟩ := id KB1
      by_cases h5 : x0 = x
      · have HT : Hid (skB M x (k + 1) = x4) := HY.out h5
        have h5' : (x0 == x) = true := by simp [h5]
        clear HY HNn h5
        go_wp2_with fail
        go_roundw
        case rel => exact ⟨k + 1, by omega, by go_num, by rw [HT.out]; exact KB1.set4 _, own_butK OW ((But.refl bk _).setCell 4 _) (by omega), hB.setCell hB2 _⟩
        case measure => simp [intOf]; omega
      · have HT : Hid (skB M x (k + 1) = sk) := HNn.out h5
        have h5' : (x0 == x) = false := by simp [h5]
        clear HY HNn h5
        go_wp2_with fail
        go_roundw
        case rel => exact ⟨k + 1, by omega, by go_num, by rw [HT.out]; exact KB1, OW, hB⟩
        case measure => simp [intOf]; omega
    · have hkn : k = n := by omega
      subst hkn
      have hli : ¬ (k : Int) < (k : Int) := by omega
      have HPT : Hid (ptA M x k = true → pinL (lst M k) (x, lo, hi, y, skB M x k) = poN M (x, lo, hi, y, skB M x k) k) := fun h => poN_t (p := (x, lo, hi, y, skB M x k)) h
      have HPF : Hid (ptA M x k = false → pinL (lst M k) (x, lo, hi, y, skB M x k) = poN M (x, lo, hi, y, skB M x k) k ++ [(x, lo, hi, y, skB M x k)]) := fun h => poN_f (p := (x, lo, hi, y, skB M x k)) h
      generalize hsk : skB M x k = sk at *
      have HSK : Hid (skB M x k = sk) := hsk
      clear hsk
      have hlk := fun j => poN_len M (x, lo, hi, y, sk) j
      go_wp2_with fail
      go_loopw [11, 13, 14] (fun v t i wr' => ∃ j : Nat, j ≤ k ∧ i = .int .i64 j ∧ t = .bool (ptA M x j) ∧ Bx5 wr' bk (.int .i64 x) (.int .i64 lo) (.int .i64 hi) (.int .i64 y) (.bool sk) ∧ wr'.ownsRow (bk + 1) 51 5 v (poN M (x, lo, hi, y, sk) j).length (prow (poN M (x, lo, hi, y, sk) j)) ∧ Below w.heap.size w wr') (fun _ _ i _ => k - (intOf i).toNat)
      case atStart => exact ⟨0, Nat.zero_le _, rfl, rfl, KB1, OW, hB⟩
      case round =>
        clear KB1 OW hB
        obtain ⟨j, hj, rfl, rfl, KB, OW, hB⟩ := hrel
        have hBs := hB.size
        have hBs1 : bk + 1 ≤ wr.heap.size := KB.1
        by_cases hjlt : j < k
        · obtain ⟨b, off, rfl, hf⟩ := HS.out.some (by omega)
          obtain ⟨x0, x1, x2, x3, x4, hM⟩ := tupPeer M j
          obtain ⟨c0, c1, c2, c3, c4⟩ := (hf.below hB hf.1).elPeer hjlt hM
          have hli2 : (j : Int) < (k : Int) := by omega
          have hbr : b < wr.heap.size := Nat.lt_of_lt_of_le hf.1 hB.size
          have hbw : b < w.heap.size := hf.1
          have HA : Hid (x0 < x → poN M (x, lo, hi, y, sk) (j + 1) = poN M (x, lo, hi, y, sk) j ++ [(x0, x1, x2, x3, x4)] ∧ ptA M x (j + 1) = false ∧ ptA M x j = false) := fun h => by
            have q := poN_a (p := (x, lo, hi, y, sk)) HOK.out hjlt (by rw [hM]; exact h)
            rw [hM] at q
            exact q
          have HBB : Hid (x0 = x → poN M (x, lo, hi, y, sk) (j + 1) = poN M (x, lo, hi, y, sk) j ++ [(x, lo, hi, y, sk)] ∧ ptA M x (j + 1) = true ∧ ptA M x j = false) := fun h => poN_b (p := (x, lo, hi, y, sk)) HOK.out hjlt (by rw [hM]; exact h)
          have HC : Hid (x < x0 → ptA M x j = true → poN M (x, lo, hi, y, sk) (j + 1) = poN M (x, lo, hi, y, sk) j ++ [(x0, x1, x2, x3, x4)] ∧ ptA M x (j + 1) = true) := fun h h' => by
            have q := poN_c (p := (x, lo, hi, y, sk)) (by rw [hM]; exact h) h'
            rw [hM] at q
            exact q
          have HDD : Hid (x < x0 → ptA M x j = false → poN M (x, lo, hi, y, sk) (j + 1) = poN M (x, lo, hi, y, sk) j ++ [(x, lo, hi, y, sk)] ++ [(x0, x1, x2, x3, x4)] ∧ ptA M x (j + 1) = true) := fun h h' => by
            have q := poN_d (p := (x, lo, hi, y, sk)) (by rw [hM]; exact h) h'
            rw [hM] at q
            exact q
          have hlj := hlk j
          have HMJ : Hid (M j = (x0, x1, x2, x3, x4)) := hM
          clear hM hlk HPT HPF
          generalize hL : poN M (x, lo, hi, y, sk) j = L at *
          generalize hZ : ptA M x j = Z at *
          clear hL hZ
          obtain ⟨k9, k0, k1, k2, k3, k4, f0, f1, f2, f3, f4⟩ := id KB
          have CB := fun (wq : World) (hb : Below w.heap.size w wq) => (hf.below hb hf.1)
          clear hf
          by_cases ha : x0 < x
          · obtain ⟨e1, e2, e3⟩ := HA.out ha
            subst e3
            have HT : Hid (poN M (x, lo, hi, y, sk) (j + 1) = L ++ [(x0, x1, x2, x3, x4)] ∧ ptA M x (j + 1) = false) := ⟨e1, e2⟩
            have g1 : ¬ x ≤ x0 := by omega
            have g2 : (x0 != x) = true := bne_iff_ne.2 (by omega)
            clear e1 e2 HA HBB HC HDD ha
            go_wp2_with (at_builtin; refine add_peer rfl _ _ rfl (bk + 1) L _ rfl OW rfl (by omega) (by omega) ?_; intro v' w9 O9 hg9 hn9)
            have HO9 : Hid (w9.ownsRow (bk + 1) 51 5 v' (L ++ [(x0, x1, x2, x3, x4)]).length (prow (L ++ [(x0, x1, x2, x3, x4)]))) := O9
            have B9 := hB.trans ((grown_belowK OW hg9 hBs1).mono (by omega))
            have KB9 := KB.kept hg9 (fun e => by have := (World.ownsRow.lt OW bk e.symm).1; omega)
            clear O9 OW hg9 hn9 hB KB
            clear k9 k0 k1 k2 k3 k4 f0 f1 f2 f3 f4
            clear c0 c1 c2 c3 c4
            go_wp2_with fail
            go_roundw
            case rel => exact ⟨j + 1, by omega, by go_num, by rw [HT.out.2], KB9, by rw [HT.out.1]; exact HO9.out, B9⟩
            case measure => simp [intOf]; omega
          by_cases hb2 : x0 = x
          · obtain ⟨e1, e2, e3⟩ := HBB.out hb2
            subst e3
            have HT : Hid (poN M (x, lo, hi, y, sk) (j + 1) = L ++ [(x, lo, hi, y, sk)] ∧ ptA M x (j + 1) = true) := ⟨e1, e2⟩
            subst hb2
            clear e1 e2 HA HBB HC HDD ha
            go_upto_region 16 with (at_builtin; refine add_peer rfl _ _ rfl (bk + 1) L _ rfl OW rfl (by omega) (by omega) ?_; intro v' w9 O9 hg9 hn9)
            have HO9 : Hid (w9.ownsRow (bk + 1) 51 5 v' (L ++ [(x0, lo, hi, y, sk)]).length (prow (L ++ [(x0, lo, hi, y, sk)]))) := O9
            have B9 := hB.trans ((grown_belowK OW hg9 hBs1).mono (by omega))
            have KB9 := KB.kept hg9 (fun e => by have := (World.ownsRow.lt OW bk e.symm).1; omega)
            clear O9 OW hg9 hn9 hB KB
            clear k9 k0 k1 k2 k3 k4 f0 f1 f2 f3 f4
            clear c0 c1 c2 c3 c4
            obtain ⟨c0, c1, c2, c3, c4⟩ := (CB _ B9).elPeer hjlt (show M j = (x0, x1, x2, x3, x4) from HMJ.out)
            have hbr9 : b < w9.heap.size := Nat.lt_of_lt_of_le hbw B9.size
            go_wp2_with fail
            go_roundw
            case rel => exact ⟨j + 1, by omega, by go_num, by rw [HT.out.2], KB9, by rw [HT.out.1]; exact HO9.out, B9⟩
            case measure => simp [intOf]; omega
          have hx : x < x0 := by omega
          cases Z with
          | true =>
            have HT : Hid (poN M (x, lo, hi, y, sk) (j + 1) = L ++ [(x0, x1, x2, x3, x4)] ∧ ptA M x (j + 1) = true) := HC.out hx rfl
            have g2 : (x0 != x) = true := bne_iff_ne.2 (by omega)
            clear HA HBB HC HDD ha
            go_wp2_with (at_builtin; refine add_peer rfl _ _ rfl (bk + 1) L _ rfl OW rfl (by omega) (by omega) ?_; intro v' w9 O9 hg9 hn9)
            have HO9 : Hid (w9.ownsRow (bk + 1) 51 5 v' (L ++ [(x0, x1, x2, x3, x4)]).length (prow (L ++ [(x0, x1, x2, x3, x4)]))) := O9
            have B9 := hB.trans ((grown_belowK OW hg9 hBs1).mono (by omega))
            have KB9 := KB.kept hg9 (fun e => by have := (World.ownsRow.lt OW bk e.symm).1; omega)
            clear O9 OW hg9 hn9 hB KB
            clear k9 k0 k1 k2 k3 k4 f0 f1 f2 f3 f4
            clear c0 c1 c2 c3 c4
            go_wp2_with fail
            go_roundw
            case rel => exact ⟨j + 1, by omega, by go_num, by rw [HT.out.2], KB9, by rw [HT.out.1]; exact HO9.out, B9⟩
            case measure => simp [intOf]; omega
          | false =>
            have HT : Hid (poN M (x, lo, hi, y, sk) (j + 1) = L ++ [(x, lo, hi, y, sk)] ++ [(x0, x1, x2, x3, x4)] ∧ ptA M x (j + 1) = true) := HDD.out hx rfl
            have g1 : x ≤ x0 := by omega
            have g2 : (x0 != x) = true := bne_iff_ne.2 (by omega)
            clear HA HBB HC HDD ha
            go_upto_region 16 with (at_builtin; refine add_peer rfl _ _ rfl (bk + 1) L _ rfl OW rfl (by omega) (by omega) ?_; intro v' w9 O9 hg9 hn9)
            have HO9 : Hid (w9.ownsRow (bk + 1) 51 5 v' (L ++ [(x, lo, hi, y, sk)]).length (prow (L ++ [(x, lo, hi, y, sk)]))) := O9
            have B9 := hB.trans ((grown_belowK OW hg9 hBs1).mono (by omega))
            have KB9 := KB.kept hg9 (fun e => by have := (World.ownsRow.lt OW bk e.symm).1; omega)
            have hl9 : (L ++ [(x, lo, hi, y, sk)]).length ≤ j + 2 := by simp; omega
            have hv9 := HO9.out
            clear O9 OW hg9 hn9 hB KB
            clear k9 k0 k1 k2 k3 k4 f0 f1 f2 f3 f4
            clear c0 c1 c2 c3 c4
            obtain ⟨c0, c1, c2, c3, c4⟩ := (CB _ B9).elPeer hjlt (show M j = (x0, x1, x2, x3, x4) from HMJ.out)
            have hbr9 : b < w9.heap.size := Nat.lt_of_lt_of_le hbw B9.size
            have hBs9 : bk + 1 ≤ w9.heap.size := KB9.1
            obtain ⟨k9, k0, k1, k2, k3, k4, f0, f1, f2, f3, f4⟩ := id KB9
            go_wp2_with (at_builtin; refine add_peer rfl _ _ rfl (bk + 1) (L ++ [(x, lo, hi, y, sk)]) _ rfl hv9 rfl (by omega) (by omega) ?_; intro v2 w10 O10 hg10 hn10)
            have HO10 : Hid (w10.ownsRow (bk + 1) 51 5 v2 (L ++ [(x, lo, hi, y, sk)] ++ [(x0, x1, x2, x3, x4)]).length (prow (L ++ [(x, lo, hi, y, sk)] ++ [(x0, x1, x2, x3, x4)]))) := O10
            have B10 := B9.trans ((grown_belowK hv9 hg10 hBs9).mono (by omega))
            have KB10 := KB9.kept hg10 (fun e => by have := (World.ownsRow.lt hv9 bk e.symm).1; omega)
            clear O10 HO9 hv9 hg10 hn10 B9 KB9 c0 c1 c2 c3 c4
            clear k9 k0 k1 k2 k3 k4 f0 f1 f2 f3 f4
            go_wp2_with fail
            go_roundw
            case rel => exact ⟨j + 1, by omega, by go_num, by rw [HT.out.2], KB10, by rw [HT.out.1]; exact HO10.out, B10⟩
            case measure => simp [intOf]; omega
        · have hjk : j = k := by omega
          subst hjk
          have hli2 : ¬ (j : Int) < (j : Int) := by omega
          have hlj := hlk j
          obtain ⟨k9, k0, k1, k2, k3, k4, f0, f1, f2, f3, f4⟩ := id KB
          cases hZ : ptA M x j with
          | true =>
            have HT := HPT.out hZ
            have HT' : Hid (pinL (lst M j) (x, lo, hi, y, sk) = poN M (x, lo, hi, y, sk) j) := HT
            clear HT HPT HPF hlk
            obtain ⟨av, cv, rfl, _, _, _⟩ := ownF_src OW
            go_wp2_with fail
            exact bodyPost_ret (v := (.tuple #[.slice av (poN M (x, lo, hi, y, sk) j).length cv, .int .i64 0])) (by simp (maxDischargeDepth := 6) [results, Try.results11, go_sem, *]) rfl ⟨_, rfl, by rw [HSK.out, HT'.out]; exact own_base OW (by omega), hB⟩
          | false =>
            have HT := HPF.out hZ
            have HT' : Hid (pinL (lst M j) (x, lo, hi, y, sk) = poN M (x, lo, hi, y, sk) j ++ [(x, lo, hi, y, sk)]) := HT
            clear HT HPT HPF hlk
            generalize hL : poN M (x, lo, hi, y, sk) j = L at *
            clear hL
            go_wp2_with (at_builtin; refine add_peer rfl _ _ rfl (bk + 1) L _ rfl OW rfl (by omega) (by omega) ?_; intro v' w9 O9 hg9 hn9)
            have HO9 : Hid (w9.ownsRow (bk + 1) 51 5 v' (L ++ [(x, lo, hi, y, sk)]).length (prow (L ++ [(x, lo, hi, y, sk)]))) := O9
            have B9 := hB.trans ((grown_belowK OW hg9 hBs1).mono (by omega))
            have KB9 := KB.kept hg9 (fun e => by have := (World.ownsRow.lt OW bk e.symm).1; omega)
            clear O9 OW hg9 hn9 hB KB
            clear k9 k0 k1 k2 k3 k4 f0 f1 f2 f3 f4
            have hv9 := HO9.out
            obtain ⟨av, cv, rfl, _, _, _⟩ := ownF_src hv9
            clear hv9
            go_wp2_with fail
            exact bodyPost_ret (v := (.tuple #[.slice av (L ++ [(x, lo, hi, y, sk)]).length cv, .int .i64 0])) (by simp (maxDischargeDepth := 6) [results, Try.results11, go_sem, *]) rfl ⟨_, rfl, by rw [HSK.out, HT'.out]; exact own_base HO9.out (by omega), B9⟩
end Go.Proofs.Ytkeijldfblgeaaa
