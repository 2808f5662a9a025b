/- Contracts of PeerAge, PeersSure, PeerDrop in the specification. -/
import Derived.Test.YtoefgllhggnppaaI107
import Derived.WalkKit
import Derived.WalkSpells
import Derived.WalkLawsBesides
import Derived.Deep.RegionHeld
namespace Go.Proofs.Ytoefgllhggnppaa
open Go.RowKit
set_option linter.unusedVariables false
set_option maxRecDepth 100000 in
set_option maxHeartbeats 4000000 in
theorem specPeerAge_any (a : Option Addr) (n c : Nat) (M : Nat → PT) (x y : Int) (w : World) (hm : n ≤ maxLen) (hs : SrcC w a (n * 5) (MFPeer M)) :
    Calls Try.prog 38 #[.slice a n c, .int .i64 x, .int .i64 y] w fun e w' => e = .returned (.int .i64 (pAge M n x y)) ∧ Below w.heap.size w w' := by
  have HS : Hid (SrcC w a (n * 5) (MFPeer M)) := hs
  have C1 := specPeersOk_any a n c M w hm hs
  clear hs
  cases h1 : oks M n
  · rw [pAge_1 h1]
    go_enter Try.func38, Try.ntmps38
    go_wp2_with fail
    refine C1.mono ?_
    rintro e w1 ⟨rfl, hb⟩
    rw [h1]
    go_wp2_with fail
    go_ret
    exact ⟨rfl, hb⟩
  cases h2 : okT y
  · rw [pAge_2 h2]
    go_enter Try.func38, Try.ntmps38
    go_wp2_with fail
    refine C1.mono ?_
    rintro e w1 ⟨rfl, hb⟩
    rw [h1]
    go_wp2_with fail
    refine (l2Time_any _ _).mono ?_
    rintro e w' ⟨rfl, rfl⟩
    rw [h2]
    go_wp2_with fail
    go_ret
    exact ⟨rfl, hb⟩
  rw [pAge_t h1 h2]
  have HOK : Hid (oks M n = true) := h1
  have hn8 := oks_le h1
  have ⟨hy0, hy1⟩ := okT_t h2
  go_enter Try.func38, Try.ntmps38
  go_wp2_with fail
  refine C1.mono ?_
  rintro e w1 ⟨rfl, B0⟩
  rw [h1]
  go_wp2_with fail
  refine (l2Time_any _ _).mono ?_
  rintro e w' ⟨rfl, rfl⟩
  rw [h2]
  clear C1 h1 h2
  go_wp2_with fail
  go_loopw [7] (fun i wr => ∃ k : Nat, k ≤ n ∧ i = .int .i64 k ∧ (∀ j, j < k → (M j).1 ≠ x) ∧ w1 = wr) (fun i _ => n - (intOf i).toNat)
  case atStart => exact ⟨0, Nat.zero_le _, rfl, fun j hj => absurd hj (Nat.not_lt_zero _), rfl⟩
  case round =>
    obtain ⟨k, hk, rfl, hno, rfl⟩ := hrel
    have HNO : Hid (∀ j, j < k → (M j).1 ≠ x) := hno
    clear hno
    by_cases hlt : k < n
    · obtain ⟨b, off, rfl, hf⟩ := HS.out.some (by omega)
      obtain ⟨x0, x1, x2, x3, x4, hM⟩ := tupPeer M k
      obtain ⟨c0, c1, c2, c3, c4⟩ := (hf.below B0 hf.1).elPeer hlt hM
      have hat := okT_t (oks_p HOK.out hlt).2.2
      rw [hM] at hat
      have hat0 : 0 ≤ x3 := hat.1
      have hat1 : x3 ≤ 1000000000000 := hat.2
      have HM : Hid (M k = (x0, x1, x2, x3, x4)) := hM
      have hli : (k : Int) < (n : Int) := by omega
      have hbr : b < w1.heap.size := Nat.lt_of_lt_of_le hf.1 B0.size
      clear hM hat hf
      by_cases h4 : x0 = x
      · have HT : Hid (agO y (lkP M n x) = imx (y - x3) (-1)) := by
          have q := lkP_at (fun i j h1 h2 => oks_asc HOK.out h1 h2) hlt
          rw [HM.out] at q
          rw [Hid, ← h4, q]
          rfl
        have h4' : (x0 == x) = true := by simp [h4]
        clear h4
        go_wp2_with fail
        refine (l1Max_any _ _ _).mono ?_
        rintro e w' ⟨rfl, rfl⟩
        go_wp2_with fail
        go_ret
        exact ⟨by rw [HT.out]; rfl, B0⟩
      · have h4' : (x0 == x) = false := by simp [h4]
        go_wp2_with fail
        go_roundw
        case rel => exact ⟨k + 1, by omega, by go_num, fun j hj => by
          by_cases e : j = k
          · subst e; rw [HM.out]; exact h4
          · exact HNO.out j (by omega), by first | rfl | trivial⟩
        case measure => simp [intOf]; omega
    · have hkn : k = n := by omega
      subst hkn
      have hli : ¬ (k : Int) < (k : Int) := by omega
      have HT : Hid (agO y (lkP M k x) = -1) := by rw [Hid, lkP_none HNO.out]; rfl
      go_wp2_with fail
      go_ret
      exact ⟨by rw [HT.out]; rfl, B0⟩
set_option maxRecDepth 100000 in
set_option maxHeartbeats 4000000 in
theorem specPeersSure_any (a : Option Addr) (n c : Nat) (M : Nat → PT) (w : World) (hm : n ≤ maxLen) (hs : SrcC w a (n * 5) (MFPeer M)) :
    Calls Try.prog 36 #[.slice a n c] w fun e w' => ∃ v, e = .returned v ∧ w'.ownsRow w.heap.size 3 1 v (suL M n).length (irow (suL M n)) ∧ Below w.heap.size w w' := by
  have HS : Hid (SrcC w a (n * 5) (MFPeer M)) := hs
  have B0 := Below.nw w (.cells #[] 3)
  have O0 := made_int w
  have C1 := fun (v : World) (hb : Below w.heap.size w v) => specPeersOk_any a n c M v hm (HS.out.below hb)
  clear hs
  cases h1 : oks M n
  · rw [suL_f h1]
    go_enter Try.func36, Try.ntmps36
    go_upto_region 2 with fail
    generalize hw0 : w.alloc (.cells #[] 3) = w0 at *
    clear hw0
    go_wp2_with fail
    unfold maxLen at hm
    go_loopw [3, 4] (fun v i wr => v = .slice (some ⟨w.heap.size, 0, none⟩) 0 0 ∧ i = .int .i64 0 ∧ w0 = wr) (fun _ _ _ => 0)
    case atStart => exact ⟨rfl, rfl, rfl⟩
    case round =>
      obtain ⟨rfl, rfl, rfl⟩ := hrel
      by_cases hz : n = 0
      · subst hz
        go_wp2_with fail
        go_ret
        exact ⟨_, rfl, O0, B0⟩
      · have hli : (0 : Int) < (n : Int) := by omega
        go_wp2_with fail
        refine (C1 _ B0).mono ?_
        rintro e w1 ⟨rfl, hb⟩
        rw [h1]
        replace B0 := B0.trans (hb.mono B0.size)
        replace O0 := own_belK' O0 hb
        clear hb
        go_wp2_with fail
        go_ret
        exact ⟨_, rfl, O0, B0⟩
  rw [suL_t h1]
  have hn8 := oks_le h1
  go_enter Try.func36, Try.ntmps36
  go_upto_region 2 with fail
  generalize hw0 : w.alloc (.cells #[] 3) = w0 at *
  clear hw0
  go_wp2_with fail
  go_loopw [3, 4] (fun v i wr => ∃ k : Nat, k ≤ n ∧ i = .int .i64 k ∧ wr.ownsRow w.heap.size 3 1 v (suN M k).length (irow (suN M k)) ∧ Below w.heap.size w wr) (fun _ i _ => n - (intOf i).toNat)
  case atStart => exact ⟨0, Nat.zero_le _, rfl, O0, B0⟩
  case round =>
    obtain ⟨k, hk, rfl, OW, hB⟩ := hrel
    by_cases hlt : k < n
    · obtain ⟨b, off, rfl, hf⟩ := HS.out.some (by omega)
      obtain ⟨x0, x1, x2, x3, x4, hM⟩ := tupPeer M k
      have hli : (k : Int) < (n : Int) := by omega
      have hln := suN_len M k
      have HY : Hid (x4 = false → suN M (k + 1) = suN M k ++ [x0]) := fun h => by
        have q := suN_yes (M := M) (k := k) (by rw [hM]; exact h)
        rw [hM] at q
        exact q
      have HNn : Hid (x4 = true → suN M (k + 1) = suN M k) := fun h => suN_no (by rw [hM]; exact h)
      go_wp2_with fail
      refine (C1 _ hB).mono ?_
      rintro e w1 ⟨rfl, hb⟩
      rw [h1]
      replace hB := hB.trans (hb.mono hB.size)
      replace OW := own_belK' OW hb
      clear hb
      obtain ⟨c0, c1, c2, c3, c4⟩ := (hf.below hB hf.1).elPeer hlt hM
      have hbr : b < w1.heap.size := Nat.lt_of_lt_of_le hf.1 hB.size
      clear hM
      have hBs := hB.size
      generalize suN M k = L at *
      cases x4 with
      | false =>
        have HT' : Hid (suN M (k + 1) = L ++ [x0]) := HY.out rfl
        clear HY HNn
        go_wp2_with (at_builtin; refine add_int rfl _ _ rfl w.heap.size L _ rfl OW rfl (by omega) (by omega) ?_; intro v' w9 O9 hg9 hn9)
        have HO9 : Hid (w9.ownsRow w.heap.size 3 1 v' (L ++ [x0]).length (irow (L ++ [x0]))) := O9
        have B9 := hB.trans (grown_belowK OW hg9 hBs)
        clear O9 OW hg9 hn9 hB c0 c1 c2 c3 c4
        go_wp2_with fail
        go_roundw
        case rel => exact ⟨k + 1, by omega, by go_num, by rw [HT'.out]; exact HO9.out, B9⟩
        case measure => simp [intOf]; omega
      | true =>
        have HT' : Hid (suN M (k + 1) = L) := HNn.out rfl
        clear HY HNn
        go_wp2_with fail
        go_roundw
        case rel => exact ⟨k + 1, by omega, by go_num, by rw [HT'.out]; exact OW, hB⟩
        case measure => simp [intOf]; omega
    · have hkn : k = n := by omega
      subst hkn
      have hli : ¬ (k : Int) < (k : Int) := by omega
      obtain ⟨av, cv, rfl, _, _, _⟩ := ownF_src OW
      go_wp2_with fail
      go_ret
      exact ⟨_, rfl, OW, hB⟩
set_option maxRecDepth 100000 in
set_option maxHeartbeats 4000000 in
theorem specPeerDrop_any (a : Option Addr) (n c : Nat) (M : Nat → PT) (x : Int) (w : World) (hm : n ≤ maxLen) (hs : SrcC w a (n * 5) (MFPeer M)) :
    Calls Try.prog 34 #[.slice a n c, .int .i64 x] w fun e w' => ∃ v, e = .returned (.tuple #[v, .int .i64 (drC M n x)]) ∧ w'.ownsRow w.heap.size 59 5 v (drL M n x).length (prow (drL M n x)) ∧ Below w.heap.size w w' := by
  have HS : Hid (SrcC w a (n * 5) (MFPeer M)) := hs
  have B0 := Below.nw w (.cells #[] 59)
  have O0 := made_peer w
  have C1 := fun (v : World) (hb : Below w.heap.size w v) => specPeersOk_any a n c M v hm (HS.out.below hb)
  clear hs
  cases h1 : oks M n
  · rw [(drL_f h1).1, (drL_f h1).2]
    go_enter Try.func34, Try.ntmps34
    go_upto_region 2 with fail
    generalize hw0 : w.alloc (.cells #[] 59) = w0 at *
    clear hw0
    go_wp2_with fail
    refine (C1 _ B0).mono ?_
    rintro e w1 ⟨rfl, hb⟩
    rw [h1]
    replace B0 := B0.trans (hb.mono B0.size)
    replace O0 := own_belK' O0 hb
    clear hb
    go_wp2_with fail
    exact bodyPost_ret (v := (.tuple #[.slice (some ⟨w.heap.size, 0, none⟩) 0 0, .int .i64 1])) (by simp (maxDischargeDepth := 6) [results, Try.results34, go_sem, *]) rfl ⟨_, rfl, O0, B0⟩
  rw [(drL_t h1).1, (drL_t h1).2]
  have hn8 := oks_le h1
  go_enter Try.func34, Try.ntmps34
  go_upto_region 2 with fail
  generalize hw0 : w.alloc (.cells #[] 59) = w0 at *
  clear hw0
  go_wp2_with fail
  refine (C1 _ B0).mono ?_
  rintro e w1 ⟨rfl, hb⟩
  rw [h1]
  replace B0 := B0.trans (hb.mono B0.size)
  replace O0 := own_belK' O0 hb
  clear hb C1 h1
  go_wp2_with fail
  go_loopw [6, 7, 8] (fun v q i wr => ∃ k : Nat, k ≤ n ∧ i = .int .i64 k ∧ q = .int .i64 (drA M x k) ∧ wr.ownsRow w.heap.size 59 5 v (drN M x k).length (prow (drN M x k)) ∧ Below w.heap.size w wr) (fun _ _ i _ => n - (intOf i).toNat)
  case atStart => exact ⟨0, Nat.zero_le _, rfl, rfl, O0, B0⟩
  case round =>
    obtain ⟨k, hk, rfl, rfl, OW, hB⟩ := hrel
    by_cases hlt : k < n
    · obtain ⟨b, off, rfl, hf⟩ := HS.out.some (by omega)
      obtain ⟨x0, x1, x2, x3, x4, hM⟩ := tupPeer M k
      have hli : (k : Int) < (n : Int) := by omega
      have hln := drN_len M x k
      have HY : Hid (x0 ≠ x → drN M x (k + 1) = drN M x k ++ [(x0, x1, x2, x3, x4)] ∧ drA M x (k + 1) = drA M x k) := fun h => by
        have q := drN_yes (M := M) (k := k) (x := x) (by rw [hM]; exact h)
        rw [hM] at q
        exact ⟨q, drA_no (by rw [hM]; exact h)⟩
      have HNn : Hid (x0 = x → drN M x (k + 1) = drN M x k ∧ drA M x (k + 1) = 0) := fun h => ⟨drN_no (by rw [hM]; exact h), drA_yes (by rw [hM]; exact h)⟩
      obtain ⟨c0, c1, c2, c3, c4⟩ := (hf.below hB hf.1).elPeer hlt hM
      have hbr : b < wr.heap.size := Nat.lt_of_lt_of_le hf.1 hB.size
      clear hM
      have hBs := hB.size
      generalize drN M x k = L at *
      generalize drA M x k = Z at *
      by_cases h4 : x0 = x
      · have HT' : Hid (drN M x (k + 1) = L ∧ drA M x (k + 1) = 0) := HNn.out h4
        have h4' : (x0 == x) = true := by simp [h4]
        clear HY HNn h4
        go_wp2_with fail
        go_roundw
        case rel => exact ⟨k + 1, by omega, by go_num, by rw [HT'.out.2], by rw [HT'.out.1]; exact OW, hB⟩
        case measure => simp [intOf]; omega
      · have HT' : Hid (drN M x (k + 1) = L ++ [(x0, x1, x2, x3, x4)] ∧ drA M x (k + 1) = Z) := HY.out h4
        have h4' : (x0 == x) = false := by simp [h4]
        clear HY HNn h4
        go_wp2_with (at_builtin; refine add_peer rfl _ _ rfl w.heap.size L _ rfl OW rfl (by omega) (by omega) ?_; intro v' w9 O9 hg9 hn9)
        have HO9 : Hid (w9.ownsRow w.heap.size 59 5 v' (L ++ [(x0, x1, x2, x3, x4)]).length (prow (L ++ [(x0, x1, x2, x3, x4)]))) := O9
        have B9 := hB.trans (grown_belowK OW hg9 hBs)
        clear O9 OW hg9 hn9 hB c0 c1 c2 c3 c4
        go_wp2_with fail
        go_roundw
        case rel => exact ⟨k + 1, by omega, by go_num, by rw [HT'.out.2], by rw [HT'.out.1]; exact HO9.out, B9⟩
        case measure => simp [intOf]; omega
    · have hkn : k = n := by omega
      subst hkn
      have hli : ¬ (k : Int) < (k : Int) := by omega
      obtain ⟨av, cv, rfl, _, _, _⟩ := ownF_src OW
      go_wp2_with fail
      exact bodyPost_ret (v := (.tuple #[.slice av (drN M x k).length cv, .int .i64 (drA M x k)])) (by simp (maxDischargeDepth := 6) [results, Try.results34, go_sem, *]) rfl ⟨_, rfl, OW, hB⟩
end Go.Proofs.Ytoefgllhggnppaa
