/- The walk of FnPutDrop. -/
import Derived.Test.YtkeijldfblgeaaaV105
import Derived.Test.YtkeijldfblgeaaaI108
import Derived.Test.YtkeijldfblgeaaaI113
import Derived.Deep.RegionHeld3
import Derived.WalkKit
import Derived.WalkSpells
import Derived.WalkLawsBesides
import Derived.Deep.RegionHeld
namespace Go.Proofs.Ytkeijldfblgeaaa
open Go.RowKit
set_option linter.unusedVariables false
set_option maxRecDepth 100000 in
set_option maxHeartbeats 8000000 in
theorem samePeers_some (b off b' off' n c c' : Nat) (M : Nat → PT) (w : World) (hn : n ≤ 900) (hf : Cs w b off (n * 5) (MFPeer M)) (hg : Cs w b' off' (n * 5) (MFPeer M)) :
    Calls Try.prog 17 #[.slice (some ⟨b, off, none⟩) n c, .slice (some ⟨b', off', none⟩) n c'] w fun e w' => e = .returned (.bool true) ∧ Below w.heap.size w w' := by
  go_enter Try.func17, Try.ntmps17
  go_wp2_with fail
  go_loopw [5] (fun i wr => ∃ k : Nat, k ≤ n ∧ i = .int .i64 k ∧ Below w.heap.size w wr) (fun i _ => n - (intOf i).toNat)
  case atStart => exact ⟨0, Nat.zero_le _, rfl, Below.refl _ _⟩
  case round =>
    obtain ⟨k, hk, rfl, hB⟩ := hrel
    by_cases hlt : k < n
    · obtain ⟨x0, x1, x2, x3, x4, hM⟩ := tupPeer M k
      obtain ⟨c0, c1, c2, c3, c4⟩ := (hf.below hB hf.1).elPeer hlt hM
      obtain ⟨d0, d1, d2, d3, d4⟩ := (hg.below hB hg.1).elPeer hlt hM
      have hb1 : b < wr.drew.heap.size := Nat.lt_of_lt_of_le hf.1 hB.size
      have hb2 : b' < wr.drew.heap.size := Nat.lt_of_lt_of_le hg.1 hB.size
      have hli : (k : Int) < (n : Int) := by omega
      clear hM
      go_wp2_with fail
      refine wp_region_held_drew (S := (fun w' => w'.cell? ⟨b, off + k * 5, none⟩ = some (.int .i64 x0) ∧ w'.cell? ⟨b, off + k * 5 + 1, none⟩ = some (.int .i64 x1) ∧ w'.cell? ⟨b, off + k * 5 + 2, none⟩ = some (.int .i64 x2) ∧ w'.cell? ⟨b, off + k * 5 + 3, none⟩ = some (.int .i64 x3) ∧ w'.cell? ⟨b, off + k * 5 + 4, none⟩ = some (.bool x4) ∧ w'.cell? ⟨b', off' + k * 5, none⟩ = some (.int .i64 x0) ∧ w'.cell? ⟨b', off' + k * 5 + 1, none⟩ = some (.int .i64 x1) ∧ w'.cell? ⟨b', off' + k * 5 + 2, none⟩ = some (.int .i64 x2) ∧ w'.cell? ⟨b', off' + k * 5 + 3, none⟩ = some (.int .i64 x3) ∧ w'.cell? ⟨b', off' + k * 5 + 4, none⟩ = some (.bool x4))) (by kernel_rfl) ?_ (fun hHeld => ?_)
      · first | exact ⟨c0, c1, c2, c3, c4, d0, d1, d2, d3, d4⟩ | (simp (maxDischargeDepth := 6) [go_sem, *]; done)
      refine wpAnyH_take (i := 0) (v := ?_) (by rw [List.getElem?_toArray]; rfl) (by kernel_rfl) (by kernel_rfl) (by kernel_rfl) (by intro _ _ _ h; exact h) (Or.inl ⟨by rfl, ?_⟩) (by assumption) ?_
      rotate_left
      · (intro w hSw; (try dsimp only at hSw); go_simp; all_goals with_reducible rfl)
      (try simp only [Act.put, List.setIfInBounds_toArray, List.set_cons_zero, List.set_cons_succ])
      refine wpAnyH_take (i := 1) (v := ?_) (by rw [List.getElem?_toArray]; rfl) (by kernel_rfl) (by kernel_rfl) (by kernel_rfl) (by intro _ _ _ h; exact h) (Or.inl ⟨by rfl, ?_⟩) (by assumption) ?_
      rotate_left
      · (intro w hSw; (try dsimp only at hSw); go_simp; all_goals with_reducible rfl)
      (try simp only [Act.put, List.setIfInBounds_toArray, List.set_cons_zero, List.set_cons_succ])
      refine wpAnyH_take (i := 2) (v := ?_) (by rw [List.getElem?_toArray]; rfl) (by kernel_rfl) (by kernel_rfl) (by kernel_rfl) (by intro _ _ _ h; exact h) (Or.inl ⟨by rfl, ?_⟩) (by assumption) ?_
      rotate_left
      · (intro w hSw; (try dsimp only at hSw); go_simp; all_goals with_reducible rfl)
      (try simp only [Act.put, List.setIfInBounds_toArray, List.set_cons_zero, List.set_cons_succ])
      refine wpAnyH_take (i := 3) (v := ?_) (by rw [List.getElem?_toArray]; rfl) (by kernel_rfl) (by kernel_rfl) (by kernel_rfl) (by intro _ _ _ h; exact h) (Or.inl ⟨by rfl, ?_⟩) (by assumption) ?_
      rotate_left
      · (intro w hSw; (try dsimp only at hSw); go_simp; all_goals with_reducible rfl)
      (try simp only [Act.put, List.setIfInBounds_toArray, List.set_cons_zero, List.set_cons_succ])
      refine wpAnyH_take (i := 4) (v := ?_) (by rw [List.getElem?_toArray]; rfl) (by kernel_rfl) (by kernel_rfl) (by kernel_rfl) (by intro _ _ _ h; exact h) (Or.inl ⟨by rfl, ?_⟩) (by assumption) ?_
      rotate_left
      · (intro w hSw; (try dsimp only at hSw); go_simp; all_goals with_reducible rfl)
      (try simp only [Act.put, List.setIfInBounds_toArray, List.set_cons_zero, List.set_cons_succ])
      refine wpAnyH_take (i := 5) (v := ?_) (by rw [List.getElem?_toArray]; rfl) (by kernel_rfl) (by kernel_rfl) (by kernel_rfl) (by intro _ _ _ h; exact h) (Or.inl ⟨by rfl, ?_⟩) (by assumption) ?_
      rotate_left
      · (intro w hSw; (try dsimp only at hSw); go_simp; all_goals with_reducible rfl)
      (try simp only [Act.put, List.setIfInBounds_toArray, List.set_cons_zero, List.set_cons_succ])
      refine wpAnyH_take (i := 6) (v := ?_) (by rw [List.getElem?_toArray]; rfl) (by kernel_rfl) (by kernel_rfl) (by kernel_rfl) (by intro _ _ _ h; exact h) (Or.inl ⟨by rfl, ?_⟩) (by assumption) ?_
      rotate_left
      · (intro w hSw; (try dsimp only at hSw); go_simp; all_goals with_reducible rfl)
      (try simp only [Act.put, List.setIfInBounds_toArray, List.set_cons_zero, List.set_cons_succ])
      refine wpAnyH_take (i := 7) (v := ?_) (by rw [List.getElem?_toArray]; rfl) (by kernel_rfl) (by kernel_rfl) (by kernel_rfl) (by intro _ _ _ h; exact h) (Or.inl ⟨by rfl, ?_⟩) (by assumption) ?_
      rotate_left
      · (intro w hSw; (try dsimp only at hSw); go_simp; all_goals with_reducible rfl)
      (try simp only [Act.put, List.setIfInBounds_toArray, List.set_cons_zero, List.set_cons_succ])
      refine wpAnyH_take (i := 8) (v := ?_) (by rw [List.getElem?_toArray]; rfl) (by kernel_rfl) (by kernel_rfl) (by kernel_rfl) (by intro _ _ _ h; exact h) (Or.inl ⟨by rfl, ?_⟩) (by assumption) ?_
      rotate_left
      · (intro w hSw; (try dsimp only at hSw); go_simp; all_goals with_reducible rfl)
      (try simp only [Act.put, List.setIfInBounds_toArray, List.set_cons_zero, List.set_cons_succ])
      refine wpAnyH_done (by kernel_rfl) ?_ _
      (try go_wp2_with fail)
      go_roundw
      case rel => exact ⟨k + 1, by omega, by go_num, Below.drew hB⟩
      case measure => simp [intOf]; omega
    · have hkk : k = n := by omega
      subst hkk
      go_wp2_with fail
      go_ret
      exact ⟨rfl, hB⟩
theorem samePeers_zero (a a' : Option Addr) (c c' : Nat) (w : World) :
    Calls Try.prog 17 #[.slice a 0 c, .slice a' 0 c'] w fun e w' => e = .returned (.bool true) ∧ Below w.heap.size w w' := by
  go_enter Try.func17, Try.ntmps17
  go_wp2_with fail
  go_loopw [5] (fun i wr => i = .int .i64 0 ∧ w = wr) (fun i _ => 0)
  case atStart => exact ⟨rfl, rfl⟩
  case round =>
    obtain ⟨rfl, rfl⟩ := hrel
    go_wp2_with fail
    go_ret
    exact ⟨rfl, Below.refl _ _⟩
theorem samePeers_src {w : World} {n c c' : Nat} {a a' : Option Addr} {M : Nat → PT} (hn : n ≤ 900) (h1 : SrcC w a (n * 5) (MFPeer M)) (h2 : SrcC w a' (n * 5) (MFPeer M)) :
    Calls Try.prog 17 #[.slice a n c, .slice a' n c'] w fun e w' => e = .returned (.bool true) ∧ Below w.heap.size w w' := by
  by_cases h0 : n = 0
  · subst h0
    exact samePeers_zero a a' c c' w
  · obtain ⟨b, off, rfl, C1⟩ := h1.some (by omega)
    obtain ⟨b', off', rfl, C2⟩ := h2.some (by omega)
    exact samePeers_some b off b' off' n c c' M w hn C1 C2
set_option maxRecDepth 100000 in
set_option maxHeartbeats 16000000 in
theorem walkPutDrop (a0 : Option Addr) (l0 c0 : Nat) (w : World) (hcode : CodeB w w.heap.size a0 l0) :
    Calls Try.prog 4 #[.slice a0 l0 c0] w fun e w' => e = .returned (.bool true) ∧ Below w.heap.size w w' := by
  have HC : Hid (CodeB w w.heap.size a0 l0) := hcode
  clear hcode
  go_enter Try.func4, Try.ntmps4
  go_wp2_with fail
  refine (big_any _ _ _ _).mono ?_
  rintro e w' ⟨rfl, rfl⟩
  by_cases hbg : 1048576 < (l0 : Int)
  · have hbd : decide (1048576 < (l0 : Int)) = true := decide_eq_true hbg
    go_wp2
    go_ret
    exact ⟨rfl, Below.refl _ _⟩
  have hbd : decide (1048576 < (l0 : Int)) = false := decide_eq_false hbg
  have hl0 : l0 ≤ 1048576 := by omega
  go_wp2_with fail
  refine (DrawPeerPut_any a0 l0 c0 w hl0 HC.out).mono ?_
  rintro e v ⟨vl, L, x, lo, hi, y, rfl, O, hL, wx, B⟩
  clear hbd hbg HC hl0
  obtain ⟨av, cv, rfl, _, _, _⟩ := ownF_src O
  have hm : L.length ≤ maxLen := by unfold maxLen; omega
  have CI := fun (w' : World) (h : SrcC w' av (L.length * 5) (MFPeer (gP L))) => implPeerPut_w av L.length cv (gP L) x lo hi y w' hm h wx
  have CS := fun (w' : World) (h : SrcC w' av (L.length * 5) (MFPeer (gP L))) => specPeerPut_any av L.length cv (gP L) x lo hi y w' hm h
  have A1 := Below.nw v (.cells #[.int .i64 lo, .int .i64 hi] 38)
  have N := Bx2.new v (.int .i64 lo) (.int .i64 hi) 38
  replace O := own_belK' O A1
  replace B := B.trans (A1.mono B.size)
  clear A1
  go_upto_region 4 with fail
  generalize v.heap.size = j at *
  generalize v.alloc (.cells #[.int .i64 lo, .int .i64 hi] 38) = v1 at *
  cases hP : ptP (gP L) L.length x lo hi y
  · simp only [(ptL_f hP).1, (ptL_f hP).2] at CI CS
    clear hP
    obtain ⟨n0, n1, n2, n3, n4⟩ := id N
    go_wp2_with fail
    refine (CI _ (ownS O)).mono ?_
    rintro e v2 ⟨vo, rfl, O1, hb⟩
    clear n0 n1 n2 n3 n4
    replace N := N.below hb
    replace O := own_belK' O hb
    replace B := B.trans (hb.mono B.size)
    clear hb
    obtain ⟨a1, c1, rfl, _, _, _⟩ := ownF_src O1
    obtain ⟨n0, n1, n2, n3, n4⟩ := id N
    go_wp2_with fail
    refine (CS _ (ownS O)).mono ?_
    rintro e v3 ⟨vs, rfl, _, hb⟩
    replace B := B.trans (hb.mono B.size)
    clear hb n0 n1 n2 n3 n4
    go_wp2_with fail
    go_ret
    exact ⟨rfl, B⟩
  have HP : Hid (ptP (gP L) L.length x lo hi y = true) := hP
  have HD := put_drop HP.out (one := ptL (gP L) L.length x lo hi y) rfl
  have h1L := PeerPut_len (gP L) L.length x lo hi y
  simp only [(ptL_t hP).2] at CI CS
  clear hP HP
  generalize ptL (gP L) L.length x lo hi y = one at *
  have hm1 : one.length ≤ maxLen := by unfold maxLen; omega
  obtain ⟨d1, d2⟩ := HD
  have HD2 : Hid _ := d2 _ rfl
  have h2L := PeerPut_len (gP one) one.length x 5 6 y
  have C2 := fun (w' : World) (a : Option Addr) (c : Nat) (h : SrcC w' a (one.length * 5) (MFPeer (gP one))) => implPeerPut_w a one.length c (gP one) x 5 6 y w' hm1 h wx
  simp only [d1] at C2
  clear d1 d2
  generalize ptL (gP one) one.length x 5 6 y = two at *
  have hm2 : two.length ≤ maxLen := by unfold maxLen; omega
  have C3 := fun (w' : World) (a : Option Addr) (c : Nat) (h : SrcC w' a (two.length * 5) (MFPeer (gP two))) => implPeerDrop_any a two.length c (gP two) x w' hm2 h wx
  have h3L := PeerDrop_len (gP two) two.length x
  simp only [HD2.out.1] at C3
  obtain ⟨_, e1, e2, e3, e4⟩ := HD2.out
  clear HD2
  generalize drL (gP two) two.length x = left at *
  have t1 : ((two.length : Int) != (one.length : Int)) = false := by rw [e1]; simp
  have t2 : ((left.length : Int) != (one.length : Int) - 1) = false := by rw [e2]; simp
  have E3 : Hid (hadB (gP L) x L.length = ((one.length : Int) == (L.length : Int))) := e3
  have E4 : Hid (hadB (gP L) x L.length = false → left = L) := e4
  clear e1 e2 e3 e4
  obtain ⟨n0, n1, n2, n3, n4⟩ := id N
  go_wp2_with fail
  refine (CI _ (ownS O)).mono ?_
  rintro e v2 ⟨vo, rfl, O1, hb⟩
  clear n0 n1 n2 n3 n4
  replace N := N.below hb
  replace O := own_belK' O hb
  replace B := B.trans (hb.mono B.size)
  clear hb CI
  obtain ⟨a1, c1, rfl, _, _, _⟩ := ownF_src O1
  obtain ⟨n0, n1, n2, n3, n4⟩ := id N
  go_wp2_with fail
  refine (CS _ (ownS O)).mono ?_
  rintro e v3 ⟨vs, rfl, _, hb⟩
  replace O := own_belK' O hb
  replace O1 := own_belK' O1 hb
  replace B := B.trans (hb.mono B.size)
  clear hb n0 n1 n2 n3 n4 N CS
  have OO : Hid (SrcC v3 av (L.length * 5) (MFPeer (gP L))) := ownS O
  go_wp2_with fail
  go_loopw [11, 12] (fun h i wr => ∃ k : Nat, k ≤ L.length ∧ i = .int .i64 k ∧ h = .bool (hadB (gP L) x k) ∧ wr = v3) (fun _ i _ => L.length - (intOf i).toNat)
  case atStart => exact ⟨0, Nat.zero_le _, rfl, rfl, rfl⟩
  case round =>
    obtain ⟨k, hk, rfl, rfl, rfl⟩ := hrel
    by_cases hlt : k < L.length
    · have hli : (k : Int) < (L.length : Int) := by omega
      obtain ⟨b, off, rfl, CC⟩ := OO.out.some (by omega)
      obtain ⟨x0, x1, x2, x3, x4, hM⟩ := tupPeer (gP L) k
      obtain ⟨k0, k1, k2, k3, k4⟩ := CC.elPeer hlt hM
      have hbl := CC.1
      have HH : Hid (hadB (gP L) x (k + 1) = (hadB (gP L) x k || x0 == x)) := by rw [Hid, hadB_succ, hM]
      clear hM k1 k2 k3 k4 CC E3 E4
      generalize hadB (gP L) x k = h1 at *
      cases h1
      · by_cases hx : x0 = x
        · subst hx
          go_wp2_with fail
          go_roundw
          case rel => exact ⟨k + 1, by omega, by go_num, by rw [HH.out]; simp [*], by first | rfl | trivial⟩
          case measure => simp [intOf]; omega
        · have hxd : (x0 == x) = false := beq_eq_false_iff_ne.2 hx
          go_wp2_with fail
          go_roundw
          case rel => exact ⟨k + 1, by omega, by go_num, by rw [HH.out]; simp [*], by first | rfl | trivial⟩
          case measure => simp [intOf]; omega
      · go_wp2_with fail
        go_roundw
        case rel => exact ⟨k + 1, by omega, by go_num, by rw [HH.out]; simp [*], by first | rfl | trivial⟩
        case measure => simp [intOf]; omega
    · have hkk : k = L.length := by omega
      subst hkk
      clear hk hlt
      go_wp2_with fail
      refine (C2 _ _ _ (ownS O1)).mono ?_
      rintro e v4 ⟨v2', rfl, O2, hb⟩
      replace O := own_belK' O hb
      replace O1 := own_belK' O1 hb
      replace B := B.trans (hb.mono B.size)
      clear hb OO C2
      obtain ⟨a2, c2, rfl, _, _, _⟩ := ownF_src O2
      go_wp2_with fail
      refine (C3 _ _ _ (ownS O2)).mono ?_
      rintro e v5 ⟨v3', rfl, O3, hb⟩
      replace O := own_belK' O hb
      replace B := B.trans (hb.mono B.size)
      clear hb C3
      obtain ⟨a3, c3, rfl, _, _, _⟩ := ownF_src O3
      cases hH : hadB (gP L) x L.length
      · have t3 : ((one.length : Int) == (L.length : Int)) = false := by rw [← E3.out]; exact hH
        have e5 := E4.out hH
        subst e5
        go_wp2_with fail
        refine (samePeers_src (by omega) (ownS O3) (ownS O)).mono ?_
        rintro e v6 ⟨rfl, hb⟩
        replace B := B.trans (hb.mono B.size)
        clear hb
        go_wp2_with fail
        go_ret
        exact ⟨rfl, B⟩
      · have t3 : ((one.length : Int) == (L.length : Int)) = true := by rw [← E3.out]; exact hH
        go_wp2_with fail
        go_ret
        exact ⟨rfl, B⟩
end Go.Proofs.Ytkeijldfblgeaaa
