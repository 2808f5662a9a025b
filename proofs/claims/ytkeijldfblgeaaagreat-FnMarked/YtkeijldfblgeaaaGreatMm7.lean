/- The walk of FnMarked. -/
import Derived.Test.YtkeijldfblgeaaaGreatMm6
import Derived.Deep.RegionHeld3
import Derived.Deep.DeepCutAuto
import Derived.WalkKit
import Derived.WalkSpells
import Derived.WalkLawsBesides
import Derived.Deep.RegionHeld
namespace Go.Proofs.YtkeijldfblgeaaaGreat
open Go.RowKit
set_option linter.unusedVariables false
theorem own_sliceM {w : World} {base : Nat} {T : TypeId} {s n : Nat} {v : Value} {xs : List Value} (h : w.ownsRow base T s v n xs) : ∃ a c, v = .slice a n c := by
  rcases h.2 with ⟨rfl, h0⟩ | ⟨g, cap, cur, rfl, _⟩
  · exact ⟨none, 0, by rw [h0]⟩
  · exact ⟨_, _, rfl⟩
theorem SrcK.elP {w : World} {b off n k lim : Nat} {M : Nat → PT} {x0 x1 x2 x3 : Int} {x4 : Bool} (h : SrcK w (some ⟨b, off, none⟩) (n * 5) (MFPeer M) lim) (hk : k < n) (hM : M k = (x0, x1, x2, x3, x4)) : b < w.heap.size ∧ w.cell? ⟨b, off + k * 5, none⟩ = some (.int .i64 x0) ∧ w.cell? ⟨b, off + k * 5 + 1, none⟩ = some (.int .i64 x1) ∧ w.cell? ⟨b, off + k * 5 + 2, none⟩ = some (.int .i64 x2) ∧ w.cell? ⟨b, off + k * 5 + 3, none⟩ = some (.int .i64 x3) ∧ w.cell? ⟨b, off + k * 5 + 4, none⟩ = some (.bool x4) := by
  rcases h with h | ⟨b', off', e, _, hc⟩
  · omega
  · simp at e
    obtain ⟨rfl, rfl⟩ := e
    exact ⟨hc.1, hc.elPeer hk hM⟩
theorem SrcK.atP {w : World} {a : Option Addr} {n lim : Nat} {F : Nat → Value} (h : SrcK w a (n * 5) F lim) (hn : 0 < n) : ∃ b off, a = some ⟨b, off, none⟩ := by
  rcases h with h | ⟨b', off', e, _, _⟩
  · omega
  · exact ⟨_, _, e⟩
theorem Two.elT {w : World} {base g c g' c' q : Nat} {C : List CT} {ci cl ch : Int} (h : Two w base C (.slice (some ⟨g, 0, none⟩) C.length c) (.slice (some ⟨g', 0, none⟩) C.length c')) (hq : q < C.length) (hC : gC C q = (ci, cl, ch)) : g < w.heap.size ∧ g' < w.heap.size ∧ w.cell? ⟨g, q * 2, none⟩ = some (.int .i64 cl) ∧ w.cell? ⟨g, q * 2 + 1, none⟩ = some (.int .i64 ch) ∧ w.cell? ⟨g', q, none⟩ = some (.int .i64 ci) := by
  obtain ⟨a, _, a', _, e0, e1, h1, h2, h3, h4, h5⟩ := h.at hq
  injection e0 with e0a _ _
  injection e1 with e1a _ _
  simp at e0a e1a
  subst e0a e1a
  rw [hC] at h3 h4 h5
  exact ⟨h1, h2, h3, h4, h5⟩
/- The state of the loops: the interval, what is carried, the list and what came of it. -/
def Mk (w : World) (jA lim base : Nat) (lo hi : Int) (C : List CT) (v0 v1 : Value) (av ao : Option Addr) (n : Nat) (M G : Nat → PT) (wr : World) : Prop :=
  Bx2 wr jA (.int .i64 lo) (.int .i64 hi) ∧ Two wr base C v0 v1 ∧ SrcK wr av (n * 5) (MFPeer M) lim ∧ SrcK wr ao (n * 5) (MFPeer G) lim ∧ (jA < lim ∧ (∀ g, v0.ownBlock = some g → g < lim) ∧ (∀ g, v1.ownBlock = some g → g < lim)) ∧ (w.heap.size ≤ lim ∧ lim ≤ wr.heap.size) ∧ Below w.heap.size w wr
theorem Mk.below {w : World} {jA lim base : Nat} {lo hi : Int} {C : List CT} {v0 v1 : Value} {av ao : Option Addr} {n : Nat} {M G : Nat → PT} {wr wr' : World} (h : Mk w jA lim base lo hi C v0 v1 av ao n M G wr) (hb : Below wr.heap.size wr wr') : Mk w jA lim base lo hi C v0 v1 av ao n M G wr' := by
  obtain ⟨h1, h2, h3, h4, h5, h6, h7⟩ := h
  exact ⟨h1.below hb, h2.below hb, h3.below hb, h4.below hb, h5, ⟨h6.1, Nat.le_trans h6.2 hb.size⟩, h7.trans (hb.mono h7.size)⟩
theorem Mk.drew {w : World} {jA lim base : Nat} {lo hi : Int} {C : List CT} {v0 v1 : Value} {av ao : Option Addr} {n : Nat} {M G : Nat → PT} {wr : World} (h : Mk w jA lim base lo hi C v0 v1 av ao n M G wr) : Mk w jA lim base lo hi C v0 v1 av ao n M G wr.drew := by
  obtain ⟨h1, h2, h3, h4, h5, h6, h7⟩ := h
  exact ⟨h1, h2, h3, h4, h5, h6, Below.drew h7⟩
theorem Mk.but {w : World} {jA lim base : Nat} {lo hi : Int} {C : List CT} {v0 v1 : Value} {av ao : Option Addr} {n : Nat} {M G : Nat → PT} {wr wr' : World} {j : Nat} (h : Mk w jA lim base lo hi C v0 v1 av ao n M G wr) (hb : But j wr wr') (hj : lim ≤ j) : Mk w jA lim base lo hi C v0 v1 av ao n M G wr' := by
  obtain ⟨h1, h2, h3, h4, h5, h6, h7⟩ := h
  refine ⟨h1.but hb (by omega), h2.but hb (fun g hg => by have := h5.2.1 g hg; omega) (fun g hg => by have := h5.2.2 g hg; omega), h3.kept hb.grK (fun b hb' e => by have := Option.some.inj e; omega), h4.kept hb.grK (fun b hb' e => by have := Option.some.inj e; omega), h5, ⟨h6.1, Nat.le_trans h6.2 hb.2.2.2.1⟩, h7.trans (hb.below (by omega) h7.size)⟩
theorem one_src (w : World) : SrcC (w.alloc (.cells #[.int .i64 0, .int .i64 0, .int .i64 0, .int .i64 0, .bool false] 35)) (some ⟨w.heap.size, 0, none⟩) (1 * 5) (MFPeer (gP [zP])) := by
  refine .inr ⟨_, _, rfl, by simp, fun i hi => ?_⟩
  match i, hi with
  | 0, _ => simp [MFPeer, gP, zP, MCPeer]
  | 1, _ => simp [MFPeer, gP, zP, MCPeer]
  | 2, _ => simp [MFPeer, gP, zP, MCPeer]
  | 3, _ => simp [MFPeer, gP, zP, MCPeer]
  | 4, _ => simp [MFPeer, gP, zP, MCPeer]
set_option maxRecDepth 100000 in
set_option maxHeartbeats 16000000 in
theorem walkMarked (a0 : Option Addr) (l0 c0 : Nat) (w : World) (hcode : CodeB w w.heap.size a0 l0) :
    Calls Tryz.prog 3 #[.slice a0 l0 c0] w fun e w' => e = .returned (.bool true) ∧ Below w.heap.size w w' := by
  have HC : Hid (CodeB w w.heap.size a0 l0) := hcode
  clear hcode
  go_enter Tryz.func3, Tryz.ntmps3
  go_wp2_with fail
  refine (big_any _ _ _ _).mono ?_
  rintro e w' ⟨rfl, rfl⟩
  by_cases hbg : 1048576 < (l0 : Int)
  · have hbd : decide (1048576 < (l0 : Int)) = true := decide_eq_true hbg
    go_wp2
    go_ret
    exact ⟨rfl, Below.refl _ _⟩
  have hbd : decide (1048576 < (l0 : Int)) = false := decide_eq_false hbg
  have hl0 : l0 ≤ 1048576 := by omega
  go_wp2_with fail
  refine (DrawPeersMark_any a0 l0 c0 w hl0 HC.out).mono ?_
  rintro e v ⟨vl, L, dn, dd, x, y, lo, hi, rfl, O, hL, B⟩
  clear hbd hbg HC hl0
  obtain ⟨av, cv, rfl, _, _, _⟩ := ownF_src O
  have hm : L.length ≤ maxLen := by unfold maxLen; omega
  have A1 := Below.nw v (.cells #[.int .i64 dn, .int .i64 dd] 26)
  have A2 := Below.nw (v.alloc (.cells #[.int .i64 dn, .int .i64 dd] 26)) (.cells #[.int .i64 lo, .int .i64 hi] 28)
  have D := (Bx2.new v (.int .i64 dn) (.int .i64 dd) 26).below A2
  have N := Bx2.new (v.alloc (.cells #[.int .i64 dn, .int .i64 dd] 26)) (.int .i64 lo) (.int .i64 hi) 28
  simp only [World.size_alloc] at N
  replace O := own_belK' (own_belK' O A1) A2
  replace B := (B.trans (A1.mono B.size)).trans (A2.mono (B.trans (A1.mono B.size)).size)
  clear A1 A2
  go_upto_region 4 with fail
  generalize v.heap.size = j at *
  generalize (v.alloc (.cells #[.int .i64 dn, .int .i64 dd] 26)).alloc (.cells #[.int .i64 lo, .int .i64 hi] 28) = v1 at *
  have CM := fun (w' : World) (h : SrcC w' av (L.length * 5) (MFPeer (gP L))) => implPeersMark_w av L.length cv (gP L) dn dd x y lo hi w' hm h
  have CO := fun (w' : World) (h : SrcC w' av (L.length * 5) (MFPeer (gP L))) => specPeersOk_any av L.length cv (gP L) w' hm h
  have C9 := fun (w' : World) (a : Option Addr) (c : Nat) (h : SrcC w' a (1 * 5) (MFPeer (gP [zP]))) => implPeersMark_w a 1 c (gP [zP]) dn dd x y 0 0 w' (by unfold maxLen; omega) h
  cases h1 : oks (gP L) L.length
  · rw [mrL_1 h1] at CM
    obtain ⟨d0, d1, d2, d3, d4⟩ := id D
    obtain ⟨n0, n1, n2, n3, n4⟩ := id N
    go_wp2_with fail
    refine (CM _ (ownS O)).mono ?_
    rintro e v2 ⟨vo, rfl, O1, hb⟩
    clear d0 d1 d2 d3 d4 n0 n1 n2 n3 n4
    replace D := D.below hb
    replace N := N.below hb
    replace O := own_belK' O hb
    replace B := B.trans (hb.mono B.size)
    clear hb CM
    obtain ⟨ao, co, rfl⟩ := own_sliceM O1
    go_wp2_with fail
    refine (CO _ (ownS O)).mono ?_
    rintro e v3 ⟨rfl, hb⟩
    rw [h1]
    replace D := D.below hb
    replace N := N.below hb
    replace O := own_belK' O hb
    replace O1 := own_belK' O1 hb
    replace B := B.trans (hb.mono B.size)
    clear hb CO
    obtain ⟨d0, d1, d2, d3, d4⟩ := id D
    have HM := mark_one dn dd x y
    generalize mrL (gP [zP]) 1 dn dd x y 0 0 = U at *
    have HS1 := one_src v3
    have A1 := Below.nw v3 (.cells #[.int .i64 0, .int .i64 0, .int .i64 0, .int .i64 0, .bool false] 35)
    replace B := B.trans (A1.mono B.size)
    clear A1
    go_wp2_with fail
    refine (C9 _ _ _ HS1).mono ?_
    rintro e v6 ⟨vu, rfl, OU, hb⟩
    replace B := B.trans (hb.mono B.size)
    rw [HM] at OU
    obtain ⟨au, cu, rfl⟩ := own_sliceM OU
    clear hb OU HM HS1 C9
    go_wp2_with fail
    go_ret
    exact ⟨rfl, B⟩
  cases h2 : okI lo hi
  · rw [mrL_2 h2] at CM
    obtain ⟨d0, d1, d2, d3, d4⟩ := id D
    obtain ⟨n0, n1, n2, n3, n4⟩ := id N
    go_wp2_with fail
    refine (CM _ (ownS O)).mono ?_
    rintro e v2 ⟨vo, rfl, O1, hb⟩
    clear d0 d1 d2 d3 d4 n0 n1 n2 n3 n4
    replace D := D.below hb
    replace N := N.below hb
    replace O := own_belK' O hb
    replace B := B.trans (hb.mono B.size)
    clear hb CM
    obtain ⟨ao, co, rfl⟩ := own_sliceM O1
    go_wp2_with fail
    refine (CO _ (ownS O)).mono ?_
    rintro e v3 ⟨rfl, hb⟩
    rw [h1]
    replace D := D.below hb
    replace N := N.below hb
    replace O := own_belK' O hb
    replace O1 := own_belK' O1 hb
    replace B := B.trans (hb.mono B.size)
    clear hb CO
    obtain ⟨n0, n1, n2, n3, n4⟩ := id N
    go_wp2_with fail
    refine (specIvalOk_any _ _ _).mono ?_
    rintro e v4 ⟨rfl, hb⟩
    rw [h2]
    clear n0 n1 n2 n3 n4
    replace D := D.below hb
    replace N := N.below hb
    replace O := own_belK' O hb
    replace O1 := own_belK' O1 hb
    replace B := B.trans (hb.mono B.size)
    clear hb
    obtain ⟨d0, d1, d2, d3, d4⟩ := id D
    have HM := mark_one dn dd x y
    generalize mrL (gP [zP]) 1 dn dd x y 0 0 = U at *
    have HS1 := one_src v4
    have A1 := Below.nw v4 (.cells #[.int .i64 0, .int .i64 0, .int .i64 0, .int .i64 0, .bool false] 35)
    replace B := B.trans (A1.mono B.size)
    clear A1
    go_wp2_with fail
    refine (C9 _ _ _ HS1).mono ?_
    rintro e v6 ⟨vu, rfl, OU, hb⟩
    replace B := B.trans (hb.mono B.size)
    rw [HM] at OU
    obtain ⟨au, cu, rfl⟩ := own_sliceM OU
    clear hb OU HM HS1 C9
    go_wp2_with fail
    go_ret
    exact ⟨rfl, B⟩
  clear C9
  rw [mrL_t h1 h2] at CM
  have CS := fun (w' : World) (h : SrcC w' av (L.length * 5) (MFPeer (gP L))) => specPeersCarried_any av L.length cv (gP L) dn dd x y w' hm h
  have hCl := caL_len (gP L) L.length dn dd x y
  have HOK : Hid (∀ q, q < (caL (gP L) L.length dn dd x y).length → okI (gC (caL (gP L) L.length dn dd x y) q).2.1 (gC (caL (gP L) L.length dn dd x y) q).2.2 = true) := fun q hq => (caL_at hq).1
  generalize caL (gP L) L.length dn dd x y = C at *
  have HG : Hid (∀ k, k < L.length → gP ((lst (gP L) L.length).map (mkO C lo hi)) k = mkO C lo hi (gP L k)) := fun k hk => mark_at hk
  have HSU : Hid ((suL (gP ((lst (gP L) L.length).map (mkO C lo hi))) L.length).length = suc (mkO C lo hi) (gP L) L.length) := by
    have := mark_sure (C := C) (lo := lo) (hi := hi) h1
    rw [List.length_map, lst_len] at this
    exact this
  have hlm : ((lst (gP L) L.length).map (mkO C lo hi)).length = L.length := by rw [List.length_map, lst_len]
  obtain ⟨d0, d1, d2, d3, d4⟩ := id D
  obtain ⟨n0, n1, n2, n3, n4⟩ := id N
  go_wp2_with fail
  refine (CM _ (ownS O)).mono ?_
  rintro e v2 ⟨vo, rfl, O1, hb⟩
  clear d0 d1 d2 d3 d4 n0 n1 n2 n3 n4
  replace D := D.below hb
  replace N := N.below hb
  replace O := own_belK' O hb
  replace B := B.trans (hb.mono B.size)
  clear hb CM
  have OS : v2.ownsRow v1.heap.size 35 5 vo L.length ((List.range (L.length * 5)).map (MFPeer (gP ((lst (gP L) L.length).map (mkO C lo hi))))) := by
    have e : prow ((lst (gP L) L.length).map (mkO C lo hi)) = (List.range (L.length * 5)).map (MFPeer (gP ((lst (gP L) L.length).map (mkO C lo hi)))) := by rw [prow, hlm]
    rw [← e]
    rw [hlm] at O1
    exact O1
  clear O1 hlm
  generalize gP ((lst (gP L) L.length).map (mkO C lo hi)) = G at *
  have O1 := OS
  clear OS
  obtain ⟨ao, co, rfl⟩ := own_sliceM O1
  go_wp2_with fail
  refine (CO _ (ownS O)).mono ?_
  rintro e v3 ⟨rfl, hb⟩
  rw [h1]
  replace D := D.below hb
  replace N := N.below hb
  replace O := own_belK' O hb
  replace O1 := own_belK' O1 hb
  replace B := B.trans (hb.mono B.size)
  clear hb CO
  obtain ⟨n0, n1, n2, n3, n4⟩ := id N
  go_wp2_with fail
  refine (specIvalOk_any _ _ _).mono ?_
  rintro e v4 ⟨rfl, hb⟩
  rw [h2]
  clear n0 n1 n2 n3 n4
  replace D := D.below hb
  replace N := N.below hb
  replace O := own_belK' O hb
  replace O1 := own_belK' O1 hb
  replace B := B.trans (hb.mono B.size)
  clear hb
  have H2 : Hid (okI lo hi = true) := h2
  clear h1 h2
  obtain ⟨d0, d1, d2, d3, d4⟩ := id D
  go_wp2_with fail
  refine (CS _ (ownS O)).mono ?_
  rintro e v5 ⟨w0, w1, rfl, O2, O3, hb⟩
  clear d0 d1 d2 d3 d4 D
  replace N := N.below hb
  have SV := SrcK.of (ownS (own_belK' O hb))
  have SO := SrcK.of (ownS (own_belK' O1 hb))
  have TW : Two v5 v4.heap.size C w0 w1 := ⟨O2, O3⟩
  replace B := B.trans (hb.mono B.size)
  clear hb CS O O1
  simp only [List.length_map] at O2 O3
  obtain ⟨ab, cb, rfl⟩ := own_sliceM O2
  obtain ⟨ai, ci, rfl⟩ := own_sliceM O3
  clear O2 O3
  have MK : Mk w (j + 1) v5.heap.size v4.heap.size lo hi C (.slice ab C.length cb) (.slice ai C.length ci) av ao L.length (gP L) G v5 := ⟨N, TW, SV, SO, ⟨N.1, fun g hg => (TW.lts.1 g hg).2, fun g hg => (TW.lts.2 g hg).2⟩, ⟨B.size, Nat.le_refl _⟩, B⟩
  clear N TW SV SO B
  have CU := fun (w' : World) (h : SrcC w' ao (L.length * 5) (MFPeer G)) => implPeersSure_any ao L.length co G w' hm h
  generalize v5.heap.size = lim at *
  generalize v4.heap.size = base at *
  generalize j + 1 = jA at *
  generalize gP L = M at *
  generalize L.length = n at *
  go_wp2_with fail
  go_loopw [11, 12] (fun s i wr => ∃ k : Nat, k ≤ n ∧ i = .int .i64 k ∧ s = .int .i64 (suc (mkO C lo hi) M k : Nat) ∧ Mk w jA lim base lo hi C (.slice ab C.length cb) (.slice ai C.length ci) av ao n M G wr) (fun _ i _ => n - (intOf i).toNat)
  case atStart => exact ⟨0, Nat.zero_le _, rfl, rfl, MK⟩
  case round =>
    clear MK
    obtain ⟨k, hk, rfl, rfl, MK⟩ := hrel
    have hlw := MK.2.2.2.2.2.1.2
    by_cases hlt : k < n
    · have hli : (k : Int) < (n : Int) := by omega
      obtain ⟨b, off, rfl⟩ := MK.2.2.1.atP (by omega)
      obtain ⟨b', off', rfl⟩ := MK.2.2.2.1.atP (by omega)
      obtain ⟨x0, x1, x2, x3, x4, hM⟩ := tupPeer M k
      have hG : G k = (x0, x1, x2, x3, sN C lo hi C.length (x0, x1, x2, x3, x4)) := by rw [HG.out k hlt, hM, mkO_eq]
      have HSC : Hid (suc (mkO C lo hi) M (k + 1) = suc (mkO C lo hi) M k + (if sN C lo hi C.length (x0, x1, x2, x3, x4) = true then 0 else 1)) := by rw [Hid, suc, hM, mkO_eq]
      have hsk := suc_le (mkO C lo hi) M k
      obtain ⟨hb, e0, e1, e2, e3, e4⟩ := MK.2.2.1.elP hlt hM
      have HE : Hid (∀ wq, Mk w jA lim base lo hi C (.slice ab C.length cb) (.slice ai C.length ci) (some ⟨b, off, none⟩) (some ⟨b', off', none⟩) n M G wq → _) := fun wq hq => SrcK.elP hq.2.2.2.1 hlt hG
      clear hM hG
      generalize suc (mkO C lo hi) M k = sk at *
      have A1 := Below.nw wr (.cells #[.int .i64 x0, .int .i64 x1, .int .i64 x2, .int .i64 x3, .bool x4] 35)
      have KB := Bx5.new wr (.int .i64 x0) (.int .i64 x1) (.int .i64 x2) (.int .i64 x3) (.bool x4) 35
      go_upto_region 15 with fail
      clear e0 e1 e2 e3 e4 hb
      replace MK := MK.below A1
      have hlw2 := A1.size
      clear A1
      generalize wr.heap.size = bk at *
      generalize wr.alloc (.cells #[.int .i64 x0, .int .i64 x1, .int .i64 x2, .int .i64 x3, .bool x4] 35) = w5 at *
      go_wp2_with fail
      go_loopw [14] (fun i wr2 => ∃ q : Nat, q ≤ C.length ∧ i = .int .i64 q ∧ Bx5 wr2 bk (.int .i64 x0) (.int .i64 x1) (.int .i64 x2) (.int .i64 x3) (.bool (sN C lo hi q (x0, x1, x2, x3, x4))) ∧ Mk w jA lim base lo hi C (.slice ab C.length cb) (.slice ai C.length ci) (some ⟨b, off, none⟩) (some ⟨b', off', none⟩) n M G wr2) (fun i _ => C.length - (intOf i).toNat)
      case atStart => exact ⟨0, Nat.zero_le _, rfl, KB, MK⟩
      case round =>
        clear MK KB
        obtain ⟨q, hq, rfl, KB, MK⟩ := hrel
        by_cases hql : q < C.length
        · obtain ⟨gb, gc, gb', gc', g0, g1, _, _, _, _, _⟩ := MK.2.1.at hql
          injection g0 with g0a _ g0c
          injection g1 with g1a _ g1c
          subst g0a g0c g1a g1c
          have hli2 : (q : Int) < (C.length : Int) := by omega
          have HY : Hid ((gC C q).1 = x0 → sN C lo hi (q + 1) (x0, x1, x2, x3, x4) = (decide (hi < (gC C q).2.1) || decide ((gC C q).2.2 < lo))) := fun h => by rw [sN_yes hql h, apB_two (HOK.out q hql) H2.out]
          have HNn : Hid ((gC C q).1 ≠ x0 → sN C lo hi (q + 1) (x0, x1, x2, x3, x4) = sN C lo hi q (x0, x1, x2, x3, x4)) := fun h => sN_no hql h
          have HT : Hid (∀ wq, Mk w jA lim base lo hi C (.slice (some ⟨gb, 0, none⟩) C.length cb) (.slice (some ⟨gb', 0, none⟩) C.length ci) (some ⟨b, off, none⟩) (some ⟨b', off', none⟩) n M G wq → gb < wq.heap.size ∧ gb' < wq.heap.size ∧ wq.cell? ⟨gb, q * 2, none⟩ = some (.int .i64 (gC C q).2.1) ∧ wq.cell? ⟨gb, q * 2 + 1, none⟩ = some (.int .i64 (gC C q).2.2) ∧ wq.cell? ⟨gb', q, none⟩ = some (.int .i64 (gC C q).1)) := fun wq hq => hq.2.1.elT hql rfl
          generalize sN C lo hi q (x0, x1, x2, x3, x4) = sq at *
          generalize gC C q = cq at *
          obtain ⟨cc, cl, ch⟩ := cq
          dsimp only at *
          have hbk : lim ≤ bk := by omega
          have hgb : gb ≠ bk := by have := MK.2.2.2.2.1.2.1 gb rfl; omega
          have hjb : jA ≠ bk := by have := MK.2.2.2.2.1.1; omega
          have hgb' := Ne.symm hgb
          have hjb' := Ne.symm hjb
          obtain ⟨k9, k0, k1, k2, k3, k4, f0, f1, f2, f3, f4⟩ := id KB
          obtain ⟨l0', l1', d0, d1, d2⟩ := HT.out _ MK
          obtain ⟨p0, p1, p2, p3, p4⟩ := MK.1
          by_cases h5 : cc = x0
          · subst h5
            have h5' : (cc == cc) = true := by simp
            have HT2 := HY.out rfl
            have HT3 : Hid _ := HT2
            clear HY HNn HT2
            go_upto_region 18 with fail
            refine wp_region_held_drew (S := (fun w' => w'.cell? ⟨gb', q, none⟩ = some (.int .i64 cc) ∧ w'.cell? ⟨bk, 0, none⟩ = some (.int .i64 cc))) (by kernel_rfl) ?_ (fun hHeld => ?_)
            · first | exact ⟨d2, k0⟩ | (simp (maxDischargeDepth := 6) [go_sem, *]; done)
            refine wpAnyH_take (i := 0) (v := ?_) (by rw [List.getElem?_toArray]; rfl) (by kernel_rfl) (by kernel_rfl) (by kernel_rfl) (by intro _ _ _ h; exact h) (Or.inl ⟨by rfl, ?_⟩) (by assumption) ?_
            rotate_left
            · (intro w hSw; (try dsimp only at hSw); go_simp; all_goals with_reducible rfl)
            (try simp only [Act.put, List.setIfInBounds_toArray, List.set_cons_zero, List.set_cons_succ])
            refine wpAnyH_take (i := 1) (v := ?_) (by rw [List.getElem?_toArray]; rfl) (by kernel_rfl) (by kernel_rfl) (by kernel_rfl) (by intro _ _ _ h; exact h) (Or.inl ⟨by rfl, ?_⟩) (by assumption) ?_
            rotate_left
            · (intro w hSw; (try dsimp only at hSw); go_simp; all_goals with_reducible rfl)
            (try simp only [Act.put, List.setIfInBounds_toArray, List.set_cons_zero, List.set_cons_succ])
            refine wpAnyH_take (i := 2) (v := ?_) (by rw [List.getElem?_toArray]; rfl) (by kernel_rfl) (by kernel_rfl) (by kernel_rfl) (by intro _ _ _ h; exact h) (Or.inl ⟨by rfl, ?_⟩) (by assumption) ?_
            rotate_left
            · (intro w hSw; (try dsimp only at hSw); go_simp; all_goals with_reducible rfl)
            (try simp only [Act.put, List.setIfInBounds_toArray, List.set_cons_zero, List.set_cons_succ])
            refine wpAnyH_take (i := 3) (v := ?_) (by rw [List.getElem?_toArray]; rfl) (by kernel_rfl) (by kernel_rfl) (by kernel_rfl) (by intro _ _ _ h; exact h) (Or.inl ⟨by rfl, ?_⟩) (by assumption) ?_
            rotate_left
            · (intro w hSw; (try dsimp only at hSw); go_simp; all_goals with_reducible rfl)
            (try simp only [Act.put, List.setIfInBounds_toArray, List.set_cons_zero, List.set_cons_succ])
            refine wpAnyH_take (i := 4) (v := ?_) (by rw [List.getElem?_toArray]; rfl) (by kernel_rfl) (by kernel_rfl) (by kernel_rfl) (by intro _ _ _ h; exact h) (Or.inl ⟨by rfl, ?_⟩) (by assumption) ?_
            rotate_left
            · (intro w hSw; (try dsimp only at hSw); go_simp; all_goals with_reducible rfl)
            (try simp only [Act.put, List.setIfInBounds_toArray, List.set_cons_zero, List.set_cons_succ])
            refine wpAnyH_take (i := 5) (v := ?_) (by rw [List.getElem?_toArray]; rfl) (by kernel_rfl) (by kernel_rfl) (by kernel_rfl) (by intro _ _ _ h; exact h) (Or.inl ⟨by rfl, ?_⟩) (by assumption) ?_
            rotate_left
            · (intro w hSw; (try dsimp only at hSw); go_simp; all_goals with_reducible rfl)
            (try simp only [Act.put, List.setIfInBounds_toArray, List.set_cons_zero, List.set_cons_succ])
            refine wpAnyH_take (i := 6) (v := ?_) (by rw [List.getElem?_toArray]; rfl) (by kernel_rfl) (by kernel_rfl) (by kernel_rfl) (by intro _ _ _ h; exact h) (Or.inl ⟨by rfl, ?_⟩) (by assumption) ?_
            rotate_left
            · (intro w hSw; (try dsimp only at hSw); go_simp; all_goals with_reducible rfl)
            (try simp only [Act.put, List.setIfInBounds_toArray, List.set_cons_zero, List.set_cons_succ])
            (try simp only [h5'])
            (try simp only [beq_self_eq_true])
            refine wpAnyH_done (by kernel_rfl) ?_ _
            replace MK := MK.drew
            replace KB := KB.drew
            go_upto_region 19 with fail
            clear hHeld
            clear k9 k0 k1 k2 k3 k4 f0 f1 f2 f3 f4 l0' l1' d0 d1 d2 p0 p1 p2 p3 p4
            generalize wr.drew = w6 at *
            obtain ⟨k9, k0, k1, k2, k3, k4, f0, f1, f2, f3, f4⟩ := id KB
            obtain ⟨l0', l1', d0, d1, d2⟩ := HT.out _ MK
            obtain ⟨p0, p1, p2, p3, p4⟩ := MK.1
            by_cases hlc : hi < cl
            · have hA : decide (hi < cl) = true := by simp [hlc]
              refine wp_region_held_drew (S := (fun w' => w'.cell? ⟨gb, q * 2, none⟩ = some (.int .i64 cl) ∧ w'.cell? ⟨gb, q * 2 + 1, none⟩ = some (.int .i64 ch) ∧ w'.cell? ⟨jA, 0, none⟩ = some (.int .i64 lo) ∧ w'.cell? ⟨jA, 1, none⟩ = some (.int .i64 hi))) (by kernel_rfl) ?_ (fun hHeld => ?_)
              · first | exact ⟨d0, d1, p1, p2⟩ | (simp (maxDischargeDepth := 6) [go_sem, *]; done)
              clear k9 k0 k1 k2 k3 k4 f0 f1 f2 f3 f4 l0' l1' d0 d1 d2 p0 p1 p2 p3 p4
              replace MK := MK.drew
              replace KB := KB.drew
              generalize w6.drew = w7 at *
              obtain ⟨k9, k0, k1, k2, k3, k4, f0, f1, f2, f3, f4⟩ := id KB
              obtain ⟨l0', l1', d0, d1, d2⟩ := HT.out _ MK
              obtain ⟨p0, p1, p2, p3, p4⟩ := MK.1
              refine wpAnyH_take (i := 0) (v := ?_) (by rw [List.getElem?_toArray]; rfl) (by kernel_rfl) (by kernel_rfl) (by kernel_rfl) (by intro _ _ _ h; exact h) (Or.inl ⟨by rfl, ?_⟩) (by assumption) ?_
              rotate_left
              · (intro w hSw; (try dsimp only at hSw); go_simp; all_goals with_reducible rfl)
              (try simp only [Act.put, List.setIfInBounds_toArray, List.set_cons_zero, List.set_cons_succ])
              refine wpAnyH_take (i := 1) (v := ?_) (by rw [List.getElem?_toArray]; rfl) (by kernel_rfl) (by kernel_rfl) (by kernel_rfl) (by intro _ _ _ h; exact h) (Or.inl ⟨by rfl, ?_⟩) (by assumption) ?_
              rotate_left
              · (intro w hSw; (try dsimp only at hSw); go_simp; all_goals with_reducible rfl)
              (try simp only [Act.put, List.setIfInBounds_toArray, List.set_cons_zero, List.set_cons_succ])
              refine wpAnyH_take (i := 2) (v := ?_) (by rw [List.getElem?_toArray]; rfl) (by kernel_rfl) (by kernel_rfl) (by kernel_rfl) (by intro _ _ _ h; exact h) (Or.inl ⟨by rfl, ?_⟩) (by assumption) ?_
              rotate_left
              · (intro w hSw; (try dsimp only at hSw); go_simp; all_goals with_reducible rfl)
              (try simp only [Act.put, List.setIfInBounds_toArray, List.set_cons_zero, List.set_cons_succ])
              refine wpAnyH_take (i := 3) (v := ?_) (by rw [List.getElem?_toArray]; rfl) (by kernel_rfl) (by kernel_rfl) (by kernel_rfl) (by intro _ _ _ h; exact h) (Or.inl ⟨by rfl, ?_⟩) (by assumption) ?_
              rotate_left
              · (intro w hSw; (try dsimp only at hSw); go_simp; all_goals with_reducible rfl)
              (try simp only [Act.put, List.setIfInBounds_toArray, List.set_cons_zero, List.set_cons_succ])
              refine wpAnyH_take (i := 4) (v := ?_) (by rw [List.getElem?_toArray]; rfl) (by kernel_rfl) (by kernel_rfl) (by kernel_rfl) (by intro _ _ _ h; exact h) (Or.inl ⟨by rfl, ?_⟩) (by assumption) ?_
              rotate_left
              · (intro w hSw; (try dsimp only at hSw); go_simp; all_goals with_reducible rfl)
              (try simp only [Act.put, List.setIfInBounds_toArray, List.set_cons_zero, List.set_cons_succ])
              refine wpAnyH_take (i := 5) (v := ?_) (by rw [List.getElem?_toArray]; rfl) (by kernel_rfl) (by kernel_rfl) (by kernel_rfl) (by intro _ _ _ h; exact h) (Or.inl ⟨by rfl, ?_⟩) (by assumption) ?_
              rotate_left
              · (intro w hSw; (try dsimp only at hSw); go_simp; all_goals with_reducible rfl)
              (try simp only [Act.put, List.setIfInBounds_toArray, List.set_cons_zero, List.set_cons_succ])
              refine wpAnyH_take (i := 6) (v := ?_) (by rw [List.getElem?_toArray]; rfl) (by kernel_rfl) (by kernel_rfl) (by kernel_rfl) (by intro _ _ _ h; exact h) (Or.inl ⟨by rfl, ?_⟩) (by assumption) ?_
              rotate_left
              · (intro w hSw; (try dsimp only at hSw); go_simp; all_goals with_reducible rfl)
              (try simp only [Act.put, List.setIfInBounds_toArray, List.set_cons_zero, List.set_cons_succ])
              refine wpAnyH_take (i := 7) (v := ?_) (by rw [List.getElem?_toArray]; rfl) (by kernel_rfl) (by kernel_rfl) (by kernel_rfl) (by intro _ _ _ h; exact h) (Or.inl ⟨by rfl, ?_⟩) (by assumption) ?_
              rotate_left
              · (intro w hSw; (try dsimp only at hSw); go_simp; all_goals with_reducible rfl)
              (try simp only [Act.put, List.setIfInBounds_toArray, List.set_cons_zero, List.set_cons_succ])
              (try simp only [hA])
              refine wpAnyH_take (i := 8) (v := ?_) (by rw [List.getElem?_toArray]; rfl) (by kernel_rfl) (by kernel_rfl) (by kernel_rfl) (by intro _ _ _ h; exact h) (Or.inl ⟨by rfl, ?_⟩) (by assumption) ?_
              rotate_left
              · (intro w hSw; (try dsimp only at hSw); go_simp; all_goals with_reducible rfl)
              (try simp only [Act.put, List.setIfInBounds_toArray, List.set_cons_zero, List.set_cons_succ])
              refine wpAnyH_take (i := 9) (v := undef) (by rw [List.getElem?_toArray]; rfl) (by kernel_rfl) (by kernel_rfl) (by kernel_rfl) (by intro _ _ _ h; exact h) (Or.inr ⟨by rfl, rfl⟩) (by assumption) ?_
              (try simp only [Act.put, List.setIfInBounds_toArray, List.set_cons_zero, List.set_cons_succ])
              refine wpAnyH_take (i := 10) (v := undef) (by rw [List.getElem?_toArray]; rfl) (by kernel_rfl) (by kernel_rfl) (by kernel_rfl) (by intro _ _ _ h; exact h) (Or.inr ⟨by rfl, rfl⟩) (by assumption) ?_
              (try simp only [Act.put, List.setIfInBounds_toArray, List.set_cons_zero, List.set_cons_succ])
              refine wpAnyH_take (i := 11) (v := undef) (by rw [List.getElem?_toArray]; rfl) (by kernel_rfl) (by kernel_rfl) (by kernel_rfl) (by intro _ _ _ h; exact h) (Or.inr ⟨by rfl, rfl⟩) (by assumption) ?_
              (try simp only [Act.put, List.setIfInBounds_toArray, List.set_cons_zero, List.set_cons_succ])
              refine wpAnyH_take (i := 12) (v := undef) (by rw [List.getElem?_toArray]; rfl) (by kernel_rfl) (by kernel_rfl) (by kernel_rfl) (by intro _ _ _ h; exact h) (Or.inr ⟨by rfl, rfl⟩) (by assumption) ?_
              (try simp only [Act.put, List.setIfInBounds_toArray, List.set_cons_zero, List.set_cons_succ])
              refine wpAnyH_take (i := 13) (v := undef) (by rw [List.getElem?_toArray]; rfl) (by kernel_rfl) (by kernel_rfl) (by kernel_rfl) (by intro _ _ _ h; exact h) (Or.inr ⟨by rfl, rfl⟩) (by assumption) ?_
              (try simp only [Act.put, List.setIfInBounds_toArray, List.set_cons_zero, List.set_cons_succ])
              refine wpAnyH_take (i := 14) (v := undef) (by rw [List.getElem?_toArray]; rfl) (by kernel_rfl) (by kernel_rfl) (by kernel_rfl) (by intro _ _ _ h; exact h) (Or.inr ⟨by rfl, rfl⟩) (by assumption) ?_
              (try simp only [Act.put, List.setIfInBounds_toArray, List.set_cons_zero, List.set_cons_succ])
              refine wpAnyH_take (i := 15) (v := undef) (by rw [List.getElem?_toArray]; rfl) (by kernel_rfl) (by kernel_rfl) (by kernel_rfl) (by intro _ _ _ h; exact h) (Or.inr ⟨by rfl, rfl⟩) (by assumption) ?_
              (try simp only [Act.put, List.setIfInBounds_toArray, List.set_cons_zero, List.set_cons_succ])
              refine wpAnyH_take (i := 16) (v := undef) (by rw [List.getElem?_toArray]; rfl) (by kernel_rfl) (by kernel_rfl) (by kernel_rfl) (by intro _ _ _ h; exact h) (Or.inr ⟨by rfl, rfl⟩) (by assumption) ?_
              (try simp only [Act.put, List.setIfInBounds_toArray, List.set_cons_zero, List.set_cons_succ])
              refine wpAnyH_take (i := 17) (v := ?_) (by rw [List.getElem?_toArray]; rfl) (by kernel_rfl) (by kernel_rfl) (by kernel_rfl) (by intro _ _ _ h; exact h) (Or.inl ⟨by rfl, ?_⟩) (by assumption) ?_
              rotate_left
              · (intro w hSw; (try dsimp only at hSw); go_simp; all_goals with_reducible rfl)
              (try simp only [Act.put, List.setIfInBounds_toArray, List.set_cons_zero, List.set_cons_succ])
              refine wpAnyH_take (i := 18) (v := ?_) (by rw [List.getElem?_toArray]; rfl) (by kernel_rfl) (by kernel_rfl) (by kernel_rfl) (by intro _ _ _ h; exact h) (Or.inl ⟨by rfl, ?_⟩) (by assumption) ?_
              rotate_left
              · (intro w hSw; (try dsimp only at hSw); go_simp; all_goals with_reducible rfl)
              (try simp only [Act.put, List.setIfInBounds_toArray, List.set_cons_zero, List.set_cons_succ])
              refine wpAnyH_ready (rs := [19]) (by kernel_rfl) (by simp) ?_
              refine AllReadyH.cons (by rw [List.getElem?_toArray]; rfl) (fun K hK => ?_) AllReadyH.nil
              go_simp
              refine hK.out _ _ ?_ (fun hHeld => ?_)
              · first | exact ⟨d0, d1, p1, p2⟩ | (simp (maxDischargeDepth := 6) [go_sem, *]; done)
              clear hK K
              (try simp only [Act.put, List.setIfInBounds_toArray, List.set_cons_zero, List.set_cons_succ])
              refine wpAnyH_done (by kernel_rfl) ?_ _
              go_wp2_with fail
              go_roundw
              case rel => exact ⟨q + 1, by omega, by go_num, by rw [HT3.out, hA]; exact KB.set4 _, MK.but ((But.refl bk _).setCell 4 _) hbk⟩
              case measure => simp [intOf]; omega
            · have hA : decide (hi < cl) = false := by simp; omega
              refine wp_region_held_drew (S := (fun w' => w'.cell? ⟨gb, q * 2, none⟩ = some (.int .i64 cl) ∧ w'.cell? ⟨gb, q * 2 + 1, none⟩ = some (.int .i64 ch) ∧ w'.cell? ⟨jA, 0, none⟩ = some (.int .i64 lo) ∧ w'.cell? ⟨jA, 1, none⟩ = some (.int .i64 hi))) (by kernel_rfl) ?_ (fun hHeld => ?_)
              · first | exact ⟨d0, d1, p1, p2⟩ | (simp (maxDischargeDepth := 6) [go_sem, *]; done)
              clear k9 k0 k1 k2 k3 k4 f0 f1 f2 f3 f4 l0' l1' d0 d1 d2 p0 p1 p2 p3 p4
              replace MK := MK.drew
              replace KB := KB.drew
              generalize w6.drew = w7 at *
              obtain ⟨k9, k0, k1, k2, k3, k4, f0, f1, f2, f3, f4⟩ := id KB
              obtain ⟨l0', l1', d0, d1, d2⟩ := HT.out _ MK
              obtain ⟨p0, p1, p2, p3, p4⟩ := MK.1
              refine wpAnyH_take (i := 0) (v := ?_) (by rw [List.getElem?_toArray]; rfl) (by kernel_rfl) (by kernel_rfl) (by kernel_rfl) (by intro _ _ _ h; exact h) (Or.inl ⟨by rfl, ?_⟩) (by assumption) ?_
              rotate_left
              · (intro w hSw; (try dsimp only at hSw); go_simp; all_goals with_reducible rfl)
              (try simp only [Act.put, List.setIfInBounds_toArray, List.set_cons_zero, List.set_cons_succ])
              refine wpAnyH_take (i := 1) (v := ?_) (by rw [List.getElem?_toArray]; rfl) (by kernel_rfl) (by kernel_rfl) (by kernel_rfl) (by intro _ _ _ h; exact h) (Or.inl ⟨by rfl, ?_⟩) (by assumption) ?_
              rotate_left
              · (intro w hSw; (try dsimp only at hSw); go_simp; all_goals with_reducible rfl)
              (try simp only [Act.put, List.setIfInBounds_toArray, List.set_cons_zero, List.set_cons_succ])
              refine wpAnyH_take (i := 2) (v := ?_) (by rw [List.getElem?_toArray]; rfl) (by kernel_rfl) (by kernel_rfl) (by kernel_rfl) (by intro _ _ _ h; exact h) (Or.inl ⟨by rfl, ?_⟩) (by assumption) ?_
              rotate_left
              · (intro w hSw; (try dsimp only at hSw); go_simp; all_goals with_reducible rfl)
              (try simp only [Act.put, List.setIfInBounds_toArray, List.set_cons_zero, List.set_cons_succ])
              refine wpAnyH_take (i := 3) (v := ?_) (by rw [List.getElem?_toArray]; rfl) (by kernel_rfl) (by kernel_rfl) (by kernel_rfl) (by intro _ _ _ h; exact h) (Or.inl ⟨by rfl, ?_⟩) (by assumption) ?_
              rotate_left
              · (intro w hSw; (try dsimp only at hSw); go_simp; all_goals with_reducible rfl)
              (try simp only [Act.put, List.setIfInBounds_toArray, List.set_cons_zero, List.set_cons_succ])
              refine wpAnyH_take (i := 4) (v := ?_) (by rw [List.getElem?_toArray]; rfl) (by kernel_rfl) (by kernel_rfl) (by kernel_rfl) (by intro _ _ _ h; exact h) (Or.inl ⟨by rfl, ?_⟩) (by assumption) ?_
              rotate_left
              · (intro w hSw; (try dsimp only at hSw); go_simp; all_goals with_reducible rfl)
              (try simp only [Act.put, List.setIfInBounds_toArray, List.set_cons_zero, List.set_cons_succ])
              refine wpAnyH_take (i := 5) (v := ?_) (by rw [List.getElem?_toArray]; rfl) (by kernel_rfl) (by kernel_rfl) (by kernel_rfl) (by intro _ _ _ h; exact h) (Or.inl ⟨by rfl, ?_⟩) (by assumption) ?_
              rotate_left
              · (intro w hSw; (try dsimp only at hSw); go_simp; all_goals with_reducible rfl)
              (try simp only [Act.put, List.setIfInBounds_toArray, List.set_cons_zero, List.set_cons_succ])
              refine wpAnyH_take (i := 6) (v := ?_) (by rw [List.getElem?_toArray]; rfl) (by kernel_rfl) (by kernel_rfl) (by kernel_rfl) (by intro _ _ _ h; exact h) (Or.inl ⟨by rfl, ?_⟩) (by assumption) ?_
              rotate_left
              · (intro w hSw; (try dsimp only at hSw); go_simp; all_goals with_reducible rfl)
              (try simp only [Act.put, List.setIfInBounds_toArray, List.set_cons_zero, List.set_cons_succ])
              refine wpAnyH_take (i := 7) (v := ?_) (by rw [List.getElem?_toArray]; rfl) (by kernel_rfl) (by kernel_rfl) (by kernel_rfl) (by intro _ _ _ h; exact h) (Or.inl ⟨by rfl, ?_⟩) (by assumption) ?_
              rotate_left
              · (intro w hSw; (try dsimp only at hSw); go_simp; all_goals with_reducible rfl)
              (try simp only [Act.put, List.setIfInBounds_toArray, List.set_cons_zero, List.set_cons_succ])
              (try simp only [hA])
              refine wpAnyH_take (i := 8) (v := ?_) (by rw [List.getElem?_toArray]; rfl) (by kernel_rfl) (by kernel_rfl) (by kernel_rfl) (by intro _ _ _ h; exact h) (Or.inl ⟨by rfl, ?_⟩) (by assumption) ?_
              rotate_left
              · (intro w hSw; (try dsimp only at hSw); go_simp; all_goals with_reducible rfl)
              (try simp only [Act.put, List.setIfInBounds_toArray, List.set_cons_zero, List.set_cons_succ])
              refine wpAnyH_take (i := 9) (v := ?_) (by rw [List.getElem?_toArray]; rfl) (by kernel_rfl) (by kernel_rfl) (by kernel_rfl) (by intro _ _ _ h; exact h) (Or.inl ⟨by rfl, ?_⟩) (by assumption) ?_
              rotate_left
              · (intro w hSw; (try dsimp only at hSw); go_simp; all_goals with_reducible rfl)
              (try simp only [Act.put, List.setIfInBounds_toArray, List.set_cons_zero, List.set_cons_succ])
              refine wpAnyH_take (i := 10) (v := ?_) (by rw [List.getElem?_toArray]; rfl) (by kernel_rfl) (by kernel_rfl) (by kernel_rfl) (by intro _ _ _ h; exact h) (Or.inl ⟨by rfl, ?_⟩) (by assumption) ?_
              rotate_left
              · (intro w hSw; (try dsimp only at hSw); go_simp; all_goals with_reducible rfl)
              (try simp only [Act.put, List.setIfInBounds_toArray, List.set_cons_zero, List.set_cons_succ])
              refine wpAnyH_take (i := 11) (v := ?_) (by rw [List.getElem?_toArray]; rfl) (by kernel_rfl) (by kernel_rfl) (by kernel_rfl) (by intro _ _ _ h; exact h) (Or.inl ⟨by rfl, ?_⟩) (by assumption) ?_
              rotate_left
              · (intro w hSw; (try dsimp only at hSw); go_simp; all_goals with_reducible rfl)
              (try simp only [Act.put, List.setIfInBounds_toArray, List.set_cons_zero, List.set_cons_succ])
              refine wpAnyH_take (i := 12) (v := ?_) (by rw [List.getElem?_toArray]; rfl) (by kernel_rfl) (by kernel_rfl) (by kernel_rfl) (by intro _ _ _ h; exact h) (Or.inl ⟨by rfl, ?_⟩) (by assumption) ?_
              rotate_left
              · (intro w hSw; (try dsimp only at hSw); go_simp; all_goals with_reducible rfl)
              (try simp only [Act.put, List.setIfInBounds_toArray, List.set_cons_zero, List.set_cons_succ])
              refine wpAnyH_take (i := 13) (v := ?_) (by rw [List.getElem?_toArray]; rfl) (by kernel_rfl) (by kernel_rfl) (by kernel_rfl) (by intro _ _ _ h; exact h) (Or.inl ⟨by rfl, ?_⟩) (by assumption) ?_
              rotate_left
              · (intro w hSw; (try dsimp only at hSw); go_simp; all_goals with_reducible rfl)
              (try simp only [Act.put, List.setIfInBounds_toArray, List.set_cons_zero, List.set_cons_succ])
              refine wpAnyH_take (i := 14) (v := ?_) (by rw [List.getElem?_toArray]; rfl) (by kernel_rfl) (by kernel_rfl) (by kernel_rfl) (by intro _ _ _ h; exact h) (Or.inl ⟨by rfl, ?_⟩) (by assumption) ?_
              rotate_left
              · (intro w hSw; (try dsimp only at hSw); go_simp; all_goals with_reducible rfl)
              (try simp only [Act.put, List.setIfInBounds_toArray, List.set_cons_zero, List.set_cons_succ])
              refine wpAnyH_take (i := 15) (v := ?_) (by rw [List.getElem?_toArray]; rfl) (by kernel_rfl) (by kernel_rfl) (by kernel_rfl) (by intro _ _ _ h; exact h) (Or.inl ⟨by rfl, ?_⟩) (by assumption) ?_
              rotate_left
              · (intro w hSw; (try dsimp only at hSw); go_simp; all_goals with_reducible rfl)
              (try simp only [Act.put, List.setIfInBounds_toArray, List.set_cons_zero, List.set_cons_succ])
              refine wpAnyH_take (i := 16) (v := ?_) (by rw [List.getElem?_toArray]; rfl) (by kernel_rfl) (by kernel_rfl) (by kernel_rfl) (by intro _ _ _ h; exact h) (Or.inl ⟨by rfl, ?_⟩) (by assumption) ?_
              rotate_left
              · (intro w hSw; (try dsimp only at hSw); go_simp; all_goals with_reducible rfl)
              (try simp only [Act.put, List.setIfInBounds_toArray, List.set_cons_zero, List.set_cons_succ])
              refine wpAnyH_take (i := 17) (v := ?_) (by rw [List.getElem?_toArray]; rfl) (by kernel_rfl) (by kernel_rfl) (by kernel_rfl) (by intro _ _ _ h; exact h) (Or.inl ⟨by rfl, ?_⟩) (by assumption) ?_
              rotate_left
              · (intro w hSw; (try dsimp only at hSw); go_simp; all_goals with_reducible rfl)
              (try simp only [Act.put, List.setIfInBounds_toArray, List.set_cons_zero, List.set_cons_succ])
              refine wpAnyH_take (i := 18) (v := ?_) (by rw [List.getElem?_toArray]; rfl) (by kernel_rfl) (by kernel_rfl) (by kernel_rfl) (by intro _ _ _ h; exact h) (Or.inl ⟨by rfl, ?_⟩) (by assumption) ?_
              rotate_left
              · (intro w hSw; (try dsimp only at hSw); go_simp; all_goals with_reducible rfl)
              (try simp only [Act.put, List.setIfInBounds_toArray, List.set_cons_zero, List.set_cons_succ])
              refine wpAnyH_ready (rs := [19]) (by kernel_rfl) (by simp) ?_
              refine AllReadyH.cons (by rw [List.getElem?_toArray]; rfl) (fun K hK => ?_) AllReadyH.nil
              go_simp
              refine hK.out _ _ ?_ (fun hHeld => ?_)
              · first | exact ⟨d0, d1, p1, p2⟩ | (simp (maxDischargeDepth := 6) [go_sem, *]; done)
              clear hK K
              (try simp only [Act.put, List.setIfInBounds_toArray, List.set_cons_zero, List.set_cons_succ])
              refine wpAnyH_done (by kernel_rfl) ?_ _
              go_wp2_with fail
              go_roundw
              case rel => exact ⟨q + 1, by omega, by go_num, by rw [HT3.out, hA]; exact KB.set4 _, MK.but ((But.refl bk _).setCell 4 _) hbk⟩
              case measure => simp [intOf]; omega
          · have HT2 : Hid (sN C lo hi (q + 1) (x0, x1, x2, x3, x4) = sq) := HNn.out h5
            have h5' : (cc == x0) = false := by simp [h5]
            clear HY HNn
            go_upto_region 18 with fail
            refine wp_region_held_drew (S := (fun w' => w'.cell? ⟨gb', q, none⟩ = some (.int .i64 cc) ∧ w'.cell? ⟨bk, 0, none⟩ = some (.int .i64 x0))) (by kernel_rfl) ?_ (fun hHeld => ?_)
            · first | exact ⟨d2, k0⟩ | (simp (maxDischargeDepth := 6) [go_sem, *]; done)
            refine wpAnyH_take (i := 0) (v := ?_) (by rw [List.getElem?_toArray]; rfl) (by kernel_rfl) (by kernel_rfl) (by kernel_rfl) (by intro _ _ _ h; exact h) (Or.inl ⟨by rfl, ?_⟩) (by assumption) ?_
            rotate_left
            · (intro w hSw; (try dsimp only at hSw); go_simp; all_goals with_reducible rfl)
            (try simp only [Act.put, List.setIfInBounds_toArray, List.set_cons_zero, List.set_cons_succ])
            refine wpAnyH_take (i := 1) (v := ?_) (by rw [List.getElem?_toArray]; rfl) (by kernel_rfl) (by kernel_rfl) (by kernel_rfl) (by intro _ _ _ h; exact h) (Or.inl ⟨by rfl, ?_⟩) (by assumption) ?_
            rotate_left
            · (intro w hSw; (try dsimp only at hSw); go_simp; all_goals with_reducible rfl)
            (try simp only [Act.put, List.setIfInBounds_toArray, List.set_cons_zero, List.set_cons_succ])
            refine wpAnyH_take (i := 2) (v := ?_) (by rw [List.getElem?_toArray]; rfl) (by kernel_rfl) (by kernel_rfl) (by kernel_rfl) (by intro _ _ _ h; exact h) (Or.inl ⟨by rfl, ?_⟩) (by assumption) ?_
            rotate_left
            · (intro w hSw; (try dsimp only at hSw); go_simp; all_goals with_reducible rfl)
            (try simp only [Act.put, List.setIfInBounds_toArray, List.set_cons_zero, List.set_cons_succ])
            refine wpAnyH_take (i := 3) (v := ?_) (by rw [List.getElem?_toArray]; rfl) (by kernel_rfl) (by kernel_rfl) (by kernel_rfl) (by intro _ _ _ h; exact h) (Or.inl ⟨by rfl, ?_⟩) (by assumption) ?_
            rotate_left
            · (intro w hSw; (try dsimp only at hSw); go_simp; all_goals with_reducible rfl)
            (try simp only [Act.put, List.setIfInBounds_toArray, List.set_cons_zero, List.set_cons_succ])
            refine wpAnyH_take (i := 4) (v := ?_) (by rw [List.getElem?_toArray]; rfl) (by kernel_rfl) (by kernel_rfl) (by kernel_rfl) (by intro _ _ _ h; exact h) (Or.inl ⟨by rfl, ?_⟩) (by assumption) ?_
            rotate_left
            · (intro w hSw; (try dsimp only at hSw); go_simp; all_goals with_reducible rfl)
            (try simp only [Act.put, List.setIfInBounds_toArray, List.set_cons_zero, List.set_cons_succ])
            refine wpAnyH_take (i := 5) (v := ?_) (by rw [List.getElem?_toArray]; rfl) (by kernel_rfl) (by kernel_rfl) (by kernel_rfl) (by intro _ _ _ h; exact h) (Or.inl ⟨by rfl, ?_⟩) (by assumption) ?_
            rotate_left
            · (intro w hSw; (try dsimp only at hSw); go_simp; all_goals with_reducible rfl)
            (try simp only [Act.put, List.setIfInBounds_toArray, List.set_cons_zero, List.set_cons_succ])
            refine wpAnyH_take (i := 6) (v := ?_) (by rw [List.getElem?_toArray]; rfl) (by kernel_rfl) (by kernel_rfl) (by kernel_rfl) (by intro _ _ _ h; exact h) (Or.inl ⟨by rfl, ?_⟩) (by assumption) ?_
            rotate_left
            · (intro w hSw; (try dsimp only at hSw); go_simp; all_goals with_reducible rfl)
            (try simp only [Act.put, List.setIfInBounds_toArray, List.set_cons_zero, List.set_cons_succ])
            (try simp only [h5'])
            refine wpAnyH_done (by kernel_rfl) ?_ _
            replace MK := MK.drew
            replace KB := KB.drew
            go_wp2_with fail
            go_roundw
            case rel => exact ⟨q + 1, by omega, by go_num, by rw [HT2.out]; exact KB, MK⟩
            case measure => simp [intOf]; omega
        · have hqn : q = C.length := by omega
          subst hqn
          have hli2 : ¬ (C.length : Int) < (C.length : Int) := by omega
          have HE2 := HE
          generalize sN C lo hi C.length (x0, x1, x2, x3, x4) = sq at *
          obtain ⟨k9, k0, k1, k2, k3, k4, f0, f1, f2, f3, f4⟩ := id KB
          obtain ⟨hb, e0, e1, e2, e3, e4⟩ := HE.out _ MK
          go_upto_region 20 with fail
          refine wp_region_held_drew (S := (fun w' => w'.cell? ⟨b', off' + k * 5, none⟩ = some (.int .i64 x0) ∧ w'.cell? ⟨b', off' + k * 5 + 1, none⟩ = some (.int .i64 x1) ∧ w'.cell? ⟨b', off' + k * 5 + 2, none⟩ = some (.int .i64 x2) ∧ w'.cell? ⟨b', off' + k * 5 + 3, none⟩ = some (.int .i64 x3) ∧ w'.cell? ⟨b', off' + k * 5 + 4, none⟩ = some (.bool sq) ∧ w'.cell? ⟨bk, 0, none⟩ = some (.int .i64 x0) ∧ w'.cell? ⟨bk, 1, none⟩ = some (.int .i64 x1) ∧ w'.cell? ⟨bk, 2, none⟩ = some (.int .i64 x2) ∧ w'.cell? ⟨bk, 3, none⟩ = some (.int .i64 x3) ∧ w'.cell? ⟨bk, 4, none⟩ = some (.bool sq))) (by kernel_rfl) ?_ (fun hHeld => ?_)
          · first | exact ⟨e0, e1, e2, e3, e4, k0, k1, k2, k3, k4⟩ | (simp (maxDischargeDepth := 6) [go_sem, *]; done)
          refine wpAnyH_take (i := 0) (v := ?_) (by rw [List.getElem?_toArray]; rfl) (by kernel_rfl) (by kernel_rfl) (by kernel_rfl) (by intro _ _ _ h; exact h) (Or.inl ⟨by rfl, ?_⟩) (by assumption) ?_
          rotate_left
          · (intro w hSw; (try dsimp only at hSw); go_simp; all_goals with_reducible rfl)
          (try simp only [Act.put, List.setIfInBounds_toArray, List.set_cons_zero, List.set_cons_succ])
          refine wpAnyH_take (i := 1) (v := ?_) (by rw [List.getElem?_toArray]; rfl) (by kernel_rfl) (by kernel_rfl) (by kernel_rfl) (by intro _ _ _ h; exact h) (Or.inl ⟨by rfl, ?_⟩) (by assumption) ?_
          rotate_left
          · (intro w hSw; (try dsimp only at hSw); go_simp; all_goals with_reducible rfl)
          (try simp only [Act.put, List.setIfInBounds_toArray, List.set_cons_zero, List.set_cons_succ])
          refine wpAnyH_take (i := 2) (v := ?_) (by rw [List.getElem?_toArray]; rfl) (by kernel_rfl) (by kernel_rfl) (by kernel_rfl) (by intro _ _ _ h; exact h) (Or.inl ⟨by rfl, ?_⟩) (by assumption) ?_
          rotate_left
          · (intro w hSw; (try dsimp only at hSw); go_simp; all_goals with_reducible rfl)
          (try simp only [Act.put, List.setIfInBounds_toArray, List.set_cons_zero, List.set_cons_succ])
          refine wpAnyH_take (i := 3) (v := ?_) (by rw [List.getElem?_toArray]; rfl) (by kernel_rfl) (by kernel_rfl) (by kernel_rfl) (by intro _ _ _ h; exact h) (Or.inl ⟨by rfl, ?_⟩) (by assumption) ?_
          rotate_left
          · (intro w hSw; (try dsimp only at hSw); go_simp; all_goals with_reducible rfl)
          (try simp only [Act.put, List.setIfInBounds_toArray, List.set_cons_zero, List.set_cons_succ])
          refine wpAnyH_take (i := 4) (v := ?_) (by rw [List.getElem?_toArray]; rfl) (by kernel_rfl) (by kernel_rfl) (by kernel_rfl) (by intro _ _ _ h; exact h) (Or.inl ⟨by rfl, ?_⟩) (by assumption) ?_
          rotate_left
          · (intro w hSw; (try dsimp only at hSw); go_simp; all_goals with_reducible rfl)
          (try simp only [Act.put, List.setIfInBounds_toArray, List.set_cons_zero, List.set_cons_succ])
          refine wpAnyH_take (i := 5) (v := ?_) (by rw [List.getElem?_toArray]; rfl) (by kernel_rfl) (by kernel_rfl) (by kernel_rfl) (by intro _ _ _ h; exact h) (Or.inl ⟨by rfl, ?_⟩) (by assumption) ?_
          rotate_left
          · (intro w hSw; (try dsimp only at hSw); go_simp; all_goals with_reducible rfl)
          (try simp only [Act.put, List.setIfInBounds_toArray, List.set_cons_zero, List.set_cons_succ])
          refine wpAnyH_done (by kernel_rfl) ?_ _
          replace MK := MK.drew
          cases sq
          · go_wp2_with fail
            go_roundw
            case rel => exact ⟨k + 1, by omega, by go_num, by rw [HSC.out]; go_num, MK⟩
            case measure => simp [intOf]; omega
          · go_wp2_with fail
            go_roundw
            case rel => exact ⟨k + 1, by omega, by go_num, by rw [HSC.out]; rfl, MK⟩
            case measure => simp [intOf]; omega
    · have hkn : k = n := by omega
      subst hkn
      have hEq := HSU.out
      generalize suL G k = U at *
      have hE : ((U.length : Int) == ((suc (mkO C lo hi) M k : Nat) : Int)) = true := by rw [hEq]; simp
      clear hEq
      go_wp2_with fail
      refine (CU _ MK.2.2.2.1.src).mono ?_
      rintro e v6 ⟨vu, rfl, OU, hb⟩
      have B := MK.2.2.2.2.2.2.trans (hb.mono MK.2.2.2.2.2.2.size)
      obtain ⟨au, cu, rfl⟩ := own_sliceM OU
      clear hb OU
      go_wp2_with fail
      go_ret
      exact ⟨rfl, B⟩
end Go.Proofs.YtkeijldfblgeaaaGreat
