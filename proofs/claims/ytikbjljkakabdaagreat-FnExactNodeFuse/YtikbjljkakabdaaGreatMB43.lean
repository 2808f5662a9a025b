/- The contract of PeersMark in the specification. -/
import Derived.Test.YtikbjljkakabdaaGreatMB0
import Derived.Test.YtikbjljkakabdaaGreatMB42
namespace Go.Proofs.YtikbjljkakabdaaGreat
open Go.RowKit
set_option linter.unusedVariables false
set_option maxRecDepth 100000
set_option maxHeartbeats 16000000
def sN (C : List CT) (lo hi : Int) (k : Nat) (p : PT) : Bool := (bs C lo hi k p).2.2.2.2
theorem nQ (lo hi : Int) : ∀ (C : List CT) (p : PT), C.foldl (stp lo hi) p = (p.1, p.2.1, p.2.2.1, p.2.2.2.1, (C.foldl (stp lo hi) p).2.2.2.2)
 | [], _ => rfl
 | c :: C, p => by
  rw [List.foldl_cons]
  have h := nQ lo hi C (stp lo hi p c)
  have e : (stp lo hi p c).1 = p.1 ∧ (stp lo hi p c).2.1 = p.2.1 ∧ (stp lo hi p c).2.2.1 = p.2.2.1 ∧ (stp lo hi p c).2.2.2.1 = p.2.2.2.1 := by unfold stp; split <;> exact ⟨rfl, rfl, rfl, rfl⟩
  rw [e.1, e.2.1, e.2.2.1, e.2.2.2] at h
  exact h
theorem so (C : List CT) (lo hi : Int) (k : Nat) (p : PT) : bs C lo hi k p = (p.1, p.2.1, p.2.2.1, p.2.2.2.1, sN C lo hi k p) := nQ lo hi _ p
theorem sD {C : List CT} {lo hi : Int} {k : Nat} (hk : k < C.length) {p : PT} (h : (gC C k).1 = p.1) : sN C lo hi (k + 1) p = iJ (gC C k) lo hi := by rw [sN, n8 hk h]
theorem sN_no {C : List CT} {lo hi : Int} {k : Nat} (hk : k < C.length) {p : PT} (h : (gC C k).1 ≠ p.1) : sN C lo hi (k + 1) p = sN C lo hi k p := by rw [sN, qq hk h]; rfl
def SSt (w : World) (lo hi : Int) (j2 : Nat) (C : List CT) (v0 v1 : Value) (K : List PT) (vo : Value) (wr : World) : Prop := Bx2 wr (w.heap.size + 1) (.int .i64 lo) (.int .i64 hi) ∧ Two wr j2 C v0 v1 ∧ wr.ownsRow (w.heap.size + 2) 154 5 vo K.length (bP K) ∧ ApR v0 vo ∧ ApR v1 vo ∧ w.heap.size + 1 < j2 ∧ Below w.heap.size w wr
theorem SSt.below {w : World} {lo hi : Int} {j2 : Nat} {C : List CT} {v0 v1 : Value} {K : List PT} {vo : Value} {wr wr' : World} (h : SSt w lo hi j2 C v0 v1 K vo wr) (hb : Below wr.heap.size wr wr') : SSt w lo hi j2 C v0 v1 K vo wr' := by
 obtain ⟨h1, h2, h3, h4, h5, h6, h7⟩ := h
 exact ⟨h1.below hb, h2.below hb, aG h3 hb, h4, h5, h6, h7.trans (hb.mono h7.size)⟩
theorem SSt.drew {w : World} {lo hi : Int} {j2 : Nat} {C : List CT} {v0 v1 : Value} {K : List PT} {vo : Value} {wr : World} (h : SSt w lo hi j2 C v0 v1 K vo wr) : SSt w lo hi j2 C v0 v1 K vo wr.drew := by
 obtain ⟨h1, h2, h3, h4, h5, h6, h7⟩ := h
 exact ⟨h1, h2, h3, h4, h5, h6, Below.drew h7⟩
theorem SSt.lts {w : World} {lo hi : Int} {j2 : Nat} {C : List CT} {v0 v1 : Value} {K : List PT} {vo : Value} {wr : World} (h : SSt w lo hi j2 C v0 v1 K vo wr) : w.heap.size + 1 < wr.heap.size ∧ (∀ g, v0.ownBlock = some g → g < wr.heap.size) ∧ (∀ g, v1.ownBlock = some g → g < wr.heap.size) ∧ (∀ g, vo.ownBlock = some g → g < wr.heap.size) := ⟨h.1.1, fun g hg => (h.2.1.lts.1 g hg).2, fun g hg => (h.2.1.lts.2 g hg).2, fun g hg => (World.ownsRow.lt h.2.2.1 g hg).2⟩
theorem SSt.but {w : World} {lo hi : Int} {j2 j : Nat} {C : List CT} {v0 v1 : Value} {K : List PT} {vo : Value} {wr wr' : World} (h : SSt w lo hi j2 C v0 v1 K vo wr) (hb : But j wr wr') (hj : w.heap.size + 1 < j ∧ (∀ g, v0.ownBlock = some g → g < j) ∧ (∀ g, v1.ownBlock = some g → g < j) ∧ (∀ g, vo.ownBlock = some g → g < j)) : SSt w lo hi j2 C v0 v1 K vo wr' := by
 obtain ⟨h1, h2, h3, h4, h5, h6, h7⟩ := h
 exact ⟨h1.but hb (by omega), h2.but hb (fun g hg => by have := hj.2.1 g hg; omega) (fun g hg => by have := hj.2.2.1 g hg; omega), ft h3 hb hj.2.2.2, h4, h5, h6, h7.trans (hb.below (by omega) h7.size)⟩
theorem SSt.add {w : World} {lo hi : Int} {j2 : Nat} {C : List CT} {v0 v1 : Value} {K K' : List PT} {vo v' : Value} {wr w9 : World} (h : SSt w lo hi j2 C v0 v1 K vo wr) (O9 : w9.ownsRow (w.heap.size + 2) 154 5 v' K'.length (bP K')) (hg : wr.grownBy w9 vo.ownBlock) (hn : ∀ g, v'.ownBlock = some g → vo.ownBlock = some g ∨ wr.heap.size ≤ g) : SSt w lo hi j2 C v0 v1 K' v' w9 := by
 have hl := h.lts
 obtain ⟨h1, h2, h3, h4, h5, h6, h7⟩ := h
 have hb1 : some (w.heap.size + 1) ≠ vo.ownBlock := fun e => by have := (World.ownsRow.lt h3 _ e.symm).1; omega
 exact ⟨h1.kept hg hb1, h2.kept hg h4.ne' h5.ne', O9, h4.grow hn hl.2.1, h5.grow hn hl.2.2.1, h6, h7.trans ((aJ h3 hg (by omega)).mono (by omega))⟩
theorem ei (a : Option Addr) (m c : Nat) (M : Nat → PT) (n d x y lo hi : Int) (w : World) (hm : m ≤ maxLen) (hs : az w a (m * 5) (am M)) :
 Calls Tryz.prog 64 #[.slice a m c, .agg #[.int .i64 n, .int .i64 d], .int .i64 x, .int .i64 y, .agg #[.int .i64 lo, .int .i64 hi]] w fun e w' => ∃ v, e = .returned v ∧ w'.ownsRow w.heap.size 154 5 v (mrL M m n d x y lo hi).length (bP (mrL M m n d x y lo hi)) ∧ Below w.heap.size w w' := by
 have B0 := (Below.nw w (.cells #[.int .i64 n, .int .i64 d] 61)).alloc (by simp) (.cells #[.int .i64 lo, .int .i64 hi] 47)
 have Q := (Bx2.new w (.int .i64 n) (.int .i64 d) 61).alloc (.cells #[.int .i64 lo, .int .i64 hi] 47)
 have P := Bx2.new (w.alloc (.cells #[.int .i64 n, .int .i64 d] 61)) (.int .i64 lo) (.int .i64 hi) 47
 simp only [World.size_alloc] at P
 have HS : Hid (az w a (m * 5) (am M)) := hs
 have hw0 : ((w.alloc (.cells #[.int .i64 n, .int .i64 d] 61)).alloc (.cells #[.int .i64 lo, .int .i64 hi] 47)).heap.size = w.heap.size + 2 := by simp
 have CC := fun (v : World) (hb : Below w.heap.size w v) => co a m c M n d x y v hm (HS.out.below hb)
 have C1 := fun (v : World) (hb : Below w.heap.size w v) => cu a m c M v hm (HS.out.below hb)
 clear hs
 cases h1 : oks M m
 ·rw [rQ h1]
  go_enter Tryz.func64, Tryz.ntmps64
  go_upto_region 1 with fail
  generalize (w.alloc (.cells #[.int .i64 n, .int .i64 d] 61)).alloc (.cells #[.int .i64 lo, .int .i64 hi] 47) = w0 at *
  have A1 := Below.nw w0 (.cells #[] 154)
  have O1 := eB w0
  replace B0 := B0.trans (A1.mono B0.size)
  replace P := P.below A1
  replace Q := Q.below A1
  go_upto_region 2 with fail
  clear A1
  rw [hw0] at O1
  generalize w0.alloc (.cells #[] 154) = w1 at *
  go_wp2_with fail
  refine (C1 _ B0).mono ?_
  rintro e w2 ⟨rfl, hb⟩
  rw [h1]
  replace B0 := B0.trans (hb.mono B0.size)
  replace P := P.below hb
  replace Q := Q.below hb
  replace O1 := aG O1 hb
  clear hb
  go_wp2_with fail
  go_ret
  exact ⟨_, rfl, bp O1 (by omega), B0⟩
 cases h2 : okI lo hi
 ·rw [rR h2]
  go_enter Tryz.func64, Tryz.ntmps64
  go_upto_region 1 with fail
  generalize (w.alloc (.cells #[.int .i64 n, .int .i64 d] 61)).alloc (.cells #[.int .i64 lo, .int .i64 hi] 47) = w0 at *
  have A1 := Below.nw w0 (.cells #[] 154)
  have O1 := eB w0
  replace B0 := B0.trans (A1.mono B0.size)
  replace P := P.below A1
  replace Q := Q.below A1
  go_upto_region 2 with fail
  clear A1
  rw [hw0] at O1
  generalize w0.alloc (.cells #[] 154) = w1 at *
  go_wp2_with fail
  refine (C1 _ B0).mono ?_
  rintro e w2 ⟨rfl, hb⟩
  rw [h1]
  replace B0 := B0.trans (hb.mono B0.size)
  replace P := P.below hb
  replace Q := Q.below hb
  replace O1 := aG O1 hb
  clear hb
  obtain ⟨p0, p1, p2, p3, p4⟩ := id P
  go_wp2_with fail
  refine (ao _ _ _).mono ?_
  rintro e w3 ⟨rfl, hb⟩
  rw [h2]
  replace B0 := B0.trans (hb.mono B0.size)
  clear p0 p1 p2 p3 p4
  replace P := P.below hb
  replace Q := Q.below hb
  replace O1 := aG O1 hb
  clear hb
  go_wp2_with fail
  go_ret
  exact ⟨_, rfl, bp O1 (by omega), B0⟩
 rw [rS h1 h2]
 have hCl := fk M m n d x y
 have hm8 := dh h1
 generalize caL M m n d x y = C at *
 go_enter Tryz.func64, Tryz.ntmps64
 go_upto_region 1 with fail
 generalize (w.alloc (.cells #[.int .i64 n, .int .i64 d] 61)).alloc (.cells #[.int .i64 lo, .int .i64 hi] 47) = w0 at *
 have A1 := Below.nw w0 (.cells #[] 154)
 have O1 := eB w0
 replace B0 := B0.trans (A1.mono B0.size)
 replace P := P.below A1
 replace Q := Q.below A1
 go_upto_region 2 with fail
 clear A1
 rw [hw0] at O1
 generalize w0.alloc (.cells #[] 154) = w1 at *
 go_wp2_with fail
 refine (C1 _ B0).mono ?_
 rintro e w2 ⟨rfl, hb⟩
 rw [h1]
 replace B0 := B0.trans (hb.mono B0.size)
 replace P := P.below hb
 replace Q := Q.below hb
 replace O1 := aG O1 hb
 clear hb
 obtain ⟨p0, p1, p2, p3, p4⟩ := id P
 go_wp2_with fail
 refine (ao _ _ _).mono ?_
 rintro e w3 ⟨rfl, hb⟩
 rw [h2]
 replace B0 := B0.trans (hb.mono B0.size)
 clear p0 p1 p2 p3 p4
 replace P := P.below hb
 replace Q := Q.below hb
 replace O1 := aG O1 hb
 clear hb
 clear C1 h1 h2
 have q0 : _ ∧ _ := Q
 go_wp2_with fail
 refine (CC _ B0).mono ?_
 rintro e w4 ⟨v0, v1, rfl, O2, O3, hb⟩
 have ST : SSt w lo hi w3.heap.size C v0 v1 [] (.slice (some ⟨w.heap.size + 2, 0, none⟩) 0 0) w4 := ⟨P.below hb, ⟨by rw [List.length_map] at O2 ⊢; exact O2, by rw [List.length_map] at O3 ⊢; exact O3⟩, aG O1 hb, fun g hg hg' => by have := (World.ownsRow.lt O2 g hg).1; have := (World.ownsRow.lt O1 g hg').2; omega, fun g hg hg' => by have := (World.ownsRow.lt O3 g hg).1; have := (World.ownsRow.lt O1 g hg').2; omega, P.1, B0.trans (hb.mono B0.size)⟩
 clear q0 Q P O1 O2 O3 hb CC B0 hw0
 obtain ⟨a0, c0, rfl, _, _, _⟩ := aT ST.2.1.1
 obtain ⟨a1, c1, rfl, _, _, _⟩ := aT ST.2.1.2
 generalize hj2 : w3.heap.size = j2 at *
 clear hj2
 simp only [List.length_map] at ST ⊢
 go_wp2_with fail
 go_loopw [11, 14] (fun vo i wr => ∃ k : Nat, k ≤ m ∧ i = .int .i64 k ∧ SSt w lo hi j2 C (.slice a0 C.length c0) (.slice a1 C.length c1) ((cP M k).map (mkO C lo hi)) vo wr) (fun _ i _ => m - (intOf i).toNat)
 case atStart => exact ⟨0, Nat.zero_le _, rfl, ST⟩
 case round =>
  clear ST
  obtain ⟨k, hk, rfl, ST⟩ := hrel
  by_cases hlt : k < m
  ·obtain ⟨b, off, rfl, hf⟩ := HS.out.some (by omega)
   obtain ⟨x0, x1, x2, x3, x4, hM⟩ := bu M k
   have hB := ST.2.2.2.2.2.2
   obtain ⟨e0, e1, e2, e3, e4⟩ := (hf.below hB hf.1).elPeer hlt hM
   have hli : (k : Int) < (m : Int) := by omega
   have hbr : b < wr.heap.size := Nat.lt_of_lt_of_le hf.1 hB.size
   have HT : Hid ((cP M (k + 1)).map (mkO C lo hi) = (cP M k).map (mkO C lo hi) ++ [(x0, x1, x2, x3, sN C lo hi C.length (x0, x1, x2, x3, x4))]) := by
    rw [Hid, oS, List.map_append, hM]
    show _ ++ [mkO C lo hi (x0, x1, x2, x3, x4)] = _
    rw [mkO, so]
   have hlk : ((cP M k).map (mkO C lo hi)).length ≤ 9 := by rw [List.length_map, d6]; omega
   clear hM hf hB
   generalize (cP M k).map (mkO C lo hi) = K at *
   have A1 := Below.nw wr (.cells #[.int .i64 x0, .int .i64 x1, .int .i64 x2, .int .i64 x3, .bool x4] 154)
   have KB := Bx5.new wr (.int .i64 x0) (.int .i64 x1) (.int .i64 x2) (.int .i64 x3) (.bool x4) 154
   have hj := ST.lts
   go_upto_region 9 with fail
   clear e0 e1 e2 e3 e4 hbr
   replace ST := ST.below A1
   clear A1
   generalize wr.heap.size = bk at *
   generalize wr.alloc (.cells #[.int .i64 x0, .int .i64 x1, .int .i64 x2, .int .i64 x3, .bool x4] 154) = w5 at *
   go_wp2_with fail
   go_loopw [16] (fun i wr2 => ∃ q : Nat, q ≤ C.length ∧ i = .int .i64 q ∧ Bx5 wr2 bk (.int .i64 x0) (.int .i64 x1) (.int .i64 x2) (.int .i64 x3) (.bool (sN C lo hi q (x0, x1, x2, x3, x4))) ∧ SSt w lo hi j2 C (.slice a0 C.length c0) (.slice a1 C.length c1) K u11 wr2) (fun i _ => C.length - (intOf i).toNat)
   case atStart => exact ⟨0, Nat.zero_le _, rfl, KB, ST⟩
   case round =>
    clear ST KB
    obtain ⟨q, hq, rfl, KB, ST⟩ := hrel
    by_cases hql : q < C.length
    ·obtain ⟨gb, gc, gb', gc', g0, g1, l0, l1, d0, d1, d2⟩ := ST.2.1.at hql
     simp at g0 g1
     obtain ⟨rfl, rfl⟩ := g0
     obtain ⟨rfl, rfl⟩ := g1
     have hli2 : (q : Int) < (C.length : Int) := by omega
     have HY : Hid ((gC C q).1 = x0 → sN C lo hi (q + 1) (x0, x1, x2, x3, x4) = iJ (gC C q) lo hi) := fun h => sD hql h
     have HNn : Hid ((gC C q).1 ≠ x0 → sN C lo hi (q + 1) (x0, x1, x2, x3, x4) = sN C lo hi q (x0, x1, x2, x3, x4)) := fun h => sN_no hql h
     generalize sN C lo hi q (x0, x1, x2, x3, x4) = sq at *
     generalize hgc : gC C q = cq at *
     obtain ⟨ci, cl, ch⟩ := cq
     have HGC : Hid (gC C q = (ci, cl, ch)) := hgc
     clear hgc
     dsimp only at d0 d1 d2 HY HNn
     obtain ⟨k9, k0, k1, k2, k3, k4, f0, f1, f2, f3, f4⟩ := id KB
     have CA := fun v => gU cl ch lo hi v
     have HAP : Hid (iJ (ci, cl, ch) lo hi = decide (0 < cX cl ch lo hi)) := rfl
     generalize cX cl ch lo hi = Z at *
     by_cases h5 : ci = x0
     ·have HT2 : Hid (sN C lo hi (q + 1) (x0, x1, x2, x3, x4) = decide (0 < Z)) := by rw [Hid, HY.out h5, HAP.out]
      subst h5
      have h5' : (ci == ci) = true := by simp
      clear HY HNn HAP
      obtain ⟨p0, p1, p2, p3, p4⟩ := ST.1
      go_upto_region 12 with fail
      refine wp_region_held_drew (S := (fun w' => w'.cell? ⟨gb', q, none⟩ = some (.int .i64 ci) ∧ w'.cell? ⟨bk, 0, none⟩ = some (.int .i64 ci))) (by kernel_rfl) ?_ (fun hHeld => ?_)
      ·first | exact ⟨d2, k0⟩ | (simp (maxDischargeDepth := 6) [go_sem, *]; done)
      refine zT4 0 ?_
      refine zT2 4 ?_
      refine zTk 6 ?_
      (try simp only [h5'])
      (try simp only [beq_self_eq_true])
      refine wpAnyH_done (by kernel_rfl) ?_ _
      replace ST := ST.drew
      have KBd := KB.drew
      go_upto_region 13 with fail
      clear KB hHeld
      have KB := KBd
      clear KBd d0 d1 d2 l0 l1 p0 p1 p2 p3 p4
      clear k9 k0 k1 k2 k3 k4 f0 f1 f2 f3 f4
      generalize wr.drew = w6 at *
      obtain ⟨ga, gca, ga', gca', g0, g1, l0, l1, d0, d1, d2⟩ := ST.2.1.at hql
      simp at g0 g1
      obtain ⟨rfl, rfl⟩ := g0
      obtain ⟨rfl, rfl⟩ := g1
      rw [HGC.out] at d0 d1
      dsimp only at d0 d1
      clear d2
      obtain ⟨p0, p1, p2, p3, p4⟩ := ST.1
      obtain ⟨k9, k0, k1, k2, k3, k4, f0, f1, f2, f3, f4⟩ := id KB
      have hgb : gb ≠ bk := by have := hj.2.1 gb rfl; omega
      refine wp_region_held_drew (S := (fun w' => w'.cell? ⟨gb, q * 2, none⟩ = some (.int .i64 cl) ∧ w'.cell? ⟨gb, q * 2 + 1, none⟩ = some (.int .i64 ch) ∧ w'.cell? ⟨w.heap.size + 1, 0, none⟩ = some (.int .i64 lo) ∧ w'.cell? ⟨w.heap.size + 1, 1, none⟩ = some (.int .i64 hi))) (by kernel_rfl) ?_ (fun hHeld => ?_)
      ·first | exact ⟨d0, d1, p1, p2⟩ | exact True.intro | (simp (maxDischargeDepth := 6) [go_sem, *]; done)
      clear d0 d1 p0 p1 p2 p3 p4 l0
      clear k9 k0 k1 k2 k3 k4 f0 f1 f2 f3 f4
      replace ST := ST.drew
      replace KB := KB.drew
      generalize w6.drew = w7 at *
      obtain ⟨ga, gca, ga', gca', g0, g1, l0, l1', d0, d1, d2⟩ := ST.2.1.at hql
      simp at g0 g1
      obtain ⟨rfl, rfl⟩ := g0
      clear g1
      rw [HGC.out] at d0 d1
      dsimp only at d0 d1
      clear d2
      obtain ⟨p0, p1, p2, p3, p4⟩ := ST.1
      obtain ⟨k9, k0, k1, k2, k3, k4, f0, f1, f2, f3, f4⟩ := id KB
      refine zT4 0 ?_
      refine zTk 4 ?_
      refine zQ 5 fun K hK => ?_
      go_simp
      refine (CA _).mono ?_; rintro e v ⟨rfl, hb⟩; (replace d0 := (hb.cell (p := ⟨gb, q * 2, none⟩) l0).trans d0); (replace d1 := (hb.cell (p := ⟨gb, q * 2 + 1, none⟩) l0).trans d1); clear p0 p1 p2 p3 p4 k9 k0 k1 k2 k3 k4 f0 f1 f2 f3 f4; (replace l0 := Nat.lt_of_lt_of_le l0 hb.size); (replace ST := ST.below hb); (replace KB := KB.below hb); clear hb; obtain ⟨p0, p1, p2, p3, p4⟩ := ST.1; obtain ⟨k9, k0, k1, k2, k3, k4, f0, f1, f2, f3, f4⟩ := id KB
      (try go_wp2_with fail)
      refine hK.out _ _ ?_ (fun hHeld => ?_)
      ·first | exact ⟨d0, d1, p1, p2⟩ | exact True.intro | (simp (maxDischargeDepth := 6) [go_sem, *]; done)
      clear hK K
      (try simp only [zA])
      refine zT2 6 ?_
      refine zQ 8 fun K hK => ?_
      go_simp
      refine hK.out _ _ ?_ (fun hHeld => ?_)
      ·first | exact ⟨d0, d1, p1, p2⟩ | exact True.intro | (simp (maxDischargeDepth := 6) [go_sem, *]; done)
      clear hK K
      (try simp only [zA])
      refine wpAnyH_done (by kernel_rfl) ?_ _
      go_wp2_with fail
      go_roundw
      case rel => exact ⟨q + 1, by omega, by go_num, by rw [HT2.out]; exact KB.set4 _, ST.but ((But.refl bk _).setCell 4 _) hj⟩
      case measure => simp [intOf]; omega
     ·have HT2 : Hid (sN C lo hi (q + 1) (x0, x1, x2, x3, x4) = sq) := HNn.out h5
      have h5' : (ci == x0) = false := by simp [h5]
      clear HY HNn HAP CA
      go_upto_region 12 with fail
      refine wp_region_held_drew (S := (fun w' => w'.cell? ⟨gb', q, none⟩ = some (.int .i64 ci) ∧ w'.cell? ⟨bk, 0, none⟩ = some (.int .i64 x0))) (by kernel_rfl) ?_ (fun hHeld => ?_)
      ·first | exact ⟨d2, k0⟩ | (simp (maxDischargeDepth := 6) [go_sem, *]; done)
      refine zT4 0 ?_
      refine zT2 4 ?_
      refine zTk 6 ?_
      (try simp only [h5'])
      refine wpAnyH_done (by kernel_rfl) ?_ _
      replace ST := ST.drew
      replace KB := KB.drew
      go_wp2_with fail
      go_roundw
      case rel => exact ⟨q + 1, by omega, by go_num, by rw [HT2.out]; exact KB, ST⟩
      case measure => simp [intOf]; omega
    ·have hqn : q = C.length := by omega
     subst hqn
     have hli2 : ¬ (C.length : Int) < (C.length : Int) := by omega
     generalize sN C lo hi C.length (x0, x1, x2, x3, x4) = sq at *
     obtain ⟨k9, k0, k1, k2, k3, k4, f0, f1, f2, f3, f4⟩ := id KB
     have OW := ST.2.2.1
     have hs1 := ST.lts
     go_wp2_with (at_builtin; refine jW rfl _ _ rfl (w.heap.size + 2) K _ rfl OW rfl (by omega) (by omega) ?_; intro v' w9 O9 hg9 hn9)
     have ST9 : Hid (SSt w lo hi j2 C (.slice a0 C.length c0) (.slice a1 C.length c1) (K ++ [(x0, x1, x2, x3, sq)]) v' w9) := ST.add O9 hg9 hn9
     clear OW O9 hg9 hn9 ST KB
     clear k9 k0 k1 k2 k3 k4 f0 f1 f2 f3 f4
     go_wp2_with fail
     go_roundw
     case rel => exact ⟨k + 1, by omega, by go_num, by rw [HT.out]; exact ST9.out⟩
     case measure => simp [intOf]; omega
  ·have hkn : k = m := by omega
   subst hkn
   have hli : ¬ (k : Int) < (k : Int) := by omega
   obtain ⟨av, cv, rfl, _, _, _⟩ := aT ST.2.2.1
   simp only [List.length_map] at ST ⊢
   go_wp2_with fail
   go_ret
   exact ⟨.slice av (cP M k).length cv, rfl, by simpa only [List.length_map] using bp ST.2.2.1 (show w.heap.size ≤ w.heap.size + 2 by omega), ST.2.2.2.2.2.2⟩
end Go.Proofs.YtikbjljkakabdaaGreat
