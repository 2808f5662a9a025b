/- The walk of the exact law of PeersCarried. -/
import Derived.Test.YtoefgllhggnppaaI118
import Derived.WalkKit
import Derived.WalkSpells
import Derived.WalkLawsBesides
import Derived.Deep.RegionHeld
namespace Go.Proofs.Ytoefgllhggnppaa
open Go.RowKit
set_option linter.unusedVariables false
set_option maxRecDepth 100000 in
set_option maxHeartbeats 16000000 in
theorem lawPeersCarried (a : Option Addr) (n c : Nat) (M : Nat → PT) (dn dd : Int) (x : Int) (y : Int) (w : World) (hm : n ≤ maxLen) (hsrc : SrcC w a (n * 5) (MFPeer M)) (hw : ∀ i, i < n → (Lit.int .i64 (M i).1).wf = true) (w_dn : (Lit.int .i64 dn).wf = true) (w_dd : (Lit.int .i64 dd).wf = true) (w_x : (Lit.int .i64 x).wf = true) (w_y : (Lit.int .i64 y).wf = true) :
    Calls Try.prog 6 #[.slice a n c, .agg #[.int .i64 dn, .int .i64 dd], .int .i64 x, .int .i64 y] w fun e w' => e = .returned (.bool true) ∧ Below w.heap.size w w' := by
  have HA : Hid (SrcC w a (n * 5) (MFPeer M)) := hsrc
  have CS := fun (w' : World) (a' : Option Addr) (h : SrcC w' a' (n * 5) (MFPeer M)) => specPeersCarried_any a' n n M dn dd x y w' hm h
  have CI := fun (w' : World) (a' : Option Addr) (h : SrcC w' a' (n * 5) (MFPeer M)) => implPeersCarried_any a' n n M dn dd x y w' hm h w_dn w_dd w_x w_y
  clear hw hsrc w_dn w_dd w_x w_y
  have hL0 : ((caL M n dn dd x y).map cV).length ≤ 9 := by exact PeersCarried_len0 M n dn dd x y
  have hL1 : ((caL M n dn dd x y).map cI).length ≤ 9 := by exact PeersCarried_len1 M n dn dd x y
  generalize (caL M n dn dd x y).map cV = L0 at *
  generalize (caL M n dn dd x y).map cI = L1 at *
  have hm0 : L0.length ≤ maxLen := by unfold maxLen; omega
  have hn0 : L0.length ≤ 1048576 := by omega
  have hm1 : L1.length ≤ maxLen := by unfold maxLen; omega
  have hn1 : L1.length ≤ 1048576 := by omega
  have B := Below.nw w (.cells #[.int .i64 dn, .int .i64 dd] 43)
  have PB0 := Bx2.new w (.int .i64 dn) (.int .i64 dd) 43
  by_cases hbig : (n : Int) ≤ 1048576
  · have hn : n ≤ 1048576 := by omega
    have HN : Hid ((if (n : Int) ≤ 1048576 then 1048576 - (n : Int) else -1) = 1048576 - (n : Int)) := by rw [Hid, if_pos hbig]
    have hd : decide (1048576 - (n : Int) < 0) = false := by simp; omega
    go_enter Try.func6, Try.ntmps6
    go_upto_region 1 with fail
    generalize hwb : w.alloc (.cells #[.int .i64 dn, .int .i64 dd] 43) = wb at *
    clear hwb
    go_wp2_with fail
    refine (szPeerS_any a n c _ _ hm (by omega) (by omega)).mono ?_
    rintro e w' ⟨rfl, rfl⟩
    rw [HN.out]
    obtain ⟨p0a, p0b, p0c, p0d, p0e⟩ := id PB0
    go_wp2_with fail
    refine wp_region_held_drew (S := (fun w' => w'.cell? ⟨w.heap.size, 0, none⟩ = some (.int .i64 dn) ∧ w'.cell? ⟨w.heap.size, 1, none⟩ = some (.int .i64 dd))) (by kernel_rfl) ?_ (fun hHeld => ?_)
    · first | exact ⟨p0b, p0c⟩ | (simp (maxDischargeDepth := 6) [go_sem, *]; done)
    clear p0a p0b p0c p0d p0e
    replace B := Below.drew B
    replace PB0 : Bx2 wb.drew w.heap.size (.int .i64 dn) (.int .i64 dd) := PB0
    generalize wb.drew = wbd at *
    obtain ⟨p0a, p0b, p0c, p0d, p0e⟩ := id PB0
    refine wpAnyH_take (i := 0) (v := ?_) (by rw [List.getElem?_toArray]; rfl) (by kernel_rfl) (by kernel_rfl) (by kernel_rfl) (by intro _ _ _ h; exact h) (Or.inl ⟨by rfl, ?_⟩) (by assumption) ?_
    rotate_left
    · (intro w hSw; (try dsimp only at hSw); go_simp; all_goals with_reducible rfl)
    (try simp only [Act.put, List.setIfInBounds_toArray, List.set_cons_zero, List.set_cons_succ])
    refine wpAnyH_take (i := 2) (v := ?_) (by rw [List.getElem?_toArray]; rfl) (by kernel_rfl) (by kernel_rfl) (by kernel_rfl) (by intro _ _ _ h; exact h) (Or.inl ⟨by rfl, ?_⟩) (by assumption) ?_
    rotate_left
    · (intro w hSw; (try dsimp only at hSw); go_simp; all_goals with_reducible rfl)
    (try simp only [Act.put, List.setIfInBounds_toArray, List.set_cons_zero, List.set_cons_succ])
    refine wpAnyH_take (i := 4) (v := ?_) (by rw [List.getElem?_toArray]; rfl) (by kernel_rfl) (by kernel_rfl) (by kernel_rfl) (by intro _ _ _ h; exact h) (Or.inl ⟨by rfl, ?_⟩) (by assumption) ?_
    rotate_left
    · (intro w hSw; (try dsimp only at hSw); go_simp; all_goals with_reducible rfl)
    (try simp only [Act.put, List.setIfInBounds_toArray, List.set_cons_zero, List.set_cons_succ])
    refine wpAnyH_take (i := 5) (v := ?_) (by rw [List.getElem?_toArray]; rfl) (by kernel_rfl) (by kernel_rfl) (by kernel_rfl) (by intro _ _ _ h; exact h) (Or.inl ⟨by rfl, ?_⟩) (by assumption) ?_
    rotate_left
    · (intro w hSw; (try dsimp only at hSw); go_simp; all_goals with_reducible rfl)
    (try simp only [Act.put, List.setIfInBounds_toArray, List.set_cons_zero, List.set_cons_succ])
    refine wpAnyH_ready (rs := [1]) (by kernel_rfl) (by simp) ?_
    refine AllReadyH.cons (by rw [List.getElem?_toArray]; rfl) (fun K hK => ?_) AllReadyH.nil
    go_simp
    refine (toPeerS_any a n c M _ hn (HA.out.below B)).mono ?_; (rintro e w2 ⟨rfl, R2, hb⟩); (clear p0a p0b p0c p0d p0e); (replace B := B.trans (hb.mono B.size)); (replace PB0 := PB0.below hb); (clear hb); (obtain ⟨p0a, p0b, p0c, p0d, p0e⟩ := id PB0)
    (try go_wp2_with fail)
    refine hK.out _ _ ?_ (fun hHeld => ?_)
    · first | exact ⟨p0b, p0c⟩ | (simp (maxDischargeDepth := 6) [go_sem, *]; done)
    clear hK K
    (try simp only [Act.put, List.setIfInBounds_toArray, List.set_cons_zero, List.set_cons_succ])
    refine wpAnyH_ready (rs := [3]) (by kernel_rfl) (by simp) ?_
    refine AllReadyH.cons (by rw [List.getElem?_toArray]; rfl) (fun K hK => ?_) AllReadyH.nil
    go_simp
    refine (toDrift_any _ _ _).mono ?_; (rintro e w20 ⟨rfl, hb⟩); (clear p0a p0b p0c p0d p0e); (replace B := B.trans (hb.mono B.size)); (replace PB0 := PB0.below hb); (replace R2 := RowF.below' hb R2); (clear hb); (obtain ⟨p0a, p0b, p0c, p0d, p0e⟩ := id PB0)
    (try go_wp2_with fail)
    refine hK.out _ _ ?_ (fun hHeld => ?_)
    · first | exact ⟨p0b, p0c⟩ | (simp (maxDischargeDepth := 6) [go_sem, *]; done)
    clear hK K
    (try simp only [Act.put, List.setIfInBounds_toArray, List.set_cons_zero, List.set_cons_succ])
    refine wpAnyH_ready (rs := [6]) (by kernel_rfl) (by simp) ?_
    refine AllReadyH.cons (by rw [List.getElem?_toArray]; rfl) (fun K hK => ?_) AllReadyH.nil
    go_simp
    refine (CS _ _ (.inr ⟨_, _, rfl, R2.cs (Nat.le_refl _)⟩)).mono ?_; (rintro e w3 ⟨vs0, vs1, rfl, S0, S1, hb⟩); (clear p0a p0b p0c p0d p0e); (replace B := B.trans (hb.mono B.size)); (replace PB0 := PB0.below hb); (clear hb R2); (obtain ⟨sa0, sc0, rfl, _, _, Q0⟩ := ownF_src S0); (have V0 := SrcK.of Q0); (clear S0 Q0); (obtain ⟨sa1, sc1, rfl, _, _, Q1⟩ := ownF_src S1); (have V1 := SrcK.of Q1); (clear S1 Q1); (obtain ⟨p0a, p0b, p0c, p0d, p0e⟩ := id PB0)
    (try go_wp2_with fail)
    refine hK.out _ _ ?_ (fun hHeld => ?_)
    · first | exact ⟨p0b, p0c⟩ | (simp (maxDischargeDepth := 6) [go_sem, *]; done)
    clear hK K
    (try simp only [Act.put, List.setIfInBounds_toArray, List.set_cons_zero, List.set_cons_succ])
    refine wpAnyH_take (i := 7) (v := ?_) (by rw [List.getElem?_toArray]; rfl) (by kernel_rfl) (by kernel_rfl) (by kernel_rfl) (by intro _ _ _ h; exact h) (Or.inl ⟨by rfl, ?_⟩) (by assumption) ?_
    rotate_left
    · (intro w hSw; (try dsimp only at hSw); go_simp; all_goals with_reducible rfl)
    (try simp only [Act.put, List.setIfInBounds_toArray, List.set_cons_zero, List.set_cons_succ])
    refine wpAnyH_take (i := 8) (v := ?_) (by rw [List.getElem?_toArray]; rfl) (by kernel_rfl) (by kernel_rfl) (by kernel_rfl) (by intro _ _ _ h; exact h) (Or.inl ⟨by rfl, ?_⟩) (by assumption) ?_
    rotate_left
    · (intro w hSw; (try dsimp only at hSw); go_simp; all_goals with_reducible rfl)
    (try simp only [Act.put, List.setIfInBounds_toArray, List.set_cons_zero, List.set_cons_succ])
    refine wpAnyH_take (i := 9) (v := ?_) (by rw [List.getElem?_toArray]; rfl) (by kernel_rfl) (by kernel_rfl) (by kernel_rfl) (by intro _ _ _ h; exact h) (Or.inl ⟨by rfl, ?_⟩) (by assumption) ?_
    rotate_left
    · (intro w hSw; (try dsimp only at hSw); go_simp; all_goals with_reducible rfl)
    (try simp only [Act.put, List.setIfInBounds_toArray, List.set_cons_zero, List.set_cons_succ])
    refine wpAnyH_take (i := 10) (v := ?_) (by rw [List.getElem?_toArray]; rfl) (by kernel_rfl) (by kernel_rfl) (by kernel_rfl) (by intro _ _ _ h; exact h) (Or.inl ⟨by rfl, ?_⟩) (by assumption) ?_
    rotate_left
    · (intro w hSw; (try dsimp only at hSw); go_simp; all_goals with_reducible rfl)
    (try simp only [Act.put, List.setIfInBounds_toArray, List.set_cons_zero, List.set_cons_succ])
    refine wpAnyH_take (i := 11) (v := ?_) (by rw [List.getElem?_toArray]; rfl) (by kernel_rfl) (by kernel_rfl) (by kernel_rfl) (by intro _ _ _ h; exact h) (Or.inl ⟨by rfl, ?_⟩) (by assumption) ?_
    rotate_left
    · (intro w hSw; (try dsimp only at hSw); go_simp; all_goals with_reducible rfl)
    (try simp only [Act.put, List.setIfInBounds_toArray, List.set_cons_zero, List.set_cons_succ])
    refine wpAnyH_done (by kernel_rfl) ?_ _
    clear p0a p0b p0c p0d p0e
    have hJ3 : w.heap.size ≤ w3.heap.size := B.size
    have hP0 : w.heap.size < w3.heap.size := PB0.1
    obtain ⟨p0a, p0b, p0c, p0d, p0e⟩ := id PB0
    go_wp2_with fail
    refine (toPeerS_any a n c M _ hn (HA.out.below B)).mono ?_
    rintro e w4 ⟨rfl, RX, hb⟩
    clear p0a p0b p0c p0d p0e
    replace B := B.trans (hb.mono B.size)
    replace PB0 := PB0.below hb
    replace V0 := V0.below hb
    replace V1 := V1.below hb
    clear hb
    have hbx : w3.heap.size < w4.heap.size := RX.lt
    generalize hj3 : w3.heap.size = j3 at *
    clear hj3
    obtain ⟨p0a, p0b, p0c, p0d, p0e⟩ := id PB0
    go_wp2_with fail
    refine (toDrift_any _ _ _).mono ?_
    rintro e w50 ⟨rfl, hb⟩
    clear p0a p0b p0c p0d p0e
    replace B := B.trans (hb.mono B.size)
    replace PB0 := PB0.below hb
    replace V0 := V0.below hb
    replace V1 := V1.below hb
    replace RX := RowF.below' hb RX
    clear hb
    obtain ⟨p0a, p0b, p0c, p0d, p0e⟩ := id PB0
    go_wp2_with fail
    refine (CI _ _ (.inr ⟨_, _, rfl, RX.cs (Nat.le_refl _)⟩)).mono ?_
    rintro e w6 ⟨vg0, vg1, rfl, G0, G1, GD, hb⟩
    have hbi : j3 < w50.heap.size := RX.lt
    clear p0a p0b p0c p0d p0e
    replace B := B.trans (hb.mono B.size)
    replace PB0 := PB0.below hb
    replace V0 := V0.below hb
    replace V1 := V1.below hb
    replace RX := RowF.below' hb RX
    have s56 := hb.size
    clear hb
    obtain ⟨ga0, gc0, rfl, _, _, _⟩ := ownF_src G0
    obtain ⟨ga1, gc1, rfl, _, _, _⟩ := ownF_src G1
    have RG0 : Hid (∀ g, (Value.slice ga0 L0.length gc0).ownBlock = some g → w50.heap.size ≤ g ∧ g < w6.heap.size) := fun g hg => World.ownsRow.lt G0 g hg
    have RG1 : Hid (∀ g, (Value.slice ga1 L1.length gc1).ownBlock = some g → w50.heap.size ≤ g ∧ g < w6.heap.size) := fun g hg => World.ownsRow.lt G1 g hg
    have HGD : Hid (∀ g, (Value.slice ga0 L0.length gc0).ownBlock = some g → (Value.slice ga1 L1.length gc1).ownBlock ≠ some g) := GD
    clear GD
    generalize hj5 : w50.heap.size = j5 at *
    clear hj5
    obtain ⟨p0a, p0b, p0c, p0d, p0e⟩ := id PB0
    go_wp2_with fail
    refine (eqIvalS_src _ _ _ _ _ (gV L0) _ hm0 (ownS G0) V0.src).mono ?_
    rintro e w70 ⟨rfl, hb⟩
    clear p0a p0b p0c p0d p0e
    replace B := B.trans (hb.mono B.size)
    replace PB0 := PB0.below hb
    replace V0 := V0.below hb
    replace V1 := V1.below hb
    replace RX := RowF.below' hb RX
    replace G0 := own_belK' G0 hb
    replace G1 := own_belK' G1 hb
    clear hb
    obtain ⟨p0a, p0b, p0c, p0d, p0e⟩ := id PB0
    go_wp2_with fail
    refine (eqIntS_src _ _ _ _ _ (gI L1) _ hm1 (ownS G1) V1.src).mono ?_
    rintro e w71 ⟨rfl, hb⟩
    clear p0a p0b p0c p0d p0e
    replace B := B.trans (hb.mono B.size)
    replace PB0 := PB0.below hb
    replace V0 := V0.below hb
    replace V1 := V1.below hb
    replace RX := RowF.below' hb RX
    replace G0 := own_belK' G0 hb
    replace G1 := own_belK' G1 hb
    clear hb
    obtain ⟨p0a, p0b, p0c, p0d, p0e⟩ := id PB0
    go_wp2_with fail
    refine (toPeerS_any a n c M _ hn (HA.out.below B)).mono ?_
    rintro e w9 ⟨rfl, R9, hb⟩
    clear p0a p0b p0c p0d p0e
    replace B := B.trans (hb.mono B.size)
    replace PB0 := PB0.below hb
    replace V0 := V0.below hb
    replace V1 := V1.below hb
    replace RX := RowF.below' hb RX
    replace G0 := own_belK' G0 hb
    replace G1 := own_belK' G1 hb
    clear hb
    obtain ⟨p0a, p0b, p0c, p0d, p0e⟩ := id PB0
    go_wp2_with fail
    refine (eqPeerS_src _ _ _ _ _ M _ hm (.inr ⟨_, _, rfl, RX.cs (Nat.le_refl _)⟩) (.inr ⟨_, _, rfl, R9.cs (Nat.le_refl _)⟩)).mono ?_
    rintro e w9b ⟨rfl, hb⟩
    clear p0a p0b p0c p0d p0e
    replace B := B.trans (hb.mono B.size)
    replace PB0 := PB0.below hb
    replace V0 := V0.below hb
    replace V1 := V1.below hb
    replace RX := RowF.below' hb RX
    replace G0 := own_belK' G0 hb
    replace G1 := own_belK' G1 hb
    clear hb
    clear R9
    obtain ⟨p0a, p0b, p0c, p0d, p0e⟩ := id PB0
    go_wp2_with fail
    refine (markPeerS_row j3 (n * 5) n n 1 _ hn (by omega) (by omega) (Nat.le_refl _) (RX.zero _)).mono ?_
    rintro e w11 ⟨rfl, _, hb⟩
    clear p0a p0b p0c p0d p0e
    replace B := B.trans (hb.below (B := w.heap.size) (by omega) B.size)
    replace PB0 := PB0.but hb (by omega)
    replace V0 := V0.kept hb.grK (fun b h e => by (have e' := Option.some.inj e); omega)
    replace V1 := V1.kept hb.grK (fun b h e => by (have e' := Option.some.inj e); omega)
    replace G0 := own_butK G0 hb hbi
    replace G1 := own_butK G1 hb hbi
    have hk1 : ¬ (1 + (n : Int) * 5 < 0) := by omega
    clear hb RX
    obtain ⟨p0a, p0b, p0c, p0d, p0e⟩ := id PB0
    go_wp2_with fail
    refine (eqIvalS_src _ _ _ _ _ (gV L0) _ hm0 (ownS G0) V0.src).mono ?_
    rintro e w120 ⟨rfl, hb⟩
    clear p0a p0b p0c p0d p0e
    replace B := B.trans (hb.mono B.size)
    replace PB0 := PB0.below hb
    replace V0 := V0.below hb
    replace V1 := V1.below hb
    replace G0 := own_belK' G0 hb
    replace G1 := own_belK' G1 hb
    clear hb
    obtain ⟨p0a, p0b, p0c, p0d, p0e⟩ := id PB0
    go_wp2_with fail
    refine (eqIntS_src _ _ _ _ _ (gI L1) _ hm1 (ownS G1) V1.src).mono ?_
    rintro e w121 ⟨rfl, hb⟩
    clear p0a p0b p0c p0d p0e
    replace B := B.trans (hb.mono B.size)
    replace PB0 := PB0.below hb
    replace V0 := V0.below hb
    replace V1 := V1.below hb
    replace G0 := own_belK' G0 hb
    replace G1 := own_belK' G1 hb
    clear hb
    obtain ⟨p0a, p0b, p0c, p0d, p0e⟩ := id PB0
    go_wp2_with fail
    refine (markIvalS_own _ _ _ _ _ _ _ hn0 (by omega) (by omega) G0).mono ?_
    rintro e w130 ⟨rfl, HM0, hb⟩
    clear p0a p0b p0c p0d p0e
    replace B := B.trans (grown_bel hb B.size (fun b h e => by have := RG0.out _ e.symm; omega))
    replace PB0 := PB0.kept hb (fun e => by have := RG0.out _ e.symm; omega)
    replace V0 := V0.kept hb (fun b h e => by have := RG0.out _ e.symm; omega)
    replace V1 := V1.kept hb (fun b h e => by have := RG0.out _ e.symm; omega)
    replace G1 := World.ownsRow.kept G1 hb (ne_own HGD.out)
    have HGE : Hid (∀ b off, ga0 = some ⟨b, off, none⟩ → some b ≠ (Value.slice ga1 L1.length gc1).ownBlock) := fun b off e => by rw [← own_at G0 e]; exact ne_own' HGD.out (by rw [own_at G0 e]; simp)
    have HK0 : Hid (SrcC w130 ga0 (L0.length * 2) (mkIval (1))) := HM0
    clear hb HM0 G0
    obtain ⟨p0a, p0b, p0c, p0d, p0e⟩ := id PB0
    go_wp2_with fail
    refine (markIntS_own _ _ _ _ _ _ _ hn1 (by omega) (by omega) G1).mono ?_
    rintro e w131 ⟨rfl, HM1, hb⟩
    clear p0a p0b p0c p0d p0e
    replace B := B.trans (grown_bel hb B.size (fun b h e => by have := RG1.out _ e.symm; omega))
    replace PB0 := PB0.kept hb (fun e => by have := RG1.out _ e.symm; omega)
    replace V0 := V0.kept hb (fun b h e => by have := RG1.out _ e.symm; omega)
    replace V1 := V1.kept hb (fun b h e => by have := RG1.out _ e.symm; omega)
    replace HK0 : Hid (SrcC w131 ga0 (L0.length * 2) (mkIval (1))) := HK0.out.keptK hb (fun b off e => HGE.out b off e)
    have HK1 : Hid (SrcC w131 ga1 (L1.length * 1) (mkInt (1 + (L0.length : Int) * 2))) := HM1
    clear hb HM1 G1
    obtain ⟨p0a, p0b, p0c, p0d, p0e⟩ := id PB0
    go_wp2_with fail
    refine (heldIvalS_any _ _ _ _ _ hn0 (by omega) (by omega) HK0.out).mono ?_
    rintro e w' ⟨rfl, rfl⟩
    clear p0a p0b p0c p0d p0e
    have hk20 : ¬ (1 + (L0.length : Int) * 2 < 0) := by omega
    obtain ⟨p0a, p0b, p0c, p0d, p0e⟩ := id PB0
    go_wp2_with fail
    refine (heldIntS_any _ _ _ _ _ hn1 (by omega) (by omega) HK1.out).mono ?_
    rintro e w' ⟨rfl, rfl⟩
    clear p0a p0b p0c p0d p0e
    have hk21 : ¬ (1 + (L0.length : Int) * 2 + (L1.length : Int) * 1 < 0) := by omega
    obtain ⟨p0a, p0b, p0c, p0d, p0e⟩ := id PB0
    go_wp2_with fail
    refine wp_region_held_drew (S := (fun w' => w'.cell? ⟨w.heap.size, 0, none⟩ = some (.int .i64 dn) ∧ w'.cell? ⟨w.heap.size, 1, none⟩ = some (.int .i64 dd))) (by kernel_rfl) ?_ (fun hHeld => ?_)
    · first | exact ⟨p0b, p0c⟩ | (simp (maxDischargeDepth := 6) [go_sem, *]; done)
    clear p0a p0b p0c p0d p0e
    replace B := Below.drew B
    replace PB0 : Bx2 w131.drew w.heap.size (.int .i64 dn) (.int .i64 dd) := PB0
    replace V0 : SrcK w131.drew sa0 (L0.length * 2) (MFIval (gV L0)) j3 := V0
    replace V1 : SrcK w131.drew sa1 (L1.length * 1) (MFInt (gI L1)) j3 := V1
    replace HK0 : Hid (SrcC w131.drew ga0 (L0.length * 2) (mkIval (1))) := HK0.out
    replace HK1 : Hid (SrcC w131.drew ga1 (L1.length * 1) (mkInt (1 + (L0.length : Int) * 2))) := HK1.out
    generalize w131.drew = w131d at *
    obtain ⟨p0a, p0b, p0c, p0d, p0e⟩ := id PB0
    refine wpAnyH_take (i := 0) (v := ?_) (by rw [List.getElem?_toArray]; rfl) (by kernel_rfl) (by kernel_rfl) (by kernel_rfl) (by intro _ _ _ h; exact h) (Or.inl ⟨by rfl, ?_⟩) (by assumption) ?_
    rotate_left
    · (intro w hSw; (try dsimp only at hSw); go_simp; all_goals with_reducible rfl)
    (try simp only [Act.put, List.setIfInBounds_toArray, List.set_cons_zero, List.set_cons_succ])
    refine wpAnyH_take (i := 2) (v := ?_) (by rw [List.getElem?_toArray]; rfl) (by kernel_rfl) (by kernel_rfl) (by kernel_rfl) (by intro _ _ _ h; exact h) (Or.inl ⟨by rfl, ?_⟩) (by assumption) ?_
    rotate_left
    · (intro w hSw; (try dsimp only at hSw); go_simp; all_goals with_reducible rfl)
    (try simp only [Act.put, List.setIfInBounds_toArray, List.set_cons_zero, List.set_cons_succ])
    refine wpAnyH_take (i := 4) (v := ?_) (by rw [List.getElem?_toArray]; rfl) (by kernel_rfl) (by kernel_rfl) (by kernel_rfl) (by intro _ _ _ h; exact h) (Or.inl ⟨by rfl, ?_⟩) (by assumption) ?_
    rotate_left
    · (intro w hSw; (try dsimp only at hSw); go_simp; all_goals with_reducible rfl)
    (try simp only [Act.put, List.setIfInBounds_toArray, List.set_cons_zero, List.set_cons_succ])
    refine wpAnyH_take (i := 5) (v := ?_) (by rw [List.getElem?_toArray]; rfl) (by kernel_rfl) (by kernel_rfl) (by kernel_rfl) (by intro _ _ _ h; exact h) (Or.inl ⟨by rfl, ?_⟩) (by assumption) ?_
    rotate_left
    · (intro w hSw; (try dsimp only at hSw); go_simp; all_goals with_reducible rfl)
    (try simp only [Act.put, List.setIfInBounds_toArray, List.set_cons_zero, List.set_cons_succ])
    refine wpAnyH_ready (rs := [1]) (by kernel_rfl) (by simp) ?_
    refine AllReadyH.cons (by rw [List.getElem?_toArray]; rfl) (fun K hK => ?_) AllReadyH.nil
    go_simp
    refine (toPeerS_any a n c M _ hn (HA.out.below B)).mono ?_; (rintro e w15 ⟨rfl, R15, hb⟩); (clear p0a p0b p0c p0d p0e); (replace B := B.trans (hb.mono B.size)); (replace PB0 := PB0.below hb); (replace V0 := V0.below hb); (replace V1 := V1.below hb); (replace HK0 : Hid (SrcC _ ga0 (L0.length * 2) (mkIval (1))) := HK0.out.below hb); (replace HK1 : Hid (SrcC _ ga1 (L1.length * 1) (mkInt (1 + (L0.length : Int) * 2))) := HK1.out.below hb); (clear hb); (obtain ⟨p0a, p0b, p0c, p0d, p0e⟩ := id PB0)
    (try go_wp2_with fail)
    refine hK.out _ _ ?_ (fun hHeld => ?_)
    · first | exact ⟨p0b, p0c⟩ | (simp (maxDischargeDepth := 6) [go_sem, *]; done)
    clear hK K
    (try simp only [Act.put, List.setIfInBounds_toArray, List.set_cons_zero, List.set_cons_succ])
    refine wpAnyH_ready (rs := [3]) (by kernel_rfl) (by simp) ?_
    refine AllReadyH.cons (by rw [List.getElem?_toArray]; rfl) (fun K hK => ?_) AllReadyH.nil
    go_simp
    refine (toDrift_any _ _ _).mono ?_; (rintro e w150 ⟨rfl, hb⟩); (clear p0a p0b p0c p0d p0e); (replace B := B.trans (hb.mono B.size)); (replace PB0 := PB0.below hb); (replace V0 := V0.below hb); (replace V1 := V1.below hb); (replace HK0 : Hid (SrcC _ ga0 (L0.length * 2) (mkIval (1))) := HK0.out.below hb); (replace HK1 : Hid (SrcC _ ga1 (L1.length * 1) (mkInt (1 + (L0.length : Int) * 2))) := HK1.out.below hb); (replace R15 := RowF.below' hb R15); (clear hb); (obtain ⟨p0a, p0b, p0c, p0d, p0e⟩ := id PB0)
    (try go_wp2_with fail)
    refine hK.out _ _ ?_ (fun hHeld => ?_)
    · first | exact ⟨p0b, p0c⟩ | (simp (maxDischargeDepth := 6) [go_sem, *]; done)
    clear hK K
    (try simp only [Act.put, List.setIfInBounds_toArray, List.set_cons_zero, List.set_cons_succ])
    refine wpAnyH_ready (rs := [6]) (by kernel_rfl) (by simp) ?_
    refine AllReadyH.cons (by rw [List.getElem?_toArray]; rfl) (fun K hK => ?_) AllReadyH.nil
    go_simp
    refine (CI _ _ (.inr ⟨_, _, rfl, R15.cs (Nat.le_refl _)⟩)).mono ?_; (rintro e w16 ⟨vh0, vh1, rfl, H0, H1, _, hb⟩); (clear p0a p0b p0c p0d p0e); (replace B := B.trans (hb.mono B.size)); (replace PB0 := PB0.below hb); (replace V0 := V0.below hb); (replace V1 := V1.below hb); (replace HK0 : Hid (SrcC _ ga0 (L0.length * 2) (mkIval (1))) := HK0.out.below hb); (replace HK1 : Hid (SrcC _ ga1 (L1.length * 1) (mkInt (1 + (L0.length : Int) * 2))) := HK1.out.below hb); (clear hb R15); (obtain ⟨ha0, hc0, rfl, _, _, U0⟩ := ownF_src H0); (clear H0); (have UK0 := SrcK.of U0); (clear U0); (obtain ⟨ha1, hc1, rfl, _, _, U1⟩ := ownF_src H1); (clear H1); (have UK1 := SrcK.of U1); (clear U1); (obtain ⟨p0a, p0b, p0c, p0d, p0e⟩ := id PB0)
    (try go_wp2_with fail)
    refine hK.out _ _ ?_ (fun hHeld => ?_)
    · first | exact ⟨p0b, p0c⟩ | (simp (maxDischargeDepth := 6) [go_sem, *]; done)
    clear hK K
    (try simp only [Act.put, List.setIfInBounds_toArray, List.set_cons_zero, List.set_cons_succ])
    refine wpAnyH_take (i := 7) (v := ?_) (by rw [List.getElem?_toArray]; rfl) (by kernel_rfl) (by kernel_rfl) (by kernel_rfl) (by intro _ _ _ h; exact h) (Or.inl ⟨by rfl, ?_⟩) (by assumption) ?_
    rotate_left
    · (intro w hSw; (try dsimp only at hSw); go_simp; all_goals with_reducible rfl)
    (try simp only [Act.put, List.setIfInBounds_toArray, List.set_cons_zero, List.set_cons_succ])
    refine wpAnyH_take (i := 8) (v := ?_) (by rw [List.getElem?_toArray]; rfl) (by kernel_rfl) (by kernel_rfl) (by kernel_rfl) (by intro _ _ _ h; exact h) (Or.inl ⟨by rfl, ?_⟩) (by assumption) ?_
    rotate_left
    · (intro w hSw; (try dsimp only at hSw); go_simp; all_goals with_reducible rfl)
    (try simp only [Act.put, List.setIfInBounds_toArray, List.set_cons_zero, List.set_cons_succ])
    refine wpAnyH_take (i := 9) (v := ?_) (by rw [List.getElem?_toArray]; rfl) (by kernel_rfl) (by kernel_rfl) (by kernel_rfl) (by intro _ _ _ h; exact h) (Or.inl ⟨by rfl, ?_⟩) (by assumption) ?_
    rotate_left
    · (intro w hSw; (try dsimp only at hSw); go_simp; all_goals with_reducible rfl)
    (try simp only [Act.put, List.setIfInBounds_toArray, List.set_cons_zero, List.set_cons_succ])
    refine wpAnyH_take (i := 10) (v := ?_) (by rw [List.getElem?_toArray]; rfl) (by kernel_rfl) (by kernel_rfl) (by kernel_rfl) (by intro _ _ _ h; exact h) (Or.inl ⟨by rfl, ?_⟩) (by assumption) ?_
    rotate_left
    · (intro w hSw; (try dsimp only at hSw); go_simp; all_goals with_reducible rfl)
    (try simp only [Act.put, List.setIfInBounds_toArray, List.set_cons_zero, List.set_cons_succ])
    refine wpAnyH_take (i := 11) (v := ?_) (by rw [List.getElem?_toArray]; rfl) (by kernel_rfl) (by kernel_rfl) (by kernel_rfl) (by intro _ _ _ h; exact h) (Or.inl ⟨by rfl, ?_⟩) (by assumption) ?_
    rotate_left
    · (intro w hSw; (try dsimp only at hSw); go_simp; all_goals with_reducible rfl)
    (try simp only [Act.put, List.setIfInBounds_toArray, List.set_cons_zero, List.set_cons_succ])
    refine wpAnyH_done (by kernel_rfl) ?_ _
    clear p0a p0b p0c p0d p0e
    clear CS CI
    obtain ⟨p0a, p0b, p0c, p0d, p0e⟩ := id PB0
    go_wp2_with fail
    refine (eqIvalS_src _ _ _ _ _ (gV L0) _ hm0 UK0.src V0.src).mono ?_
    rintro e w180 ⟨rfl, hb⟩
    clear p0a p0b p0c p0d p0e
    replace B := B.trans (hb.mono B.size)
    replace PB0 := PB0.below hb
    replace V0 := V0.below hb
    replace V1 := V1.below hb
    replace HK0 : Hid (SrcC _ ga0 (L0.length * 2) (mkIval (1))) := HK0.out.below hb
    replace HK1 : Hid (SrcC _ ga1 (L1.length * 1) (mkInt (1 + (L0.length : Int) * 2))) := HK1.out.below hb
    replace UK0 := UK0.below hb
    replace UK1 := UK1.below hb
    clear hb
    obtain ⟨p0a, p0b, p0c, p0d, p0e⟩ := id PB0
    go_wp2_with fail
    refine (eqIntS_src _ _ _ _ _ (gI L1) _ hm1 UK1.src V1.src).mono ?_
    rintro e w181 ⟨rfl, hb⟩
    clear p0a p0b p0c p0d p0e
    replace B := B.trans (hb.mono B.size)
    replace PB0 := PB0.below hb
    replace V0 := V0.below hb
    replace V1 := V1.below hb
    replace HK0 : Hid (SrcC _ ga0 (L0.length * 2) (mkIval (1))) := HK0.out.below hb
    replace HK1 : Hid (SrcC _ ga1 (L1.length * 1) (mkInt (1 + (L0.length : Int) * 2))) := HK1.out.below hb
    replace UK0 := UK0.below hb
    replace UK1 := UK1.below hb
    clear hb
    obtain ⟨p0a, p0b, p0c, p0d, p0e⟩ := id PB0
    go_wp2_with fail
    refine (heldIvalS_any _ _ _ _ _ hn0 (by omega) (by omega) HK0.out).mono ?_
    rintro e w' ⟨rfl, rfl⟩
    clear p0a p0b p0c p0d p0e
    obtain ⟨p0a, p0b, p0c, p0d, p0e⟩ := id PB0
    go_wp2_with fail
    refine (heldIntS_any _ _ _ _ _ hn1 (by omega) (by omega) HK1.out).mono ?_
    rintro e w' ⟨rfl, rfl⟩
    clear p0a p0b p0c p0d p0e
    go_wp2_with fail
    go_ret
    exact ⟨rfl, B⟩
  · have HN : Hid ((if (n : Int) ≤ 1048576 then 1048576 - (n : Int) else -1) = -1) := by rw [Hid, if_neg hbig]
    clear CS CI
    go_enter Try.func6, Try.ntmps6
    go_upto_region 1 with fail
    go_wp2_with fail
    refine (szPeerS_any a n c _ _ hm (by omega) (by omega)).mono ?_
    rintro e w' ⟨rfl, rfl⟩
    rw [HN.out]
    go_wp2_with fail
    go_ret
    exact ⟨rfl, B⟩
end Go.Proofs.Ytoefgllhggnppaa
