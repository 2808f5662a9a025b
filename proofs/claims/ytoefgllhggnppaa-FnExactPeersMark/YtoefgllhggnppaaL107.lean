/- The walk of the exact law of PeersMark. -/
import Derived.Test.YtoefgllhggnppaaI121
import Derived.WalkKit
import Derived.WalkSpells
import Derived.WalkLawsBesides
import Derived.Deep.RegionHeld
namespace Go.Proofs.Ytoefgllhggnppaa
open Go.RowKit
set_option linter.unusedVariables false
set_option maxRecDepth 100000 in
set_option maxHeartbeats 16000000 in
theorem lawPeersMark (a : Option Addr) (n c : Nat) (M : Nat → PT) (dn dd : Int) (x : Int) (y : Int) (lo hi : Int) (w : World) (hm : n ≤ maxLen) (hsrc : SrcC w a (n * 5) (MFPeer M)) (hw : ∀ i, i < n → (Lit.int .i64 (M i).1).wf = true) (w_dn : (Lit.int .i64 dn).wf = true) (w_dd : (Lit.int .i64 dd).wf = true) (w_x : (Lit.int .i64 x).wf = true) (w_y : (Lit.int .i64 y).wf = true) (w_lo : (Lit.int .i64 lo).wf = true) (w_hi : (Lit.int .i64 hi).wf = true) :
    Calls Try.prog 7 #[.slice a n c, .agg #[.int .i64 dn, .int .i64 dd], .int .i64 x, .int .i64 y, .agg #[.int .i64 lo, .int .i64 hi]] w fun e w' => e = .returned (.bool true) ∧ Below w.heap.size w w' := by
  have HA : Hid (SrcC w a (n * 5) (MFPeer M)) := hsrc
  have CS := fun (w' : World) (a' : Option Addr) (h : SrcC w' a' (n * 5) (MFPeer M)) => specPeersMark_any a' n n M dn dd x y lo hi w' hm h
  have CI := fun (w' : World) (a' : Option Addr) (h : SrcC w' a' (n * 5) (MFPeer M)) => implPeersMark_any a' n n M dn dd x y lo hi w' hm h w_dn w_dd w_x w_y w_lo w_hi
  clear hw hsrc w_dn w_dd w_x w_y w_lo w_hi
  have hL0 : (mrL M n dn dd x y lo hi).length ≤ 9 := by exact PeersMark_len M n dn dd x y lo hi
  generalize mrL M n dn dd x y lo hi = L0 at *
  have hm0 : L0.length ≤ maxLen := by unfold maxLen; omega
  have hn0 : L0.length ≤ 1048576 := by omega
  have B := Below.nw w (.cells #[.int .i64 dn, .int .i64 dd] 43)
  replace B := B.alloc (by simp) (.cells #[.int .i64 lo, .int .i64 hi] 30)
  have PB0 := (Bx2.new w (.int .i64 dn) (.int .i64 dd) 43).alloc (.cells #[.int .i64 lo, .int .i64 hi] 30)
  have PB1 := Bx2.new (w.alloc (.cells #[.int .i64 dn, .int .i64 dd] 43)) (.int .i64 lo) (.int .i64 hi) 30
  simp only [World.size_alloc] at PB1
  by_cases hbig : (n : Int) ≤ 1048576
  · have hn : n ≤ 1048576 := by omega
    have HN : Hid ((if (n : Int) ≤ 1048576 then 1048576 - (n : Int) else -1) = 1048576 - (n : Int)) := by rw [Hid, if_pos hbig]
    have hd : decide (1048576 - (n : Int) < 0) = false := by simp; omega
    go_enter Try.func7, Try.ntmps7
    go_upto_region 1 with fail
    generalize hwb : (w.alloc (.cells #[.int .i64 dn, .int .i64 dd] 43)).alloc (.cells #[.int .i64 lo, .int .i64 hi] 30) = wb at *
    clear hwb
    go_wp2_with fail
    refine (szPeerS_any a n c _ _ hm (by omega) (by omega)).mono ?_
    rintro e w' ⟨rfl, rfl⟩
    rw [HN.out]
    obtain ⟨p0a, p0b, p0c, p0d, p0e⟩ := id PB0; obtain ⟨p1a, p1b, p1c, p1d, p1e⟩ := id PB1
    go_wp2_with fail
    refine wp_region_held_drew (S := (fun w' => w'.cell? ⟨w.heap.size, 0, none⟩ = some (.int .i64 dn) ∧ w'.cell? ⟨w.heap.size, 1, none⟩ = some (.int .i64 dd) ∧ w'.cell? ⟨(w.heap.size + 1), 0, none⟩ = some (.int .i64 lo) ∧ w'.cell? ⟨(w.heap.size + 1), 1, none⟩ = some (.int .i64 hi))) (by kernel_rfl) ?_ (fun hHeld => ?_)
    · first | exact ⟨p0b, p0c, p1b, p1c⟩ | (simp (maxDischargeDepth := 6) [go_sem, *]; done)
    clear p0a p0b p0c p0d p0e p1a p1b p1c p1d p1e
    replace B := Below.drew B
    replace PB0 : Bx2 wb.drew w.heap.size (.int .i64 dn) (.int .i64 dd) := PB0
    replace PB1 : Bx2 wb.drew (w.heap.size + 1) (.int .i64 lo) (.int .i64 hi) := PB1
    generalize wb.drew = wbd at *
    obtain ⟨p0a, p0b, p0c, p0d, p0e⟩ := id PB0; obtain ⟨p1a, p1b, p1c, p1d, p1e⟩ := id PB1
    refine wpAnyH_take (i := 0) (v := ?_) (by rw [List.getElem?_toArray]; rfl) (by kernel_rfl) (by kernel_rfl) (by kernel_rfl) (by intro _ _ _ h; exact h) (Or.inl ⟨by rfl, ?_⟩) (by assumption) ?_
    rotate_left
    · (intro w hSw; (try dsimp only at hSw); go_simp; all_goals with_reducible rfl)
    (try simp only [Act.put, List.setIfInBounds_toArray, List.set_cons_zero, List.set_cons_succ])
    refine wpAnyH_take (i := 2) (v := ?_) (by rw [List.getElem?_toArray]; rfl) (by kernel_rfl) (by kernel_rfl) (by kernel_rfl) (by intro _ _ _ h; exact h) (Or.inl ⟨by rfl, ?_⟩) (by assumption) ?_
    rotate_left
    · (intro w hSw; (try dsimp only at hSw); go_simp; all_goals with_reducible rfl)
    (try simp only [Act.put, List.setIfInBounds_toArray, List.set_cons_zero, List.set_cons_succ])
    refine wpAnyH_take (i := 4) (v := ?_) (by rw [List.getElem?_toArray]; rfl) (by kernel_rfl) (by kernel_rfl) (by kernel_rfl) (by intro _ _ _ h; exact h) (Or.inl ⟨by rfl, ?_⟩) (by assumption) ?_
    rotate_left
    · (intro w hSw; (try dsimp only at hSw); go_simp; all_goals with_reducible rfl)
    (try simp only [Act.put, List.setIfInBounds_toArray, List.set_cons_zero, List.set_cons_succ])
    refine wpAnyH_take (i := 5) (v := ?_) (by rw [List.getElem?_toArray]; rfl) (by kernel_rfl) (by kernel_rfl) (by kernel_rfl) (by intro _ _ _ h; exact h) (Or.inl ⟨by rfl, ?_⟩) (by assumption) ?_
    rotate_left
    · (intro w hSw; (try dsimp only at hSw); go_simp; all_goals with_reducible rfl)
    (try simp only [Act.put, List.setIfInBounds_toArray, List.set_cons_zero, List.set_cons_succ])
    refine wpAnyH_take (i := 6) (v := ?_) (by rw [List.getElem?_toArray]; rfl) (by kernel_rfl) (by kernel_rfl) (by kernel_rfl) (by intro _ _ _ h; exact h) (Or.inl ⟨by rfl, ?_⟩) (by assumption) ?_
    rotate_left
    · (intro w hSw; (try dsimp only at hSw); go_simp; all_goals with_reducible rfl)
    (try simp only [Act.put, List.setIfInBounds_toArray, List.set_cons_zero, List.set_cons_succ])
    refine wpAnyH_ready (rs := [1]) (by kernel_rfl) (by simp) ?_
    refine AllReadyH.cons (by rw [List.getElem?_toArray]; rfl) (fun K hK => ?_) AllReadyH.nil
    go_simp
    refine (toPeerS_any a n c M _ hn (HA.out.below B)).mono ?_; (rintro e w2 ⟨rfl, R2, hb⟩); (clear p0a p0b p0c p0d p0e p1a p1b p1c p1d p1e); (replace B := B.trans (hb.mono B.size)); (replace PB0 := PB0.below hb); (replace PB1 := PB1.below hb); (clear hb); (obtain ⟨p0a, p0b, p0c, p0d, p0e⟩ := id PB0; obtain ⟨p1a, p1b, p1c, p1d, p1e⟩ := id PB1)
    (try go_wp2_with fail)
    refine hK.out _ _ ?_ (fun hHeld => ?_)
    · first | exact ⟨p0b, p0c, p1b, p1c⟩ | (simp (maxDischargeDepth := 6) [go_sem, *]; done)
    clear hK K
    (try simp only [Act.put, List.setIfInBounds_toArray, List.set_cons_zero, List.set_cons_succ])
    refine wpAnyH_ready (rs := [3]) (by kernel_rfl) (by simp) ?_
    refine AllReadyH.cons (by rw [List.getElem?_toArray]; rfl) (fun K hK => ?_) AllReadyH.nil
    go_simp
    refine (toDrift_any _ _ _).mono ?_; (rintro e w20 ⟨rfl, hb⟩); (clear p0a p0b p0c p0d p0e p1a p1b p1c p1d p1e); (replace B := B.trans (hb.mono B.size)); (replace PB0 := PB0.below hb); (replace PB1 := PB1.below hb); (replace R2 := RowF.below' hb R2); (clear hb); (obtain ⟨p0a, p0b, p0c, p0d, p0e⟩ := id PB0; obtain ⟨p1a, p1b, p1c, p1d, p1e⟩ := id PB1)
    (try go_wp2_with fail)
    refine hK.out _ _ ?_ (fun hHeld => ?_)
    · first | exact ⟨p0b, p0c, p1b, p1c⟩ | (simp (maxDischargeDepth := 6) [go_sem, *]; done)
    clear hK K
    (try simp only [Act.put, List.setIfInBounds_toArray, List.set_cons_zero, List.set_cons_succ])
    refine wpAnyH_ready (rs := [7]) (by kernel_rfl) (by simp) ?_
    refine AllReadyH.cons (by rw [List.getElem?_toArray]; rfl) (fun K hK => ?_) AllReadyH.nil
    go_simp
    refine (toIval_any _ _ _).mono ?_; (rintro e w21 ⟨rfl, hb⟩); (clear p0a p0b p0c p0d p0e p1a p1b p1c p1d p1e); (replace B := B.trans (hb.mono B.size)); (replace PB0 := PB0.below hb); (replace PB1 := PB1.below hb); (replace R2 := RowF.below' hb R2); (clear hb); (obtain ⟨p0a, p0b, p0c, p0d, p0e⟩ := id PB0; obtain ⟨p1a, p1b, p1c, p1d, p1e⟩ := id PB1)
    (try go_wp2_with fail)
    refine hK.out _ _ ?_ (fun hHeld => ?_)
    · first | exact ⟨p0b, p0c, p1b, p1c⟩ | (simp (maxDischargeDepth := 6) [go_sem, *]; done)
    clear hK K
    (try simp only [Act.put, List.setIfInBounds_toArray, List.set_cons_zero, List.set_cons_succ])
    refine wpAnyH_ready (rs := [8]) (by kernel_rfl) (by simp) ?_
    refine AllReadyH.cons (by rw [List.getElem?_toArray]; rfl) (fun K hK => ?_) AllReadyH.nil
    go_simp
    refine (CS _ _ (.inr ⟨_, _, rfl, R2.cs (Nat.le_refl _)⟩)).mono ?_; (rintro e w3 ⟨vs0, rfl, S0, hb⟩); (clear p0a p0b p0c p0d p0e p1a p1b p1c p1d p1e); (replace B := B.trans (hb.mono B.size)); (replace PB0 := PB0.below hb); (replace PB1 := PB1.below hb); (clear hb R2); (obtain ⟨sa0, sc0, rfl, _, _, Q0⟩ := ownF_src S0); (have V0 := SrcK.of Q0); (clear S0 Q0); (obtain ⟨p0a, p0b, p0c, p0d, p0e⟩ := id PB0; obtain ⟨p1a, p1b, p1c, p1d, p1e⟩ := id PB1)
    (try go_wp2_with fail)
    refine hK.out _ _ ?_ (fun hHeld => ?_)
    · first | exact ⟨p0b, p0c, p1b, p1c⟩ | (simp (maxDischargeDepth := 6) [go_sem, *]; done)
    clear hK K
    (try simp only [Act.put, List.setIfInBounds_toArray, List.set_cons_zero, List.set_cons_succ])
    refine wpAnyH_take (i := 9) (v := ?_) (by rw [List.getElem?_toArray]; rfl) (by kernel_rfl) (by kernel_rfl) (by kernel_rfl) (by intro _ _ _ h; exact h) (Or.inl ⟨by rfl, ?_⟩) (by assumption) ?_
    rotate_left
    · (intro w hSw; (try dsimp only at hSw); go_simp; all_goals with_reducible rfl)
    (try simp only [Act.put, List.setIfInBounds_toArray, List.set_cons_zero, List.set_cons_succ])
    refine wpAnyH_done (by kernel_rfl) ?_ _
    clear p0a p0b p0c p0d p0e p1a p1b p1c p1d p1e
    have hJ3 : w.heap.size ≤ w3.heap.size := B.size
    have hP0 : w.heap.size < w3.heap.size := PB0.1
    have hP1 : (w.heap.size + 1) < w3.heap.size := PB1.1
    obtain ⟨p0a, p0b, p0c, p0d, p0e⟩ := id PB0; obtain ⟨p1a, p1b, p1c, p1d, p1e⟩ := id PB1
    go_wp2_with fail
    refine (toPeerS_any a n c M _ hn (HA.out.below B)).mono ?_
    rintro e w4 ⟨rfl, RX, hb⟩
    clear p0a p0b p0c p0d p0e p1a p1b p1c p1d p1e
    replace B := B.trans (hb.mono B.size)
    replace PB0 := PB0.below hb
    replace PB1 := PB1.below hb
    replace V0 := V0.below hb
    clear hb
    have hbx : w3.heap.size < w4.heap.size := RX.lt
    generalize hj3 : w3.heap.size = j3 at *
    clear hj3
    obtain ⟨p0a, p0b, p0c, p0d, p0e⟩ := id PB0; obtain ⟨p1a, p1b, p1c, p1d, p1e⟩ := id PB1
    go_wp2_with fail
    refine wp_region_held_drew (S := (fun w' => w'.cell? ⟨w.heap.size, 0, none⟩ = some (.int .i64 dn) ∧ w'.cell? ⟨w.heap.size, 1, none⟩ = some (.int .i64 dd) ∧ w'.cell? ⟨(w.heap.size + 1), 0, none⟩ = some (.int .i64 lo) ∧ w'.cell? ⟨(w.heap.size + 1), 1, none⟩ = some (.int .i64 hi))) (by kernel_rfl) ?_ (fun hHeld => ?_)
    · first | exact ⟨p0b, p0c, p1b, p1c⟩ | (simp (maxDischargeDepth := 6) [go_sem, *]; done)
    clear p0a p0b p0c p0d p0e p1a p1b p1c p1d p1e
    replace B := Below.drew B
    replace PB0 : Bx2 w4.drew w.heap.size (.int .i64 dn) (.int .i64 dd) := PB0
    replace PB1 : Bx2 w4.drew (w.heap.size + 1) (.int .i64 lo) (.int .i64 hi) := PB1
    replace V0 : SrcK w4.drew sa0 (L0.length * 5) (MFPeer (gP L0)) j3 := V0
    replace RX : RowF w4.drew j3 59 (n * 5) (n * 5) (MFPeer M) := RX
    generalize w4.drew = w4d at *
    obtain ⟨p0a, p0b, p0c, p0d, p0e⟩ := id PB0; obtain ⟨p1a, p1b, p1c, p1d, p1e⟩ := id PB1
    refine wpAnyH_take (i := 0) (v := ?_) (by rw [List.getElem?_toArray]; rfl) (by kernel_rfl) (by kernel_rfl) (by kernel_rfl) (by intro _ _ _ h; exact h) (Or.inl ⟨by rfl, ?_⟩) (by assumption) ?_
    rotate_left
    · (intro w hSw; (try dsimp only at hSw); go_simp; all_goals with_reducible rfl)
    (try simp only [Act.put, List.setIfInBounds_toArray, List.set_cons_zero, List.set_cons_succ])
    refine wpAnyH_take (i := 1) (v := ?_) (by rw [List.getElem?_toArray]; rfl) (by kernel_rfl) (by kernel_rfl) (by kernel_rfl) (by intro _ _ _ h; exact h) (Or.inl ⟨by rfl, ?_⟩) (by assumption) ?_
    rotate_left
    · (intro w hSw; (try dsimp only at hSw); go_simp; all_goals with_reducible rfl)
    (try simp only [Act.put, List.setIfInBounds_toArray, List.set_cons_zero, List.set_cons_succ])
    refine wpAnyH_take (i := 3) (v := ?_) (by rw [List.getElem?_toArray]; rfl) (by kernel_rfl) (by kernel_rfl) (by kernel_rfl) (by intro _ _ _ h; exact h) (Or.inl ⟨by rfl, ?_⟩) (by assumption) ?_
    rotate_left
    · (intro w hSw; (try dsimp only at hSw); go_simp; all_goals with_reducible rfl)
    (try simp only [Act.put, List.setIfInBounds_toArray, List.set_cons_zero, List.set_cons_succ])
    refine wpAnyH_take (i := 4) (v := ?_) (by rw [List.getElem?_toArray]; rfl) (by kernel_rfl) (by kernel_rfl) (by kernel_rfl) (by intro _ _ _ h; exact h) (Or.inl ⟨by rfl, ?_⟩) (by assumption) ?_
    rotate_left
    · (intro w hSw; (try dsimp only at hSw); go_simp; all_goals with_reducible rfl)
    (try simp only [Act.put, List.setIfInBounds_toArray, List.set_cons_zero, List.set_cons_succ])
    refine wpAnyH_take (i := 5) (v := ?_) (by rw [List.getElem?_toArray]; rfl) (by kernel_rfl) (by kernel_rfl) (by kernel_rfl) (by intro _ _ _ h; exact h) (Or.inl ⟨by rfl, ?_⟩) (by assumption) ?_
    rotate_left
    · (intro w hSw; (try dsimp only at hSw); go_simp; all_goals with_reducible rfl)
    (try simp only [Act.put, List.setIfInBounds_toArray, List.set_cons_zero, List.set_cons_succ])
    refine wpAnyH_ready (rs := [2]) (by kernel_rfl) (by simp) ?_
    refine AllReadyH.cons (by rw [List.getElem?_toArray]; rfl) (fun K hK => ?_) AllReadyH.nil
    go_simp
    refine (toDrift_any _ _ _).mono ?_; (rintro e w50 ⟨rfl, hb⟩); (clear p0a p0b p0c p0d p0e p1a p1b p1c p1d p1e); (replace B := B.trans (hb.mono B.size)); (replace PB0 := PB0.below hb); (replace PB1 := PB1.below hb); (replace V0 := V0.below hb); (replace RX := RowF.below' hb RX); (clear hb); (obtain ⟨p0a, p0b, p0c, p0d, p0e⟩ := id PB0; obtain ⟨p1a, p1b, p1c, p1d, p1e⟩ := id PB1)
    (try go_wp2_with fail)
    refine hK.out _ _ ?_ (fun hHeld => ?_)
    · first | exact ⟨p0b, p0c, p1b, p1c⟩ | (simp (maxDischargeDepth := 6) [go_sem, *]; done)
    clear hK K
    (try simp only [Act.put, List.setIfInBounds_toArray, List.set_cons_zero, List.set_cons_succ])
    refine wpAnyH_ready (rs := [6]) (by kernel_rfl) (by simp) ?_
    refine AllReadyH.cons (by rw [List.getElem?_toArray]; rfl) (fun K hK => ?_) AllReadyH.nil
    go_simp
    refine (toIval_any _ _ _).mono ?_; (rintro e w51 ⟨rfl, hb⟩); (clear p0a p0b p0c p0d p0e p1a p1b p1c p1d p1e); (replace B := B.trans (hb.mono B.size)); (replace PB0 := PB0.below hb); (replace PB1 := PB1.below hb); (replace V0 := V0.below hb); (replace RX := RowF.below' hb RX); (clear hb); (obtain ⟨p0a, p0b, p0c, p0d, p0e⟩ := id PB0; obtain ⟨p1a, p1b, p1c, p1d, p1e⟩ := id PB1)
    (try go_wp2_with fail)
    refine hK.out _ _ ?_ (fun hHeld => ?_)
    · first | exact ⟨p0b, p0c, p1b, p1c⟩ | (simp (maxDischargeDepth := 6) [go_sem, *]; done)
    clear hK K
    (try simp only [Act.put, List.setIfInBounds_toArray, List.set_cons_zero, List.set_cons_succ])
    refine wpAnyH_ready (rs := [7]) (by kernel_rfl) (by simp) ?_
    refine AllReadyH.cons (by rw [List.getElem?_toArray]; rfl) (fun K hK => ?_) AllReadyH.nil
    go_simp
    refine (CI _ _ (.inr ⟨_, _, rfl, RX.cs (Nat.le_refl _)⟩)).mono ?_; (rintro e w6 ⟨vg0, rfl, G0, hb⟩); (have hbi : j3 < w51.heap.size := RX.lt); (clear p0a p0b p0c p0d p0e p1a p1b p1c p1d p1e); (replace B := B.trans (hb.mono B.size)); (replace PB0 := PB0.below hb); (replace PB1 := PB1.below hb); (replace V0 := V0.below hb); (replace RX := RowF.below' hb RX); (have s56 := hb.size); (clear hb); (obtain ⟨p0a, p0b, p0c, p0d, p0e⟩ := id PB0; obtain ⟨p1a, p1b, p1c, p1d, p1e⟩ := id PB1)
    (try go_wp2_with fail)
    refine hK.out _ _ ?_ (fun hHeld => ?_)
    · first | exact ⟨p0b, p0c, p1b, p1c⟩ | (simp (maxDischargeDepth := 6) [go_sem, *]; done)
    clear hK K
    (try simp only [Act.put, List.setIfInBounds_toArray, List.set_cons_zero, List.set_cons_succ])
    refine wpAnyH_take (i := 8) (v := ?_) (by rw [List.getElem?_toArray]; rfl) (by kernel_rfl) (by kernel_rfl) (by kernel_rfl) (by intro _ _ _ h; exact h) (Or.inl ⟨by rfl, ?_⟩) (by assumption) ?_
    rotate_left
    · (intro w hSw; (try dsimp only at hSw); go_simp; all_goals with_reducible rfl)
    (try simp only [Act.put, List.setIfInBounds_toArray, List.set_cons_zero, List.set_cons_succ])
    refine wpAnyH_done (by kernel_rfl) ?_ _
    clear p0a p0b p0c p0d p0e p1a p1b p1c p1d p1e
    obtain ⟨ga0, gc0, rfl, _, _, _⟩ := ownF_src G0
    have RG0 : Hid (∀ g, (Value.slice ga0 L0.length gc0).ownBlock = some g → w51.heap.size ≤ g ∧ g < w6.heap.size) := fun g hg => World.ownsRow.lt G0 g hg
    generalize hj5 : w51.heap.size = j5 at *
    clear hj5
    obtain ⟨p0a, p0b, p0c, p0d, p0e⟩ := id PB0; obtain ⟨p1a, p1b, p1c, p1d, p1e⟩ := id PB1
    go_wp2_with fail
    refine (eqPeerS_src _ _ _ _ _ (gP L0) _ hm0 (ownS G0) V0.src).mono ?_
    rintro e w70 ⟨rfl, hb⟩
    clear p0a p0b p0c p0d p0e p1a p1b p1c p1d p1e
    replace B := B.trans (hb.mono B.size)
    replace PB0 := PB0.below hb
    replace PB1 := PB1.below hb
    replace V0 := V0.below hb
    replace RX := RowF.below' hb RX
    replace G0 := own_belK' G0 hb
    clear hb
    obtain ⟨p0a, p0b, p0c, p0d, p0e⟩ := id PB0; obtain ⟨p1a, p1b, p1c, p1d, p1e⟩ := id PB1
    go_wp2_with fail
    refine (toPeerS_any a n c M _ hn (HA.out.below B)).mono ?_
    rintro e w9 ⟨rfl, R9, hb⟩
    clear p0a p0b p0c p0d p0e p1a p1b p1c p1d p1e
    replace B := B.trans (hb.mono B.size)
    replace PB0 := PB0.below hb
    replace PB1 := PB1.below hb
    replace V0 := V0.below hb
    replace RX := RowF.below' hb RX
    replace G0 := own_belK' G0 hb
    clear hb
    obtain ⟨p0a, p0b, p0c, p0d, p0e⟩ := id PB0; obtain ⟨p1a, p1b, p1c, p1d, p1e⟩ := id PB1
    go_wp2_with fail
    refine (eqPeerS_src _ _ _ _ _ M _ hm (.inr ⟨_, _, rfl, RX.cs (Nat.le_refl _)⟩) (.inr ⟨_, _, rfl, R9.cs (Nat.le_refl _)⟩)).mono ?_
    rintro e w9b ⟨rfl, hb⟩
    clear p0a p0b p0c p0d p0e p1a p1b p1c p1d p1e
    replace B := B.trans (hb.mono B.size)
    replace PB0 := PB0.below hb
    replace PB1 := PB1.below hb
    replace V0 := V0.below hb
    replace RX := RowF.below' hb RX
    replace G0 := own_belK' G0 hb
    clear hb
    clear R9
    obtain ⟨p0a, p0b, p0c, p0d, p0e⟩ := id PB0; obtain ⟨p1a, p1b, p1c, p1d, p1e⟩ := id PB1
    go_wp2_with fail
    refine (markPeerS_row j3 (n * 5) n n 1 _ hn (by omega) (by omega) (Nat.le_refl _) (RX.zero _)).mono ?_
    rintro e w11 ⟨rfl, _, hb⟩
    clear p0a p0b p0c p0d p0e p1a p1b p1c p1d p1e
    replace B := B.trans (hb.below (B := w.heap.size) (by omega) B.size)
    replace PB0 := PB0.but hb (by omega)
    replace PB1 := PB1.but hb (by omega)
    replace V0 := V0.kept hb.grK (fun b h e => by (have e' := Option.some.inj e); omega)
    replace G0 := own_butK G0 hb hbi
    have hk1 : ¬ (1 + (n : Int) * 5 < 0) := by omega
    clear hb RX
    obtain ⟨p0a, p0b, p0c, p0d, p0e⟩ := id PB0; obtain ⟨p1a, p1b, p1c, p1d, p1e⟩ := id PB1
    go_wp2_with fail
    refine (eqPeerS_src _ _ _ _ _ (gP L0) _ hm0 (ownS G0) V0.src).mono ?_
    rintro e w120 ⟨rfl, hb⟩
    clear p0a p0b p0c p0d p0e p1a p1b p1c p1d p1e
    replace B := B.trans (hb.mono B.size)
    replace PB0 := PB0.below hb
    replace PB1 := PB1.below hb
    replace V0 := V0.below hb
    replace G0 := own_belK' G0 hb
    clear hb
    obtain ⟨p0a, p0b, p0c, p0d, p0e⟩ := id PB0; obtain ⟨p1a, p1b, p1c, p1d, p1e⟩ := id PB1
    go_wp2_with fail
    refine (markPeerS_own _ _ _ _ _ _ _ hn0 (by omega) (by omega) G0).mono ?_
    rintro e w130 ⟨rfl, HM0, hb⟩
    clear p0a p0b p0c p0d p0e p1a p1b p1c p1d p1e
    replace B := B.trans (grown_bel hb B.size (fun b h e => by have := RG0.out _ e.symm; omega))
    replace PB0 := PB0.kept hb (fun e => by have := RG0.out _ e.symm; omega)
    replace PB1 := PB1.kept hb (fun e => by have := RG0.out _ e.symm; omega)
    replace V0 := V0.kept hb (fun b h e => by have := RG0.out _ e.symm; omega)
    have HK0 : Hid (SrcC w130 ga0 (L0.length * 5) (mkPeer (1))) := HM0
    clear hb HM0 G0
    obtain ⟨p0a, p0b, p0c, p0d, p0e⟩ := id PB0; obtain ⟨p1a, p1b, p1c, p1d, p1e⟩ := id PB1
    go_wp2_with fail
    refine (heldPeerS_any _ _ _ _ _ hn0 (by omega) (by omega) HK0.out).mono ?_
    rintro e w' ⟨rfl, rfl⟩
    clear p0a p0b p0c p0d p0e p1a p1b p1c p1d p1e
    have hk20 : ¬ (1 + (L0.length : Int) * 5 < 0) := by omega
    obtain ⟨p0a, p0b, p0c, p0d, p0e⟩ := id PB0; obtain ⟨p1a, p1b, p1c, p1d, p1e⟩ := id PB1
    go_wp2_with fail
    refine wp_region_held_drew (S := (fun w' => w'.cell? ⟨w.heap.size, 0, none⟩ = some (.int .i64 dn) ∧ w'.cell? ⟨w.heap.size, 1, none⟩ = some (.int .i64 dd) ∧ w'.cell? ⟨(w.heap.size + 1), 0, none⟩ = some (.int .i64 lo) ∧ w'.cell? ⟨(w.heap.size + 1), 1, none⟩ = some (.int .i64 hi))) (by kernel_rfl) ?_ (fun hHeld => ?_)
    · first | exact ⟨p0b, p0c, p1b, p1c⟩ | (simp (maxDischargeDepth := 6) [go_sem, *]; done)
    clear p0a p0b p0c p0d p0e p1a p1b p1c p1d p1e
    replace B := Below.drew B
    replace PB0 : Bx2 w130.drew w.heap.size (.int .i64 dn) (.int .i64 dd) := PB0
    replace PB1 : Bx2 w130.drew (w.heap.size + 1) (.int .i64 lo) (.int .i64 hi) := PB1
    replace V0 : SrcK w130.drew sa0 (L0.length * 5) (MFPeer (gP L0)) j3 := V0
    replace HK0 : Hid (SrcC w130.drew ga0 (L0.length * 5) (mkPeer (1))) := HK0.out
    generalize w130.drew = w130d at *
    obtain ⟨p0a, p0b, p0c, p0d, p0e⟩ := id PB0; obtain ⟨p1a, p1b, p1c, p1d, p1e⟩ := id PB1
    refine wpAnyH_take (i := 0) (v := ?_) (by rw [List.getElem?_toArray]; rfl) (by kernel_rfl) (by kernel_rfl) (by kernel_rfl) (by intro _ _ _ h; exact h) (Or.inl ⟨by rfl, ?_⟩) (by assumption) ?_
    rotate_left
    · (intro w hSw; (try dsimp only at hSw); go_simp; all_goals with_reducible rfl)
    (try simp only [Act.put, List.setIfInBounds_toArray, List.set_cons_zero, List.set_cons_succ])
    refine wpAnyH_take (i := 2) (v := ?_) (by rw [List.getElem?_toArray]; rfl) (by kernel_rfl) (by kernel_rfl) (by kernel_rfl) (by intro _ _ _ h; exact h) (Or.inl ⟨by rfl, ?_⟩) (by assumption) ?_
    rotate_left
    · (intro w hSw; (try dsimp only at hSw); go_simp; all_goals with_reducible rfl)
    (try simp only [Act.put, List.setIfInBounds_toArray, List.set_cons_zero, List.set_cons_succ])
    refine wpAnyH_take (i := 4) (v := ?_) (by rw [List.getElem?_toArray]; rfl) (by kernel_rfl) (by kernel_rfl) (by kernel_rfl) (by intro _ _ _ h; exact h) (Or.inl ⟨by rfl, ?_⟩) (by assumption) ?_
    rotate_left
    · (intro w hSw; (try dsimp only at hSw); go_simp; all_goals with_reducible rfl)
    (try simp only [Act.put, List.setIfInBounds_toArray, List.set_cons_zero, List.set_cons_succ])
    refine wpAnyH_take (i := 5) (v := ?_) (by rw [List.getElem?_toArray]; rfl) (by kernel_rfl) (by kernel_rfl) (by kernel_rfl) (by intro _ _ _ h; exact h) (Or.inl ⟨by rfl, ?_⟩) (by assumption) ?_
    rotate_left
    · (intro w hSw; (try dsimp only at hSw); go_simp; all_goals with_reducible rfl)
    (try simp only [Act.put, List.setIfInBounds_toArray, List.set_cons_zero, List.set_cons_succ])
    refine wpAnyH_take (i := 6) (v := ?_) (by rw [List.getElem?_toArray]; rfl) (by kernel_rfl) (by kernel_rfl) (by kernel_rfl) (by intro _ _ _ h; exact h) (Or.inl ⟨by rfl, ?_⟩) (by assumption) ?_
    rotate_left
    · (intro w hSw; (try dsimp only at hSw); go_simp; all_goals with_reducible rfl)
    (try simp only [Act.put, List.setIfInBounds_toArray, List.set_cons_zero, List.set_cons_succ])
    refine wpAnyH_ready (rs := [1]) (by kernel_rfl) (by simp) ?_
    refine AllReadyH.cons (by rw [List.getElem?_toArray]; rfl) (fun K hK => ?_) AllReadyH.nil
    go_simp
    refine (toPeerS_any a n c M _ hn (HA.out.below B)).mono ?_; (rintro e w15 ⟨rfl, R15, hb⟩); (clear p0a p0b p0c p0d p0e p1a p1b p1c p1d p1e); (replace B := B.trans (hb.mono B.size)); (replace PB0 := PB0.below hb); (replace PB1 := PB1.below hb); (replace V0 := V0.below hb); (replace HK0 : Hid (SrcC _ ga0 (L0.length * 5) (mkPeer (1))) := HK0.out.below hb); (clear hb); (obtain ⟨p0a, p0b, p0c, p0d, p0e⟩ := id PB0; obtain ⟨p1a, p1b, p1c, p1d, p1e⟩ := id PB1)
    (try go_wp2_with fail)
    refine hK.out _ _ ?_ (fun hHeld => ?_)
    · first | exact ⟨p0b, p0c, p1b, p1c⟩ | (simp (maxDischargeDepth := 6) [go_sem, *]; done)
    clear hK K
    (try simp only [Act.put, List.setIfInBounds_toArray, List.set_cons_zero, List.set_cons_succ])
    refine wpAnyH_ready (rs := [3]) (by kernel_rfl) (by simp) ?_
    refine AllReadyH.cons (by rw [List.getElem?_toArray]; rfl) (fun K hK => ?_) AllReadyH.nil
    go_simp
    refine (toDrift_any _ _ _).mono ?_; (rintro e w150 ⟨rfl, hb⟩); (clear p0a p0b p0c p0d p0e p1a p1b p1c p1d p1e); (replace B := B.trans (hb.mono B.size)); (replace PB0 := PB0.below hb); (replace PB1 := PB1.below hb); (replace V0 := V0.below hb); (replace HK0 : Hid (SrcC _ ga0 (L0.length * 5) (mkPeer (1))) := HK0.out.below hb); (replace R15 := RowF.below' hb R15); (clear hb); (obtain ⟨p0a, p0b, p0c, p0d, p0e⟩ := id PB0; obtain ⟨p1a, p1b, p1c, p1d, p1e⟩ := id PB1)
    (try go_wp2_with fail)
    refine hK.out _ _ ?_ (fun hHeld => ?_)
    · first | exact ⟨p0b, p0c, p1b, p1c⟩ | (simp (maxDischargeDepth := 6) [go_sem, *]; done)
    clear hK K
    (try simp only [Act.put, List.setIfInBounds_toArray, List.set_cons_zero, List.set_cons_succ])
    refine wpAnyH_ready (rs := [7]) (by kernel_rfl) (by simp) ?_
    refine AllReadyH.cons (by rw [List.getElem?_toArray]; rfl) (fun K hK => ?_) AllReadyH.nil
    go_simp
    refine (toIval_any _ _ _).mono ?_; (rintro e w151 ⟨rfl, hb⟩); (clear p0a p0b p0c p0d p0e p1a p1b p1c p1d p1e); (replace B := B.trans (hb.mono B.size)); (replace PB0 := PB0.below hb); (replace PB1 := PB1.below hb); (replace V0 := V0.below hb); (replace HK0 : Hid (SrcC _ ga0 (L0.length * 5) (mkPeer (1))) := HK0.out.below hb); (replace R15 := RowF.below' hb R15); (clear hb); (obtain ⟨p0a, p0b, p0c, p0d, p0e⟩ := id PB0; obtain ⟨p1a, p1b, p1c, p1d, p1e⟩ := id PB1)
    (try go_wp2_with fail)
    refine hK.out _ _ ?_ (fun hHeld => ?_)
    · first | exact ⟨p0b, p0c, p1b, p1c⟩ | (simp (maxDischargeDepth := 6) [go_sem, *]; done)
    clear hK K
    (try simp only [Act.put, List.setIfInBounds_toArray, List.set_cons_zero, List.set_cons_succ])
    refine wpAnyH_ready (rs := [8]) (by kernel_rfl) (by simp) ?_
    refine AllReadyH.cons (by rw [List.getElem?_toArray]; rfl) (fun K hK => ?_) AllReadyH.nil
    go_simp
    refine (CI _ _ (.inr ⟨_, _, rfl, R15.cs (Nat.le_refl _)⟩)).mono ?_; (rintro e w16 ⟨vh0, rfl, H0, hb⟩); (clear p0a p0b p0c p0d p0e p1a p1b p1c p1d p1e); (replace B := B.trans (hb.mono B.size)); (replace PB0 := PB0.below hb); (replace PB1 := PB1.below hb); (replace V0 := V0.below hb); (replace HK0 : Hid (SrcC _ ga0 (L0.length * 5) (mkPeer (1))) := HK0.out.below hb); (clear hb R15); (obtain ⟨ha0, hc0, rfl, _, _, U0⟩ := ownF_src H0); (clear H0); (have UK0 := SrcK.of U0); (clear U0); (obtain ⟨p0a, p0b, p0c, p0d, p0e⟩ := id PB0; obtain ⟨p1a, p1b, p1c, p1d, p1e⟩ := id PB1)
    (try go_wp2_with fail)
    refine hK.out _ _ ?_ (fun hHeld => ?_)
    · first | exact ⟨p0b, p0c, p1b, p1c⟩ | (simp (maxDischargeDepth := 6) [go_sem, *]; done)
    clear hK K
    (try simp only [Act.put, List.setIfInBounds_toArray, List.set_cons_zero, List.set_cons_succ])
    refine wpAnyH_take (i := 9) (v := ?_) (by rw [List.getElem?_toArray]; rfl) (by kernel_rfl) (by kernel_rfl) (by kernel_rfl) (by intro _ _ _ h; exact h) (Or.inl ⟨by rfl, ?_⟩) (by assumption) ?_
    rotate_left
    · (intro w hSw; (try dsimp only at hSw); go_simp; all_goals with_reducible rfl)
    (try simp only [Act.put, List.setIfInBounds_toArray, List.set_cons_zero, List.set_cons_succ])
    refine wpAnyH_done (by kernel_rfl) ?_ _
    clear p0a p0b p0c p0d p0e p1a p1b p1c p1d p1e
    clear CS CI
    obtain ⟨p0a, p0b, p0c, p0d, p0e⟩ := id PB0; obtain ⟨p1a, p1b, p1c, p1d, p1e⟩ := id PB1
    go_wp2_with fail
    refine (eqPeerS_src _ _ _ _ _ (gP L0) _ hm0 UK0.src V0.src).mono ?_
    rintro e w180 ⟨rfl, hb⟩
    clear p0a p0b p0c p0d p0e p1a p1b p1c p1d p1e
    replace B := B.trans (hb.mono B.size)
    replace PB0 := PB0.below hb
    replace PB1 := PB1.below hb
    replace V0 := V0.below hb
    replace HK0 : Hid (SrcC _ ga0 (L0.length * 5) (mkPeer (1))) := HK0.out.below hb
    replace UK0 := UK0.below hb
    clear hb
    obtain ⟨p0a, p0b, p0c, p0d, p0e⟩ := id PB0; obtain ⟨p1a, p1b, p1c, p1d, p1e⟩ := id PB1
    go_wp2_with fail
    refine (heldPeerS_any _ _ _ _ _ hn0 (by omega) (by omega) HK0.out).mono ?_
    rintro e w' ⟨rfl, rfl⟩
    clear p0a p0b p0c p0d p0e p1a p1b p1c p1d p1e
    go_wp2_with fail
    go_ret
    exact ⟨rfl, B⟩
  · have HN : Hid ((if (n : Int) ≤ 1048576 then 1048576 - (n : Int) else -1) = -1) := by rw [Hid, if_neg hbig]
    clear CS CI
    go_enter Try.func7, Try.ntmps7
    go_upto_region 1 with fail
    go_wp2_with fail
    refine (szPeerS_any a n c _ _ hm (by omega) (by omega)).mono ?_
    rintro e w' ⟨rfl, rfl⟩
    rw [HN.out]
    go_wp2_with fail
    go_ret
    exact ⟨rfl, B⟩
end Go.Proofs.Ytoefgllhggnppaa
