/- The walk of the exact law of BusPut. -/
import Derived.Test.YtnjoldjefknpbaaQ170
import Derived.Test.YtnjoldjefknpbaaQ161
import Derived.Test.YtnjoldjefknpbaaQ162
import Derived.Test.YtnjoldjefknpbaaL150
import Derived.Deep.RegionHeld3
import Derived.Deep.DeepCutAuto
import Derived.WalkKit
import Derived.WalkSpells
import Derived.WalkLawsBesides
import Derived.Deep.RegionHeld
namespace Go.Proofs.Ytnjoldjefknpbaa
open Go.RowKit
set_option linter.unusedVariables false
theorem Box6.kept {w w' : World} {q : Option Nat} {k : Nat} {x0 x1 x2 x3 x4 : Int} {x5 : ByteArray} (h : Box6 w k x0 x1 x2 x3 x4 x5) (hg : w.grownBy w' q) (hq : some k ≠ q) : Box6 w' k x0 x1 x2 x3 x4 x5 := by
  obtain ⟨h0, h1, h2, h3, h4, h5, h6⟩ := h
  have cc : ∀ i, w'.cell? ⟨k, i, none⟩ = w.cell? ⟨k, i, none⟩ := fun i => cell_grown hg h0 hq
  exact ⟨Nat.lt_of_lt_of_le h0 hg.size, by rw [cc]; exact h1, by rw [cc]; exact h2, by rw [cc]; exact h3, by rw [cc]; exact h4, by rw [cc]; exact h5, by rw [cc]; exact h6⟩
theorem markFrameS_own (a : Option Addr) (n c base : Nat) (xs : List Value) (w : World) (hn : n ≤ 1048576) (h : w.ownsRow base 33 6 (.slice a n c) n xs) :
    Calls Try.prog 42 #[.slice a n c, .int .i64 1] w fun e w' => e = .returned (.int .i64 (1 + (n : Int) * 6)) ∧ SrcC w' a (n * 6) mkFrame ∧ w.grownBy w' (Value.slice a n c).ownBlock := by
  rcases h.2 with ⟨he, h0⟩ | ⟨g, cap, cur, he, _⟩
  · simp at he
    obtain ⟨rfl, rfl, rfl⟩ := he
    exact (markFrameS_zero none 0 w).mono fun e w' ⟨h1, h2⟩ => ⟨by rw [h1]; simp, .inl (by omega), h2 ▸ bel_grown (Below.refl _ _)⟩
  · simp at he
    obtain ⟨rfl, rfl⟩ := he
    obtain ⟨h1, h2, _, h3⟩ := ownF_row mkFrame h
    exact (markFrameS_row g (c * 6) n c w hn (Nat.mul_le_mul_right _ h2) h3).mono fun e w' ⟨r1, r2, r3⟩ => ⟨r1, .inr ⟨g, 0, rfl, r2.cs (Nat.mul_le_mul_right _ h2)⟩, r3.grK⟩
theorem puN_le (M : Nat → FrT) (n : Nat) (x : FrT) : puN M n x ≤ 61 := by
  unfold puN
  split
  · rename_i h
    unfold puG at h
    simp only [Bool.and_eq_true] at h
    have := (buB_t h.1).1
    split <;> omega
  · omega
set_option maxRecDepth 100000 in
set_option maxHeartbeats 16000000 in
theorem lawBusPut (a : Option Addr) (n c : Nat) (M : Nat → FrT) (x0 x1 x2 x3 x4 : Int) (x5 : ByteArray) (w : World) (hm : n ≤ maxLen) (hsrc : SrcC w a (n * 6) (MFFrame M)) (hz : ∀ i, i < n → (M i).2.2.2.2.2.size ≤ maxLen) (hx : x5.size ≤ maxLen) :
    Calls Try.prog 8 #[.slice a n c, .agg #[.int .i64 x0, .int .i64 x1, .int .i64 x2, .int .i64 x3, .int .i64 x4, .string x5]] w fun e w' => e = .returned (.bool true) ∧ Below w.heap.size w w' := by
  have HA : Hid (SrcC w a (n * 6) (MFFrame M)) := hsrc
  have CS := fun (w' : World) (a' : Option Addr) (h : SrcC w' a' (n * 6) (MFFrame M)) (he : ∃ b off, a' = some ⟨b, off, none⟩) => specBusPut_any a' n n M x0 x1 x2 x3 x4 x5 w' hm h (.inr he) hz hx
  have CI := fun (w' : World) (a' : Option Addr) (h : SrcC w' a' (n * 6) (MFFrame M)) (he : ∃ b off, a' = some ⟨b, off, none⟩) => implBusPut_any a' n n M x0 x1 x2 x3 x4 x5 w' hm h (.inr he) hz hx
  have HZ : Hid (∀ i, i < n → (M i).2.2.2.2.2.size ≤ maxLen) := hz
  clear hsrc hz
  have hm61 := puN_le M n (x0, x1, x2, x3, x4, x5)
  generalize puN M n (x0, x1, x2, x3, x4, x5) = m at *
  generalize puC M n (x0, x1, x2, x3, x4, x5) = C1 at *
  generalize buP M n (x0, x1, x2, x3, x4, x5) = MM at *
  have hm0 : m ≤ maxLen := by unfold maxLen; omega
  have hn0 : m ≤ 1048576 := by omega
  have hcc : (C1 != C1) = false := by simp
  have B := Below.nw w (.cells #[.int .i64 x0, .int .i64 x1, .int .i64 x2, .int .i64 x3, .int .i64 x4, .string x5] 51)
  have P := Box6.new w x0 x1 x2 x3 x4 x5 51
  go_enter Try.func8, Try.ntmps8
  go_upto_region 1 with fail
  generalize w.alloc (.cells #[.int .i64 x0, .int .i64 x1, .int .i64 x2, .int .i64 x3, .int .i64 x4, .string x5] 51) = v at *
  go_wp2_with fail
  refine (szFrameS_at a n c M 1048576 ⟨by decide, by decide⟩ _ hm (HA.out.below B) HZ.out).mono ?_
  rintro e w1 ⟨Z, rfl, hZ, hb⟩
  replace B := B.trans (hb.mono B.size)
  replace P := P.below hb
  clear hb
  by_cases hz0 : Z < 0
  · clear CS CI
    go_wp2_with fail
    go_ret
    exact ⟨rfl, B⟩
  obtain ⟨hz1, hn, _⟩ := hZ (by omega)
  clear hZ HZ
  obtain ⟨p0, p1, p2, p3, p4, p5, p6⟩ := id P
  go_wp2_with fail
  refine (szFrame_left x0 x1 x2 x3 x4 x5 Z _ hx (by omega) hz1).mono ?_
  rintro e w2 ⟨rfl, hb⟩
  clear p0 p1 p2 p3 p4 p5 p6
  replace B := B.trans (hb.mono B.size)
  replace P := P.below hb
  clear hb
  by_cases hz2 : (x5.size : Int) ≤ Z
  rotate_left
  · rw [if_neg hz2]
    clear CS CI
    go_wp2_with fail
    go_ret
    exact ⟨rfl, B⟩
  rw [if_pos hz2]
  have hz3 : ¬ Z - (x5.size : Int) < 0 := by omega
  have HJ : w.heap.size ≤ w2.heap.size := B.size
  have HP : w.heap.size < w2.heap.size := P.1
  go_upto_region 8 with fail
  have SK : Hid (∀ w', Below w2.heap.size w2 w' → (fun w' => w'.cell? ⟨w.heap.size, 0, none⟩ = some (.int .i64 x0) ∧ w'.cell? ⟨w.heap.size, 1, none⟩ = some (.int .i64 x1) ∧ w'.cell? ⟨w.heap.size, 2, none⟩ = some (.int .i64 x2) ∧ w'.cell? ⟨w.heap.size, 3, none⟩ = some (.int .i64 x3) ∧ w'.cell? ⟨w.heap.size, 4, none⟩ = some (.int .i64 x4) ∧ w'.cell? ⟨w.heap.size, 5, none⟩ = some (.string x5)) w') := fun w' hw => ⟨(P.below hw).2.1, (P.below hw).2.2.1, (P.below hw).2.2.2.1, (P.below hw).2.2.2.2.1, (P.below hw).2.2.2.2.2.1, (P.below hw).2.2.2.2.2.2⟩
  clear hz0 hz1 hz2 hz3
  go_cut [6, 7] (fun s6 s7 wx => ∃ (sa : Option Addr) (sc : Nat), s6 = .slice sa m sc ∧ s7 = .int .i64 C1 ∧ SrcC wx sa (m * 6) (MFFrame MM) ∧ Below w2.heap.size w2 wx)
  case first => as_aux_lemma =>
    refine wp_region_held_drew (S := (fun w' => w'.cell? ⟨w.heap.size, 0, none⟩ = some (.int .i64 x0) ∧ w'.cell? ⟨w.heap.size, 1, none⟩ = some (.int .i64 x1) ∧ w'.cell? ⟨w.heap.size, 2, none⟩ = some (.int .i64 x2) ∧ w'.cell? ⟨w.heap.size, 3, none⟩ = some (.int .i64 x3) ∧ w'.cell? ⟨w.heap.size, 4, none⟩ = some (.int .i64 x4) ∧ w'.cell? ⟨w.heap.size, 5, none⟩ = some (.string x5))) (by kernel_rfl) ?_ (fun hHeld => ?_)
    · first | exact SK.out _ XB | exact SK.out _ (Below.drew (Below.refl _ _))
    have XB : Below w2.heap.size w2 w2.drew := Below.drew (Below.refl _ _)
    generalize w2.drew = vx at *
    refine wpAnyH_take (i := 0) (v := ?_) (by rw [List.getElem?_toArray]; rfl) (by kernel_rfl) (by kernel_rfl) (by kernel_rfl) (by intro _ _ _ h; exact h) (Or.inl ⟨by rfl, ?_⟩) (by assumption) ?_
    rotate_left
    · (intro w hSw; (try dsimp only at hSw); go_simp; all_goals with_reducible rfl)
    (try simp only [Act.put, List.setIfInBounds_toArray, List.set_cons_zero, List.set_cons_succ])
    refine wpAnyH_take (i := 2) (v := ?_) (by rw [List.getElem?_toArray]; rfl) (by kernel_rfl) (by kernel_rfl) (by kernel_rfl) (by intro _ _ _ h; exact h) (Or.inl ⟨by rfl, ?_⟩) (by assumption) ?_
    rotate_left
    · (intro w hSw; (try dsimp only at hSw); go_simp; all_goals with_reducible rfl)
    (try simp only [Act.put, List.setIfInBounds_toArray, List.set_cons_zero, List.set_cons_succ])
    refine wpAnyH_ready (rs := [1]) (by kernel_rfl) (by simp) ?_
    refine AllReadyH.cons (by rw [List.getElem?_toArray]; rfl) (fun K hK => ?_) AllReadyH.nil
    go_simp
    refine (toFrameS_any a n c M vx hn (HA.out.below (B.trans (XB.mono B.size)))).mono ?_; rintro ee vx2 ⟨rfl, RY, hbl⟩; (replace XB := XB.trans (hbl.mono XB.size)); (clear hbl); (generalize vx.heap.size = jy at *); (generalize hvv : vx2 = vx at *); (clear hvv)
    (try go_wp2_with fail)
    refine hK.out _ _ ?_ (fun hHeld => ?_)
    · first | exact SK.out _ XB | exact SK.out _ (Below.drew (Below.refl _ _))
    clear hK K
    (try simp only [Act.put, List.setIfInBounds_toArray, List.set_cons_zero, List.set_cons_succ])
    refine wpAnyH_ready (rs := [3]) (by kernel_rfl) (by simp) ?_
    refine AllReadyH.cons (by rw [List.getElem?_toArray]; rfl) (fun K hK => ?_) AllReadyH.nil
    go_simp
    refine (toFrame_any x0 x1 x2 x3 x4 x5 vx).mono ?_; rintro ee vx3 ⟨rfl, hbl⟩; (replace XB := XB.trans (hbl.mono XB.size)); (replace RY := RowF.below' hbl RY); (clear hbl); (generalize hvv : vx3 = vx at *); (clear hvv)
    (try go_wp2_with fail)
    refine hK.out _ _ ?_ (fun hHeld => ?_)
    · first | exact SK.out _ XB | exact SK.out _ (Below.drew (Below.refl _ _))
    clear hK K
    (try simp only [Act.put, List.setIfInBounds_toArray, List.set_cons_zero, List.set_cons_succ])
    refine wpAnyH_ready (rs := [4]) (by kernel_rfl) (by simp) ?_
    refine AllReadyH.cons (by rw [List.getElem?_toArray]; rfl) (fun K hK => ?_) AllReadyH.nil
    go_simp
    refine (CS vx _ (.inr ⟨_, _, rfl, RY.cs (Nat.le_refl _)⟩) ⟨_, _, rfl⟩).mono ?_; rintro ee vx4 ⟨vs, rfl, OW, hbl⟩; (replace XB := XB.trans (hbl.mono XB.size)); (have hv4 : vx.heap.size ≤ vx4.heap.size := hbl.size); (clear hbl)
    (try go_wp2_with fail)
    refine hK.out _ _ ?_ (fun hHeld => ?_)
    · first | exact SK.out _ XB | exact SK.out _ (Below.drew (Below.refl _ _))
    clear hK K
    (try simp only [Act.put, List.setIfInBounds_toArray, List.set_cons_zero, List.set_cons_succ])
    refine wpAnyH_take (i := 5) (v := ?_) (by rw [List.getElem?_toArray]; rfl) (by kernel_rfl) (by kernel_rfl) (by kernel_rfl) (by intro _ _ _ h; exact h) (Or.inl ⟨by rfl, ?_⟩) (by assumption) ?_
    rotate_left
    · (intro w hSw; (try dsimp only at hSw); go_simp; all_goals with_reducible rfl)
    (try simp only [Act.put, List.setIfInBounds_toArray, List.set_cons_zero, List.set_cons_succ])
    refine wpAnyH_take (i := 6) (v := ?_) (by rw [List.getElem?_toArray]; rfl) (by kernel_rfl) (by kernel_rfl) (by kernel_rfl) (by intro _ _ _ h; exact h) (Or.inl ⟨by rfl, ?_⟩) (by assumption) ?_
    rotate_left
    · (intro w hSw; (try dsimp only at hSw); go_simp; all_goals with_reducible rfl)
    (try simp only [Act.put, List.setIfInBounds_toArray, List.set_cons_zero, List.set_cons_succ])
    refine wpAnyH_take (i := 7) (v := ?_) (by rw [List.getElem?_toArray]; rfl) (by kernel_rfl) (by kernel_rfl) (by kernel_rfl) (by intro _ _ _ h; exact h) (Or.inl ⟨by rfl, ?_⟩) (by assumption) ?_
    rotate_left
    · (intro w hSw; (try dsimp only at hSw); go_simp; all_goals with_reducible rfl)
    (try simp only [Act.put, List.setIfInBounds_toArray, List.set_cons_zero, List.set_cons_succ])
    refine wpAnyH_take (i := 8) (v := ?_) (by rw [List.getElem?_toArray]; rfl) (by kernel_rfl) (by kernel_rfl) (by kernel_rfl) (by intro _ _ _ h; exact h) (Or.inl ⟨by rfl, ?_⟩) (by assumption) ?_
    rotate_left
    · (intro w hSw; (try dsimp only at hSw); go_simp; all_goals with_reducible rfl)
    (try simp only [Act.put, List.setIfInBounds_toArray, List.set_cons_zero, List.set_cons_succ])
    refine wpAnyH_take (i := 9) (v := ?_) (by rw [List.getElem?_toArray]; rfl) (by kernel_rfl) (by kernel_rfl) (by kernel_rfl) (by intro _ _ _ h; exact h) (Or.inl ⟨by rfl, ?_⟩) (by assumption) ?_
    rotate_left
    · (intro w hSw; (try dsimp only at hSw); go_simp; all_goals with_reducible rfl)
    (try simp only [Act.put, List.setIfInBounds_toArray, List.set_cons_zero, List.set_cons_succ])
    refine wpAnyH_done (by kernel_rfl) ?_ _
    obtain ⟨sa, sc, rfl, _, _, Q0⟩ := ownF_src OW
    go_wp2_with fail
    go_meet
    case rel => exact ⟨sa, sc, rfl, rfl, Q0, XB⟩
  case rest =>
    obtain ⟨sa, sc, rfl, rfl, Q0, hb⟩ := hcut
    clear SK
    generalize wc = w3 at *
    replace B := B.trans (hb.mono B.size)
    replace P := P.below hb
    clear hb
    have V0 := SrcK.of Q0
    have HP3 : w.heap.size < w3.heap.size := P.1
    clear Q0
    go_wp2_with fail
    refine (toFrameS_any a n c M _ hn (HA.out.below B)).mono ?_
    rintro e w4 ⟨rfl, RX, hb⟩
    replace B := B.trans (hb.mono B.size)
    replace P := P.below hb
    replace V0 := V0.below hb
    clear hb
    have hbx : w3.heap.size < w4.heap.size := RX.lt
    have hJ3 : w.heap.size < w3.heap.size := HP3
    clear HP3
    generalize hj3 : w3.heap.size = j3 at *
    clear hj3
    obtain ⟨p0, p1, p2, p3, p4, p5, p6⟩ := id P
    go_wp2_with fail
    refine (toFrame_any x0 x1 x2 x3 x4 x5 _).mono ?_
    rintro e w5 ⟨rfl, hb⟩
    clear p0 p1 p2 p3 p4 p5 p6
    replace B := B.trans (hb.mono B.size)
    replace P := P.below hb
    replace V0 := V0.below hb
    replace RX := RowF.below' hb RX
    clear hb
    obtain ⟨p0, p1, p2, p3, p4, p5, p6⟩ := id P
    go_wp2_with fail
    refine (CI _ _ (.inr ⟨_, _, rfl, RX.cs (Nat.le_refl _)⟩) ⟨_, _, rfl⟩).mono ?_
    rintro e w6 ⟨vg, rfl, G0, hb⟩
    clear p0 p1 p2 p3 p4 p5 p6
    have hbi : j3 < w5.heap.size := RX.lt
    replace B := B.trans (hb.mono B.size)
    replace P := P.below hb
    replace V0 := V0.below hb
    replace RX := RowF.below' hb RX
    clear hb
    obtain ⟨ga0, gc0, rfl, _, _, _⟩ := ownF_src G0
    have RG0 : Hid (∀ g, (Value.slice ga0 m gc0).ownBlock = some g → w5.heap.size ≤ g ∧ g < w6.heap.size) := fun g hg => World.ownsRow.lt G0 g hg
    generalize hj5 : w5.heap.size = j5 at *
    clear hj5
    go_wp2_with fail
    refine (eqFrameS_src _ _ _ _ _ MM _ hm0 (ownS G0) V0.src).mono ?_
    rintro e w7 ⟨rfl, hb⟩
    replace B := B.trans (hb.mono B.size)
    replace P := P.below hb
    replace V0 := V0.below hb
    replace RX := RowF.below' hb RX
    replace G0 := own_belK' G0 hb
    clear hb
    go_wp2_with fail
    refine (toFrameS_any a n c M _ hn (HA.out.below B)).mono ?_
    rintro e w9 ⟨rfl, R9, hb⟩
    replace B := B.trans (hb.mono B.size)
    replace P := P.below hb
    replace V0 := V0.below hb
    replace RX := RowF.below' hb RX
    replace G0 := own_belK' G0 hb
    clear hb
    go_wp2_with fail
    refine (eqFrameS_src _ _ _ _ _ M _ hm (.inr ⟨_, _, rfl, RX.cs (Nat.le_refl _)⟩) (.inr ⟨_, _, rfl, R9.cs (Nat.le_refl _)⟩)).mono ?_
    rintro e w10 ⟨rfl, hb⟩
    replace B := B.trans (hb.mono B.size)
    replace P := P.below hb
    replace V0 := V0.below hb
    replace RX := RowF.below' hb RX
    replace G0 := own_belK' G0 hb
    clear hb
    clear R9
    go_wp2_with fail
    refine (markFrameS_row j3 (n * 6) n n _ hn (Nat.le_refl _) (RX.zero _)).mono ?_
    rintro e w11 ⟨rfl, _, hb⟩
    replace B := B.trans (hb.below (B := w.heap.size) (by omega) B.size)
    replace P := P.kept hb.grK (fun e => by (have e' := Option.some.inj e); omega)
    replace V0 := V0.kept hb.grK (fun b h e => by (have e' := Option.some.inj e); omega)
    replace G0 := own_butK G0 hb hbi
    have hk1 : ¬ (1 + (n : Int) * 6 < 0) := by omega
    clear hb RX
    go_wp2_with fail
    refine (eqFrameS_src _ _ _ _ _ MM _ hm0 (ownS G0) V0.src).mono ?_
    rintro e w12 ⟨rfl, hb⟩
    replace B := B.trans (hb.mono B.size)
    replace P := P.below hb
    replace V0 := V0.below hb
    replace G0 := own_belK' G0 hb
    clear hb
    go_wp2_with fail
    refine (markFrameS_own _ _ _ _ _ _ hn0 G0).mono ?_
    rintro e w13 ⟨rfl, HM0, hb⟩
    replace B := B.trans (grown_bel hb B.size (fun b h e => by have := RG0.out _ e.symm; omega))
    replace P := P.kept hb (fun e => by have := RG0.out _ e.symm; omega)
    replace V0 := V0.kept hb (fun b h e => by have := RG0.out _ e.symm; omega)
    have HK0 : Hid (SrcC w13 ga0 (m * 6) mkFrame) := HM0
    clear hb HM0 G0
    go_wp2_with fail
    refine (heldFrameS_any _ _ _ _ hn0 HK0.out).mono ?_
    rintro e w14 ⟨rfl, hb⟩
    replace B := B.trans (hb.mono B.size)
    replace P := P.below hb
    replace V0 := V0.below hb
    replace HK0 : Hid (SrcC _ ga0 (m * 6) mkFrame) := HK0.out.below hb
    clear hb
    have hk2 : ¬ (1 + (m : Int) * 6 < 0) := by omega
    go_upto_region 27 with fail
    have SK : Hid (∀ w', Below w14.heap.size w14 w' → (fun w' => w'.cell? ⟨w.heap.size, 0, none⟩ = some (.int .i64 x0) ∧ w'.cell? ⟨w.heap.size, 1, none⟩ = some (.int .i64 x1) ∧ w'.cell? ⟨w.heap.size, 2, none⟩ = some (.int .i64 x2) ∧ w'.cell? ⟨w.heap.size, 3, none⟩ = some (.int .i64 x3) ∧ w'.cell? ⟨w.heap.size, 4, none⟩ = some (.int .i64 x4) ∧ w'.cell? ⟨w.heap.size, 5, none⟩ = some (.string x5)) w') := fun w' hw => ⟨(P.below hw).2.1, (P.below hw).2.2.1, (P.below hw).2.2.2.1, (P.below hw).2.2.2.2.1, (P.below hw).2.2.2.2.2.1, (P.below hw).2.2.2.2.2.2⟩
    go_cut [14, 15] (fun s14 s15 wx => ∃ (ha : Option Addr) (hc : Nat), s14 = .slice ha m hc ∧ s15 = .int .i64 C1 ∧ SrcC wx ha (m * 6) (MFFrame MM) ∧ Below w14.heap.size w14 wx)
    case first => as_aux_lemma =>
      refine wp_region_held_drew (S := (fun w' => w'.cell? ⟨w.heap.size, 0, none⟩ = some (.int .i64 x0) ∧ w'.cell? ⟨w.heap.size, 1, none⟩ = some (.int .i64 x1) ∧ w'.cell? ⟨w.heap.size, 2, none⟩ = some (.int .i64 x2) ∧ w'.cell? ⟨w.heap.size, 3, none⟩ = some (.int .i64 x3) ∧ w'.cell? ⟨w.heap.size, 4, none⟩ = some (.int .i64 x4) ∧ w'.cell? ⟨w.heap.size, 5, none⟩ = some (.string x5))) (by kernel_rfl) ?_ (fun hHeld => ?_)
      · first | exact SK.out _ XB | exact SK.out _ (Below.drew (Below.refl _ _))
      have XB : Below w14.heap.size w14 w14.drew := Below.drew (Below.refl _ _)
      generalize w14.drew = vx at *
      refine wpAnyH_take (i := 0) (v := ?_) (by rw [List.getElem?_toArray]; rfl) (by kernel_rfl) (by kernel_rfl) (by kernel_rfl) (by intro _ _ _ h; exact h) (Or.inl ⟨by rfl, ?_⟩) (by assumption) ?_
      rotate_left
      · (intro w hSw; (try dsimp only at hSw); go_simp; all_goals with_reducible rfl)
      (try simp only [Act.put, List.setIfInBounds_toArray, List.set_cons_zero, List.set_cons_succ])
      refine wpAnyH_take (i := 2) (v := ?_) (by rw [List.getElem?_toArray]; rfl) (by kernel_rfl) (by kernel_rfl) (by kernel_rfl) (by intro _ _ _ h; exact h) (Or.inl ⟨by rfl, ?_⟩) (by assumption) ?_
      rotate_left
      · (intro w hSw; (try dsimp only at hSw); go_simp; all_goals with_reducible rfl)
      (try simp only [Act.put, List.setIfInBounds_toArray, List.set_cons_zero, List.set_cons_succ])
      refine wpAnyH_ready (rs := [1]) (by kernel_rfl) (by simp) ?_
      refine AllReadyH.cons (by rw [List.getElem?_toArray]; rfl) (fun K hK => ?_) AllReadyH.nil
      go_simp
      refine (toFrameS_any a n c M vx hn (HA.out.below (B.trans (XB.mono B.size)))).mono ?_; rintro ee vx2 ⟨rfl, RY, hbl⟩; (replace XB := XB.trans (hbl.mono XB.size)); (clear hbl); (generalize vx.heap.size = jy at *); (generalize hvv : vx2 = vx at *); (clear hvv)
      (try go_wp2_with fail)
      refine hK.out _ _ ?_ (fun hHeld => ?_)
      · first | exact SK.out _ XB | exact SK.out _ (Below.drew (Below.refl _ _))
      clear hK K
      (try simp only [Act.put, List.setIfInBounds_toArray, List.set_cons_zero, List.set_cons_succ])
      refine wpAnyH_ready (rs := [3]) (by kernel_rfl) (by simp) ?_
      refine AllReadyH.cons (by rw [List.getElem?_toArray]; rfl) (fun K hK => ?_) AllReadyH.nil
      go_simp
      refine (toFrame_any x0 x1 x2 x3 x4 x5 vx).mono ?_; rintro ee vx3 ⟨rfl, hbl⟩; (replace XB := XB.trans (hbl.mono XB.size)); (replace RY := RowF.below' hbl RY); (clear hbl); (generalize hvv : vx3 = vx at *); (clear hvv)
      (try go_wp2_with fail)
      refine hK.out _ _ ?_ (fun hHeld => ?_)
      · first | exact SK.out _ XB | exact SK.out _ (Below.drew (Below.refl _ _))
      clear hK K
      (try simp only [Act.put, List.setIfInBounds_toArray, List.set_cons_zero, List.set_cons_succ])
      refine wpAnyH_ready (rs := [4]) (by kernel_rfl) (by simp) ?_
      refine AllReadyH.cons (by rw [List.getElem?_toArray]; rfl) (fun K hK => ?_) AllReadyH.nil
      go_simp
      refine (CI vx _ (.inr ⟨_, _, rfl, RY.cs (Nat.le_refl _)⟩) ⟨_, _, rfl⟩).mono ?_; rintro ee vx4 ⟨vh, rfl, OW, hbl⟩; (replace XB := XB.trans (hbl.mono XB.size)); (have hv4 : vx.heap.size ≤ vx4.heap.size := hbl.size); (clear hbl)
      (try go_wp2_with fail)
      refine hK.out _ _ ?_ (fun hHeld => ?_)
      · first | exact SK.out _ XB | exact SK.out _ (Below.drew (Below.refl _ _))
      clear hK K
      (try simp only [Act.put, List.setIfInBounds_toArray, List.set_cons_zero, List.set_cons_succ])
      refine wpAnyH_take (i := 5) (v := ?_) (by rw [List.getElem?_toArray]; rfl) (by kernel_rfl) (by kernel_rfl) (by kernel_rfl) (by intro _ _ _ h; exact h) (Or.inl ⟨by rfl, ?_⟩) (by assumption) ?_
      rotate_left
      · (intro w hSw; (try dsimp only at hSw); go_simp; all_goals with_reducible rfl)
      (try simp only [Act.put, List.setIfInBounds_toArray, List.set_cons_zero, List.set_cons_succ])
      refine wpAnyH_take (i := 6) (v := ?_) (by rw [List.getElem?_toArray]; rfl) (by kernel_rfl) (by kernel_rfl) (by kernel_rfl) (by intro _ _ _ h; exact h) (Or.inl ⟨by rfl, ?_⟩) (by assumption) ?_
      rotate_left
      · (intro w hSw; (try dsimp only at hSw); go_simp; all_goals with_reducible rfl)
      (try simp only [Act.put, List.setIfInBounds_toArray, List.set_cons_zero, List.set_cons_succ])
      refine wpAnyH_take (i := 7) (v := ?_) (by rw [List.getElem?_toArray]; rfl) (by kernel_rfl) (by kernel_rfl) (by kernel_rfl) (by intro _ _ _ h; exact h) (Or.inl ⟨by rfl, ?_⟩) (by assumption) ?_
      rotate_left
      · (intro w hSw; (try dsimp only at hSw); go_simp; all_goals with_reducible rfl)
      (try simp only [Act.put, List.setIfInBounds_toArray, List.set_cons_zero, List.set_cons_succ])
      refine wpAnyH_take (i := 8) (v := ?_) (by rw [List.getElem?_toArray]; rfl) (by kernel_rfl) (by kernel_rfl) (by kernel_rfl) (by intro _ _ _ h; exact h) (Or.inl ⟨by rfl, ?_⟩) (by assumption) ?_
      rotate_left
      · (intro w hSw; (try dsimp only at hSw); go_simp; all_goals with_reducible rfl)
      (try simp only [Act.put, List.setIfInBounds_toArray, List.set_cons_zero, List.set_cons_succ])
      refine wpAnyH_take (i := 9) (v := ?_) (by rw [List.getElem?_toArray]; rfl) (by kernel_rfl) (by kernel_rfl) (by kernel_rfl) (by intro _ _ _ h; exact h) (Or.inl ⟨by rfl, ?_⟩) (by assumption) ?_
      rotate_left
      · (intro w hSw; (try dsimp only at hSw); go_simp; all_goals with_reducible rfl)
      (try simp only [Act.put, List.setIfInBounds_toArray, List.set_cons_zero, List.set_cons_succ])
      refine wpAnyH_done (by kernel_rfl) ?_ _
      obtain ⟨ha, hc, rfl, _, _, Q0⟩ := ownF_src OW
      go_wp2_with fail
      go_meet
      case rel => exact ⟨ha, hc, rfl, rfl, Q0, XB⟩
    case rest =>
      obtain ⟨ha, hc, rfl, rfl, Q0, hb⟩ := hcut
      clear SK CS CI
      generalize wc = w15 at *
      replace B := B.trans (hb.mono B.size)
      replace P := P.below hb
      replace V0 := V0.below hb
      replace HK0 : Hid (SrcC _ ga0 (m * 6) mkFrame) := HK0.out.below hb
      clear hb
      go_wp2_with fail
      refine (eqFrameS_src _ _ _ _ _ MM _ hm0 Q0 V0.src).mono ?_
      rintro e w16 ⟨rfl, hb⟩
      replace B := B.trans (hb.mono B.size)
      replace P := P.below hb
      replace V0 := V0.below hb
      replace HK0 : Hid (SrcC _ ga0 (m * 6) mkFrame) := HK0.out.below hb
      clear hb
      clear Q0
      go_wp2_with fail
      refine (heldFrameS_any _ _ _ _ hn0 HK0.out).mono ?_
      rintro e w17 ⟨rfl, hb⟩
      replace B := B.trans (hb.mono B.size)
      go_wp2_with fail
      go_ret
      exact ⟨rfl, B⟩
end Go.Proofs.Ytnjoldjefknpbaa
