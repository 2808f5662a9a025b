/- The walk of the exact law of HeardOwners. -/
import Derived.Test.YtdahabbdhjgpdaaDoorS167
import Derived.Test.YtdahabbdhjgpdaaDoorS169
import Derived.Test.YtdahabbdhjgpdaaDoorS180
import Derived.Test.YtdahabbdhjgpdaaDoorI106
import Derived.Deep.RegionHeld3
import Derived.Deep.DeepCutAuto
import Derived.WalkKit
import Derived.WalkSpells
import Derived.WalkLawsBesides
import Derived.Deep.RegionHeld
namespace Go.Proofs.YtdahabbdhjgpdaaDoor
open Go.RowKit
set_option linter.unusedVariables false
set_option maxRecDepth 100000 in
set_option maxHeartbeats 16000000 in
theorem lawHeardOwners (a0 : Option Addr) (n0 c0 : Nat) (M0 : Nat → VT) (s g : Int) (p : Option Addr) (m d : Nat) (PM : Nat → SlT) (w : World) (E : Tb w) (hm0 : n0 ≤ maxLen) (hs0 : SrcC w a0 (n0 * 2) (MFIval M0)) (hw0 : ∀ i, i < n0 → (Lit.int .i64 (M0 i).1).wf = true) (hpm : m ≤ maxLen) (hps : SrcC w p (m * 2) (MFSlot PM)) (hwp : ∀ i, i < m → (Lit.int .i64 (PM i).1).wf = true) :
    Calls Tryd.prog 7 #[.slice a0 n0 c0, .agg #[.int .i64 s, .int .i64 g, .slice p m d]] w fun e w' => e = .returned (.bool true) ∧ Below w.heap.size w w' := by
  have HA0 : Hid (SrcC w a0 (n0 * 2) (MFIval M0)) := hs0
  have HP : Hid (SrcC w p (m * 2) (MFSlot PM)) := hps
  have HT : Hid (Tb w) := E
  clear E
  clear hs0 hw0 hps hwp
  have hL0 : (onL M0 n0 s g PM m).length ≤ 61 := onL_len M0 n0 s g PM m
  have CS := fun (w' : World) (a0' : Option Addr) (h0 : SrcC w' a0' (n0 * 2) (MFIval M0)) (p' : Option Addr) (hq : SrcC w' p' (m * 2) (MFSlot PM)) => specHeardOwners_any a0' n0 n0 M0 s g p' m m PM w' hm0 h0 hpm hq
  have CI := fun (w' : World) (hBT : Below w.heap.size w w') (a0' : Option Addr) (h0 : SrcC w' a0' (n0 * 2) (MFIval M0)) (p' : Option Addr) (hq : SrcC w' p' (m * 2) (MFSlot PM)) => implHeardOwners_any a0' n0 n0 M0 s g p' m m PM w' (HT.out.below hBT) hm0 h0 hpm hq
  generalize onL M0 n0 s g PM m = L0 at *
  have hmL : L0.length ≤ maxLen := by unfold maxLen; omega
  have hnL : L0.length ≤ 1048576 := by omega
  have hk2 : ¬ (1 + (L0.length : Int) * 1 < 0) := by omega
  have A0 := Below.nw (w) (.cells #[.int .i64 s, .int .i64 g, .slice p m d] 49)
  have N := Tx3.new (w) (.int .i64 s) (.int .i64 g) (.slice p m d) 49
  have B := A0
  clear A0
  go_enter Tryd.func7, Tryd.ntmps7
  go_upto_region 1 with fail
  generalize w.alloc (.cells #[.int .i64 s, .int .i64 g, .slice p m d] 49) = v at *
  go_wp2_with fail
  refine (szHeardS_le a0 n0 c0 1048576 _ hm0 (by decide) (by decide)).mono ?_
  rintro e w1 ⟨Z1, rfl, hZ1, hb⟩
  replace B := B.trans (hb.mono B.size)
  replace N := N.below hb
  clear hb
  by_cases hz1 : Z1 < 0
  · clear CS CI
    go_wp2_with fail
    go_ret
    exact ⟨rfl, B⟩
  obtain ⟨hn0, hy1⟩ := hZ1 (by omega)
  clear hZ1
  have hg1 : 0 ≤ Z1 := by omega
  obtain ⟨n0_, n1_, n2_, n3_, n4_, n5_, n6_⟩ := id N
  go_wp2_with fail
  refine (szPlan_at s g p m d Z1 _ hpm hg1 hy1).mono ?_
  rintro e w2 ⟨Z2, rfl, hZ2, hb⟩
  clear n0_ n1_ n2_ n3_ n4_ n5_ n6_
  replace B := B.trans (hb.mono B.size)
  replace N := N.below hb
  clear hb
  by_cases hz2 : Z2 < 0
  · clear CS CI
    go_wp2_with fail
    go_ret
    exact ⟨rfl, B⟩
  obtain ⟨hpn, hy2⟩ := hZ2 (by omega)
  clear hZ2
  have hg2 : 0 ≤ Z2 := by omega
  go_upto_region 8 with fail
  have SK : Hid (∀ w', Below w2.heap.size w2 w' → (fun w' => w'.cell? ⟨w.heap.size, 0, none⟩ = some (.int .i64 s) ∧ w'.cell? ⟨w.heap.size, 1, none⟩ = some (.int .i64 g) ∧ w'.cell? ⟨w.heap.size, 2, none⟩ = some (.slice p m d)) w') := fun w' hw => ⟨(N.below hw).2.1, (N.below hw).2.2.1, (N.below hw).2.2.2.1⟩
  go_cut [6] (fun s1 wx => ∃ (sa : Option Addr) (sc : Nat), s1 = .slice sa L0.length sc ∧ wx.ownsRow w2.heap.size 3 1 (.slice sa L0.length sc) L0.length (irow L0) ∧ Below w2.heap.size w2 wx)
  case first => as_aux_lemma =>
    refine wp_region_held_drew (S := (fun w' => w'.cell? ⟨w.heap.size, 0, none⟩ = some (.int .i64 s) ∧ w'.cell? ⟨w.heap.size, 1, none⟩ = some (.int .i64 g) ∧ w'.cell? ⟨w.heap.size, 2, none⟩ = some (.slice p m d))) (by kernel_rfl) ?_ (fun hHeld => ?_)
    · first | exact SK.out _ XB | exact SK.out _ (Below.drew (Below.refl _ _))
    have XB : Below w2.heap.size w2 w2.drew := Below.drew (Below.refl _ _)
    generalize w2.drew = vx at *
    refine wpAnyH_take (i := 0) (v := ?_) (by rw [List.getElem?_toArray]; rfl) (by kernel_rfl) (by kernel_rfl) (by kernel_rfl) (by intro _ _ _ h; exact h) (Or.inl ⟨by rfl, ?_⟩) (by assumption) ?_
    rotate_left
    · (intro w hSw; (try dsimp only at hSw); go_simp; all_goals with_reducible rfl)
    (try simp only [Act.put, List.setIfInBounds_toArray, List.set_cons_zero, List.set_cons_succ])
    refine wpAnyH_take (i := 2) (v := ?_) (by rw [List.getElem?_toArray]; rfl) (by kernel_rfl) (by kernel_rfl) (by kernel_rfl) (by intro _ _ _ h; exact h) (Or.inl ⟨by rfl, ?_⟩) (by assumption) ?_
    rotate_left
    · (intro w hSw; (try dsimp only at hSw); go_simp; all_goals with_reducible rfl)
    (try simp only [Act.put, List.setIfInBounds_toArray, List.set_cons_zero, List.set_cons_succ])
    refine wpAnyH_ready (rs := [1]) (by kernel_rfl) (by simp) ?_
    refine AllReadyH.cons (by rw [List.getElem?_toArray]; rfl) (fun K hK => ?_) AllReadyH.nil
    go_simp
    refine (toHeardS_any a0 n0 c0 M0 vx hn0 (HA0.out.below (B.trans (XB.mono B.size)))).mono ?_; rintro ee vy ⟨rfl, RY0, hbl⟩; (replace XB := XB.trans (hbl.mono XB.size)); (clear hbl); (generalize vx.heap.size = jy0 at *); (generalize hvv : vy = vx at *); (clear hvv)
    (try go_wp2_with fail)
    refine hK.out _ _ ?_ (fun hHeld => ?_)
    · first | exact SK.out _ XB | exact SK.out _ (Below.drew (Below.refl _ _))
    clear hK K
    (try simp only [Act.put, List.setIfInBounds_toArray, List.set_cons_zero, List.set_cons_succ])
    refine wpAnyH_ready (rs := [3]) (by kernel_rfl) (by simp) ?_
    refine AllReadyH.cons (by rw [List.getElem?_toArray]; rfl) (fun K hK => ?_) AllReadyH.nil
    go_simp
    refine (toPlan_any s g p m d PM vx hpn (HP.out.below (B.trans (XB.mono B.size)))).mono ?_; rintro ee vy ⟨rfl, RQ, hbl⟩; (replace XB := XB.trans (hbl.mono XB.size)); (replace RY0 := RowF.below' hbl RY0); (clear hbl); (generalize vx.heap.size + 3 = jyp at *); (generalize hvv : vy = vx at *); (clear hvv)
    (try go_wp2_with fail)
    refine hK.out _ _ ?_ (fun hHeld => ?_)
    · first | exact SK.out _ XB | exact SK.out _ (Below.drew (Below.refl _ _))
    clear hK K
    (try simp only [Act.put, List.setIfInBounds_toArray, List.set_cons_zero, List.set_cons_succ])
    refine wpAnyH_ready (rs := [4]) (by kernel_rfl) (by simp) ?_
    refine AllReadyH.cons (by rw [List.getElem?_toArray]; rfl) (fun K hK => ?_) AllReadyH.nil
    go_simp
    refine (CS vx _ (.inr ⟨_, _, rfl, RY0.cs (Nat.le_refl _)⟩) _ (.inr ⟨_, _, rfl, RQ.cs (Nat.le_refl _)⟩)).mono ?_; (have hvx := XB.size); rintro ee vz ⟨vr, rfl, OWr, hbl⟩; (replace XB := XB.trans (hbl.mono XB.size)); (clear hbl)
    (try go_wp2_with fail)
    refine hK.out _ _ ?_ (fun hHeld => ?_)
    · first | exact SK.out _ XB | exact SK.out _ (Below.drew (Below.refl _ _))
    clear hK K
    (try simp only [Act.put, List.setIfInBounds_toArray, List.set_cons_zero, List.set_cons_succ])
    refine wpAnyH_take (i := 5) (v := ?_) (by rw [List.getElem?_toArray]; rfl) (by kernel_rfl) (by kernel_rfl) (by kernel_rfl) (by intro _ _ _ h; exact h) (Or.inl ⟨by rfl, ?_⟩) (by assumption) ?_
    rotate_left
    · (intro w hSw; (try dsimp only at hSw); go_simp; all_goals with_reducible rfl)
    (try simp only [Act.put, List.setIfInBounds_toArray, List.set_cons_zero, List.set_cons_succ])
    refine wpAnyH_done (by kernel_rfl) ?_ _
    obtain ⟨sa, sc, rfl, _, _, _⟩ := ownF_src OWr
    have OW9 := own_baseI16 OWr hvx
    go_wp2_with fail
    go_meet
    case rel => exact ⟨sa, sc, rfl, OW9, XB⟩
  case rest =>
    obtain ⟨sa, sc, rfl, OWr, hb⟩ := hcut
    clear SK
    generalize wc = w3 at *
    replace B := B.trans (hb.mono B.size)
    replace N := N.below hb
    clear hb
    have Q0 := ownS OWr
    have V0 := SrcK.of Q0
    have hv : w3.heap.size ≤ w3.heap.size := Nat.le_refl _
    have os_0 : w.heap.size < w3.heap.size := N.1
    clear Q0 OWr
    generalize hj5 : w3.heap.size = j5 at V0 os_0 
    replace hv : j5 ≤ w3.heap.size := Nat.le_of_eq hj5.symm
    clear hj5
    go_wp2_with fail
    refine (toHeardS_any a0 n0 c0 M0 _ hn0 (HA0.out.below (B))).mono ?_
    rintro e w4 ⟨rfl, RX0, hb⟩
    have ox0_0 : w.heap.size < w3.heap.size := N.1
    have ox0_v : j5 ≤ w3.heap.size := hv
    replace B := B.trans (hb.mono B.size)
    replace N := N.below hb
    replace V0 := V0.below hb
    replace hv := Nat.le_trans hv hb.size
    clear hb
    generalize hjx0 : w3.heap.size = jr0 at *
    clear hjx0
    obtain ⟨n0_, n1_, n2_, n3_, n4_, n5_, n6_⟩ := id N
    go_wp2_with fail
    refine (toPlan_any s g p m d PM _ hpn (HP.out.below (B))).mono ?_
    rintro e w5 ⟨rfl, RP, hb⟩
    clear n0_ n1_ n2_ n3_ n4_ n5_ n6_
    have op_0 : w.heap.size < w4.heap.size := N.1
    have op_1 : jr0 < w4.heap.size := RX0.lt
    have op_v : j5 ≤ w4.heap.size := hv
    replace B := B.trans (hb.mono B.size)
    replace N := N.below hb
    replace V0 := V0.below hb
    replace hv := Nat.le_trans hv hb.size
    replace RX0 := RowF.below' hb RX0
    clear hb
    generalize hjp : w4.heap.size = jp at *
    clear hjp
    generalize hjx : jp + 3 = jx at *
    have hpx : jp < jx := by omega
    clear hjx
    have hb := Below.nw w5 (.cells #[.int .i64 s, .int .i64 g, .slice (some ⟨jx, 0, none⟩) m m] 27)
    have X := Tx3.new w5 (.int .i64 s) (.int .i64 g) (.slice (some ⟨jx, 0, none⟩) m m) 27
    go_upto_region 11 with fail
    have ok_0 : w.heap.size < w5.heap.size := N.1
    have ok_1 : jr0 < w5.heap.size := RX0.lt
    have ok_2 : jx < w5.heap.size := RP.lt
    have ok_v : j5 ≤ w5.heap.size := hv
    replace B := B.trans (hb.mono B.size)
    replace N := N.below hb
    replace V0 := V0.below hb
    replace hv := Nat.le_trans hv hb.size
    replace RX0 := RowF.below' hb RX0
    replace RP := RowF.below' hb RP
    clear hb
    generalize w5.alloc (.cells #[.int .i64 s, .int .i64 g, .slice (some ⟨jx, 0, none⟩) m m] 27) = w6 at *
    generalize hkx : w5.heap.size = kx at *
    clear hkx
    obtain ⟨x0_, x1_, x2_, x3_, x4_, x5_, x6_⟩ := id X
    go_wp2_with fail
    refine (CI _ B _ (.inr ⟨_, _, rfl, RX0.cs (Nat.le_refl _)⟩) _ (.inr ⟨_, _, rfl, RP.cs (Nat.le_refl _)⟩)).mono ?_
    rintro e w7 ⟨vg, rfl, G0, hb⟩
    clear x0_ x1_ x2_ x3_ x4_ x5_ x6_
    have og_0 : w.heap.size < w6.heap.size := N.1
    have og_1 : jr0 < w6.heap.size := RX0.lt
    have og_2 : jx < w6.heap.size := RP.lt
    have og_3 : kx < w6.heap.size := X.1
    have og_v : j5 ≤ w6.heap.size := hv
    replace B := B.trans (hb.mono B.size)
    replace N := N.below hb
    replace V0 := V0.below hb
    replace hv := Nat.le_trans hv hb.size
    replace RX0 := RowF.below' hb RX0
    replace RP := RowF.below' hb RP
    replace X := X.below hb
    clear hb
    obtain ⟨sa, sc, rfl, _, _, _⟩ := ownF_src G0
    have RG0 : Hid (∀ q, (Value.slice sa L0.length sc).ownBlock = some q → w6.heap.size ≤ q ∧ q < w7.heap.size) := fun q hq => World.ownsRow.lt G0 q hq
    generalize hj8 : w6.heap.size = j8 at *
    clear hj8
    generalize sa = ga0 at *
    generalize sc = gc0 at *
    go_wp2_with fail
    refine (eqIntS_src _ _ _ _ _ (gI L0) _ hmL (ownS G0) V0.src).mono ?_
    rintro e w8 ⟨rfl, hb⟩
    replace B := B.trans (hb.mono B.size)
    replace N := N.below hb
    replace V0 := V0.below hb
    replace hv := Nat.le_trans hv hb.size
    replace RX0 := RowF.below' hb RX0
    replace RP := RowF.below' hb RP
    replace X := X.below hb
    replace G0 := own_belK' G0 hb
    clear hb
    go_wp2_with fail
    refine (toHeardS_any a0 n0 c0 M0 _ hn0 (HA0.out.below (B))).mono ?_
    rintro e w9 ⟨rfl, R9, hb⟩
    replace B := B.trans (hb.mono B.size)
    replace N := N.below hb
    replace V0 := V0.below hb
    replace hv := Nat.le_trans hv hb.size
    replace RX0 := RowF.below' hb RX0
    replace RP := RowF.below' hb RP
    replace X := X.below hb
    replace G0 := own_belK' G0 hb
    clear hb
    go_wp2_with fail
    refine (eqHeardS_src _ _ _ _ _ M0 _ hm0 (.inr ⟨_, _, rfl, RX0.cs (Nat.le_refl _)⟩) (.inr ⟨_, _, rfl, R9.cs (Nat.le_refl _)⟩)).mono ?_
    rintro e w10 ⟨rfl, hb⟩
    replace B := B.trans (hb.mono B.size)
    replace N := N.below hb
    replace V0 := V0.below hb
    replace hv := Nat.le_trans hv hb.size
    replace RX0 := RowF.below' hb RX0
    replace RP := RowF.below' hb RP
    replace X := X.below hb
    replace G0 := own_belK' G0 hb
    clear hb
    clear R9
    go_upto_region 16 with fail
    have SK : Hid (∀ w', Below w10.heap.size w10 w' → (fun w' => w'.cell? ⟨w.heap.size, 0, none⟩ = some (.int .i64 s) ∧ w'.cell? ⟨w.heap.size, 1, none⟩ = some (.int .i64 g) ∧ w'.cell? ⟨w.heap.size, 2, none⟩ = some (.slice p m d) ∧ w'.cell? ⟨kx, 0, none⟩ = some (.int .i64 s) ∧ w'.cell? ⟨kx, 1, none⟩ = some (.int .i64 g) ∧ w'.cell? ⟨kx, 2, none⟩ = some (.slice (some ⟨jx, 0, none⟩) m m)) w') := fun w' hw => ⟨(N.below hw).2.1, (N.below hw).2.2.1, (N.below hw).2.2.2.1, (X.below hw).2.1, (X.below hw).2.2.1, (X.below hw).2.2.2.1⟩
    go_cut [49] (fun s1 wx => s1 = .bool false ∧ Below w10.heap.size w10 wx)
    case first => as_aux_lemma =>
      refine wp_region_held_drew (S := (fun w' => w'.cell? ⟨w.heap.size, 0, none⟩ = some (.int .i64 s) ∧ w'.cell? ⟨w.heap.size, 1, none⟩ = some (.int .i64 g) ∧ w'.cell? ⟨w.heap.size, 2, none⟩ = some (.slice p m d) ∧ w'.cell? ⟨kx, 0, none⟩ = some (.int .i64 s) ∧ w'.cell? ⟨kx, 1, none⟩ = some (.int .i64 g) ∧ w'.cell? ⟨kx, 2, none⟩ = some (.slice (some ⟨jx, 0, none⟩) m m))) (by kernel_rfl) ?_ (fun hHeld => ?_)
      · first | exact SK.out _ XB | exact SK.out _ (Below.drew (Below.refl _ _))
      have XB : Below w10.heap.size w10 w10.drew := Below.drew (Below.refl _ _)
      generalize w10.drew = vx at *
      refine wpAnyH_take (i := 0) (v := ?_) (by rw [List.getElem?_toArray]; rfl) (by kernel_rfl) (by kernel_rfl) (by kernel_rfl) (by intro _ _ _ h; exact h) (Or.inl ⟨by rfl, ?_⟩) (by assumption) ?_
      rotate_left
      · (intro w hSw; (try dsimp only at hSw); go_simp; all_goals with_reducible rfl)
      (try simp only [Act.put, List.setIfInBounds_toArray, List.set_cons_zero, List.set_cons_succ])
      refine wpAnyH_take (i := 1) (v := ?_) (by rw [List.getElem?_toArray]; rfl) (by kernel_rfl) (by kernel_rfl) (by kernel_rfl) (by intro _ _ _ h; exact h) (Or.inl ⟨by rfl, ?_⟩) (by assumption) ?_
      rotate_left
      · (intro w hSw; (try dsimp only at hSw); go_simp; all_goals with_reducible rfl)
      (try simp only [Act.put, List.setIfInBounds_toArray, List.set_cons_zero, List.set_cons_succ])
      refine wpAnyH_ready (rs := [2]) (by kernel_rfl) (by simp) ?_
      refine AllReadyH.cons (by rw [List.getElem?_toArray]; rfl) (fun K hK => ?_) AllReadyH.nil
      go_simp
      refine (toPlan_any s g p m d PM vx hpn (HP.out.below (B.trans (XB.mono B.size)))).mono ?_; rintro ee vy ⟨rfl, RQ, hbl⟩; (replace XB := XB.trans (hbl.mono XB.size)); (clear hbl); (generalize vx.heap.size + 3 = jyp at *); (generalize hvv : vy = vx at *); (clear hvv)
      (try go_wp2_with fail)
      refine hK.out _ _ ?_ (fun hHeld => ?_)
      · first | exact SK.out _ XB | exact SK.out _ (Below.drew (Below.refl _ _))
      clear hK K
      (try simp only [Act.put, List.setIfInBounds_toArray, List.set_cons_zero, List.set_cons_succ])
      refine wpAnyH_ready (rs := [3]) (by kernel_rfl) (by simp) ?_
      refine AllReadyH.cons (by rw [List.getElem?_toArray]; rfl) (fun K hK => ?_) AllReadyH.nil
      go_simp
      refine (eqPlan_same s g (some ⟨jx, 0, none⟩) (some ⟨jyp, 0, none⟩) m m m PM vx hpm (.inr ⟨_, _, rfl, (RowF.below' XB RP).cs (Nat.le_refl _)⟩) (.inr ⟨_, _, rfl, RQ.cs (Nat.le_refl _)⟩)).mono ?_; rintro ee vz ⟨rfl, hbl⟩; (replace XB := XB.trans (hbl.mono XB.size)); (clear hbl)
      (try go_wp2_with fail)
      refine hK.out _ _ ?_ (fun hHeld => ?_)
      · first | exact SK.out _ XB | exact SK.out _ (Below.drew (Below.refl _ _))
      clear hK K
      (try simp only [Act.put, List.setIfInBounds_toArray, List.set_cons_zero, List.set_cons_succ])
      refine wpAnyH_take (i := 4) (v := ?_) (by rw [List.getElem?_toArray]; rfl) (by kernel_rfl) (by kernel_rfl) (by kernel_rfl) (by intro _ _ _ h; exact h) (Or.inl ⟨by rfl, ?_⟩) (by assumption) ?_
      rotate_left
      · (intro w hSw; (try dsimp only at hSw); go_simp; all_goals with_reducible rfl)
      (try simp only [Act.put, List.setIfInBounds_toArray, List.set_cons_zero, List.set_cons_succ])
      refine wpAnyH_done (by kernel_rfl) ?_ _
      go_wp2_with fail
      go_meet
      case rel => exact ⟨rfl, XB⟩
    case rest =>
      obtain ⟨rfl, hb⟩ := hcut
      clear SK
      generalize wc = w11 at *
      replace B := B.trans (hb.mono B.size)
      replace N := N.below hb
      replace V0 := V0.below hb
      replace hv := Nat.le_trans hv hb.size
      replace RX0 := RowF.below' hb RX0
      replace RP := RowF.below' hb RP
      replace X := X.below hb
      replace G0 := own_belK' G0 hb
      clear hb
      go_wp2_with fail
      refine (markHeardS_row jr0 (n0 * 2) n0 n0 (1) _ hn0 (by omega) (by omega) (Nat.le_refl _) (RX0.zero _)).mono ?_
      rintro e w12 ⟨rfl, _, hb⟩
      replace B := B.trans (hb.below (B := w.heap.size) (by omega) B.size)
      replace N := N.kept hb.grK (fun e => by (have e' := Option.some.inj e); omega)
      replace V0 := V0.kept hb.grK (fun b h e => by (have e' := Option.some.inj e); omega)
      replace RP := rowF_but RP hb (by omega)
      replace X := X.kept hb.grK (fun e => by (have e' := Option.some.inj e); omega)
      replace G0 := own_butK G0 hb (by omega)
      clear hb
      clear RX0
      obtain ⟨x0_, x1_, x2_, x3_, x4_, x5_, x6_⟩ := id X
      go_wp2_with fail
      refine (markPlan_rowQ s g jx (m * 2) m m (1 + (n0 : Int) * 2) _ hpn (by omega) (by omega) (Nat.le_refl _) (RP.zero _)).mono ?_
      rintro e w13 ⟨rfl, _, hb⟩
      clear x0_ x1_ x2_ x3_ x4_ x5_ x6_
      replace B := B.trans (hb.below (B := w.heap.size) (by omega) B.size)
      replace N := N.kept hb.grK (fun e => by (have e' := Option.some.inj e); omega)
      replace V0 := V0.kept hb.grK (fun b h e => by (have e' := Option.some.inj e); omega)
      replace G0 := own_butK G0 hb (by omega)
      clear hb
      clear RP X
      have hk1 : ¬ (1 + (n0 : Int) * 2 + (m : Int) * 2 < 0) := by omega
      clear hv
      have hv : 0 ≤ 0 := Nat.le_refl _
      clear hv
      go_wp2_with fail
      refine (eqIntS_src _ _ _ _ _ (gI L0) _ hmL (ownS G0) V0.src).mono ?_
      rintro e w14 ⟨rfl, hb⟩
      replace B := B.trans (hb.mono B.size)
      replace N := N.below hb
      replace V0 := V0.below hb
      replace G0 := own_belK' G0 hb
      clear hb
      go_wp2_with fail
      refine (markIntS_own _ _ _ _ 1 _ _ hnL (by omega) (by omega) G0).mono ?_
      rintro e w15 ⟨rfl, HM0, hb⟩
      replace B := B.trans (grown_bel hb B.size (fun b h e => by have := RG0.out _ e.symm; omega))
      replace N := N.kept hb (fun e => by have := RG0.out _ e.symm; omega)
      replace V0 := V0.kept hb (fun b h e => by have := RG0.out _ e.symm; omega)
      have HK0 : Hid (SrcC w15 ga0 (L0.length * 1) (mkInt 1)) := HM0
      clear hb HM0 G0
      go_wp2_with fail
      refine (heldIntS_any _ _ _ 1 _ hnL (by omega) (by omega) HK0.out).mono ?_
      rintro e w' ⟨rfl, rfl⟩
      go_upto_region 31 with fail
      have SK : Hid (∀ w', Below w15.heap.size w15 w' → (fun w' => w'.cell? ⟨w.heap.size, 0, none⟩ = some (.int .i64 s) ∧ w'.cell? ⟨w.heap.size, 1, none⟩ = some (.int .i64 g) ∧ w'.cell? ⟨w.heap.size, 2, none⟩ = some (.slice p m d)) w') := fun w' hw => ⟨(N.below hw).2.1, (N.below hw).2.2.1, (N.below hw).2.2.2.1⟩
      go_cut [13] (fun s1 wx => ∃ (sa : Option Addr) (sc : Nat), s1 = .slice sa L0.length sc ∧ wx.ownsRow w15.heap.size 3 1 (.slice sa L0.length sc) L0.length (irow L0) ∧ Below w15.heap.size w15 wx)
      case first => as_aux_lemma =>
        refine wp_region_held_drew (S := (fun w' => w'.cell? ⟨w.heap.size, 0, none⟩ = some (.int .i64 s) ∧ w'.cell? ⟨w.heap.size, 1, none⟩ = some (.int .i64 g) ∧ w'.cell? ⟨w.heap.size, 2, none⟩ = some (.slice p m d))) (by kernel_rfl) ?_ (fun hHeld => ?_)
        · first | exact SK.out _ XB | exact SK.out _ (Below.drew (Below.refl _ _))
        have XB : Below w15.heap.size w15 w15.drew := Below.drew (Below.refl _ _)
        generalize w15.drew = vx at *
        refine wpAnyH_take (i := 0) (v := ?_) (by rw [List.getElem?_toArray]; rfl) (by kernel_rfl) (by kernel_rfl) (by kernel_rfl) (by intro _ _ _ h; exact h) (Or.inl ⟨by rfl, ?_⟩) (by assumption) ?_
        rotate_left
        · (intro w hSw; (try dsimp only at hSw); go_simp; all_goals with_reducible rfl)
        (try simp only [Act.put, List.setIfInBounds_toArray, List.set_cons_zero, List.set_cons_succ])
        refine wpAnyH_take (i := 2) (v := ?_) (by rw [List.getElem?_toArray]; rfl) (by kernel_rfl) (by kernel_rfl) (by kernel_rfl) (by intro _ _ _ h; exact h) (Or.inl ⟨by rfl, ?_⟩) (by assumption) ?_
        rotate_left
        · (intro w hSw; (try dsimp only at hSw); go_simp; all_goals with_reducible rfl)
        (try simp only [Act.put, List.setIfInBounds_toArray, List.set_cons_zero, List.set_cons_succ])
        refine wpAnyH_ready (rs := [1]) (by kernel_rfl) (by simp) ?_
        refine AllReadyH.cons (by rw [List.getElem?_toArray]; rfl) (fun K hK => ?_) AllReadyH.nil
        go_simp
        refine (toHeardS_any a0 n0 c0 M0 vx hn0 (HA0.out.below (B.trans (XB.mono B.size)))).mono ?_; rintro ee vy ⟨rfl, RY0, hbl⟩; (replace XB := XB.trans (hbl.mono XB.size)); (clear hbl); (generalize vx.heap.size = jy0 at *); (generalize hvv : vy = vx at *); (clear hvv)
        (try go_wp2_with fail)
        refine hK.out _ _ ?_ (fun hHeld => ?_)
        · first | exact SK.out _ XB | exact SK.out _ (Below.drew (Below.refl _ _))
        clear hK K
        (try simp only [Act.put, List.setIfInBounds_toArray, List.set_cons_zero, List.set_cons_succ])
        refine wpAnyH_ready (rs := [3]) (by kernel_rfl) (by simp) ?_
        refine AllReadyH.cons (by rw [List.getElem?_toArray]; rfl) (fun K hK => ?_) AllReadyH.nil
        go_simp
        refine (toPlan_any s g p m d PM vx hpn (HP.out.below (B.trans (XB.mono B.size)))).mono ?_; rintro ee vy ⟨rfl, RQ, hbl⟩; (replace XB := XB.trans (hbl.mono XB.size)); (replace RY0 := RowF.below' hbl RY0); (clear hbl); (generalize vx.heap.size + 3 = jyp at *); (generalize hvv : vy = vx at *); (clear hvv)
        (try go_wp2_with fail)
        refine hK.out _ _ ?_ (fun hHeld => ?_)
        · first | exact SK.out _ XB | exact SK.out _ (Below.drew (Below.refl _ _))
        clear hK K
        (try simp only [Act.put, List.setIfInBounds_toArray, List.set_cons_zero, List.set_cons_succ])
        refine wpAnyH_ready (rs := [4]) (by kernel_rfl) (by simp) ?_
        refine AllReadyH.cons (by rw [List.getElem?_toArray]; rfl) (fun K hK => ?_) AllReadyH.nil
        go_simp
        refine (CI vx (B.trans (XB.mono B.size)) _ (.inr ⟨_, _, rfl, RY0.cs (Nat.le_refl _)⟩) _ (.inr ⟨_, _, rfl, RQ.cs (Nat.le_refl _)⟩)).mono ?_; (have hvx := XB.size); rintro ee vz ⟨vr, rfl, OWr, hbl⟩; (replace XB := XB.trans (hbl.mono XB.size)); (clear hbl)
        (try go_wp2_with fail)
        refine hK.out _ _ ?_ (fun hHeld => ?_)
        · first | exact SK.out _ XB | exact SK.out _ (Below.drew (Below.refl _ _))
        clear hK K
        (try simp only [Act.put, List.setIfInBounds_toArray, List.set_cons_zero, List.set_cons_succ])
        refine wpAnyH_take (i := 5) (v := ?_) (by rw [List.getElem?_toArray]; rfl) (by kernel_rfl) (by kernel_rfl) (by kernel_rfl) (by intro _ _ _ h; exact h) (Or.inl ⟨by rfl, ?_⟩) (by assumption) ?_
        rotate_left
        · (intro w hSw; (try dsimp only at hSw); go_simp; all_goals with_reducible rfl)
        (try simp only [Act.put, List.setIfInBounds_toArray, List.set_cons_zero, List.set_cons_succ])
        refine wpAnyH_done (by kernel_rfl) ?_ _
        obtain ⟨sa, sc, rfl, _, _, _⟩ := ownF_src OWr
        have OW9 := own_baseI16 OWr hvx
        go_wp2_with fail
        go_meet
        case rel => exact ⟨sa, sc, rfl, OW9, XB⟩
      case rest =>
        obtain ⟨sa, sc, rfl, OWr, hb⟩ := hcut
        clear SK
        generalize wc = w16 at *
        replace B := B.trans (hb.mono B.size)
        replace N := N.below hb
        replace V0 := V0.below hb
        replace HK0 : Hid (SrcC _ ga0 (L0.length * 1) (mkInt 1)) := HK0.out.below hb
        clear hb
        have Q0 := ownS OWr
        clear OWr CS CI
        go_wp2_with fail
        refine (eqIntS_src _ _ _ _ _ (gI L0) _ hmL Q0 V0.src).mono ?_
        rintro e w17 ⟨rfl, hb⟩
        replace B := B.trans (hb.mono B.size)
        replace N := N.below hb
        replace V0 := V0.below hb
        replace HK0 : Hid (SrcC _ ga0 (L0.length * 1) (mkInt 1)) := HK0.out.below hb
        clear hb
        go_wp2_with fail
        refine (heldIntS_any _ _ _ 1 _ hnL (by omega) (by omega) HK0.out).mono ?_
        rintro e w' ⟨rfl, rfl⟩
        go_wp2_with fail
        go_ret
        exact ⟨rfl, B⟩
end Go.Proofs.YtdahabbdhjgpdaaDoor
