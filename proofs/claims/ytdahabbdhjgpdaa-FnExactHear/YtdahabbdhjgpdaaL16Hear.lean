/- The walk of the exact law of Hear. -/
import Derived.Test.YtdahabbdhjgpdaaS164
import Derived.Test.YtdahabbdhjgpdaaS165
import Derived.Test.YtdahabbdhjgpdaaS166
import Derived.Test.YtdahabbdhjgpdaaS167
import Derived.Test.YtdahabbdhjgpdaaS168
import Derived.Test.YtdahabbdhjgpdaaS169
import Derived.Test.YtdahabbdhjgpdaaS170
import Derived.Test.YtdahabbdhjgpdaaI106
import Derived.Test.YtdahabbdhjgpdaaG10
import Derived.Deep.RegionHeld3
import Derived.Deep.DeepCutAuto
import Derived.WalkKit
import Derived.WalkSpells
import Derived.WalkLawsBesides
import Derived.Deep.RegionHeld
namespace Go.Proofs.Ytdahabbdhjgpdaa
open Go.RowKit
set_option linter.unusedVariables false
set_option maxRecDepth 100000 in
set_option maxHeartbeats 16000000 in
theorem lawHear (a0 : Option Addr) (n0 c0 : Nat) (M0 : Nat → VT) (s g : Int) (p : Option Addr) (m d : Nat) (PM : Nat → SlT) (k fr tu no lo hi sl : Int) (bo : ByteArray) (ct : Int) (w : World) (hm0 : n0 ≤ maxLen) (hs0 : SrcC w a0 (n0 * 2) (MFIval M0)) (hw0 : ∀ i, i < n0 → (Lit.int .i64 (M0 i).1).wf = true) (hpm : m ≤ maxLen) (hps : SrcC w p (m * 2) (MFSlot PM)) (hwp : ∀ i, i < m → (Lit.int .i64 (PM i).1).wf = true) (hbo : bo.size ≤ maxLen) (wct : (Lit.int .i64 ct).wf = true) :
    Calls Try.prog 4 #[.slice a0 n0 c0, .agg #[.int .i64 s, .int .i64 g, .slice p m d], .agg #[.int .i64 k, .int .i64 fr, .int .i64 tu, .int .i64 no, .int .i64 lo, .int .i64 hi, .int .i64 sl, .string bo], .int .i64 ct] w fun e w' => e = .returned (.bool true) ∧ Below w.heap.size w w' := by
  have HA0 : Hid (SrcC w a0 (n0 * 2) (MFIval M0)) := hs0
  have HP : Hid (SrcC w p (m * 2) (MFSlot PM)) := hps
  have HBO : Hid (bo.size ≤ maxLen) := hbo
  clear hbo
  clear hs0 hw0 hps hwp wct
  have hL0 : (heV M0 n0 s g PM m k fr tu no lo hi sl bo ct).length ≤ 61 := Nat.le_trans heV_len (by decide)
  have CS := fun (hbo' : bo.size ≤ 1048576) => fun (w' : World) (a0' : Option Addr) (h0 : SrcC w' a0' (n0 * 2) (MFIval M0)) (he0 : ∃ b off, a0' = some ⟨b, off, none⟩) (p' : Option Addr) (hq : SrcC w' p' (m * 2) (MFSlot PM)) => specHear_any a0' n0 n0 M0 s g p' m m PM k fr tu no lo hi sl bo ct w' hm0 h0 (.inr he0) hpm hq hbo'
  have CI := fun (hbo' : bo.size ≤ 1048576) => fun (w' : World) (a0' : Option Addr) (h0 : SrcC w' a0' (n0 * 2) (MFIval M0)) (he0 : ∃ b off, a0' = some ⟨b, off, none⟩) (p' : Option Addr) (hq : SrcC w' p' (m * 2) (MFSlot PM)) => implHear_any a0' n0 n0 M0 s g p' m m PM k fr tu no lo hi sl bo ct w' hm0 h0 (.inr he0) hpm hq hbo'
  generalize heV M0 n0 s g PM m k fr tu no lo hi sl bo ct = L0 at *
  generalize heC M0 n0 s g PM m k fr tu no lo hi sl bo ct = C1 at *
  have hcc : (C1 != C1) = false := by simp
  have hmL : L0.length ≤ maxLen := by unfold maxLen; omega
  have hnL : L0.length ≤ 1048576 := by omega
  have hk2 : ¬ (1 + (L0.length : Int) * 2 < 0) := by omega
  have A0 := Below.nw (w) (.cells #[.int .i64 s, .int .i64 g, .slice p m d] 31)
  have N := Tx3.new (w) (.int .i64 s) (.int .i64 g) (.slice p m d) 31
  have B := A0
  have A1 := Below.nw (w.alloc (.cells #[.int .i64 s, .int .i64 g, .slice p m d] 31)) (.cells #[.int .i64 k, .int .i64 fr, .int .i64 tu, .int .i64 no, .int .i64 lo, .int .i64 hi, .int .i64 sl, .string bo] 35)
  have P := Box8.new (w.alloc (.cells #[.int .i64 s, .int .i64 g, .slice p m d] 31)) k fr tu no lo hi sl bo 35
  replace N := N.below A1
  replace B := B.trans (A1.mono B.size)
  simp only [World.size_alloc] at P
  clear A0 A1
  go_enter Try.func4, Try.ntmps4
  go_upto_region 1 with fail
  generalize (w.alloc (.cells #[.int .i64 s, .int .i64 g, .slice p m d] 31)).alloc (.cells #[.int .i64 k, .int .i64 fr, .int .i64 tu, .int .i64 no, .int .i64 lo, .int .i64 hi, .int .i64 sl, .string bo] 35) = v at *
  go_wp2_with fail
  refine (szHeardS_le a0 n0 c0 1048576 _ hm0 (by decide) (by decide)).mono ?_
  rintro e w1 ⟨Z1, rfl, hZ1, hb⟩
  replace B := B.trans (hb.mono B.size)
  replace N := N.below hb
  replace P := P.below hb
  clear hb
  by_cases hz1 : Z1 < 0
  · clear CS CI
    go_wp2_with fail
    go_ret
    exact ⟨rfl, B⟩
  obtain ⟨hn0, hy1⟩ := hZ1 (by omega)
  clear hZ1
  have hg1 : 0 ≤ Z1 := by omega
  obtain ⟨n0_, n1_, n2_, n3_, n4_, n5_, n6_⟩ := id N
  go_wp2_with fail
  refine (szPlan_at s g p m d Z1 _ hpm hg1 hy1).mono ?_
  rintro e w2 ⟨Z2, rfl, hZ2, hb⟩
  clear n0_ n1_ n2_ n3_ n4_ n5_ n6_
  replace B := B.trans (hb.mono B.size)
  replace N := N.below hb
  replace P := P.below hb
  clear hb
  by_cases hz2 : Z2 < 0
  · clear CS CI
    go_wp2_with fail
    go_ret
    exact ⟨rfl, B⟩
  obtain ⟨hpn, hy2⟩ := hZ2 (by omega)
  clear hZ2
  have hg2 : 0 ≤ Z2 := by omega
  obtain ⟨p0_, p1_, p2_, p3_, p4_, p5_, p6_, p7_, p8_⟩ := id P
  go_wp2_with fail
  refine (szMsg_at k fr tu no lo hi sl bo Z2 _ HBO.out hg2 hy2).mono ?_
  rintro e w3 ⟨Z3, rfl, hZ3, hb⟩
  clear p0_ p1_ p2_ p3_ p4_ p5_ p6_ p7_ p8_
  replace B := B.trans (hb.mono B.size)
  replace N := N.below hb
  replace P := P.below hb
  clear hb
  by_cases hz3 : Z3 < 0
  · clear CS CI
    go_wp2_with fail
    go_ret
    exact ⟨rfl, B⟩
  obtain ⟨hbn, hy3⟩ := hZ3 (by omega)
  clear hZ3
  have hg3 : 0 ≤ Z3 := by omega
  replace CS := CS hbn
  replace CI := CI hbn
  go_upto_region 11 with fail
  have SK : Hid (∀ w', Below w3.heap.size w3 w' → (fun w' => w'.cell? ⟨w.heap.size, 0, none⟩ = some (.int .i64 s) ∧ w'.cell? ⟨w.heap.size, 1, none⟩ = some (.int .i64 g) ∧ w'.cell? ⟨w.heap.size, 2, none⟩ = some (.slice p m d) ∧ w'.cell? ⟨w.heap.size + 1, 0, none⟩ = some (.int .i64 k) ∧ w'.cell? ⟨w.heap.size + 1, 1, none⟩ = some (.int .i64 fr) ∧ w'.cell? ⟨w.heap.size + 1, 2, none⟩ = some (.int .i64 tu) ∧ w'.cell? ⟨w.heap.size + 1, 3, none⟩ = some (.int .i64 no) ∧ w'.cell? ⟨w.heap.size + 1, 4, none⟩ = some (.int .i64 lo) ∧ w'.cell? ⟨w.heap.size + 1, 5, none⟩ = some (.int .i64 hi) ∧ w'.cell? ⟨w.heap.size + 1, 6, none⟩ = some (.int .i64 sl) ∧ w'.cell? ⟨w.heap.size + 1, 7, none⟩ = some (.string bo)) w') := fun w' hw => ⟨(N.below hw).2.1, (N.below hw).2.2.1, (N.below hw).2.2.2.1, (P.below hw).2.1, (P.below hw).2.2.1, (P.below hw).2.2.2.1, (P.below hw).2.2.2.2.1, (P.below hw).2.2.2.2.2.1, (P.below hw).2.2.2.2.2.2.1, (P.below hw).2.2.2.2.2.2.2.1, (P.below hw).2.2.2.2.2.2.2.2⟩
  go_cut [10, 11] (fun s1 s2 wx => ∃ (sa : Option Addr) (sc : Nat), s1 = .slice sa L0.length sc ∧ s2 = .int .i64 C1 ∧ wx.ownsRow w3.heap.size 54 2 (.slice sa L0.length sc) L0.length (vrow L0) ∧ Below w3.heap.size w3 wx)
  case first => as_aux_lemma =>
    refine wp_region_held_drew (S := (fun w' => w'.cell? ⟨w.heap.size, 0, none⟩ = some (.int .i64 s) ∧ w'.cell? ⟨w.heap.size, 1, none⟩ = some (.int .i64 g) ∧ w'.cell? ⟨w.heap.size, 2, none⟩ = some (.slice p m d) ∧ w'.cell? ⟨w.heap.size + 1, 0, none⟩ = some (.int .i64 k) ∧ w'.cell? ⟨w.heap.size + 1, 1, none⟩ = some (.int .i64 fr) ∧ w'.cell? ⟨w.heap.size + 1, 2, none⟩ = some (.int .i64 tu) ∧ w'.cell? ⟨w.heap.size + 1, 3, none⟩ = some (.int .i64 no) ∧ w'.cell? ⟨w.heap.size + 1, 4, none⟩ = some (.int .i64 lo) ∧ w'.cell? ⟨w.heap.size + 1, 5, none⟩ = some (.int .i64 hi) ∧ w'.cell? ⟨w.heap.size + 1, 6, none⟩ = some (.int .i64 sl) ∧ w'.cell? ⟨w.heap.size + 1, 7, none⟩ = some (.string bo))) (by kernel_rfl) ?_ (fun hHeld => ?_)
    · first | exact SK.out _ XB | exact SK.out _ (Below.drew (Below.refl _ _))
    have XB : Below w3.heap.size w3 w3.drew := Below.drew (Below.refl _ _)
    generalize w3.drew = vx at *
    refine wpAnyH_take (i := 0) (v := ?_) (by rw [List.getElem?_toArray]; rfl) (by kernel_rfl) (by kernel_rfl) (by kernel_rfl) (by intro _ _ _ h; exact h) (Or.inl ⟨by rfl, ?_⟩) (by assumption) ?_
    rotate_left
    · (intro w hSw; (try dsimp only at hSw); go_simp; all_goals with_reducible rfl)
    (try simp only [Act.put, List.setIfInBounds_toArray, List.set_cons_zero, List.set_cons_succ])
    refine wpAnyH_take (i := 2) (v := ?_) (by rw [List.getElem?_toArray]; rfl) (by kernel_rfl) (by kernel_rfl) (by kernel_rfl) (by intro _ _ _ h; exact h) (Or.inl ⟨by rfl, ?_⟩) (by assumption) ?_
    rotate_left
    · (intro w hSw; (try dsimp only at hSw); go_simp; all_goals with_reducible rfl)
    (try simp only [Act.put, List.setIfInBounds_toArray, List.set_cons_zero, List.set_cons_succ])
    refine wpAnyH_take (i := 4) (v := ?_) (by rw [List.getElem?_toArray]; rfl) (by kernel_rfl) (by kernel_rfl) (by kernel_rfl) (by intro _ _ _ h; exact h) (Or.inl ⟨by rfl, ?_⟩) (by assumption) ?_
    rotate_left
    · (intro w hSw; (try dsimp only at hSw); go_simp; all_goals with_reducible rfl)
    (try simp only [Act.put, List.setIfInBounds_toArray, List.set_cons_zero, List.set_cons_succ])
    refine wpAnyH_take (i := 6) (v := ?_) (by rw [List.getElem?_toArray]; rfl) (by kernel_rfl) (by kernel_rfl) (by kernel_rfl) (by intro _ _ _ h; exact h) (Or.inl ⟨by rfl, ?_⟩) (by assumption) ?_
    rotate_left
    · (intro w hSw; (try dsimp only at hSw); go_simp; all_goals with_reducible rfl)
    (try simp only [Act.put, List.setIfInBounds_toArray, List.set_cons_zero, List.set_cons_succ])
    refine wpAnyH_ready (rs := [1]) (by kernel_rfl) (by simp) ?_
    refine AllReadyH.cons (by rw [List.getElem?_toArray]; rfl) (fun K hK => ?_) AllReadyH.nil
    go_simp
    refine (toHeardS_any a0 n0 c0 M0 vx hn0 (HA0.out.below (B.trans (XB.mono B.size)))).mono ?_; rintro ee vy ⟨rfl, RY0, hbl⟩; (replace XB := XB.trans (hbl.mono XB.size)); (clear hbl); (generalize vx.heap.size = jy0 at *); (generalize hvv : vy = vx at *); (clear hvv)
    (try go_wp2_with fail)
    refine hK.out _ _ ?_ (fun hHeld => ?_)
    · first | exact SK.out _ XB | exact SK.out _ (Below.drew (Below.refl _ _))
    clear hK K
    (try simp only [Act.put, List.setIfInBounds_toArray, List.set_cons_zero, List.set_cons_succ])
    refine wpAnyH_ready (rs := [3]) (by kernel_rfl) (by simp) ?_
    refine AllReadyH.cons (by rw [List.getElem?_toArray]; rfl) (fun K hK => ?_) AllReadyH.nil
    go_simp
    refine (toPlan_any s g p m d PM vx hpn (HP.out.below (B.trans (XB.mono B.size)))).mono ?_; rintro ee vy ⟨rfl, RQ, hbl⟩; (replace XB := XB.trans (hbl.mono XB.size)); (replace RY0 := RowF.below' hbl RY0); (clear hbl); (generalize vx.heap.size + 3 = jyp at *); (generalize hvv : vy = vx at *); (clear hvv)
    (try go_wp2_with fail)
    refine hK.out _ _ ?_ (fun hHeld => ?_)
    · first | exact SK.out _ XB | exact SK.out _ (Below.drew (Below.refl _ _))
    clear hK K
    (try simp only [Act.put, List.setIfInBounds_toArray, List.set_cons_zero, List.set_cons_succ])
    refine wpAnyH_ready (rs := [5]) (by kernel_rfl) (by simp) ?_
    refine AllReadyH.cons (by rw [List.getElem?_toArray]; rfl) (fun K hK => ?_) AllReadyH.nil
    go_simp
    refine (toMsg_any k fr tu no lo hi sl bo vx).mono ?_; rintro ee vy ⟨rfl, hbl⟩; (replace XB := XB.trans (hbl.mono XB.size)); (replace RY0 := RowF.below' hbl RY0); (replace RQ := RowF.below' hbl RQ); (clear hbl); (generalize hvv : vy = vx at *); (clear hvv)
    (try go_wp2_with fail)
    refine hK.out _ _ ?_ (fun hHeld => ?_)
    · first | exact SK.out _ XB | exact SK.out _ (Below.drew (Below.refl _ _))
    clear hK K
    (try simp only [Act.put, List.setIfInBounds_toArray, List.set_cons_zero, List.set_cons_succ])
    refine wpAnyH_ready (rs := [7]) (by kernel_rfl) (by simp) ?_
    refine AllReadyH.cons (by rw [List.getElem?_toArray]; rfl) (fun K hK => ?_) AllReadyH.nil
    go_simp
    refine (CS vx _ (.inr ⟨_, _, rfl, RY0.cs (Nat.le_refl _)⟩) ⟨_, _, rfl⟩ _ (.inr ⟨_, _, rfl, RQ.cs (Nat.le_refl _)⟩)).mono ?_; (have hvx := XB.size); rintro ee vz ⟨vr, rfl, OWr, hbl⟩; (replace XB := XB.trans (hbl.mono XB.size)); (clear hbl)
    (try go_wp2_with fail)
    refine hK.out _ _ ?_ (fun hHeld => ?_)
    · first | exact SK.out _ XB | exact SK.out _ (Below.drew (Below.refl _ _))
    clear hK K
    (try simp only [Act.put, List.setIfInBounds_toArray, List.set_cons_zero, List.set_cons_succ])
    refine wpAnyH_take (i := 8) (v := ?_) (by rw [List.getElem?_toArray]; rfl) (by kernel_rfl) (by kernel_rfl) (by kernel_rfl) (by intro _ _ _ h; exact h) (Or.inl ⟨by rfl, ?_⟩) (by assumption) ?_
    rotate_left
    · (intro w hSw; (try dsimp only at hSw); go_simp; all_goals with_reducible rfl)
    (try simp only [Act.put, List.setIfInBounds_toArray, List.set_cons_zero, List.set_cons_succ])
    refine wpAnyH_take (i := 9) (v := ?_) (by rw [List.getElem?_toArray]; rfl) (by kernel_rfl) (by kernel_rfl) (by kernel_rfl) (by intro _ _ _ h; exact h) (Or.inl ⟨by rfl, ?_⟩) (by assumption) ?_
    rotate_left
    · (intro w hSw; (try dsimp only at hSw); go_simp; all_goals with_reducible rfl)
    (try simp only [Act.put, List.setIfInBounds_toArray, List.set_cons_zero, List.set_cons_succ])
    refine wpAnyH_take (i := 10) (v := ?_) (by rw [List.getElem?_toArray]; rfl) (by kernel_rfl) (by kernel_rfl) (by kernel_rfl) (by intro _ _ _ h; exact h) (Or.inl ⟨by rfl, ?_⟩) (by assumption) ?_
    rotate_left
    · (intro w hSw; (try dsimp only at hSw); go_simp; all_goals with_reducible rfl)
    (try simp only [Act.put, List.setIfInBounds_toArray, List.set_cons_zero, List.set_cons_succ])
    refine wpAnyH_take (i := 11) (v := ?_) (by rw [List.getElem?_toArray]; rfl) (by kernel_rfl) (by kernel_rfl) (by kernel_rfl) (by intro _ _ _ h; exact h) (Or.inl ⟨by rfl, ?_⟩) (by assumption) ?_
    rotate_left
    · (intro w hSw; (try dsimp only at hSw); go_simp; all_goals with_reducible rfl)
    (try simp only [Act.put, List.setIfInBounds_toArray, List.set_cons_zero, List.set_cons_succ])
    refine wpAnyH_take (i := 12) (v := ?_) (by rw [List.getElem?_toArray]; rfl) (by kernel_rfl) (by kernel_rfl) (by kernel_rfl) (by intro _ _ _ h; exact h) (Or.inl ⟨by rfl, ?_⟩) (by assumption) ?_
    rotate_left
    · (intro w hSw; (try dsimp only at hSw); go_simp; all_goals with_reducible rfl)
    (try simp only [Act.put, List.setIfInBounds_toArray, List.set_cons_zero, List.set_cons_succ])
    refine wpAnyH_done (by kernel_rfl) ?_ _
    obtain ⟨sa, sc, rfl, _, _, _⟩ := ownF_src OWr
    have OW9 := own_baseI16 OWr hvx
    go_wp2_with fail
    go_meet
    case rel => exact ⟨sa, sc, rfl, rfl, OW9, XB⟩
  case rest =>
    obtain ⟨sa, sc, rfl, rfl, OWr, hb⟩ := hcut
    clear SK
    generalize wc = w4 at *
    replace B := B.trans (hb.mono B.size)
    replace N := N.below hb
    replace P := P.below hb
    clear hb
    have Q0 := ownS OWr
    have V0 := SrcK.of Q0
    have hv : w4.heap.size ≤ w4.heap.size := Nat.le_refl _
    have os_0 : w.heap.size < w4.heap.size := N.1
    have os_1 : w.heap.size + 1 < w4.heap.size := P.1
    clear Q0 OWr
    generalize hj5 : w4.heap.size = j5 at V0 os_0 os_1 
    replace hv : j5 ≤ w4.heap.size := Nat.le_of_eq hj5.symm
    clear hj5
    go_wp2_with fail
    refine (toHeardS_any a0 n0 c0 M0 _ hn0 (HA0.out.below (B))).mono ?_
    rintro e w5 ⟨rfl, RX0, hb⟩
    have ox0_0 : w.heap.size < w4.heap.size := N.1
    have ox0_1 : w.heap.size + 1 < w4.heap.size := P.1
    have ox0_v : j5 ≤ w4.heap.size := hv
    replace B := B.trans (hb.mono B.size)
    replace N := N.below hb
    replace P := P.below hb
    replace V0 := V0.below hb
    replace hv := Nat.le_trans hv hb.size
    clear hb
    generalize hjx0 : w4.heap.size = jr0 at *
    clear hjx0
    obtain ⟨n0_, n1_, n2_, n3_, n4_, n5_, n6_⟩ := id N
    go_wp2_with fail
    refine (toPlan_any s g p m d PM _ hpn (HP.out.below (B))).mono ?_
    rintro e w6 ⟨rfl, RP, hb⟩
    clear n0_ n1_ n2_ n3_ n4_ n5_ n6_
    have op_0 : w.heap.size < w5.heap.size := N.1
    have op_1 : w.heap.size + 1 < w5.heap.size := P.1
    have op_2 : jr0 < w5.heap.size := RX0.lt
    have op_v : j5 ≤ w5.heap.size := hv
    replace B := B.trans (hb.mono B.size)
    replace N := N.below hb
    replace P := P.below hb
    replace V0 := V0.below hb
    replace hv := Nat.le_trans hv hb.size
    replace RX0 := RowF.below' hb RX0
    clear hb
    generalize hjp : w5.heap.size = jp at *
    clear hjp
    generalize hjx : jp + 3 = jx at *
    have hpx : jp < jx := by omega
    clear hjx
    have hb := Below.nw w6 (.cells #[.int .i64 s, .int .i64 g, .slice (some ⟨jx, 0, none⟩) m m] 42)
    have X := Tx3.new w6 (.int .i64 s) (.int .i64 g) (.slice (some ⟨jx, 0, none⟩) m m) 42
    go_upto_region 14 with fail
    have ok_0 : w.heap.size < w6.heap.size := N.1
    have ok_1 : w.heap.size + 1 < w6.heap.size := P.1
    have ok_2 : jr0 < w6.heap.size := RX0.lt
    have ok_3 : jx < w6.heap.size := RP.lt
    have ok_v : j5 ≤ w6.heap.size := hv
    replace B := B.trans (hb.mono B.size)
    replace N := N.below hb
    replace P := P.below hb
    replace V0 := V0.below hb
    replace hv := Nat.le_trans hv hb.size
    replace RX0 := RowF.below' hb RX0
    replace RP := RowF.below' hb RP
    clear hb
    generalize w6.alloc (.cells #[.int .i64 s, .int .i64 g, .slice (some ⟨jx, 0, none⟩) m m] 42) = w7 at *
    generalize hkx : w6.heap.size = kx at *
    clear hkx
    go_upto_region 14 with fail
    have SK : Hid (∀ w', Below w7.heap.size w7 w' → (fun w' => w'.cell? ⟨w.heap.size, 0, none⟩ = some (.int .i64 s) ∧ w'.cell? ⟨w.heap.size, 1, none⟩ = some (.int .i64 g) ∧ w'.cell? ⟨w.heap.size, 2, none⟩ = some (.slice p m d) ∧ w'.cell? ⟨w.heap.size + 1, 0, none⟩ = some (.int .i64 k) ∧ w'.cell? ⟨w.heap.size + 1, 1, none⟩ = some (.int .i64 fr) ∧ w'.cell? ⟨w.heap.size + 1, 2, none⟩ = some (.int .i64 tu) ∧ w'.cell? ⟨w.heap.size + 1, 3, none⟩ = some (.int .i64 no) ∧ w'.cell? ⟨w.heap.size + 1, 4, none⟩ = some (.int .i64 lo) ∧ w'.cell? ⟨w.heap.size + 1, 5, none⟩ = some (.int .i64 hi) ∧ w'.cell? ⟨w.heap.size + 1, 6, none⟩ = some (.int .i64 sl) ∧ w'.cell? ⟨w.heap.size + 1, 7, none⟩ = some (.string bo) ∧ w'.cell? ⟨kx, 0, none⟩ = some (.int .i64 s) ∧ w'.cell? ⟨kx, 1, none⟩ = some (.int .i64 g) ∧ w'.cell? ⟨kx, 2, none⟩ = some (.slice (some ⟨jx, 0, none⟩) m m)) w') := fun w' hw => ⟨(N.below hw).2.1, (N.below hw).2.2.1, (N.below hw).2.2.2.1, (P.below hw).2.1, (P.below hw).2.2.1, (P.below hw).2.2.2.1, (P.below hw).2.2.2.2.1, (P.below hw).2.2.2.2.2.1, (P.below hw).2.2.2.2.2.2.1, (P.below hw).2.2.2.2.2.2.2.1, (P.below hw).2.2.2.2.2.2.2.2, (X.below hw).2.1, (X.below hw).2.2.1, (X.below hw).2.2.2.1⟩
    go_cut [14, 15] (fun s1 s2 wx => ∃ (sa : Option Addr) (sc : Nat), s1 = .slice sa L0.length sc ∧ s2 = .int .i64 C1 ∧ wx.ownsRow w7.heap.size 54 2 (.slice sa L0.length sc) L0.length (vrow L0) ∧ Below w7.heap.size w7 wx)
    case first => as_aux_lemma =>
      refine wp_region_held_drew (S := (fun w' => w'.cell? ⟨w.heap.size, 0, none⟩ = some (.int .i64 s) ∧ w'.cell? ⟨w.heap.size, 1, none⟩ = some (.int .i64 g) ∧ w'.cell? ⟨w.heap.size, 2, none⟩ = some (.slice p m d) ∧ w'.cell? ⟨w.heap.size + 1, 0, none⟩ = some (.int .i64 k) ∧ w'.cell? ⟨w.heap.size + 1, 1, none⟩ = some (.int .i64 fr) ∧ w'.cell? ⟨w.heap.size + 1, 2, none⟩ = some (.int .i64 tu) ∧ w'.cell? ⟨w.heap.size + 1, 3, none⟩ = some (.int .i64 no) ∧ w'.cell? ⟨w.heap.size + 1, 4, none⟩ = some (.int .i64 lo) ∧ w'.cell? ⟨w.heap.size + 1, 5, none⟩ = some (.int .i64 hi) ∧ w'.cell? ⟨w.heap.size + 1, 6, none⟩ = some (.int .i64 sl) ∧ w'.cell? ⟨w.heap.size + 1, 7, none⟩ = some (.string bo) ∧ w'.cell? ⟨kx, 0, none⟩ = some (.int .i64 s) ∧ w'.cell? ⟨kx, 1, none⟩ = some (.int .i64 g) ∧ w'.cell? ⟨kx, 2, none⟩ = some (.slice (some ⟨jx, 0, none⟩) m m))) (by kernel_rfl) ?_ (fun hHeld => ?_)
      · first | exact SK.out _ XB | exact SK.out _ (Below.drew (Below.refl _ _))
      have XB : Below w7.heap.size w7 w7.drew := Below.drew (Below.refl _ _)
      generalize w7.drew = vx at *
      refine wpAnyH_take (i := 0) (v := ?_) (by rw [List.getElem?_toArray]; rfl) (by kernel_rfl) (by kernel_rfl) (by kernel_rfl) (by intro _ _ _ h; exact h) (Or.inl ⟨by rfl, ?_⟩) (by assumption) ?_
      rotate_left
      · (intro w hSw; (try dsimp only at hSw); go_simp; all_goals with_reducible rfl)
      (try simp only [Act.put, List.setIfInBounds_toArray, List.set_cons_zero, List.set_cons_succ])
      refine wpAnyH_take (i := 1) (v := ?_) (by rw [List.getElem?_toArray]; rfl) (by kernel_rfl) (by kernel_rfl) (by kernel_rfl) (by intro _ _ _ h; exact h) (Or.inl ⟨by rfl, ?_⟩) (by assumption) ?_
      rotate_left
      · (intro w hSw; (try dsimp only at hSw); go_simp; all_goals with_reducible rfl)
      (try simp only [Act.put, List.setIfInBounds_toArray, List.set_cons_zero, List.set_cons_succ])
      refine wpAnyH_take (i := 2) (v := ?_) (by rw [List.getElem?_toArray]; rfl) (by kernel_rfl) (by kernel_rfl) (by kernel_rfl) (by intro _ _ _ h; exact h) (Or.inl ⟨by rfl, ?_⟩) (by assumption) ?_
      rotate_left
      · (intro w hSw; (try dsimp only at hSw); go_simp; all_goals with_reducible rfl)
      (try simp only [Act.put, List.setIfInBounds_toArray, List.set_cons_zero, List.set_cons_succ])
      refine wpAnyH_take (i := 4) (v := ?_) (by rw [List.getElem?_toArray]; rfl) (by kernel_rfl) (by kernel_rfl) (by kernel_rfl) (by intro _ _ _ h; exact h) (Or.inl ⟨by rfl, ?_⟩) (by assumption) ?_
      rotate_left
      · (intro w hSw; (try dsimp only at hSw); go_simp; all_goals with_reducible rfl)
      (try simp only [Act.put, List.setIfInBounds_toArray, List.set_cons_zero, List.set_cons_succ])
      refine wpAnyH_ready (rs := [3]) (by kernel_rfl) (by simp) ?_
      refine AllReadyH.cons (by rw [List.getElem?_toArray]; rfl) (fun K hK => ?_) AllReadyH.nil
      go_simp
      refine (toMsg_any k fr tu no lo hi sl bo vx).mono ?_; rintro ee vy ⟨rfl, hbl⟩; (replace XB := XB.trans (hbl.mono XB.size)); (clear hbl); (generalize hvv : vy = vx at *); (clear hvv)
      (try go_wp2_with fail)
      refine hK.out _ _ ?_ (fun hHeld => ?_)
      · first | exact SK.out _ XB | exact SK.out _ (Below.drew (Below.refl _ _))
      clear hK K
      (try simp only [Act.put, List.setIfInBounds_toArray, List.set_cons_zero, List.set_cons_succ])
      refine wpAnyH_ready (rs := [5]) (by kernel_rfl) (by simp) ?_
      refine AllReadyH.cons (by rw [List.getElem?_toArray]; rfl) (fun K hK => ?_) AllReadyH.nil
      go_simp
      refine (CI vx _ (.inr ⟨_, _, rfl, (RowF.below' XB RX0).cs (Nat.le_refl _)⟩) ⟨_, _, rfl⟩ _ (.inr ⟨_, _, rfl, (RowF.below' XB RP).cs (Nat.le_refl _)⟩)).mono ?_; (have hvx := XB.size); rintro ee vz ⟨vr, rfl, OWr, hbl⟩; (replace XB := XB.trans (hbl.mono XB.size)); (clear hbl)
      (try go_wp2_with fail)
      refine hK.out _ _ ?_ (fun hHeld => ?_)
      · first | exact SK.out _ XB | exact SK.out _ (Below.drew (Below.refl _ _))
      clear hK K
      (try simp only [Act.put, List.setIfInBounds_toArray, List.set_cons_zero, List.set_cons_succ])
      refine wpAnyH_take (i := 6) (v := ?_) (by rw [List.getElem?_toArray]; rfl) (by kernel_rfl) (by kernel_rfl) (by kernel_rfl) (by intro _ _ _ h; exact h) (Or.inl ⟨by rfl, ?_⟩) (by assumption) ?_
      rotate_left
      · (intro w hSw; (try dsimp only at hSw); go_simp; all_goals with_reducible rfl)
      (try simp only [Act.put, List.setIfInBounds_toArray, List.set_cons_zero, List.set_cons_succ])
      refine wpAnyH_take (i := 7) (v := ?_) (by rw [List.getElem?_toArray]; rfl) (by kernel_rfl) (by kernel_rfl) (by kernel_rfl) (by intro _ _ _ h; exact h) (Or.inl ⟨by rfl, ?_⟩) (by assumption) ?_
      rotate_left
      · (intro w hSw; (try dsimp only at hSw); go_simp; all_goals with_reducible rfl)
      (try simp only [Act.put, List.setIfInBounds_toArray, List.set_cons_zero, List.set_cons_succ])
      refine wpAnyH_take (i := 8) (v := ?_) (by rw [List.getElem?_toArray]; rfl) (by kernel_rfl) (by kernel_rfl) (by kernel_rfl) (by intro _ _ _ h; exact h) (Or.inl ⟨by rfl, ?_⟩) (by assumption) ?_
      rotate_left
      · (intro w hSw; (try dsimp only at hSw); go_simp; all_goals with_reducible rfl)
      (try simp only [Act.put, List.setIfInBounds_toArray, List.set_cons_zero, List.set_cons_succ])
      refine wpAnyH_take (i := 9) (v := ?_) (by rw [List.getElem?_toArray]; rfl) (by kernel_rfl) (by kernel_rfl) (by kernel_rfl) (by intro _ _ _ h; exact h) (Or.inl ⟨by rfl, ?_⟩) (by assumption) ?_
      rotate_left
      · (intro w hSw; (try dsimp only at hSw); go_simp; all_goals with_reducible rfl)
      (try simp only [Act.put, List.setIfInBounds_toArray, List.set_cons_zero, List.set_cons_succ])
      refine wpAnyH_take (i := 10) (v := ?_) (by rw [List.getElem?_toArray]; rfl) (by kernel_rfl) (by kernel_rfl) (by kernel_rfl) (by intro _ _ _ h; exact h) (Or.inl ⟨by rfl, ?_⟩) (by assumption) ?_
      rotate_left
      · (intro w hSw; (try dsimp only at hSw); go_simp; all_goals with_reducible rfl)
      (try simp only [Act.put, List.setIfInBounds_toArray, List.set_cons_zero, List.set_cons_succ])
      refine wpAnyH_done (by kernel_rfl) ?_ _
      obtain ⟨sa, sc, rfl, _, _, _⟩ := ownF_src OWr
      have OW9 := own_baseI16 OWr hvx
      go_wp2_with fail
      go_meet
      case rel => exact ⟨sa, sc, rfl, rfl, OW9, XB⟩
    case rest =>
      obtain ⟨sa, sc, rfl, rfl, OWr, hb⟩ := hcut
      clear SK
      generalize wc = w8 at *
      have og_0 : w.heap.size < w7.heap.size := N.1
      have og_1 : w.heap.size + 1 < w7.heap.size := P.1
      have og_2 : jr0 < w7.heap.size := RX0.lt
      have og_3 : jx < w7.heap.size := RP.lt
      have og_4 : kx < w7.heap.size := X.1
      have og_v : j5 ≤ w7.heap.size := hv
      replace B := B.trans (hb.mono B.size)
      replace N := N.below hb
      replace P := P.below hb
      replace V0 := V0.below hb
      replace hv := Nat.le_trans hv hb.size
      replace RX0 := RowF.below' hb RX0
      replace RP := RowF.below' hb RP
      replace X := X.below hb
      clear hb
      have G0 := OWr
      clear OWr
      have RG0 : Hid (∀ q, (Value.slice sa L0.length sc).ownBlock = some q → w7.heap.size ≤ q ∧ q < w8.heap.size) := fun q hq => World.ownsRow.lt G0 q hq
      generalize hj8 : w7.heap.size = j8 at *
      clear hj8
      generalize sa = ga0 at *
      generalize sc = gc0 at *
      go_wp2_with fail
      refine (eqHeardS_src _ _ _ _ _ (gV L0) _ hmL (ownS G0) V0.src).mono ?_
      rintro e w9 ⟨rfl, hb⟩
      replace B := B.trans (hb.mono B.size)
      replace N := N.below hb
      replace P := P.below hb
      replace V0 := V0.below hb
      replace hv := Nat.le_trans hv hb.size
      replace RX0 := RowF.below' hb RX0
      replace RP := RowF.below' hb RP
      replace X := X.below hb
      replace G0 := own_belK' G0 hb
      clear hb
      go_wp2_with fail
      refine (toHeardS_any a0 n0 c0 M0 _ hn0 (HA0.out.below (B))).mono ?_
      rintro e w10 ⟨rfl, R9, hb⟩
      replace B := B.trans (hb.mono B.size)
      replace N := N.below hb
      replace P := P.below hb
      replace V0 := V0.below hb
      replace hv := Nat.le_trans hv hb.size
      replace RX0 := RowF.below' hb RX0
      replace RP := RowF.below' hb RP
      replace X := X.below hb
      replace G0 := own_belK' G0 hb
      clear hb
      go_wp2_with fail
      refine (eqHeardS_src _ _ _ _ _ M0 _ hm0 (.inr ⟨_, _, rfl, RX0.cs (Nat.le_refl _)⟩) (.inr ⟨_, _, rfl, R9.cs (Nat.le_refl _)⟩)).mono ?_
      rintro e w11 ⟨rfl, hb⟩
      replace B := B.trans (hb.mono B.size)
      replace N := N.below hb
      replace P := P.below hb
      replace V0 := V0.below hb
      replace hv := Nat.le_trans hv hb.size
      replace RX0 := RowF.below' hb RX0
      replace RP := RowF.below' hb RP
      replace X := X.below hb
      replace G0 := own_belK' G0 hb
      clear hb
      clear R9
      go_upto_region 19 with fail
      have SK : Hid (∀ w', Below w11.heap.size w11 w' → (fun w' => w'.cell? ⟨w.heap.size, 0, none⟩ = some (.int .i64 s) ∧ w'.cell? ⟨w.heap.size, 1, none⟩ = some (.int .i64 g) ∧ w'.cell? ⟨w.heap.size, 2, none⟩ = some (.slice p m d) ∧ w'.cell? ⟨w.heap.size + 1, 0, none⟩ = some (.int .i64 k) ∧ w'.cell? ⟨w.heap.size + 1, 1, none⟩ = some (.int .i64 fr) ∧ w'.cell? ⟨w.heap.size + 1, 2, none⟩ = some (.int .i64 tu) ∧ w'.cell? ⟨w.heap.size + 1, 3, none⟩ = some (.int .i64 no) ∧ w'.cell? ⟨w.heap.size + 1, 4, none⟩ = some (.int .i64 lo) ∧ w'.cell? ⟨w.heap.size + 1, 5, none⟩ = some (.int .i64 hi) ∧ w'.cell? ⟨w.heap.size + 1, 6, none⟩ = some (.int .i64 sl) ∧ w'.cell? ⟨w.heap.size + 1, 7, none⟩ = some (.string bo) ∧ w'.cell? ⟨kx, 0, none⟩ = some (.int .i64 s) ∧ w'.cell? ⟨kx, 1, none⟩ = some (.int .i64 g) ∧ w'.cell? ⟨kx, 2, none⟩ = some (.slice (some ⟨jx, 0, none⟩) m m)) w') := fun w' hw => ⟨(N.below hw).2.1, (N.below hw).2.2.1, (N.below hw).2.2.2.1, (P.below hw).2.1, (P.below hw).2.2.1, (P.below hw).2.2.2.1, (P.below hw).2.2.2.2.1, (P.below hw).2.2.2.2.2.1, (P.below hw).2.2.2.2.2.2.1, (P.below hw).2.2.2.2.2.2.2.1, (P.below hw).2.2.2.2.2.2.2.2, (X.below hw).2.1, (X.below hw).2.2.1, (X.below hw).2.2.2.1⟩
      go_cut [78] (fun s1 wx => s1 = .bool false ∧ Below w11.heap.size w11 wx)
      case first => as_aux_lemma =>
        refine wp_region_held_drew (S := (fun w' => w'.cell? ⟨w.heap.size, 0, none⟩ = some (.int .i64 s) ∧ w'.cell? ⟨w.heap.size, 1, none⟩ = some (.int .i64 g) ∧ w'.cell? ⟨w.heap.size, 2, none⟩ = some (.slice p m d) ∧ w'.cell? ⟨w.heap.size + 1, 0, none⟩ = some (.int .i64 k) ∧ w'.cell? ⟨w.heap.size + 1, 1, none⟩ = some (.int .i64 fr) ∧ w'.cell? ⟨w.heap.size + 1, 2, none⟩ = some (.int .i64 tu) ∧ w'.cell? ⟨w.heap.size + 1, 3, none⟩ = some (.int .i64 no) ∧ w'.cell? ⟨w.heap.size + 1, 4, none⟩ = some (.int .i64 lo) ∧ w'.cell? ⟨w.heap.size + 1, 5, none⟩ = some (.int .i64 hi) ∧ w'.cell? ⟨w.heap.size + 1, 6, none⟩ = some (.int .i64 sl) ∧ w'.cell? ⟨w.heap.size + 1, 7, none⟩ = some (.string bo) ∧ w'.cell? ⟨kx, 0, none⟩ = some (.int .i64 s) ∧ w'.cell? ⟨kx, 1, none⟩ = some (.int .i64 g) ∧ w'.cell? ⟨kx, 2, none⟩ = some (.slice (some ⟨jx, 0, none⟩) m m))) (by kernel_rfl) ?_ (fun hHeld => ?_)
        · first | exact SK.out _ XB | exact SK.out _ (Below.drew (Below.refl _ _))
        have XB : Below w11.heap.size w11 w11.drew := Below.drew (Below.refl _ _)
        generalize w11.drew = vx at *
        refine wpAnyH_take (i := 0) (v := ?_) (by rw [List.getElem?_toArray]; rfl) (by kernel_rfl) (by kernel_rfl) (by kernel_rfl) (by intro _ _ _ h; exact h) (Or.inl ⟨by rfl, ?_⟩) (by assumption) ?_
        rotate_left
        · (intro w hSw; (try dsimp only at hSw); go_simp; all_goals with_reducible rfl)
        (try simp only [Act.put, List.setIfInBounds_toArray, List.set_cons_zero, List.set_cons_succ])
        refine wpAnyH_take (i := 1) (v := ?_) (by rw [List.getElem?_toArray]; rfl) (by kernel_rfl) (by kernel_rfl) (by kernel_rfl) (by intro _ _ _ h; exact h) (Or.inl ⟨by rfl, ?_⟩) (by assumption) ?_
        rotate_left
        · (intro w hSw; (try dsimp only at hSw); go_simp; all_goals with_reducible rfl)
        (try simp only [Act.put, List.setIfInBounds_toArray, List.set_cons_zero, List.set_cons_succ])
        refine wpAnyH_ready (rs := [2]) (by kernel_rfl) (by simp) ?_
        refine AllReadyH.cons (by rw [List.getElem?_toArray]; rfl) (fun K hK => ?_) AllReadyH.nil
        go_simp
        refine (toPlan_any s g p m d PM vx hpn (HP.out.below (B.trans (XB.mono B.size)))).mono ?_; rintro ee vy ⟨rfl, RQ, hbl⟩; (replace XB := XB.trans (hbl.mono XB.size)); (clear hbl); (generalize vx.heap.size + 3 = jyp at *); (generalize hvv : vy = vx at *); (clear hvv)
        (try go_wp2_with fail)
        refine hK.out _ _ ?_ (fun hHeld => ?_)
        · first | exact SK.out _ XB | exact SK.out _ (Below.drew (Below.refl _ _))
        clear hK K
        (try simp only [Act.put, List.setIfInBounds_toArray, List.set_cons_zero, List.set_cons_succ])
        refine wpAnyH_ready (rs := [3]) (by kernel_rfl) (by simp) ?_
        refine AllReadyH.cons (by rw [List.getElem?_toArray]; rfl) (fun K hK => ?_) AllReadyH.nil
        go_simp
        refine (eqPlan_same s g (some ⟨jx, 0, none⟩) (some ⟨jyp, 0, none⟩) m m m PM vx hpm (.inr ⟨_, _, rfl, (RowF.below' XB RP).cs (Nat.le_refl _)⟩) (.inr ⟨_, _, rfl, RQ.cs (Nat.le_refl _)⟩)).mono ?_; rintro ee vz ⟨rfl, hbl⟩; (replace XB := XB.trans (hbl.mono XB.size)); (clear hbl)
        (try go_wp2_with fail)
        refine hK.out _ _ ?_ (fun hHeld => ?_)
        · first | exact SK.out _ XB | exact SK.out _ (Below.drew (Below.refl _ _))
        clear hK K
        (try simp only [Act.put, List.setIfInBounds_toArray, List.set_cons_zero, List.set_cons_succ])
        refine wpAnyH_take (i := 4) (v := ?_) (by rw [List.getElem?_toArray]; rfl) (by kernel_rfl) (by kernel_rfl) (by kernel_rfl) (by intro _ _ _ h; exact h) (Or.inl ⟨by rfl, ?_⟩) (by assumption) ?_
        rotate_left
        · (intro w hSw; (try dsimp only at hSw); go_simp; all_goals with_reducible rfl)
        (try simp only [Act.put, List.setIfInBounds_toArray, List.set_cons_zero, List.set_cons_succ])
        refine wpAnyH_done (by kernel_rfl) ?_ _
        go_wp2_with fail
        go_meet
        case rel => exact ⟨rfl, XB⟩
      case rest =>
        obtain ⟨rfl, hb⟩ := hcut
        clear SK
        generalize wc = w12 at *
        replace B := B.trans (hb.mono B.size)
        replace N := N.below hb
        replace P := P.below hb
        replace V0 := V0.below hb
        replace hv := Nat.le_trans hv hb.size
        replace RX0 := RowF.below' hb RX0
        replace RP := RowF.below' hb RP
        replace X := X.below hb
        replace G0 := own_belK' G0 hb
        clear hb
        go_wp2_with fail
        refine (markHeardS_row jr0 (n0 * 2) n0 n0 (1) _ hn0 (by omega) (by omega) (Nat.le_refl _) (RX0.zero _)).mono ?_
        rintro e w13 ⟨rfl, _, hb⟩
        replace B := B.trans (hb.below (B := w.heap.size) (by omega) B.size)
        replace N := N.kept hb.grK (fun e => by (have e' := Option.some.inj e); omega)
        replace P := P.kept hb.grK (fun e => by (have e' := Option.some.inj e); omega)
        replace V0 := V0.kept hb.grK (fun b h e => by (have e' := Option.some.inj e); omega)
        replace RP := rowF_but RP hb (by omega)
        replace X := X.kept hb.grK (fun e => by (have e' := Option.some.inj e); omega)
        replace G0 := own_butK G0 hb (by omega)
        clear hb
        clear RX0
        obtain ⟨x0_, x1_, x2_, x3_, x4_, x5_, x6_⟩ := id X
        go_wp2_with fail
        refine (markPlan_rowQ s g jx (m * 2) m m (1 + (n0 : Int) * 2) _ hpn (by omega) (by omega) (Nat.le_refl _) (RP.zero _)).mono ?_
        rintro e w14 ⟨rfl, _, hb⟩
        clear x0_ x1_ x2_ x3_ x4_ x5_ x6_
        replace B := B.trans (hb.below (B := w.heap.size) (by omega) B.size)
        replace N := N.kept hb.grK (fun e => by (have e' := Option.some.inj e); omega)
        replace P := P.kept hb.grK (fun e => by (have e' := Option.some.inj e); omega)
        replace V0 := V0.kept hb.grK (fun b h e => by (have e' := Option.some.inj e); omega)
        replace G0 := own_butK G0 hb (by omega)
        clear hb
        clear RP X
        have hk1 : ¬ (1 + (n0 : Int) * 2 + (m : Int) * 2 < 0) := by omega
        clear hv
        have hv : 0 ≤ 0 := Nat.le_refl _
        clear hv
        go_wp2_with fail
        refine (eqHeardS_src _ _ _ _ _ (gV L0) _ hmL (ownS G0) V0.src).mono ?_
        rintro e w15 ⟨rfl, hb⟩
        replace B := B.trans (hb.mono B.size)
        replace N := N.below hb
        replace P := P.below hb
        replace V0 := V0.below hb
        replace G0 := own_belK' G0 hb
        clear hb
        go_wp2_with fail
        refine (markHeardS_own _ _ _ _ 1 _ _ hnL (by omega) (by omega) G0).mono ?_
        rintro e w16 ⟨rfl, HM0, hb⟩
        replace B := B.trans (grown_bel hb B.size (fun b h e => by have := RG0.out _ e.symm; omega))
        replace N := N.kept hb (fun e => by have := RG0.out _ e.symm; omega)
        replace P := P.kept hb (fun e => by have := RG0.out _ e.symm; omega)
        replace V0 := V0.kept hb (fun b h e => by have := RG0.out _ e.symm; omega)
        have HK0 : Hid (SrcC w16 ga0 (L0.length * 2) (mkIval 1)) := HM0
        clear hb HM0 G0
        go_wp2_with fail
        refine (heldHeardS_any _ _ _ 1 _ hnL (by omega) (by omega) HK0.out).mono ?_
        rintro e w' ⟨rfl, rfl⟩
        go_upto_region 34 with fail
        have SK : Hid (∀ w', Below w16.heap.size w16 w' → (fun w' => w'.cell? ⟨w.heap.size, 0, none⟩ = some (.int .i64 s) ∧ w'.cell? ⟨w.heap.size, 1, none⟩ = some (.int .i64 g) ∧ w'.cell? ⟨w.heap.size, 2, none⟩ = some (.slice p m d) ∧ w'.cell? ⟨w.heap.size + 1, 0, none⟩ = some (.int .i64 k) ∧ w'.cell? ⟨w.heap.size + 1, 1, none⟩ = some (.int .i64 fr) ∧ w'.cell? ⟨w.heap.size + 1, 2, none⟩ = some (.int .i64 tu) ∧ w'.cell? ⟨w.heap.size + 1, 3, none⟩ = some (.int .i64 no) ∧ w'.cell? ⟨w.heap.size + 1, 4, none⟩ = some (.int .i64 lo) ∧ w'.cell? ⟨w.heap.size + 1, 5, none⟩ = some (.int .i64 hi) ∧ w'.cell? ⟨w.heap.size + 1, 6, none⟩ = some (.int .i64 sl) ∧ w'.cell? ⟨w.heap.size + 1, 7, none⟩ = some (.string bo)) w') := fun w' hw => ⟨(N.below hw).2.1, (N.below hw).2.2.1, (N.below hw).2.2.2.1, (P.below hw).2.1, (P.below hw).2.2.1, (P.below hw).2.2.2.1, (P.below hw).2.2.2.2.1, (P.below hw).2.2.2.2.2.1, (P.below hw).2.2.2.2.2.2.1, (P.below hw).2.2.2.2.2.2.2.1, (P.below hw).2.2.2.2.2.2.2.2⟩
        go_cut [19, 20] (fun s1 s2 wx => ∃ (sa : Option Addr) (sc : Nat), s1 = .slice sa L0.length sc ∧ s2 = .int .i64 C1 ∧ wx.ownsRow w16.heap.size 54 2 (.slice sa L0.length sc) L0.length (vrow L0) ∧ Below w16.heap.size w16 wx)
        case first => as_aux_lemma =>
          refine wp_region_held_drew (S := (fun w' => w'.cell? ⟨w.heap.size, 0, none⟩ = some (.int .i64 s) ∧ w'.cell? ⟨w.heap.size, 1, none⟩ = some (.int .i64 g) ∧ w'.cell? ⟨w.heap.size, 2, none⟩ = some (.slice p m d) ∧ w'.cell? ⟨w.heap.size + 1, 0, none⟩ = some (.int .i64 k) ∧ w'.cell? ⟨w.heap.size + 1, 1, none⟩ = some (.int .i64 fr) ∧ w'.cell? ⟨w.heap.size + 1, 2, none⟩ = some (.int .i64 tu) ∧ w'.cell? ⟨w.heap.size + 1, 3, none⟩ = some (.int .i64 no) ∧ w'.cell? ⟨w.heap.size + 1, 4, none⟩ = some (.int .i64 lo) ∧ w'.cell? ⟨w.heap.size + 1, 5, none⟩ = some (.int .i64 hi) ∧ w'.cell? ⟨w.heap.size + 1, 6, none⟩ = some (.int .i64 sl) ∧ w'.cell? ⟨w.heap.size + 1, 7, none⟩ = some (.string bo))) (by kernel_rfl) ?_ (fun hHeld => ?_)
          · first | exact SK.out _ XB | exact SK.out _ (Below.drew (Below.refl _ _))
          have XB : Below w16.heap.size w16 w16.drew := Below.drew (Below.refl _ _)
          generalize w16.drew = vx at *
          refine wpAnyH_take (i := 0) (v := ?_) (by rw [List.getElem?_toArray]; rfl) (by kernel_rfl) (by kernel_rfl) (by kernel_rfl) (by intro _ _ _ h; exact h) (Or.inl ⟨by rfl, ?_⟩) (by assumption) ?_
          rotate_left
          · (intro w hSw; (try dsimp only at hSw); go_simp; all_goals with_reducible rfl)
          (try simp only [Act.put, List.setIfInBounds_toArray, List.set_cons_zero, List.set_cons_succ])
          refine wpAnyH_take (i := 2) (v := ?_) (by rw [List.getElem?_toArray]; rfl) (by kernel_rfl) (by kernel_rfl) (by kernel_rfl) (by intro _ _ _ h; exact h) (Or.inl ⟨by rfl, ?_⟩) (by assumption) ?_
          rotate_left
          · (intro w hSw; (try dsimp only at hSw); go_simp; all_goals with_reducible rfl)
          (try simp only [Act.put, List.setIfInBounds_toArray, List.set_cons_zero, List.set_cons_succ])
          refine wpAnyH_take (i := 4) (v := ?_) (by rw [List.getElem?_toArray]; rfl) (by kernel_rfl) (by kernel_rfl) (by kernel_rfl) (by intro _ _ _ h; exact h) (Or.inl ⟨by rfl, ?_⟩) (by assumption) ?_
          rotate_left
          · (intro w hSw; (try dsimp only at hSw); go_simp; all_goals with_reducible rfl)
          (try simp only [Act.put, List.setIfInBounds_toArray, List.set_cons_zero, List.set_cons_succ])
          refine wpAnyH_take (i := 6) (v := ?_) (by rw [List.getElem?_toArray]; rfl) (by kernel_rfl) (by kernel_rfl) (by kernel_rfl) (by intro _ _ _ h; exact h) (Or.inl ⟨by rfl, ?_⟩) (by assumption) ?_
          rotate_left
          · (intro w hSw; (try dsimp only at hSw); go_simp; all_goals with_reducible rfl)
          (try simp only [Act.put, List.setIfInBounds_toArray, List.set_cons_zero, List.set_cons_succ])
          refine wpAnyH_ready (rs := [1]) (by kernel_rfl) (by simp) ?_
          refine AllReadyH.cons (by rw [List.getElem?_toArray]; rfl) (fun K hK => ?_) AllReadyH.nil
          go_simp
          refine (toHeardS_any a0 n0 c0 M0 vx hn0 (HA0.out.below (B.trans (XB.mono B.size)))).mono ?_; rintro ee vy ⟨rfl, RY0, hbl⟩; (replace XB := XB.trans (hbl.mono XB.size)); (clear hbl); (generalize vx.heap.size = jy0 at *); (generalize hvv : vy = vx at *); (clear hvv)
          (try go_wp2_with fail)
          refine hK.out _ _ ?_ (fun hHeld => ?_)
          · first | exact SK.out _ XB | exact SK.out _ (Below.drew (Below.refl _ _))
          clear hK K
          (try simp only [Act.put, List.setIfInBounds_toArray, List.set_cons_zero, List.set_cons_succ])
          refine wpAnyH_ready (rs := [3]) (by kernel_rfl) (by simp) ?_
          refine AllReadyH.cons (by rw [List.getElem?_toArray]; rfl) (fun K hK => ?_) AllReadyH.nil
          go_simp
          refine (toPlan_any s g p m d PM vx hpn (HP.out.below (B.trans (XB.mono B.size)))).mono ?_; rintro ee vy ⟨rfl, RQ, hbl⟩; (replace XB := XB.trans (hbl.mono XB.size)); (replace RY0 := RowF.below' hbl RY0); (clear hbl); (generalize vx.heap.size + 3 = jyp at *); (generalize hvv : vy = vx at *); (clear hvv)
          (try go_wp2_with fail)
          refine hK.out _ _ ?_ (fun hHeld => ?_)
          · first | exact SK.out _ XB | exact SK.out _ (Below.drew (Below.refl _ _))
          clear hK K
          (try simp only [Act.put, List.setIfInBounds_toArray, List.set_cons_zero, List.set_cons_succ])
          refine wpAnyH_ready (rs := [5]) (by kernel_rfl) (by simp) ?_
          refine AllReadyH.cons (by rw [List.getElem?_toArray]; rfl) (fun K hK => ?_) AllReadyH.nil
          go_simp
          refine (toMsg_any k fr tu no lo hi sl bo vx).mono ?_; rintro ee vy ⟨rfl, hbl⟩; (replace XB := XB.trans (hbl.mono XB.size)); (replace RY0 := RowF.below' hbl RY0); (replace RQ := RowF.below' hbl RQ); (clear hbl); (generalize hvv : vy = vx at *); (clear hvv)
          (try go_wp2_with fail)
          refine hK.out _ _ ?_ (fun hHeld => ?_)
          · first | exact SK.out _ XB | exact SK.out _ (Below.drew (Below.refl _ _))
          clear hK K
          (try simp only [Act.put, List.setIfInBounds_toArray, List.set_cons_zero, List.set_cons_succ])
          refine wpAnyH_ready (rs := [7]) (by kernel_rfl) (by simp) ?_
          refine AllReadyH.cons (by rw [List.getElem?_toArray]; rfl) (fun K hK => ?_) AllReadyH.nil
          go_simp
          refine (CI vx _ (.inr ⟨_, _, rfl, RY0.cs (Nat.le_refl _)⟩) ⟨_, _, rfl⟩ _ (.inr ⟨_, _, rfl, RQ.cs (Nat.le_refl _)⟩)).mono ?_; (have hvx := XB.size); rintro ee vz ⟨vr, rfl, OWr, hbl⟩; (replace XB := XB.trans (hbl.mono XB.size)); (clear hbl)
          (try go_wp2_with fail)
          refine hK.out _ _ ?_ (fun hHeld => ?_)
          · first | exact SK.out _ XB | exact SK.out _ (Below.drew (Below.refl _ _))
          clear hK K
          (try simp only [Act.put, List.setIfInBounds_toArray, List.set_cons_zero, List.set_cons_succ])
          refine wpAnyH_take (i := 8) (v := ?_) (by rw [List.getElem?_toArray]; rfl) (by kernel_rfl) (by kernel_rfl) (by kernel_rfl) (by intro _ _ _ h; exact h) (Or.inl ⟨by rfl, ?_⟩) (by assumption) ?_
          rotate_left
          · (intro w hSw; (try dsimp only at hSw); go_simp; all_goals with_reducible rfl)
          (try simp only [Act.put, List.setIfInBounds_toArray, List.set_cons_zero, List.set_cons_succ])
          refine wpAnyH_take (i := 9) (v := ?_) (by rw [List.getElem?_toArray]; rfl) (by kernel_rfl) (by kernel_rfl) (by kernel_rfl) (by intro _ _ _ h; exact h) (Or.inl ⟨by rfl, ?_⟩) (by assumption) ?_
          rotate_left
          · (intro w hSw; (try dsimp only at hSw); go_simp; all_goals with_reducible rfl)
          (try simp only [Act.put, List.setIfInBounds_toArray, List.set_cons_zero, List.set_cons_succ])
          refine wpAnyH_take (i := 10) (v := ?_) (by rw [List.getElem?_toArray]; rfl) (by kernel_rfl) (by kernel_rfl) (by kernel_rfl) (by intro _ _ _ h; exact h) (Or.inl ⟨by rfl, ?_⟩) (by assumption) ?_
          rotate_left
          · (intro w hSw; (try dsimp only at hSw); go_simp; all_goals with_reducible rfl)
          (try simp only [Act.put, List.setIfInBounds_toArray, List.set_cons_zero, List.set_cons_succ])
          refine wpAnyH_take (i := 11) (v := ?_) (by rw [List.getElem?_toArray]; rfl) (by kernel_rfl) (by kernel_rfl) (by kernel_rfl) (by intro _ _ _ h; exact h) (Or.inl ⟨by rfl, ?_⟩) (by assumption) ?_
          rotate_left
          · (intro w hSw; (try dsimp only at hSw); go_simp; all_goals with_reducible rfl)
          (try simp only [Act.put, List.setIfInBounds_toArray, List.set_cons_zero, List.set_cons_succ])
          refine wpAnyH_take (i := 12) (v := ?_) (by rw [List.getElem?_toArray]; rfl) (by kernel_rfl) (by kernel_rfl) (by kernel_rfl) (by intro _ _ _ h; exact h) (Or.inl ⟨by rfl, ?_⟩) (by assumption) ?_
          rotate_left
          · (intro w hSw; (try dsimp only at hSw); go_simp; all_goals with_reducible rfl)
          (try simp only [Act.put, List.setIfInBounds_toArray, List.set_cons_zero, List.set_cons_succ])
          refine wpAnyH_done (by kernel_rfl) ?_ _
          obtain ⟨sa, sc, rfl, _, _, _⟩ := ownF_src OWr
          have OW9 := own_baseI16 OWr hvx
          go_wp2_with fail
          go_meet
          case rel => exact ⟨sa, sc, rfl, rfl, OW9, XB⟩
        case rest =>
          obtain ⟨sa, sc, rfl, rfl, OWr, hb⟩ := hcut
          clear SK
          generalize wc = w17 at *
          replace B := B.trans (hb.mono B.size)
          replace N := N.below hb
          replace P := P.below hb
          replace V0 := V0.below hb
          replace HK0 : Hid (SrcC _ ga0 (L0.length * 2) (mkIval 1)) := HK0.out.below hb
          clear hb
          have Q0 := ownS OWr
          clear OWr CS CI
          go_wp2_with fail
          refine (eqHeardS_src _ _ _ _ _ (gV L0) _ hmL Q0 V0.src).mono ?_
          rintro e w18 ⟨rfl, hb⟩
          replace B := B.trans (hb.mono B.size)
          replace N := N.below hb
          replace P := P.below hb
          replace V0 := V0.below hb
          replace HK0 : Hid (SrcC _ ga0 (L0.length * 2) (mkIval 1)) := HK0.out.below hb
          clear hb
          go_wp2_with fail
          refine (heldHeardS_any _ _ _ 1 _ hnL (by omega) (by omega) HK0.out).mono ?_
          rintro e w' ⟨rfl, rfl⟩
          go_wp2_with fail
          go_ret
          exact ⟨rfl, B⟩
end Go.Proofs.Ytdahabbdhjgpdaa
