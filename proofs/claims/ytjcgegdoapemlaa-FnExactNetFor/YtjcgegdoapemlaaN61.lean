/- The walk of the exact law of NetFor. -/
import Derived.Test.YtjcgegdoapemlaaN60
import Derived.Deep.RegionHeld3
import Derived.Deep.DeepCutAuto
import Derived.WalkKit
import Derived.WalkSpells
import Derived.WalkLawsBesides
import Derived.Deep.RegionHeld
namespace Go.Proofs.Ytjcgegdoapemlaa
open Go.RowKit
set_option linter.unusedVariables false
theorem own_butNe' {w w' : World} {base p : Nat} {e : TypeId} {size : Nat} {v : Value} {n : Nat} {xs : List Value} (h : w.ownsRow base e size v n xs) (hb : But p w w') (hp : ∀ g, v.ownBlock = some g → g ≠ p) : w'.ownsRow base e size v n xs :=
  h.kept hb.gr (by
    cases hv : v.ownBlock with
    | none => exact .inl rfl
    | some g => exact .inr (fun he => hp g hv (by simpa using he)))
theorem ownB_belowB2 {w w' : World} {B base : Nat} {e : TypeId} {size : Nat} {v : Value} {n : Nat} {xs : List Value} (h : w.ownsRow base e size v n xs) (hb : Below B w w') (hlt : ∀ g, v.ownBlock = some g → g < B) : w'.ownsRow base e size v n xs := by
  refine ⟨h.1, ?_⟩
  rcases h.2 with h | ⟨g, cap, cur, rfl, h2, h3, h4⟩
  · exact .inl h
  · exact .inr ⟨g, cap, cur, rfl, h2, (hb.block g (hlt g rfl)).trans h3, h4⟩
set_option maxHeartbeats 16000000 in
theorem lawNetFor (nx : Int) (a : Option Addr) (n c : Nat) (M : Nat → FT) (tu : Int) (w : World) (hm : n ≤ maxLen) (hsrc : SrcC w a (n * 5) (MFFlight M)) (hs : ∀ i, i < n → ((M i).2.2.2.1).size ≤ maxLen) (hw : ∀ i, i < n → (Lit.int .i64 (M i).1).wf = true) (wtu : (Lit.int .i64 tu).wf = true) :
    Calls Try.prog 9 #[.agg #[.int .i64 nx, .slice a n c], .int .i64 tu] w fun e w' => e = .returned (.bool true) ∧ Below w.heap.size w w' := by
  have HA : Hid (SrcC w a (n * 5) (MFFlight M)) := hsrc
  have N := NB.new w nx a n c 24
  have B := Below.nw w (.cells #[.int .i64 nx, .slice a n c] 24)
  have C := szNet_any nx a n c M _ hm (hsrc.below B) hs
  clear hsrc
  go_enter Try.func9, Try.ntmps9
  go_wp2_with fail
  refine C.mono ?_
  rintro e w1 ⟨L, rfl, hL, hb⟩
  replace N := N.below hb
  replace B := B.trans (hb.mono B.size)
  clear hb C
  by_cases hneg : L < 0
  · clear hL
    go_wp2_with fail
    go_ret
    exact ⟨rfl, B⟩
  obtain ⟨hn, -⟩ := hL (by omega)
  clear hL
  have CS := fun (w' : World) (a' : Option Addr) (h : SrcC w' a' (n * 5) (MFFlight M)) => specNetFor_any nx a' n n M tu w' hm h hs
  have CI := fun (w' : World) (a' : Option Addr) (h : SrcC w' a' (n * 5) (MFFlight M)) => implNetFor_any nx a' n n M tu w' hm h hs hw
  have hRl : (forR nx M n tu).length ≤ 40 := forR_len nx M n tu
  generalize forR nx M n tu = R at *
  have hLm : R.length ≤ maxLen := by unfold maxLen; omega
  have hLn : R.length ≤ 1048576 := by omega
  clear hs hw
  obtain ⟨n0, n1, n2⟩ := id N
  go_wp2_with fail
  refine (toNet_any nx a n c M _ hn (HA.out.below B)).mono ?_
  rintro e w2 ⟨rfl, R2, hb⟩
  replace N := N.below hb
  replace B := B.trans (hb.mono B.size)
  clear hb n0 n1 n2
  go_wp2_with fail
  refine (CS _ _ (.inr ⟨_, _, rfl, R2.cs (Nat.le_refl _)⟩)).mono ?_
  rintro e w3 ⟨vs, rfl, V, hb⟩
  replace N := N.below hb
  replace B := B.trans (hb.mono B.size)
  have Vl : ∀ g, vs.ownBlock = some g → g < w3.heap.size := fun g hg => (V.lt g hg).2
  clear hb CS R2
  obtain ⟨n0, n1, n2⟩ := id N
  go_wp2_with fail
  refine (toNet_any nx a n c M _ hn (HA.out.below B)).mono ?_
  rintro e w4 ⟨rfl, RX, hb⟩
  replace N := N.below hb
  replace V := ownB_below V hb
  replace B := B.trans (hb.mono B.size)
  have hJ3 : w.heap.size < w3.heap.size := by omega
  have hb24 : w3.heap.size + 3 < w4.heap.size := RX.lt
  clear hb n0 n1 n2
  generalize hb2 : w3.heap.size + 3 = b2 at *
  have A4 := Below.nw w4 (.cells #[.int .i64 nx, .slice (some ⟨b2, 0, none⟩) n n] 29)
  have X := NB.new w4 nx (some ⟨b2, 0, none⟩) n n 29
  replace N := N.below A4
  replace V := ownB_below V A4
  replace B := B.trans (A4.mono B.size)
  replace RX := RowF.below' A4 RX
  have hx5 : w4.heap.size < (w4.alloc (.cells #[.int .i64 nx, .slice (some ⟨b2, 0, none⟩) n n] 29)).heap.size := by simp
  clear A4
  go_upto_region 7 with fail
  generalize w4.alloc (.cells #[.int .i64 nx, .slice (some ⟨b2, 0, none⟩) n n] 29) = w5 at *
  generalize hbx : w4.heap.size = bx at *
  obtain ⟨n0, n1, n2⟩ := id N; obtain ⟨m0, m1, m2⟩ := id X
  go_wp2_with fail
  refine (CI _ _ (.inr ⟨_, _, rfl, RX.cs (Nat.le_refl _)⟩)).mono ?_
  rintro e w6 ⟨vg, rfl, G, hb⟩
  clear n0 n1 n2 m0 m1 m2
  replace N := N.below hb
  replace X := X.below hb
  replace V := ownB_below V hb
  replace B := B.trans (hb.mono B.size)
  replace RX := RowF.below' hb RX
  have Gl : ∀ g, vg.ownBlock = some g → w5.heap.size ≤ g := fun g hg => (G.lt g hg).1
  have s56 : w5.heap.size ≤ w6.heap.size := hb.size
  clear hb
  obtain ⟨az, cz, rfl, hsc, hsm, SV⟩ := ownI_src V
  obtain ⟨ag, cg, rfl, hgc, hgm, SG⟩ := ownI_src G
  have HV : Hid (SrcC w6 az R.length (itF R)) := SV
  have HG : Hid (SrcC w6 ag R.length (itF R)) := SG
  clear SV SG hsc hsm hgc hgm
  obtain ⟨n0, n1, n2⟩ := id N; obtain ⟨m0, m1, m2⟩ := id X
  go_wp2_with fail
  refine (eqIntS_src _ _ R.length _ _ R _ hLm HG.out HV.out).mono ?_
  rintro e w7 ⟨rfl, hb⟩
  clear n0 n1 n2 m0 m1 m2
  replace N := N.below hb
  replace X := X.below hb
  replace V := ownB_below V hb
  replace G := ownB_below G hb
  replace B := B.trans (hb.mono B.size)
  replace RX := RowF.below' hb RX
  have s67 : w6.heap.size ≤ w7.heap.size := hb.size
  clear hb HV HG
  obtain ⟨n0, n1, n2⟩ := id N; obtain ⟨m0, m1, m2⟩ := id X
  go_wp2_with fail
  refine wp_region_held_drew (S := (fun w' => w'.cell? ⟨w.heap.size, 0, none⟩ = some (.int .i64 nx) ∧ w'.cell? ⟨w.heap.size, 1, none⟩ = some (.slice a n c) ∧ w'.cell? ⟨bx, 0, none⟩ = some (.int .i64 nx) ∧ w'.cell? ⟨bx, 1, none⟩ = some (.slice (some ⟨b2, 0, none⟩) n n))) (by kernel_rfl) ?_ (fun hHeld => ?_)
  · first | exact ⟨n1, n2, m1, m2⟩ | (simp (maxDischargeDepth := 6) [go_sem, *]; done)
  refine wpAnyH_take (i := 0) (v := ?_) (by rw [List.getElem?_toArray]; rfl) (by kernel_rfl) (by kernel_rfl) (by kernel_rfl) (by intro _ _ _ h; exact h) (Or.inl ⟨by rfl, ?_⟩) (by assumption) ?_
  rotate_left
  · (intro w hSw; (try dsimp only at hSw); go_simp; all_goals with_reducible rfl)
  (try simp only [Act.put, List.setIfInBounds_toArray, List.set_cons_zero, List.set_cons_succ])
  refine wpAnyH_take (i := 1) (v := ?_) (by rw [List.getElem?_toArray]; rfl) (by kernel_rfl) (by kernel_rfl) (by kernel_rfl) (by intro _ _ _ h; exact h) (Or.inl ⟨by rfl, ?_⟩) (by assumption) ?_
  rotate_left
  · (intro w hSw; (try dsimp only at hSw); go_simp; all_goals with_reducible rfl)
  (try simp only [Act.put, List.setIfInBounds_toArray, List.set_cons_zero, List.set_cons_succ])
  refine wpAnyH_ready (rs := [2]) (by kernel_rfl) (by simp) ?_
  refine AllReadyH.cons (by rw [List.getElem?_toArray]; rfl) (fun K hK => ?_) AllReadyH.nil
  go_simp
  refine (toNet_any nx a n c M _ hn (HA.out.below (Below.drew B))).mono ?_; rintro e w9 ⟨rfl, R9, hb⟩; clear n0 n1 n2 m0 m1 m2; (replace N := N.drew.below hb); (replace X := X.drew.below hb); (replace RX := RowF.below' hb (show RowF _ b2 38 (n * 5) (n * 5) (MFFlight M) from RX)); (replace V := ownB_below (World.ownsRow.drew V) hb); (replace G := ownB_below (World.ownsRow.drew G) hb); (replace B := (Below.drew B).trans (hb.mono (Below.drew B).size)); (have sz9 := hb.size); clear hb; obtain ⟨n0, n1, n2⟩ := id N; obtain ⟨m0, m1, m2⟩ := id X
  (try go_wp2_with fail)
  refine hK.out _ _ ?_ (fun hHeld => ?_)
  · first | exact ⟨n1, n2, m1, m2⟩ | (simp (maxDischargeDepth := 6) [go_sem, *]; done)
  clear hK K
  (try simp only [Act.put, List.setIfInBounds_toArray, List.set_cons_zero, List.set_cons_succ])
  refine wpAnyH_ready (rs := [3]) (by kernel_rfl) (by simp) ?_
  refine AllReadyH.cons (by rw [List.getElem?_toArray]; rfl) (fun K hK => ?_) AllReadyH.nil
  go_simp
  refine (eqNet_same nx _ _ n n n M _ hm (.inr ⟨_, _, rfl, RX.cs (Nat.le_refl _)⟩) (.inr ⟨_, _, rfl, R9.cs (Nat.le_refl _)⟩)).mono ?_; rintro e w10 ⟨rfl, hb⟩; clear n0 n1 n2 m0 m1 m2; (replace N := N.below hb); (replace X := X.below hb); (replace RX := RowF.below' hb RX); (replace V := ownB_below V hb); (replace G := ownB_below G hb); (replace B := B.trans (hb.mono B.size)); (have sz10 := hb.size); clear hb; obtain ⟨n0, n1, n2⟩ := id N; obtain ⟨m0, m1, m2⟩ := id X
  (try go_wp2_with fail)
  refine hK.out _ _ ?_ (fun hHeld => ?_)
  · first | exact ⟨n1, n2, m1, m2⟩ | (simp (maxDischargeDepth := 6) [go_sem, *]; done)
  clear hK K
  (try simp only [Act.put, List.setIfInBounds_toArray, List.set_cons_zero, List.set_cons_succ])
  refine wpAnyH_take (i := 4) (v := ?_) (by rw [List.getElem?_toArray]; rfl) (by kernel_rfl) (by kernel_rfl) (by kernel_rfl) (by intro _ _ _ h; exact h) (Or.inl ⟨by rfl, ?_⟩) (by assumption) ?_
  rotate_left
  · (intro w hSw; (try dsimp only at hSw); go_simp; all_goals with_reducible rfl)
  (try simp only [Act.put, List.setIfInBounds_toArray, List.set_cons_zero, List.set_cons_succ])
  refine wpAnyH_done (by kernel_rfl) ?_ _
  go_wp2_with fail
  refine (markNet_row nx b2 (n * 5) n n _ hn (Nat.le_refl _) (RX.zero _)).mono ?_
  rintro e w11 ⟨rfl, RX1, hb⟩
  clear n0 n1 n2 m0 m1 m2
  have l10 := X.1
  replace N := N.but hb (by omega)
  replace X := X.but hb (by omega)
  replace B := B.trans (hb.below (B := w.heap.size) (by omega) B.size)
  replace V := own_butNe' V hb (fun g hg => by have := Vl g hg; omega)
  replace G := own_butNe' G hb (fun g hg => by have := Gl g hg; omega)
  have s711 : w7.drew.heap.size ≤ w11.heap.size := by have := hb.2.2.2.1; have := sz9; have := sz10; omega
  have s711' : w7.heap.size ≤ w11.heap.size := s711
  clear hb RX RX1 R9 hHeld
  obtain ⟨az', cz', he, hsc, hsm, SV⟩ := ownI_src V
  simp at he
  obtain ⟨rfl, rfl⟩ := he
  obtain ⟨ag', cg', he, hgc, hgm, SG⟩ := ownI_src G
  simp at he
  obtain ⟨rfl, rfl⟩ := he
  have HV : Hid (SrcC w11 az R.length (itF R)) := SV
  have HG : Hid (SrcC w11 ag R.length (itF R)) := SG
  have hk1 : ¬ (1 + (n : Int) * 5 < 0) := by omega
  clear SV SG hsc hsm hgc hgm
  obtain ⟨n0, n1, n2⟩ := id N; obtain ⟨m0, m1, m2⟩ := id X
  go_wp2_with fail
  refine (eqIntS_src _ _ R.length _ _ R _ hLm HG.out HV.out).mono ?_
  rintro e w12 ⟨rfl, hb⟩
  clear n0 n1 n2 m0 m1 m2
  replace N := N.below hb
  replace V := ownB_below V hb
  replace G := ownB_below G hb
  replace B := B.trans (hb.mono B.size)
  have s12 : w11.heap.size ≤ w12.heap.size := hb.size
  clear hb HV HG X
  obtain ⟨n0, n1, n2⟩ := id N
  go_wp2_with fail
  refine (markIntS_any ag R.length cg w5.heap.size _ _ hLn (by omega) G).mono ?_
  rintro e w13 ⟨rfl, hg, hb⟩
  clear n0 n1 n2
  replace N := N.belowB hb (by omega)
  replace B := B.trans (hb.mono (by omega))
  replace V := ownB_belowB2 V hb (fun g hg => by have := Vl g hg; omega)
  have HM : Hid (SrcC w13 ag R.length mkI) := hg
  clear hb G hg
  obtain ⟨n0, n1, n2⟩ := id N
  go_wp2_with fail
  refine (heldIntS_any ag R.length cg _ hLn HM.out).mono ?_
  rintro e w' ⟨rfl, rfl⟩
  have hk2 : ¬ (1 + (R.length : Int) < 0) := by omega
  go_wp2_with fail
  refine (toNet_any nx a n c M _ hn (HA.out.below B)).mono ?_
  rintro e w14 ⟨rfl, R14, hb⟩
  clear n0 n1 n2
  replace V := ownB_below V hb
  replace B := B.trans (hb.mono B.size)
  have HM14 : Hid (SrcC w14 ag R.length mkI) := HM.out.below hb
  clear hb HM N
  go_wp2_with fail
  refine (CI _ _ (.inr ⟨_, _, rfl, R14.cs (Nat.le_refl _)⟩)).mono ?_
  rintro e w15 ⟨vh, rfl, H, hb⟩
  replace V := ownB_below V hb
  replace B := B.trans (hb.mono B.size)
  have HM15 : Hid (SrcC w15 ag R.length mkI) := HM14.out.below hb
  clear hb HM14 CI R14
  obtain ⟨ah, ch, rfl, hhc, hhm, SH⟩ := ownI_src H
  obtain ⟨az', cz', he, hsc, hsm, SV⟩ := ownI_src V
  simp at he
  obtain ⟨rfl, rfl⟩ := he
  have HH : Hid (SrcC w15 ah R.length (itF R)) := SH
  have HV : Hid (SrcC w15 az R.length (itF R)) := SV
  clear SH SV hhc hhm hsc hsm H V
  go_wp2_with fail
  refine (eqIntS_src _ _ R.length _ _ R _ hLm HH.out HV.out).mono ?_
  rintro e w16 ⟨rfl, hb⟩
  replace B := B.trans (hb.mono B.size)
  have HM16 : Hid (SrcC w16 ag R.length mkI) := HM15.out.below hb
  clear hb HM15 HH HV
  go_wp2_with fail
  refine (heldIntS_any ag R.length cg _ hLn HM16.out).mono ?_
  rintro e w' ⟨rfl, rfl⟩
  go_wp2_with fail
  go_ret
  exact ⟨rfl, B⟩
end Go.Proofs.Ytjcgegdoapemlaa
