/- The walk of the exact law of Reboot. -/
import Derived.Test.YtkhmegjbhbjihaaB6
import Derived.Deep.RegionHeld3
import Derived.Deep.DeepCutAuto
import Derived.WalkKit
import Derived.WalkSpells
import Derived.WalkLawsBesides
import Derived.Deep.RegionHeld
namespace Go.Proofs.Ytkhmegjbhbjihaa
open Go.RowKit
set_option linter.unusedVariables false
theorem ne_own {p q : Option Nat} (h : ∀ g, p = some g → q ≠ some g) : q = none ∨ q ≠ p := by
  cases q with
  | none => exact .inl rfl
  | some k => exact .inr fun e => h k e.symm rfl
theorem ne_own' {p q : Option Nat} (h : ∀ g, p = some g → q ≠ some g) (hp : p ≠ none) : p ≠ q := by
  cases p with
  | none => exact absurd rfl hp
  | some k => exact fun e => h k rfl e.symm
def RbIs (ep us : Int) (M : Nat → KT) (n : Nat) (x Xe Xu : Int) (mm : Nat) (G : Nat → KT) (C0 : Int) : Prop := Xe = rbE ep us M n x ∧ Xu = 0 ∧ mm = 0 ∧ C0 = rbC ep us M n x
theorem ansReboot (ep us : Int) (M : Nat → KT) (n : Nat) (x : Int) : ∃ Xe Xu mm G C0, RbIs ep us M n x Xe Xu mm G C0 ∧ mm ≤ 17 ∧ True := ⟨_, _, _, M, _, ⟨rfl, rfl, rfl, rfl⟩, by omega, trivial⟩
theorem specReboot_ans (ep us : Int) (b n c : Nat) (M : Nat → KT) (x Xe Xu : Int) (mm : Nat) (G : Nat → KT) (C0 : Int) (w : World) (hm : n ≤ maxLen) (hf : Cs w b 0 (n * 4) (MFAsk M)) (h : RbIs ep us M n x Xe Xu mm G C0) :
    Calls Try.prog 35 #[.agg #[.int .i64 ep, .int .i64 us, .slice (some ⟨b, 0, none⟩) n c], .int .i64 x] w fun e w' => ∃ a' c', e = .returned (.tuple #[.agg #[.int .i64 Xe, .int .i64 Xu, .slice a' mm c'], .int .i64 C0]) ∧ w'.ownsRow w.heap.size 44 4 (.slice a' mm c') mm (krow G mm) ∧ Below w.heap.size w w' := by
  obtain ⟨rfl, rfl, rfl, rfl⟩ := h
  exact specReboot_any ep us _ n c M x w hm (.inr ⟨b, 0, rfl, hf⟩)
theorem implReboot_ans (ep us : Int) (b n c : Nat) (M : Nat → KT) (x Xe Xu : Int) (mm : Nat) (G : Nat → KT) (C0 : Int) (w : World) (hm : n ≤ maxLen) (hf : Cs w b 0 (n * 4) (MFAsk M)) (hw : ∀ i, i < n → (Lit.int .i64 (M i).1).wf = true) (wx : (Lit.int .i64 x).wf = true) (h : RbIs ep us M n x Xe Xu mm G C0) :
    Calls Try.prog 36 #[.agg #[.int .i64 ep, .int .i64 us, .slice (some ⟨b, 0, none⟩) n c], .int .i64 x] w fun e w' => ∃ a' c', e = .returned (.tuple #[.agg #[.int .i64 Xe, .int .i64 Xu, .slice a' mm c'], .int .i64 C0]) ∧ w'.ownsRow w.heap.size 44 4 (.slice a' mm c') mm (krow G mm) ∧ Below w.heap.size w w' := by
  obtain ⟨rfl, rfl, rfl, rfl⟩ := h
  exact implReboot_any ep us _ n c M x w hm (.inr ⟨b, 0, rfl, hf⟩) hw
set_option maxRecDepth 100000 in
set_option maxHeartbeats 16000000 in
theorem lawReboot (ep us : Int) (a : Option Addr) (n c : Nat) (M : Nat → KT) (x : Int) (w : World) (hm : n ≤ maxLen) (hsrc : SrcC w a (n * 4) (MFAsk M)) (hw : ∀ i, i < n → (Lit.int .i64 (M i).1).wf = true) (wx : (Lit.int .i64 x).wf = true) :
    Calls Try.prog 10 #[.agg #[.int .i64 ep, .int .i64 us, .slice a n c], .int .i64 x] w fun e w' => e = .returned (.bool true) ∧ Below w.heap.size w w' := by
  obtain ⟨Xe, Xu, mm, G, C0, TK, hbd⟩ := ansReboot ep us M n x
  have HA : Hid (SrcC w a (n * 4) (MFAsk M)) := hsrc
  have N := IB3.new w ep us a n c 30
  have B := Below.nw w (.cells #[.int .i64 ep, .int .i64 us, .slice a n c] 30)
  clear hsrc
  go_enter Try.func10, Try.ntmps10
  go_wp2_with fail
  refine (szTable_any ep us a n c _ hm).mono ?_
  rintro e w1 ⟨L, rfl, hL, hb⟩
  replace N := N.below hb
  replace B := B.trans (hb.mono B.size)
  clear hb
  by_cases hneg : L < 0
  · clear hL
    go_wp2_with fail
    go_ret
    exact ⟨rfl, B⟩
  have hn := hL (by omega)
  clear hL
  have CS := fun (w' : World) (b : Nat) (h : Cs w' b 0 (n * 4) (MFAsk M)) => specReboot_ans ep us b n n M x Xe Xu mm G C0 w' hm h TK
  have CI := fun (w' : World) (b : Nat) (h : Cs w' b 0 (n * 4) (MFAsk M)) => implReboot_ans ep us b n n M x Xe Xu mm G C0 w' hm h hw wx TK
  have hLm : mm ≤ maxLen := by have := hbd.1; unfold maxLen; omega
  have hLn : mm ≤ 1048576 := by have := hbd.1; omega
  clear hw TK hbd
  obtain ⟨n0, n1, n2, n3⟩ := id N
  go_wp2_with fail
  refine (toTable_any ep us a n c M _ hn (HA.out.below B)).mono ?_
  rintro e w2 ⟨rfl, R2, hb⟩
  replace N := N.below hb
  replace B := B.trans (hb.mono B.size)
  clear hb n0 n1 n2 n3
  go_wp2_with fail
  refine (CS _ _ (R2.cs (Nat.le_refl _))).mono ?_
  rintro e w3 ⟨az, cz, rfl, V0, hb⟩
  have V := SrcK.of (own_srcK V0)
  replace N := N.below hb
  replace B := B.trans (hb.mono B.size)
  have hJ3 : w.heap.size < w3.heap.size := N.1
  clear hb CS R2 V0
  have A3 := Below.nw w3 (.cells #[.int .i64 Xe, .int .i64 Xu, .slice az mm cz] 35)
  have Q1 := IB3.new w3 Xe Xu az mm cz 35
  replace N := N.below A3
  replace V := V.below A3
  replace B := B.trans (A3.mono B.size)
  clear A3
  go_upto_region 6 with fail
  generalize hj6 : w3.heap.size = j6 at *
  generalize w3.alloc (.cells #[.int .i64 Xe, .int .i64 Xu, .slice az mm cz] 35) = w3b at *
  obtain ⟨n0, n1, n2, n3⟩ := id N
  go_wp2_with fail
  refine (toTable_any ep us a n c M _ hn (HA.out.below B)).mono ?_
  rintro e w4 ⟨rfl, RX, hb⟩
  have hq3 : j6  < w3b.heap.size := Q1.1
  clear n0 n1 n2 n3
  replace N := N.below hb
  replace Q1 := Q1.below hb
  replace V := V.below hb
  replace B := B.trans (hb.mono B.size)
  have hb24 : w3b.heap.size + 3 < w4.heap.size := RX.lt
  clear hb
  generalize hb2 : w3b.heap.size + 3 = b2 at *
  have A4 := Below.nw w4 (.cells #[.int .i64 ep, .int .i64 us, .slice (some ⟨b2, 0, none⟩) n n] 35)
  have X := IB3.new w4 ep us (some ⟨b2, 0, none⟩) n n 35
  replace N := N.below A4
  replace Q1 := Q1.below A4
  replace V := V.below A4
  replace RX := RowF.below' A4 RX
  replace B := B.trans (A4.mono B.size)
  clear A4
  go_upto_region 7 with fail
  generalize w4.alloc (.cells #[.int .i64 ep, .int .i64 us, .slice (some ⟨b2, 0, none⟩) n n] 35) = w5 at *
  generalize hbx : w4.heap.size = bx at *
  obtain ⟨m0, m1, m2, m3⟩ := id X
  go_wp2_with fail
  refine (CI _ _ (RX.cs (Nat.le_refl _))).mono ?_
  rintro e w6 ⟨ag, cg, rfl, G0, hb⟩
  clear m0 m1 m2 m3
  have hb5 : b2 < w5.heap.size := RX.lt
  have hx5 : bx < w5.heap.size := X.1
  replace N := N.below hb
  replace Q1 := Q1.below hb
  replace X := X.below hb
  replace V := V.below hb
  replace RX := RowF.below' hb RX
  replace B := B.trans (hb.mono B.size)
  have s56 := hb.size
  clear hb
  have RG0 : Hid (∀ g, (Value.slice ag mm cg).ownBlock = some g → w5.heap.size ≤ g ∧ g < w6.heap.size) := fun g hg => World.ownsRow.lt G0 g hg
  have A6 := Below.nw w6 (.cells #[.int .i64 Xe, .int .i64 Xu, .slice ag mm cg] 35)
  have G1 := IB3.new w6 Xe Xu ag mm cg 35
  replace N := N.below A6
  replace Q1 := Q1.below A6
  replace X := X.below A6
  replace V := V.below A6
  replace G0 := own_belK' G0 A6
  replace RX := RowF.below' A6 RX
  replace B := B.trans (A6.mono B.size)
  clear A6
  go_upto_region 8 with fail
  generalize hj10 : w6.heap.size = j10 at *
  generalize w6.alloc (.cells #[.int .i64 Xe, .int .i64 Xu, .slice ag mm cg] 35) = w7 at *
  (obtain ⟨n0, n1, n2, n3⟩ := id N); (obtain ⟨qa0, qa1, qa2, qa3⟩ := id Q1); (obtain ⟨m0, m1, m2, m3⟩ := id X); (obtain ⟨ga0, ga1, ga2, ga3⟩ := id G1)
  go_wp2_with fail
  refine (eqTable_same Xe Xu _ _ mm _ _ G _ hLm (own_srcK G0) V.src).mono ?_
  rintro e w8a ⟨rfl, hb⟩
  clear n0 n1 n2 n3 qa0 qa1 qa2 qa3 m0 m1 m2 m3 ga0 ga1 ga2 ga3
  replace N := N.below hb
  replace Q1 := Q1.below hb
  replace X := X.below hb
  replace G1 := G1.below hb
  replace V := V.below hb
  replace G0 := own_belK' G0 hb
  replace RX := RowF.below' hb RX
  replace B := B.trans (hb.mono B.size)
  clear hb
  (obtain ⟨n0, n1, n2, n3⟩ := id N); (obtain ⟨qa0, qa1, qa2, qa3⟩ := id Q1); (obtain ⟨m0, m1, m2, m3⟩ := id X); (obtain ⟨ga0, ga1, ga2, ga3⟩ := id G1)
  go_wp2_with fail
  refine wp_region_held_drew (S := (fun w' => w'.cell? ⟨w.heap.size, 0, none⟩ = some (.int .i64 ep) ∧ w'.cell? ⟨w.heap.size, 1, none⟩ = some (.int .i64 us) ∧ w'.cell? ⟨w.heap.size, 2, none⟩ = some (.slice a n c) ∧ w'.cell? ⟨bx, 0, none⟩ = some (.int .i64 ep) ∧ w'.cell? ⟨bx, 1, none⟩ = some (.int .i64 us) ∧ w'.cell? ⟨bx, 2, none⟩ = some (.slice (some ⟨b2, 0, none⟩) n n))) (by kernel_rfl) ?_ (fun hHeld => ?_)
  · first | exact ⟨n1, n2, n3, m1, m2, m3⟩ | (simp (maxDischargeDepth := 6) [go_sem, *]; done)
  clear n0 n1 n2 n3 qa0 qa1 qa2 qa3 m0 m1 m2 m3 ga0 ga1 ga2 ga3
  replace N := N.drew
  replace Q1 := Q1.drew
  replace X := X.drew
  replace G1 := G1.drew
  replace V : SrcK w8a.drew az (mm * 4) (MFAsk G) j6 := V
  replace G0 := World.ownsRow.drew G0
  replace RX : RowF w8a.drew b2 44 (n * 4) (n * 4) (MFAsk M) := RX
  replace B := Below.drew B
  generalize w8a.drew = w9 at *
  (obtain ⟨n0, n1, n2, n3⟩ := id N); (obtain ⟨qa0, qa1, qa2, qa3⟩ := id Q1); (obtain ⟨m0, m1, m2, m3⟩ := id X); (obtain ⟨ga0, ga1, ga2, ga3⟩ := id G1)
  refine wpAnyH_take (i := 0) (v := ?_) (by rw [List.getElem?_toArray]; rfl) (by kernel_rfl) (by kernel_rfl) (by kernel_rfl) (by intro _ _ _ h; exact h) (Or.inl ⟨by rfl, ?_⟩) (by assumption) ?_
  rotate_left
  · (intro w hSw; (try dsimp only at hSw); go_simp; all_goals with_reducible rfl)
  (try simp only [Act.put, List.setIfInBounds_toArray, List.set_cons_zero, List.set_cons_succ])
  refine wpAnyH_take (i := 1) (v := ?_) (by rw [List.getElem?_toArray]; rfl) (by kernel_rfl) (by kernel_rfl) (by kernel_rfl) (by intro _ _ _ h; exact h) (Or.inl ⟨by rfl, ?_⟩) (by assumption) ?_
  rotate_left
  · (intro w hSw; (try dsimp only at hSw); go_simp; all_goals with_reducible rfl)
  (try simp only [Act.put, List.setIfInBounds_toArray, List.set_cons_zero, List.set_cons_succ])
  refine wpAnyH_ready (rs := [2]) (by kernel_rfl) (by simp) ?_
  refine AllReadyH.cons (by rw [List.getElem?_toArray]; rfl) (fun K hK => ?_) AllReadyH.nil
  go_simp
  refine (toTable_any ep us a n c M _ hn (HA.out.below B)).mono ?_; rintro e w9a ⟨rfl, R9, hb⟩; clear n0 n1 n2 n3 qa0 qa1 qa2 qa3 m0 m1 m2 m3 ga0 ga1 ga2 ga3; (replace N := N.below hb); (replace Q1 := Q1.below hb); (replace X := X.below hb); (replace G1 := G1.below hb); (replace V := V.below hb); (replace G0 := own_belK' G0 hb); (replace RX := RowF.below' hb RX); (replace B := B.trans (hb.mono B.size)); clear hb; (obtain ⟨n0, n1, n2, n3⟩ := id N); (obtain ⟨qa0, qa1, qa2, qa3⟩ := id Q1); (obtain ⟨m0, m1, m2, m3⟩ := id X); (obtain ⟨ga0, ga1, ga2, ga3⟩ := id G1)
  (try go_wp2_with fail)
  refine hK.out _ _ ?_ (fun hHeld => ?_)
  · first | exact ⟨n1, n2, n3, m1, m2, m3⟩ | (simp (maxDischargeDepth := 6) [go_sem, *]; done)
  clear hK K
  (try simp only [Act.put, List.setIfInBounds_toArray, List.set_cons_zero, List.set_cons_succ])
  refine wpAnyH_ready (rs := [3]) (by kernel_rfl) (by simp) ?_
  refine AllReadyH.cons (by rw [List.getElem?_toArray]; rfl) (fun K hK => ?_) AllReadyH.nil
  go_simp
  refine (eqTable_same ep us _ _ n n n M _ hm (.inr ⟨_, _, rfl, RX.cs (Nat.le_refl _)⟩) (.inr ⟨_, _, rfl, R9.cs (Nat.le_refl _)⟩)).mono ?_; rintro e w9b ⟨rfl, hb⟩; clear n0 n1 n2 n3 qa0 qa1 qa2 qa3 m0 m1 m2 m3 ga0 ga1 ga2 ga3; (replace N := N.below hb); (replace Q1 := Q1.below hb); (replace X := X.below hb); (replace G1 := G1.below hb); (replace V := V.below hb); (replace G0 := own_belK' G0 hb); (replace RX := RowF.below' hb RX); (replace B := B.trans (hb.mono B.size)); clear hb; (obtain ⟨n0, n1, n2, n3⟩ := id N); (obtain ⟨qa0, qa1, qa2, qa3⟩ := id Q1); (obtain ⟨m0, m1, m2, m3⟩ := id X); (obtain ⟨ga0, ga1, ga2, ga3⟩ := id G1)
  (try go_wp2_with fail)
  refine hK.out _ _ ?_ (fun hHeld => ?_)
  · first | exact ⟨n1, n2, n3, m1, m2, m3⟩ | (simp (maxDischargeDepth := 6) [go_sem, *]; done)
  clear hK K
  (try simp only [Act.put, List.setIfInBounds_toArray, List.set_cons_zero, List.set_cons_succ])
  refine wpAnyH_take (i := 4) (v := ?_) (by rw [List.getElem?_toArray]; rfl) (by kernel_rfl) (by kernel_rfl) (by kernel_rfl) (by intro _ _ _ h; exact h) (Or.inl ⟨by rfl, ?_⟩) (by assumption) ?_
  rotate_left
  · (intro w hSw; (try dsimp only at hSw); go_simp; all_goals with_reducible rfl)
  (try simp only [Act.put, List.setIfInBounds_toArray, List.set_cons_zero, List.set_cons_succ])
  refine wpAnyH_done (by kernel_rfl) ?_ _
  go_wp2_with fail
  refine (markTable_row ep us b2 (n * 4) n n _ hn (Nat.le_refl _) (RX.zero _)).mono ?_
  rintro e w11 ⟨rfl, RX1, hb⟩
  clear n0 n1 n2 n3 qa0 qa1 qa2 qa3 m0 m1 m2 m3 ga0 ga1 ga2 ga3
  replace N := N.but hb (by omega)
  replace Q1 := Q1.but hb (by omega)
  replace X := X.but hb (by omega)
  replace G1 := G1.but hb (by omega)
  replace V := V.kept hb.grK (fun b h e => by (have e' := Option.some.inj e); omega)
  replace G0 := own_butK G0 hb hb5
  replace B := B.trans (hb.below (B := w.heap.size) (by omega) B.size)
  have hk1 : ¬ (1 + (n : Int) * 4 < 0) := by omega
  clear hb RX RX1 R9 hHeld
  (obtain ⟨n0, n1, n2, n3⟩ := id N); (obtain ⟨qa0, qa1, qa2, qa3⟩ := id Q1); (obtain ⟨m0, m1, m2, m3⟩ := id X); (obtain ⟨ga0, ga1, ga2, ga3⟩ := id G1)
  go_wp2_with fail
  refine (eqTable_same Xe Xu _ _ mm _ _ G _ hLm (own_srcK G0) V.src).mono ?_
  rintro e w12a ⟨rfl, hb⟩
  clear n0 n1 n2 n3 qa0 qa1 qa2 qa3 m0 m1 m2 m3 ga0 ga1 ga2 ga3
  replace N := N.below hb
  replace Q1 := Q1.below hb
  replace X := X.below hb
  replace G1 := G1.below hb
  replace V := V.below hb
  replace G0 := own_belK' G0 hb
  replace B := B.trans (hb.mono B.size)
  clear hb
  clear X
  (obtain ⟨n0, n1, n2, n3⟩ := id N); (obtain ⟨qa0, qa1, qa2, qa3⟩ := id Q1); (obtain ⟨ga0, ga1, ga2, ga3⟩ := id G1)
  go_wp2_with fail
  refine (markTable_own Xe Xu ag mm cg _ _ _ hLn G0).mono ?_
  rintro e w13a ⟨rfl, HMw13a, hb⟩
  clear n0 n1 n2 n3 qa0 qa1 qa2 qa3 ga0 ga1 ga2 ga3
  replace N := N.kept hb (fun e => by have := RG0.out _ e.symm; omega)
  replace Q1 := Q1.kept hb (fun e => by have := RG0.out _ e.symm; omega)
  replace G1 := G1.kept hb (fun e => by have := RG0.out _ e.symm; omega)
  replace V := V.kept hb (fun b h e => by have := RG0.out _ e.symm; omega)
  replace B := B.trans (grown_bel hb B.size (fun b h e => by have := RG0.out _ e.symm; omega))
  have HMKw13a : Hid (SrcC w13a ag (mm * 4) (mkAsk 1)) := HMw13a
  clear hb HMw13a G0
  (obtain ⟨n0, n1, n2, n3⟩ := id N); (obtain ⟨qa0, qa1, qa2, qa3⟩ := id Q1); (obtain ⟨ga0, ga1, ga2, ga3⟩ := id G1)
  go_wp2_with fail
  refine (heldTable_any Xe Xu ag mm cg _ hLn HMKw13a.out).mono ?_
  rintro e w140 ⟨rfl, hb⟩
  clear n0 n1 n2 n3 qa0 qa1 qa2 qa3 ga0 ga1 ga2 ga3
  replace N := N.below hb
  replace Q1 := Q1.below hb
  replace G1 := G1.below hb
  replace V := V.below hb
  replace HMKw13a : Hid (SrcC _ ag (mm * 4) (mkAsk 1)) := HMKw13a.out.below hb
  replace B := B.trans (hb.mono B.size)
  clear hb
  have hk20 : ¬ (1 + (mm : Int) * 4 < 0) := by omega
  (obtain ⟨n0, n1, n2, n3⟩ := id N); (obtain ⟨qa0, qa1, qa2, qa3⟩ := id Q1); (obtain ⟨ga0, ga1, ga2, ga3⟩ := id G1)
  go_wp2_with fail
  refine (toTable_any ep us a n c M _ hn (HA.out.below B)).mono ?_
  rintro e w15 ⟨rfl, R15, hb⟩
  clear n0 n1 n2 n3 qa0 qa1 qa2 qa3 ga0 ga1 ga2 ga3
  replace N := N.below hb
  replace Q1 := Q1.below hb
  replace G1 := G1.below hb
  replace V := V.below hb
  replace HMKw13a : Hid (SrcC _ ag (mm * 4) (mkAsk 1)) := HMKw13a.out.below hb
  replace B := B.trans (hb.mono B.size)
  clear hb
  go_wp2_with fail
  refine (CI _ _ (R15.cs (Nat.le_refl _))).mono ?_
  rintro e w16 ⟨ah, ch, rfl, H0, hb⟩
  replace N := N.below hb
  replace Q1 := Q1.below hb
  replace G1 := G1.below hb
  replace V := V.below hb
  replace HMKw13a : Hid (SrcC _ ag (mm * 4) (mkAsk 1)) := HMKw13a.out.below hb
  replace B := B.trans (hb.mono B.size)
  clear hb R15 CI
  have A7 := Below.nw w16 (.cells #[.int .i64 Xe, .int .i64 Xu, .slice ah mm ch] 35)
  have K1 := IB3.new w16 Xe Xu ah mm ch 35
  replace N := N.below A7
  replace Q1 := Q1.below A7
  replace G1 := G1.below A7
  replace V := V.below A7
  replace H0 := own_belK' H0 A7
  replace HMKw13a : Hid (SrcC _ ag (mm * 4) (mkAsk 1)) := HMKw13a.out.below A7
  replace B := B.trans (A7.mono B.size)
  clear A7
  go_upto_region 25 with fail
  generalize w16.heap.size = j16 at *
  generalize w16.alloc (.cells #[.int .i64 Xe, .int .i64 Xu, .slice ah mm ch] 35) = w17 at *
  (obtain ⟨n0, n1, n2, n3⟩ := id N); (obtain ⟨qa0, qa1, qa2, qa3⟩ := id Q1); (obtain ⟨ga0, ga1, ga2, ga3⟩ := id G1); (obtain ⟨ka0, ka1, ka2, ka3⟩ := id K1)
  go_wp2_with fail
  refine (eqTable_same Xe Xu _ _ mm _ _ G _ hLm (own_srcK H0) V.src).mono ?_
  rintro e w18a ⟨rfl, hb⟩
  clear n0 n1 n2 n3 qa0 qa1 qa2 qa3 ga0 ga1 ga2 ga3 ka0 ka1 ka2 ka3
  replace N := N.below hb
  replace Q1 := Q1.below hb
  replace G1 := G1.below hb
  replace K1 := K1.below hb
  replace V := V.below hb
  replace H0 := own_belK' H0 hb
  replace HMKw13a : Hid (SrcC _ ag (mm * 4) (mkAsk 1)) := HMKw13a.out.below hb
  replace B := B.trans (hb.mono B.size)
  clear hb
  (obtain ⟨n0, n1, n2, n3⟩ := id N); (obtain ⟨qa0, qa1, qa2, qa3⟩ := id Q1); (obtain ⟨ga0, ga1, ga2, ga3⟩ := id G1); (obtain ⟨ka0, ka1, ka2, ka3⟩ := id K1)
  go_wp2_with fail
  refine (heldTable_any Xe Xu ag mm cg _ hLn HMKw13a.out).mono ?_
  rintro e w200 ⟨rfl, hb⟩
  clear n0 n1 n2 n3 qa0 qa1 qa2 qa3 ga0 ga1 ga2 ga3 ka0 ka1 ka2 ka3
  replace N := N.below hb
  replace Q1 := Q1.below hb
  replace G1 := G1.below hb
  replace K1 := K1.below hb
  replace V := V.below hb
  replace HMKw13a : Hid (SrcC _ ag (mm * 4) (mkAsk 1)) := HMKw13a.out.below hb
  replace B := B.trans (hb.mono B.size)
  clear hb
  go_wp2_with fail
  go_ret
  exact ⟨rfl, B⟩
end Go.Proofs.Ytkhmegjbhbjihaa
