/- What Again tells, in one statement for each side; the walk of its exact law. -/
import Derived.Test.YtcaelkpjkmpheaaG72
import Derived.Test.YtcaelkpjkmpheaaH72
import Derived.Test.YtcaelkpjkmpheaaB7
import Derived.Deep.RegionHeld3
import Derived.Deep.DeepCutAuto
import Derived.WalkKit
import Derived.WalkSpells
import Derived.WalkLawsBesides
import Derived.Deep.RegionHeld
namespace Go.Proofs.Ytcaelkpjkmpheaa
open Go.RowKit
set_option linter.unusedVariables false
theorem kep_gon (x p : Int) (L : List KT) : (kep x p L).length + (gon x p L).length = L.length := by
  induction L with
  | nil => rfl
  | cons a t ih =>
    unfold kep gon at ih ⊢
    rw [List.filter_cons, List.filter_cons]
    cases h : ltB x p a
    · simp; omega
    · simp; omega
def AgIs (ep us : Int) (M : Nat → KT) (n : Nat) (x y Xe Xu : Int) (mm : Nat) (G : Nat → KT) (m0 : Nat) (G0 : Nat → KT) (m1 : Nat) (G1 : Nat → KT) : Prop :=
  ((tabB ep us M n && tmB x && tmB y) = false ∧ Xe = 0 ∧ Xu = 0 ∧ mm = 0 ∧ G = M ∧ m0 = 0 ∧ G0 = M ∧ m1 = 0 ∧ G1 = M) ∨
  ((tabB ep us M n && tmB x && tmB y) = true ∧ Xe = ep ∧ Xu = (ag ep x us (gon x y (lst M n)) (gon x y (lst M n)).length).1 ∧ mm = (kep x y (lst M n) ++ (ag ep x us (gon x y (lst M n)) (gon x y (lst M n)).length).2.1).length ∧ G = rowL (kep x y (lst M n) ++ (ag ep x us (gon x y (lst M n)) (gon x y (lst M n)).length).2.1) ∧ m0 = (ag ep x us (gon x y (lst M n)) (gon x y (lst M n)).length).2.1.length ∧ G0 = rowL (ag ep x us (gon x y (lst M n)) (gon x y (lst M n)).length).2.1 ∧ m1 = (ag ep x us (gon x y (lst M n)) (gon x y (lst M n)).length).2.2.length ∧ G1 = rowL (ag ep x us (gon x y (lst M n)) (gon x y (lst M n)).length).2.2)
theorem and3A {p q r : Bool} (h : (p && q && r) = true) : p = true ∧ q = true ∧ r = true := by
  rw [Bool.and_eq_true, Bool.and_eq_true] at h
  exact ⟨h.1.1, h.1.2, h.2⟩
theorem ansAgain (ep us : Int) (M : Nat → KT) (n : Nat) (x y : Int) : ∃ Xe Xu mm G m0 G0 m1 G1, AgIs ep us M n x y Xe Xu mm G m0 G0 m1 G1 ∧ mm ≤ 17 ∧ m0 ≤ 17 ∧ m1 ≤ 17 := by
  cases h : (tabB ep us M n && tmB x && tmB y)
  · exact ⟨_, _, _, _, _, _, _, _, .inl ⟨h, rfl, rfl, rfl, rfl, rfl, rfl, rfl, rfl⟩, by omega, by omega, by omega⟩
  · have hn := tabB_len' (and3A h).1
    have hu := (tabB_nums (and3A h).1).2.2
    have h1 := kep_gon x y (lst M n)
    rw [lst_len] at h1
    obtain ⟨_, _, q, _, _⟩ := ag_ok (ep := ep) (x := x) (L := (gon x y (lst M n))) hu (gon x y (lst M n)).length
    refine ⟨_, _, _, _, _, _, _, _, .inr ⟨h, rfl, rfl, rfl, rfl, rfl, rfl, rfl, rfl⟩, ?_, by omega, by omega⟩
    rw [List.length_append]
    omega
theorem specAgain_ans (ep us : Int) (b n c : Nat) (M : Nat → KT) (x y Xe Xu : Int) (mm : Nat) (G : Nat → KT) (m0 : Nat) (G0 : Nat → KT) (m1 : Nat) (G1 : Nat → KT) (w : World) (hm : n ≤ maxLen) (hf : Cs w b 0 (n * 4) (MFAsk M)) (h : AgIs ep us M n x y Xe Xu mm G m0 G0 m1 G1) :
    Calls Try.prog 11 #[.agg #[.int .i64 ep, .int .i64 us, .slice (some ⟨b, 0, none⟩) n c], .int .i64 x, .int .i64 y] w fun e w' => ∃ a' c' a1 c1 a2 c2, e = .returned (.tuple #[.agg #[.int .i64 Xe, .int .i64 Xu, .slice a' mm c'], .slice a1 m0 c1, .slice a2 m1 c2]) ∧ w'.ownsRow w.heap.size 34 4 (.slice a' mm c') mm (krow G mm) ∧ w'.ownsRow w.heap.size 34 4 (.slice a1 m0 c1) m0 (krow G0 m0) ∧ w'.ownsRow w.heap.size 34 4 (.slice a2 m1 c2) m1 (krow G1 m1) ∧ Below w.heap.size w w' := by
  rcases h with ⟨h, rfl, rfl, rfl, rfl, rfl, rfl, rfl, rfl⟩ | ⟨h, rfl, rfl, rfl, rfl, rfl, rfl, rfl, rfl⟩
  · exact specAgain_bad _ _ _ _ c _ x y w hm (Froms.of hf) h
  · exact specAgain_done _ _ _ _ c _ x y w hm (Froms.of hf) (and3A h).1 (and3A h).2.1 (and3A h).2.2 hf.1 _ _ _ _ rfl rfl
theorem implAgain_ans (ep us : Int) (b n c : Nat) (M : Nat → KT) (x y Xe Xu : Int) (mm : Nat) (G : Nat → KT) (m0 : Nat) (G0 : Nat → KT) (m1 : Nat) (G1 : Nat → KT) (w : World) (hm : n ≤ maxLen) (hf : Cs w b 0 (n * 4) (MFAsk M)) (hw : ∀ i, i < n → (Lit.int .i64 (M i).1).wf = true) (wx : (Lit.int .i64 x).wf = true) (wy : (Lit.int .i64 y).wf = true) (h : AgIs ep us M n x y Xe Xu mm G m0 G0 m1 G1) :
    Calls Try.prog 10 #[.agg #[.int .i64 ep, .int .i64 us, .slice (some ⟨b, 0, none⟩) n c], .int .i64 x, .int .i64 y] w fun e w' => ∃ a' c' a1 c1 a2 c2, e = .returned (.tuple #[.agg #[.int .i64 Xe, .int .i64 Xu, .slice a' mm c'], .slice a1 m0 c1, .slice a2 m1 c2]) ∧ w'.ownsRow w.heap.size 34 4 (.slice a' mm c') mm (krow G mm) ∧ w'.ownsRow w.heap.size 34 4 (.slice a1 m0 c1) m0 (krow G0 m0) ∧ w'.ownsRow w.heap.size 34 4 (.slice a2 m1 c2) m1 (krow G1 m1) ∧ ((∀ g, (Value.slice a' mm c').ownBlock = some g → (Value.slice a1 m0 c1).ownBlock ≠ some g) ∧ (∀ g, (Value.slice a' mm c').ownBlock = some g → (Value.slice a2 m1 c2).ownBlock ≠ some g) ∧ (∀ g, (Value.slice a1 m0 c1).ownBlock = some g → (Value.slice a2 m1 c2).ownBlock ≠ some g)) ∧ Below w.heap.size w w' := by
  rcases h with ⟨h, rfl, rfl, rfl, rfl, rfl, rfl, rfl, rfl⟩ | ⟨h, rfl, rfl, rfl, rfl, rfl, rfl, rfl, rfl⟩
  · exact implAgain_bad _ _ _ _ c _ x y w hm (.inr ⟨b, 0, rfl, hf⟩) hw h
  · exact implAgain_done _ _ _ _ c _ x y w hm (.inr ⟨b, 0, rfl, hf⟩) hw (and3A h).1 (and3A h).2.1 (and3A h).2.2 _ _ _ _ rfl rfl
set_option maxRecDepth 100000 in
set_option maxHeartbeats 16000000 in
theorem lawAgain (ep us : Int) (a : Option Addr) (n c : Nat) (M : Nat → KT) (x : Int) (y : Int) (w : World) (hm : n ≤ maxLen) (hsrc : SrcC w a (n * 4) (MFAsk M)) (hw : ∀ i, i < n → (Lit.int .i64 (M i).1).wf = true) (wx : (Lit.int .i64 x).wf = true) (wy : (Lit.int .i64 y).wf = true) :
    Calls Try.prog 5 #[.agg #[.int .i64 ep, .int .i64 us, .slice a n c], .int .i64 x, .int .i64 y] w fun e w' => e = .returned (.bool true) ∧ Below w.heap.size w w' := by
  obtain ⟨Xe, Xu, mm, G, m0, GF0, m1, GF1, TK, hbd⟩ := ansAgain ep us M n x y
  have HA : Hid (SrcC w a (n * 4) (MFAsk M)) := hsrc
  have N := IB3.new w ep us a n c 49
  have B := Below.nw w (.cells #[.int .i64 ep, .int .i64 us, .slice a n c] 49)
  clear hsrc
  go_enter Try.func5, Try.ntmps5
  go_wp2_with fail
  refine (szTable_any ep us a n c _ hm).mono ?_
  rintro e w1 ⟨L, rfl, hL, hb⟩
  replace N := N.below hb
  replace B := B.trans (hb.mono B.size)
  clear hb
  by_cases hneg : L < 0
  · clear hL
    go_wp2_with fail
    go_ret
    exact ⟨rfl, B⟩
  have hn := hL (by omega)
  clear hL
  have CS := fun (w' : World) (b : Nat) (h : Cs w' b 0 (n * 4) (MFAsk M)) => specAgain_ans ep us b n n M x y Xe Xu mm G m0 GF0 m1 GF1 w' hm h TK
  have CI := fun (w' : World) (b : Nat) (h : Cs w' b 0 (n * 4) (MFAsk M)) => implAgain_ans ep us b n n M x y Xe Xu mm G m0 GF0 m1 GF1 w' hm h hw wx wy TK
  have hLm : mm ≤ maxLen := by have := hbd.1; unfold maxLen; omega
  have hLn : mm ≤ 1048576 := by have := hbd.1; omega
  have hLm0 : m0 ≤ maxLen := by have := hbd; unfold maxLen; omega
  have hLn0 : m0 ≤ 1048576 := by have := hbd; omega
  have hLm1 : m1 ≤ maxLen := by have := hbd; unfold maxLen; omega
  have hLn1 : m1 ≤ 1048576 := by have := hbd; omega
  clear hw TK hbd
  obtain ⟨n0, n1, n2, n3⟩ := id N
  go_wp2_with fail
  refine (toTable_any ep us a n c M _ hn (HA.out.below B)).mono ?_
  rintro e w2 ⟨rfl, R2, hb⟩
  replace N := N.below hb
  replace B := B.trans (hb.mono B.size)
  clear hb n0 n1 n2 n3
  go_wp2_with fail
  refine (CS _ _ (R2.cs (Nat.le_refl _))).mono ?_
  rintro e w3 ⟨az, cz, sa0, sac0, sa1, sac1, rfl, VT, VS0, VS1, hb⟩
  have V := SrcK.of (own_srcK VT)
  have V0 := SrcK.of (own_srcK VS0)
  have V1 := SrcK.of (own_srcK VS1)
  replace N := N.below hb
  replace B := B.trans (hb.mono B.size)
  have hJ3 : w.heap.size < w3.heap.size := N.1
  clear hb CS R2 VT VS0 VS1
  have A3 := Below.nw w3 (.cells #[.int .i64 Xe, .int .i64 Xu, .slice az mm cz] 26)
  have Q1 := IB3.new w3 Xe Xu az mm cz 26
  replace N := N.below A3
  replace V := V.below A3
  replace V0 := V0.below A3
  replace V1 := V1.below A3
  replace B := B.trans (A3.mono B.size)
  clear A3
  go_upto_region 6 with fail
  generalize hj6 : w3.heap.size = j6 at *
  generalize w3.alloc (.cells #[.int .i64 Xe, .int .i64 Xu, .slice az mm cz] 26) = w3b at *
  obtain ⟨n0, n1, n2, n3⟩ := id N
  go_wp2_with fail
  refine (toTable_any ep us a n c M _ hn (HA.out.below B)).mono ?_
  rintro e w4 ⟨rfl, RX, hb⟩
  have hq3 : j6  < w3b.heap.size := Q1.1
  clear n0 n1 n2 n3
  replace N := N.below hb
  replace Q1 := Q1.below hb
  replace V := V.below hb
  replace V0 := V0.below hb
  replace V1 := V1.below hb
  replace B := B.trans (hb.mono B.size)
  have hb24 : w3b.heap.size + 3 < w4.heap.size := RX.lt
  clear hb
  generalize hb2 : w3b.heap.size + 3 = b2 at *
  have A4 := Below.nw w4 (.cells #[.int .i64 ep, .int .i64 us, .slice (some ⟨b2, 0, none⟩) n n] 26)
  have X := IB3.new w4 ep us (some ⟨b2, 0, none⟩) n n 26
  replace N := N.below A4
  replace Q1 := Q1.below A4
  replace V := V.below A4
  replace V0 := V0.below A4
  replace V1 := V1.below A4
  replace RX := RowF.below' A4 RX
  replace B := B.trans (A4.mono B.size)
  clear A4
  go_upto_region 7 with fail
  generalize w4.alloc (.cells #[.int .i64 ep, .int .i64 us, .slice (some ⟨b2, 0, none⟩) n n] 26) = w5 at *
  generalize hbx : w4.heap.size = bx at *
  obtain ⟨xm0, xm1, xm2, xm3⟩ := id X
  go_wp2_with fail
  refine (CI _ _ (RX.cs (Nat.le_refl _))).mono ?_
  rintro e w6 ⟨ag, cg, ga0', gc0', ga1', gc1', rfl, GT, GS0, GS1, GD, hb⟩
  clear xm0 xm1 xm2 xm3
  have hb5 : b2 < w5.heap.size := RX.lt
  have hx5 : bx < w5.heap.size := X.1
  replace N := N.below hb
  replace Q1 := Q1.below hb
  replace X := X.below hb
  replace V := V.below hb
  replace V0 := V0.below hb
  replace V1 := V1.below hb
  replace RX := RowF.below' hb RX
  replace B := B.trans (hb.mono B.size)
  have s56 := hb.size
  clear hb
  have RGT : Hid (∀ g, (Value.slice ag mm cg).ownBlock = some g → w5.heap.size ≤ g ∧ g < w6.heap.size) := fun g hg => World.ownsRow.lt GT g hg
  have RGS0 : Hid (∀ g, (Value.slice ga0' m0 gc0').ownBlock = some g → w5.heap.size ≤ g ∧ g < w6.heap.size) := fun g hg => World.ownsRow.lt GS0 g hg
  have RGS1 : Hid (∀ g, (Value.slice ga1' m1 gc1').ownBlock = some g → w5.heap.size ≤ g ∧ g < w6.heap.size) := fun g hg => World.ownsRow.lt GS1 g hg
  have HGD : Hid ((∀ g, (Value.slice ag mm cg).ownBlock = some g → (Value.slice ga0' m0 gc0').ownBlock ≠ some g) ∧ (∀ g, (Value.slice ag mm cg).ownBlock = some g → (Value.slice ga1' m1 gc1').ownBlock ≠ some g) ∧ (∀ g, (Value.slice ga0' m0 gc0').ownBlock = some g → (Value.slice ga1' m1 gc1').ownBlock ≠ some g)) := GD
  clear GD
  have HGK_GT_GS0 : Hid ((Value.slice ga0' m0 gc0').ownBlock = none ∨ (Value.slice ga0' m0 gc0').ownBlock ≠ (Value.slice ag mm cg).ownBlock) := ne_own (HGD.out.1)
  have HGD_GT_GS0 : Hid (∀ b off, ag = some ⟨b, off, none⟩ → some b ≠ (Value.slice ga0' m0 gc0').ownBlock) := fun b off e => by rw [← own_at GT e]; exact ne_own' (HGD.out.1) (by rw [own_at GT e]; simp)
  have HGK_GT_GS1 : Hid ((Value.slice ga1' m1 gc1').ownBlock = none ∨ (Value.slice ga1' m1 gc1').ownBlock ≠ (Value.slice ag mm cg).ownBlock) := ne_own (HGD.out.2.1)
  have HGD_GT_GS1 : Hid (∀ b off, ag = some ⟨b, off, none⟩ → some b ≠ (Value.slice ga1' m1 gc1').ownBlock) := fun b off e => by rw [← own_at GT e]; exact ne_own' (HGD.out.2.1) (by rw [own_at GT e]; simp)
  have HGK_GS0_GS1 : Hid ((Value.slice ga1' m1 gc1').ownBlock = none ∨ (Value.slice ga1' m1 gc1').ownBlock ≠ (Value.slice ga0' m0 gc0').ownBlock) := ne_own (HGD.out.2.2)
  have HGD_GS0_GS1 : Hid (∀ b off, ga0' = some ⟨b, off, none⟩ → some b ≠ (Value.slice ga1' m1 gc1').ownBlock) := fun b off e => by rw [← own_at GS0 e]; exact ne_own' (HGD.out.2.2) (by rw [own_at GS0 e]; simp)
  have A6 := Below.nw w6 (.cells #[.int .i64 Xe, .int .i64 Xu, .slice ag mm cg] 26)
  have G1 := IB3.new w6 Xe Xu ag mm cg 26
  replace N := N.below A6
  replace Q1 := Q1.below A6
  replace X := X.below A6
  replace V := V.below A6
  replace V0 := V0.below A6
  replace V1 := V1.below A6
  replace GT := own_belK' GT A6
  replace GS0 := own_belK' GS0 A6
  replace GS1 := own_belK' GS1 A6
  replace RX := RowF.below' A6 RX
  replace B := B.trans (A6.mono B.size)
  clear A6
  go_upto_region 8 with fail
  generalize hj10 : w6.heap.size = j10 at *
  generalize w6.alloc (.cells #[.int .i64 Xe, .int .i64 Xu, .slice ag mm cg] 26) = w7 at *
  (obtain ⟨n0, n1, n2, n3⟩ := id N); (obtain ⟨qa0, qa1, qa2, qa3⟩ := id Q1); (obtain ⟨xm0, xm1, xm2, xm3⟩ := id X); (obtain ⟨ga0, ga1, ga2, ga3⟩ := id G1)
  go_wp2_with fail
  refine (eqTable_same Xe Xu _ _ mm _ _ G _ hLm (own_srcK GT) V.src).mono ?_
  rintro e w8a ⟨rfl, hb⟩
  clear n0 n1 n2 n3 qa0 qa1 qa2 qa3 xm0 xm1 xm2 xm3 ga0 ga1 ga2 ga3
  replace N := N.below hb
  replace Q1 := Q1.below hb
  replace X := X.below hb
  replace G1 := G1.below hb
  replace V := V.below hb
  replace V0 := V0.below hb
  replace V1 := V1.below hb
  replace GT := own_belK' GT hb
  replace GS0 := own_belK' GS0 hb
  replace GS1 := own_belK' GS1 hb
  replace RX := RowF.below' hb RX
  replace B := B.trans (hb.mono B.size)
  clear hb
  (obtain ⟨n0, n1, n2, n3⟩ := id N); (obtain ⟨qa0, qa1, qa2, qa3⟩ := id Q1); (obtain ⟨xm0, xm1, xm2, xm3⟩ := id X); (obtain ⟨ga0, ga1, ga2, ga3⟩ := id G1)
  go_wp2_with fail
  refine (eqAskS_src _ _ m0 _ _ GF0 _ hLm0 (own_srcK GS0) V0.src).mono ?_
  rintro e w8s0 ⟨rfl, hb⟩
  clear n0 n1 n2 n3 qa0 qa1 qa2 qa3 xm0 xm1 xm2 xm3 ga0 ga1 ga2 ga3
  replace N := N.below hb
  replace Q1 := Q1.below hb
  replace X := X.below hb
  replace G1 := G1.below hb
  replace V := V.below hb
  replace V0 := V0.below hb
  replace V1 := V1.below hb
  replace GT := own_belK' GT hb
  replace GS0 := own_belK' GS0 hb
  replace GS1 := own_belK' GS1 hb
  replace RX := RowF.below' hb RX
  replace B := B.trans (hb.mono B.size)
  clear hb
  (obtain ⟨n0, n1, n2, n3⟩ := id N); (obtain ⟨qa0, qa1, qa2, qa3⟩ := id Q1); (obtain ⟨xm0, xm1, xm2, xm3⟩ := id X); (obtain ⟨ga0, ga1, ga2, ga3⟩ := id G1)
  go_wp2_with fail
  refine (eqAskS_src _ _ m1 _ _ GF1 _ hLm1 (own_srcK GS1) V1.src).mono ?_
  rintro e w8s1 ⟨rfl, hb⟩
  clear n0 n1 n2 n3 qa0 qa1 qa2 qa3 xm0 xm1 xm2 xm3 ga0 ga1 ga2 ga3
  replace N := N.below hb
  replace Q1 := Q1.below hb
  replace X := X.below hb
  replace G1 := G1.below hb
  replace V := V.below hb
  replace V0 := V0.below hb
  replace V1 := V1.below hb
  replace GT := own_belK' GT hb
  replace GS0 := own_belK' GS0 hb
  replace GS1 := own_belK' GS1 hb
  replace RX := RowF.below' hb RX
  replace B := B.trans (hb.mono B.size)
  clear hb
  (obtain ⟨n0, n1, n2, n3⟩ := id N); (obtain ⟨qa0, qa1, qa2, qa3⟩ := id Q1); (obtain ⟨xm0, xm1, xm2, xm3⟩ := id X); (obtain ⟨ga0, ga1, ga2, ga3⟩ := id G1)
  go_wp2_with fail
  refine wp_region_held_drew (S := (fun w' => w'.cell? ⟨w.heap.size, 0, none⟩ = some (.int .i64 ep) ∧ w'.cell? ⟨w.heap.size, 1, none⟩ = some (.int .i64 us) ∧ w'.cell? ⟨w.heap.size, 2, none⟩ = some (.slice a n c) ∧ w'.cell? ⟨bx, 0, none⟩ = some (.int .i64 ep) ∧ w'.cell? ⟨bx, 1, none⟩ = some (.int .i64 us) ∧ w'.cell? ⟨bx, 2, none⟩ = some (.slice (some ⟨b2, 0, none⟩) n n))) (by kernel_rfl) ?_ (fun hHeld => ?_)
  · first | exact ⟨n1, n2, n3, xm1, xm2, xm3⟩ | (simp (maxDischargeDepth := 6) [go_sem, *]; done)
  clear n0 n1 n2 n3 qa0 qa1 qa2 qa3 xm0 xm1 xm2 xm3 ga0 ga1 ga2 ga3
  replace N := N.drew
  replace Q1 := Q1.drew
  replace X := X.drew
  replace G1 := G1.drew
  replace V : SrcK w8s1.drew az (mm * 4) (MFAsk G) j6 := V
  replace V0 : SrcK w8s1.drew sa0 (m0 * 4) (MFAsk GF0) j6 := V0
  replace V1 : SrcK w8s1.drew sa1 (m1 * 4) (MFAsk GF1) j6 := V1
  replace GT := World.ownsRow.drew GT
  replace GS0 := World.ownsRow.drew GS0
  replace GS1 := World.ownsRow.drew GS1
  replace RX : RowF w8s1.drew b2 34 (n * 4) (n * 4) (MFAsk M) := RX
  replace B := Below.drew B
  generalize w8s1.drew = w9 at *
  (obtain ⟨n0, n1, n2, n3⟩ := id N); (obtain ⟨qa0, qa1, qa2, qa3⟩ := id Q1); (obtain ⟨xm0, xm1, xm2, xm3⟩ := id X); (obtain ⟨ga0, ga1, ga2, ga3⟩ := id G1)
  refine wpAnyH_take (i := 0) (v := ?_) (by rw [List.getElem?_toArray]; rfl) (by kernel_rfl) (by kernel_rfl) (by kernel_rfl) (by intro _ _ _ h; exact h) (Or.inl ⟨by rfl, ?_⟩) (by assumption) ?_
  rotate_left
  · (intro w hSw; (try dsimp only at hSw); go_simp; all_goals with_reducible rfl)
  (try simp only [Act.put, List.setIfInBounds_toArray, List.set_cons_zero, List.set_cons_succ])
  refine wpAnyH_take (i := 1) (v := ?_) (by rw [List.getElem?_toArray]; rfl) (by kernel_rfl) (by kernel_rfl) (by kernel_rfl) (by intro _ _ _ h; exact h) (Or.inl ⟨by rfl, ?_⟩) (by assumption) ?_
  rotate_left
  · (intro w hSw; (try dsimp only at hSw); go_simp; all_goals with_reducible rfl)
  (try simp only [Act.put, List.setIfInBounds_toArray, List.set_cons_zero, List.set_cons_succ])
  refine wpAnyH_ready (rs := [2]) (by kernel_rfl) (by simp) ?_
  refine AllReadyH.cons (by rw [List.getElem?_toArray]; rfl) (fun K hK => ?_) AllReadyH.nil
  go_simp
  refine (toTable_any ep us a n c M _ hn (HA.out.below B)).mono ?_; rintro e w9a ⟨rfl, R9, hb⟩; clear n0 n1 n2 n3 qa0 qa1 qa2 qa3 xm0 xm1 xm2 xm3 ga0 ga1 ga2 ga3; (replace N := N.below hb); (replace Q1 := Q1.below hb); (replace X := X.below hb); (replace G1 := G1.below hb); (replace V := V.below hb); (replace V0 := V0.below hb); (replace V1 := V1.below hb); (replace GT := own_belK' GT hb); (replace GS0 := own_belK' GS0 hb); (replace GS1 := own_belK' GS1 hb); (replace RX := RowF.below' hb RX); (replace B := B.trans (hb.mono B.size)); clear hb; (obtain ⟨n0, n1, n2, n3⟩ := id N); (obtain ⟨qa0, qa1, qa2, qa3⟩ := id Q1); (obtain ⟨xm0, xm1, xm2, xm3⟩ := id X); (obtain ⟨ga0, ga1, ga2, ga3⟩ := id G1)
  (try go_wp2_with fail)
  refine hK.out _ _ ?_ (fun hHeld => ?_)
  · first | exact ⟨n1, n2, n3, xm1, xm2, xm3⟩ | (simp (maxDischargeDepth := 6) [go_sem, *]; done)
  clear hK K
  (try simp only [Act.put, List.setIfInBounds_toArray, List.set_cons_zero, List.set_cons_succ])
  refine wpAnyH_ready (rs := [3]) (by kernel_rfl) (by simp) ?_
  refine AllReadyH.cons (by rw [List.getElem?_toArray]; rfl) (fun K hK => ?_) AllReadyH.nil
  go_simp
  refine (eqTable_same ep us _ _ n n n M _ hm (.inr ⟨_, _, rfl, RX.cs (Nat.le_refl _)⟩) (.inr ⟨_, _, rfl, R9.cs (Nat.le_refl _)⟩)).mono ?_; rintro e w9b ⟨rfl, hb⟩; clear n0 n1 n2 n3 qa0 qa1 qa2 qa3 xm0 xm1 xm2 xm3 ga0 ga1 ga2 ga3; (replace N := N.below hb); (replace Q1 := Q1.below hb); (replace X := X.below hb); (replace G1 := G1.below hb); (replace V := V.below hb); (replace V0 := V0.below hb); (replace V1 := V1.below hb); (replace GT := own_belK' GT hb); (replace GS0 := own_belK' GS0 hb); (replace GS1 := own_belK' GS1 hb); (replace RX := RowF.below' hb RX); (replace B := B.trans (hb.mono B.size)); clear hb; (obtain ⟨n0, n1, n2, n3⟩ := id N); (obtain ⟨qa0, qa1, qa2, qa3⟩ := id Q1); (obtain ⟨xm0, xm1, xm2, xm3⟩ := id X); (obtain ⟨ga0, ga1, ga2, ga3⟩ := id G1)
  (try go_wp2_with fail)
  refine hK.out _ _ ?_ (fun hHeld => ?_)
  · first | exact ⟨n1, n2, n3, xm1, xm2, xm3⟩ | (simp (maxDischargeDepth := 6) [go_sem, *]; done)
  clear hK K
  (try simp only [Act.put, List.setIfInBounds_toArray, List.set_cons_zero, List.set_cons_succ])
  refine wpAnyH_take (i := 4) (v := ?_) (by rw [List.getElem?_toArray]; rfl) (by kernel_rfl) (by kernel_rfl) (by kernel_rfl) (by intro _ _ _ h; exact h) (Or.inl ⟨by rfl, ?_⟩) (by assumption) ?_
  rotate_left
  · (intro w hSw; (try dsimp only at hSw); go_simp; all_goals with_reducible rfl)
  (try simp only [Act.put, List.setIfInBounds_toArray, List.set_cons_zero, List.set_cons_succ])
  refine wpAnyH_done (by kernel_rfl) ?_ _
  go_wp2_with fail
  refine (markTable_row ep us b2 (n * 4) n n _ hn (Nat.le_refl _) (RX.zero _)).mono ?_
  rintro e w11 ⟨rfl, RX1, hb⟩
  clear n0 n1 n2 n3 qa0 qa1 qa2 qa3 xm0 xm1 xm2 xm3 ga0 ga1 ga2 ga3
  replace N := N.but hb (by omega)
  replace Q1 := Q1.but hb (by omega)
  replace X := X.but hb (by omega)
  replace G1 := G1.but hb (by omega)
  replace V := V.kept hb.grK (fun b h e => by (have e' := Option.some.inj e); omega)
  replace V0 := V0.kept hb.grK (fun b h e => by (have e' := Option.some.inj e); omega)
  replace V1 := V1.kept hb.grK (fun b h e => by (have e' := Option.some.inj e); omega)
  replace GT := own_butK GT hb hb5
  replace GS0 := own_butK GS0 hb hb5
  replace GS1 := own_butK GS1 hb hb5
  replace B := B.trans (hb.below (B := w.heap.size) (by omega) B.size)
  have hk1 : ¬ (1 + (n : Int) * 4 < 0) := by omega
  clear hb RX RX1 R9 hHeld
  (obtain ⟨n0, n1, n2, n3⟩ := id N); (obtain ⟨qa0, qa1, qa2, qa3⟩ := id Q1); (obtain ⟨xm0, xm1, xm2, xm3⟩ := id X); (obtain ⟨ga0, ga1, ga2, ga3⟩ := id G1)
  go_wp2_with fail
  refine (eqTable_same Xe Xu _ _ mm _ _ G _ hLm (own_srcK GT) V.src).mono ?_
  rintro e w12a ⟨rfl, hb⟩
  clear n0 n1 n2 n3 qa0 qa1 qa2 qa3 xm0 xm1 xm2 xm3 ga0 ga1 ga2 ga3
  replace N := N.below hb
  replace Q1 := Q1.below hb
  replace X := X.below hb
  replace G1 := G1.below hb
  replace V := V.below hb
  replace V0 := V0.below hb
  replace V1 := V1.below hb
  replace GT := own_belK' GT hb
  replace GS0 := own_belK' GS0 hb
  replace GS1 := own_belK' GS1 hb
  replace B := B.trans (hb.mono B.size)
  clear hb
  (obtain ⟨n0, n1, n2, n3⟩ := id N); (obtain ⟨qa0, qa1, qa2, qa3⟩ := id Q1); (obtain ⟨xm0, xm1, xm2, xm3⟩ := id X); (obtain ⟨ga0, ga1, ga2, ga3⟩ := id G1)
  go_wp2_with fail
  refine (eqAskS_src _ _ m0 _ _ GF0 _ hLm0 (own_srcK GS0) V0.src).mono ?_
  rintro e w12s0 ⟨rfl, hb⟩
  clear n0 n1 n2 n3 qa0 qa1 qa2 qa3 xm0 xm1 xm2 xm3 ga0 ga1 ga2 ga3
  replace N := N.below hb
  replace Q1 := Q1.below hb
  replace X := X.below hb
  replace G1 := G1.below hb
  replace V := V.below hb
  replace V0 := V0.below hb
  replace V1 := V1.below hb
  replace GT := own_belK' GT hb
  replace GS0 := own_belK' GS0 hb
  replace GS1 := own_belK' GS1 hb
  replace B := B.trans (hb.mono B.size)
  clear hb
  (obtain ⟨n0, n1, n2, n3⟩ := id N); (obtain ⟨qa0, qa1, qa2, qa3⟩ := id Q1); (obtain ⟨xm0, xm1, xm2, xm3⟩ := id X); (obtain ⟨ga0, ga1, ga2, ga3⟩ := id G1)
  go_wp2_with fail
  refine (eqAskS_src _ _ m1 _ _ GF1 _ hLm1 (own_srcK GS1) V1.src).mono ?_
  rintro e w12s1 ⟨rfl, hb⟩
  clear n0 n1 n2 n3 qa0 qa1 qa2 qa3 xm0 xm1 xm2 xm3 ga0 ga1 ga2 ga3
  replace N := N.below hb
  replace Q1 := Q1.below hb
  replace X := X.below hb
  replace G1 := G1.below hb
  replace V := V.below hb
  replace V0 := V0.below hb
  replace V1 := V1.below hb
  replace GT := own_belK' GT hb
  replace GS0 := own_belK' GS0 hb
  replace GS1 := own_belK' GS1 hb
  replace B := B.trans (hb.mono B.size)
  clear hb
  clear X
  (obtain ⟨n0, n1, n2, n3⟩ := id N); (obtain ⟨qa0, qa1, qa2, qa3⟩ := id Q1); (obtain ⟨ga0, ga1, ga2, ga3⟩ := id G1)
  go_wp2_with fail
  refine (markTable_own Xe Xu ag mm cg _ _ _ hLn GT).mono ?_
  rintro e w13a ⟨rfl, HMw13a, hb⟩
  clear n0 n1 n2 n3 qa0 qa1 qa2 qa3 ga0 ga1 ga2 ga3
  replace N := N.kept hb (fun e => by have := RGT.out _ e.symm; omega)
  replace Q1 := Q1.kept hb (fun e => by have := RGT.out _ e.symm; omega)
  replace G1 := G1.kept hb (fun e => by have := RGT.out _ e.symm; omega)
  replace V := V.kept hb (fun b h e => by have := RGT.out _ e.symm; omega)
  replace V0 := V0.kept hb (fun b h e => by have := RGT.out _ e.symm; omega)
  replace V1 := V1.kept hb (fun b h e => by have := RGT.out _ e.symm; omega)
  replace GS0 := World.ownsRow.kept GS0 hb HGK_GT_GS0.out
  replace GS1 := World.ownsRow.kept GS1 hb HGK_GT_GS1.out
  replace B := B.trans (grown_bel hb B.size (fun b h e => by have := RGT.out _ e.symm; omega))
  have HMKw13a : Hid (SrcC w13a ag (mm * 4) (mkAsk 1)) := HMw13a
  clear hb HMw13a GT
  (obtain ⟨n0, n1, n2, n3⟩ := id N); (obtain ⟨qa0, qa1, qa2, qa3⟩ := id Q1); (obtain ⟨ga0, ga1, ga2, ga3⟩ := id G1)
  go_wp2_with fail
  refine (markAskS_own ga0' m0 gc0' _ _ _ _ hLn0 (by omega) (by omega) GS0).mono ?_
  rintro e w13b ⟨rfl, HMw13b, hb⟩
  clear n0 n1 n2 n3 qa0 qa1 qa2 qa3 ga0 ga1 ga2 ga3
  replace N := N.kept hb (fun e => by have := RGS0.out _ e.symm; omega)
  replace Q1 := Q1.kept hb (fun e => by have := RGS0.out _ e.symm; omega)
  replace G1 := G1.kept hb (fun e => by have := RGS0.out _ e.symm; omega)
  replace V := V.kept hb (fun b h e => by have := RGS0.out _ e.symm; omega)
  replace V0 := V0.kept hb (fun b h e => by have := RGS0.out _ e.symm; omega)
  replace V1 := V1.kept hb (fun b h e => by have := RGS0.out _ e.symm; omega)
  replace HMKw13a : Hid (SrcC _ ag (mm * 4) (mkAsk 1)) := HMKw13a.out.keptK hb (fun b off e => HGD_GT_GS0.out b off e)
  replace GS1 := World.ownsRow.kept GS1 hb HGK_GS0_GS1.out
  replace B := B.trans (grown_bel hb B.size (fun b h e => by have := RGS0.out _ e.symm; omega))
  have HMKw13b : Hid (SrcC w13b ga0' (m0 * 4) (mkAsk (1 + (mm : Int) * 4))) := HMw13b
  clear hb HMw13b GS0
  (obtain ⟨n0, n1, n2, n3⟩ := id N); (obtain ⟨qa0, qa1, qa2, qa3⟩ := id Q1); (obtain ⟨ga0, ga1, ga2, ga3⟩ := id G1)
  go_wp2_with fail
  refine (markAskS_own ga1' m1 gc1' _ _ _ _ hLn1 (by omega) (by omega) GS1).mono ?_
  rintro e w13c ⟨rfl, HMw13c, hb⟩
  clear n0 n1 n2 n3 qa0 qa1 qa2 qa3 ga0 ga1 ga2 ga3
  replace N := N.kept hb (fun e => by have := RGS1.out _ e.symm; omega)
  replace Q1 := Q1.kept hb (fun e => by have := RGS1.out _ e.symm; omega)
  replace G1 := G1.kept hb (fun e => by have := RGS1.out _ e.symm; omega)
  replace V := V.kept hb (fun b h e => by have := RGS1.out _ e.symm; omega)
  replace V0 := V0.kept hb (fun b h e => by have := RGS1.out _ e.symm; omega)
  replace V1 := V1.kept hb (fun b h e => by have := RGS1.out _ e.symm; omega)
  replace HMKw13a : Hid (SrcC _ ag (mm * 4) (mkAsk 1)) := HMKw13a.out.keptK hb (fun b off e => HGD_GT_GS1.out b off e)
  replace HMKw13b : Hid (SrcC _ ga0' (m0 * 4) (mkAsk (1 + (mm : Int) * 4))) := HMKw13b.out.keptK hb (fun b off e => HGD_GS0_GS1.out b off e)
  replace B := B.trans (grown_bel hb B.size (fun b h e => by have := RGS1.out _ e.symm; omega))
  have HMKw13c : Hid (SrcC w13c ga1' (m1 * 4) (mkAsk (1 + (mm : Int) * 4 + (m0 : Int) * 4))) := HMw13c
  clear hb HMw13c GS1
  (obtain ⟨n0, n1, n2, n3⟩ := id N); (obtain ⟨qa0, qa1, qa2, qa3⟩ := id Q1); (obtain ⟨ga0, ga1, ga2, ga3⟩ := id G1)
  go_wp2_with fail
  refine (heldTable_any Xe Xu ag mm cg _ hLn HMKw13a.out).mono ?_
  rintro e w140 ⟨rfl, hb⟩
  clear n0 n1 n2 n3 qa0 qa1 qa2 qa3 ga0 ga1 ga2 ga3
  replace N := N.below hb
  replace Q1 := Q1.below hb
  replace G1 := G1.below hb
  replace V := V.below hb
  replace V0 := V0.below hb
  replace V1 := V1.below hb
  replace HMKw13a : Hid (SrcC _ ag (mm * 4) (mkAsk 1)) := HMKw13a.out.below hb
  replace HMKw13b : Hid (SrcC _ ga0' (m0 * 4) (mkAsk (1 + (mm : Int) * 4))) := HMKw13b.out.below hb
  replace HMKw13c : Hid (SrcC _ ga1' (m1 * 4) (mkAsk (1 + (mm : Int) * 4 + (m0 : Int) * 4))) := HMKw13c.out.below hb
  replace B := B.trans (hb.mono B.size)
  clear hb
  have hk20 : ¬ (1 + (mm : Int) * 4 < 0) := by omega
  (obtain ⟨n0, n1, n2, n3⟩ := id N); (obtain ⟨qa0, qa1, qa2, qa3⟩ := id Q1); (obtain ⟨ga0, ga1, ga2, ga3⟩ := id G1)
  go_wp2_with fail
  refine (heldAskS_any ga0' m0 gc0' _ _ hLn0 (by omega) (by omega) HMKw13b.out).mono ?_
  rintro e w141 ⟨rfl, rfl⟩
  clear n0 n1 n2 n3 qa0 qa1 qa2 qa3 ga0 ga1 ga2 ga3
  have hk21 : ¬ (1 + (mm : Int) * 4 + (m0 : Int) * 4 < 0) := by omega
  (obtain ⟨n0, n1, n2, n3⟩ := id N); (obtain ⟨qa0, qa1, qa2, qa3⟩ := id Q1); (obtain ⟨ga0, ga1, ga2, ga3⟩ := id G1)
  go_wp2_with fail
  refine (heldAskS_any ga1' m1 gc1' _ _ hLn1 (by omega) (by omega) HMKw13c.out).mono ?_
  rintro e w142 ⟨rfl, rfl⟩
  clear n0 n1 n2 n3 qa0 qa1 qa2 qa3 ga0 ga1 ga2 ga3
  have hk22 : ¬ (1 + (mm : Int) * 4 + (m0 : Int) * 4 + (m1 : Int) * 4 < 0) := by omega
  (obtain ⟨n0, n1, n2, n3⟩ := id N); (obtain ⟨qa0, qa1, qa2, qa3⟩ := id Q1); (obtain ⟨ga0, ga1, ga2, ga3⟩ := id G1)
  go_wp2_with fail
  refine (toTable_any ep us a n c M _ hn (HA.out.below B)).mono ?_
  rintro e w15 ⟨rfl, R15, hb⟩
  clear n0 n1 n2 n3 qa0 qa1 qa2 qa3 ga0 ga1 ga2 ga3
  replace N := N.below hb
  replace Q1 := Q1.below hb
  replace G1 := G1.below hb
  replace V := V.below hb
  replace V0 := V0.below hb
  replace V1 := V1.below hb
  replace HMKw13a : Hid (SrcC _ ag (mm * 4) (mkAsk 1)) := HMKw13a.out.below hb
  replace HMKw13b : Hid (SrcC _ ga0' (m0 * 4) (mkAsk (1 + (mm : Int) * 4))) := HMKw13b.out.below hb
  replace HMKw13c : Hid (SrcC _ ga1' (m1 * 4) (mkAsk (1 + (mm : Int) * 4 + (m0 : Int) * 4))) := HMKw13c.out.below hb
  replace B := B.trans (hb.mono B.size)
  clear hb
  go_wp2_with fail
  refine (CI _ _ (R15.cs (Nat.le_refl _))).mono ?_
  rintro e w16 ⟨ah, ch, ha0, hc0, ha1, hc1, rfl, H0, HS0, HS1, _, hb⟩
  replace N := N.below hb
  replace Q1 := Q1.below hb
  replace G1 := G1.below hb
  replace V := V.below hb
  replace V0 := V0.below hb
  replace V1 := V1.below hb
  replace HMKw13a : Hid (SrcC _ ag (mm * 4) (mkAsk 1)) := HMKw13a.out.below hb
  replace HMKw13b : Hid (SrcC _ ga0' (m0 * 4) (mkAsk (1 + (mm : Int) * 4))) := HMKw13b.out.below hb
  replace HMKw13c : Hid (SrcC _ ga1' (m1 * 4) (mkAsk (1 + (mm : Int) * 4 + (m0 : Int) * 4))) := HMKw13c.out.below hb
  replace B := B.trans (hb.mono B.size)
  clear hb R15 CI
  have A7 := Below.nw w16 (.cells #[.int .i64 Xe, .int .i64 Xu, .slice ah mm ch] 26)
  have K1 := IB3.new w16 Xe Xu ah mm ch 26
  replace N := N.below A7
  replace Q1 := Q1.below A7
  replace G1 := G1.below A7
  replace V := V.below A7
  replace V0 := V0.below A7
  replace V1 := V1.below A7
  replace H0 := own_belK' H0 A7
  replace HS0 := own_belK' HS0 A7
  replace HS1 := own_belK' HS1 A7
  replace HMKw13a : Hid (SrcC _ ag (mm * 4) (mkAsk 1)) := HMKw13a.out.below A7
  replace HMKw13b : Hid (SrcC _ ga0' (m0 * 4) (mkAsk (1 + (mm : Int) * 4))) := HMKw13b.out.below A7
  replace HMKw13c : Hid (SrcC _ ga1' (m1 * 4) (mkAsk (1 + (mm : Int) * 4 + (m0 : Int) * 4))) := HMKw13c.out.below A7
  replace B := B.trans (A7.mono B.size)
  clear A7
  go_upto_region 33 with fail
  generalize w16.heap.size = j16 at *
  generalize w16.alloc (.cells #[.int .i64 Xe, .int .i64 Xu, .slice ah mm ch] 26) = w17 at *
  (obtain ⟨n0, n1, n2, n3⟩ := id N); (obtain ⟨qa0, qa1, qa2, qa3⟩ := id Q1); (obtain ⟨ga0, ga1, ga2, ga3⟩ := id G1); (obtain ⟨ka0, ka1, ka2, ka3⟩ := id K1)
  go_wp2_with fail
  refine (eqTable_same Xe Xu _ _ mm _ _ G _ hLm (own_srcK H0) V.src).mono ?_
  rintro e w18a ⟨rfl, hb⟩
  clear n0 n1 n2 n3 qa0 qa1 qa2 qa3 ga0 ga1 ga2 ga3 ka0 ka1 ka2 ka3
  replace N := N.below hb
  replace Q1 := Q1.below hb
  replace G1 := G1.below hb
  replace K1 := K1.below hb
  replace V := V.below hb
  replace V0 := V0.below hb
  replace V1 := V1.below hb
  replace H0 := own_belK' H0 hb
  replace HS0 := own_belK' HS0 hb
  replace HS1 := own_belK' HS1 hb
  replace HMKw13a : Hid (SrcC _ ag (mm * 4) (mkAsk 1)) := HMKw13a.out.below hb
  replace HMKw13b : Hid (SrcC _ ga0' (m0 * 4) (mkAsk (1 + (mm : Int) * 4))) := HMKw13b.out.below hb
  replace HMKw13c : Hid (SrcC _ ga1' (m1 * 4) (mkAsk (1 + (mm : Int) * 4 + (m0 : Int) * 4))) := HMKw13c.out.below hb
  replace B := B.trans (hb.mono B.size)
  clear hb
  (obtain ⟨n0, n1, n2, n3⟩ := id N); (obtain ⟨qa0, qa1, qa2, qa3⟩ := id Q1); (obtain ⟨ga0, ga1, ga2, ga3⟩ := id G1); (obtain ⟨ka0, ka1, ka2, ka3⟩ := id K1)
  go_wp2_with fail
  refine (eqAskS_src _ _ m0 _ _ GF0 _ hLm0 (own_srcK HS0) V0.src).mono ?_
  rintro e w18s0 ⟨rfl, hb⟩
  clear n0 n1 n2 n3 qa0 qa1 qa2 qa3 ga0 ga1 ga2 ga3 ka0 ka1 ka2 ka3
  replace N := N.below hb
  replace Q1 := Q1.below hb
  replace G1 := G1.below hb
  replace K1 := K1.below hb
  replace V := V.below hb
  replace V0 := V0.below hb
  replace V1 := V1.below hb
  replace H0 := own_belK' H0 hb
  replace HS0 := own_belK' HS0 hb
  replace HS1 := own_belK' HS1 hb
  replace HMKw13a : Hid (SrcC _ ag (mm * 4) (mkAsk 1)) := HMKw13a.out.below hb
  replace HMKw13b : Hid (SrcC _ ga0' (m0 * 4) (mkAsk (1 + (mm : Int) * 4))) := HMKw13b.out.below hb
  replace HMKw13c : Hid (SrcC _ ga1' (m1 * 4) (mkAsk (1 + (mm : Int) * 4 + (m0 : Int) * 4))) := HMKw13c.out.below hb
  replace B := B.trans (hb.mono B.size)
  clear hb
  (obtain ⟨n0, n1, n2, n3⟩ := id N); (obtain ⟨qa0, qa1, qa2, qa3⟩ := id Q1); (obtain ⟨ga0, ga1, ga2, ga3⟩ := id G1); (obtain ⟨ka0, ka1, ka2, ka3⟩ := id K1)
  go_wp2_with fail
  refine (eqAskS_src _ _ m1 _ _ GF1 _ hLm1 (own_srcK HS1) V1.src).mono ?_
  rintro e w18s1 ⟨rfl, hb⟩
  clear n0 n1 n2 n3 qa0 qa1 qa2 qa3 ga0 ga1 ga2 ga3 ka0 ka1 ka2 ka3
  replace N := N.below hb
  replace Q1 := Q1.below hb
  replace G1 := G1.below hb
  replace K1 := K1.below hb
  replace V := V.below hb
  replace V0 := V0.below hb
  replace V1 := V1.below hb
  replace H0 := own_belK' H0 hb
  replace HS0 := own_belK' HS0 hb
  replace HS1 := own_belK' HS1 hb
  replace HMKw13a : Hid (SrcC _ ag (mm * 4) (mkAsk 1)) := HMKw13a.out.below hb
  replace HMKw13b : Hid (SrcC _ ga0' (m0 * 4) (mkAsk (1 + (mm : Int) * 4))) := HMKw13b.out.below hb
  replace HMKw13c : Hid (SrcC _ ga1' (m1 * 4) (mkAsk (1 + (mm : Int) * 4 + (m0 : Int) * 4))) := HMKw13c.out.below hb
  replace B := B.trans (hb.mono B.size)
  clear hb
  (obtain ⟨n0, n1, n2, n3⟩ := id N); (obtain ⟨qa0, qa1, qa2, qa3⟩ := id Q1); (obtain ⟨ga0, ga1, ga2, ga3⟩ := id G1); (obtain ⟨ka0, ka1, ka2, ka3⟩ := id K1)
  go_wp2_with fail
  refine (heldTable_any Xe Xu ag mm cg _ hLn HMKw13a.out).mono ?_
  rintro e w200 ⟨rfl, hb⟩
  clear n0 n1 n2 n3 qa0 qa1 qa2 qa3 ga0 ga1 ga2 ga3 ka0 ka1 ka2 ka3
  replace N := N.below hb
  replace Q1 := Q1.below hb
  replace G1 := G1.below hb
  replace K1 := K1.below hb
  replace V := V.below hb
  replace V0 := V0.below hb
  replace V1 := V1.below hb
  replace HMKw13a : Hid (SrcC _ ag (mm * 4) (mkAsk 1)) := HMKw13a.out.below hb
  replace HMKw13b : Hid (SrcC _ ga0' (m0 * 4) (mkAsk (1 + (mm : Int) * 4))) := HMKw13b.out.below hb
  replace HMKw13c : Hid (SrcC _ ga1' (m1 * 4) (mkAsk (1 + (mm : Int) * 4 + (m0 : Int) * 4))) := HMKw13c.out.below hb
  replace B := B.trans (hb.mono B.size)
  clear hb
  (obtain ⟨n0, n1, n2, n3⟩ := id N); (obtain ⟨qa0, qa1, qa2, qa3⟩ := id Q1); (obtain ⟨ga0, ga1, ga2, ga3⟩ := id G1); (obtain ⟨ka0, ka1, ka2, ka3⟩ := id K1)
  go_wp2_with fail
  refine (heldAskS_any ga0' m0 gc0' _ _ hLn0 (by omega) (by omega) HMKw13b.out).mono ?_
  rintro e w201 ⟨rfl, rfl⟩
  clear n0 n1 n2 n3 qa0 qa1 qa2 qa3 ga0 ga1 ga2 ga3 ka0 ka1 ka2 ka3
  (obtain ⟨n0, n1, n2, n3⟩ := id N); (obtain ⟨qa0, qa1, qa2, qa3⟩ := id Q1); (obtain ⟨ga0, ga1, ga2, ga3⟩ := id G1); (obtain ⟨ka0, ka1, ka2, ka3⟩ := id K1)
  go_wp2_with fail
  refine (heldAskS_any ga1' m1 gc1' _ _ hLn1 (by omega) (by omega) HMKw13c.out).mono ?_
  rintro e w202 ⟨rfl, rfl⟩
  clear n0 n1 n2 n3 qa0 qa1 qa2 qa3 ga0 ga1 ga2 ga3 ka0 ka1 ka2 ka3
  go_wp2_with fail
  go_ret
  exact ⟨rfl, B⟩
end Go.Proofs.Ytcaelkpjkmpheaa
