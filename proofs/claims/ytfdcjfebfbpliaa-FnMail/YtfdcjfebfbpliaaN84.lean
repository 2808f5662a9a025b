/- The contract of impl.NetCut. -/
import Derived.Test.YtfdcjfebfbpliaaN83
import Derived.Test.YtfdcjfebfbpliaaN72
import Derived.WalkKit
import Derived.WalkSpells
import Derived.WalkLawsBesides
import Derived.Deep.RegionHeld
namespace Go.Proofs.Ytfdcjfebfbpliaa
open Go.RowKit
set_option linter.unusedVariables false
structure HidP (p : Prop) : Prop where
  out : p
set_option maxHeartbeats 4000000 in
theorem implNetCut_bad (nx nd : Int) (b n c : Nat) (M : Nat → FT) (w : World) (hm : n ≤ maxLen) (hf : Cs w b 0 (n * 5) (MFFlight M)) (hs : ∀ i, i < n → ((M i).2.2.2.1).size ≤ maxLen) (hw : ∀ i, i < n → (Lit.int .i64 (M i).1).wf = true) (h : netB nx M n = false) :
    Calls Try.prog 19 #[.agg #[.int .i64 nx, .slice (some ⟨b, 0, none⟩) n c], .int .i64 nd] w fun e w' => e = .returned (.agg #[.int .i64 0, .slice none 0 0]) ∧ Below w.heap.size w w' := by
  have R1 := B2.new (w.alloc (.cells #[.int .i64 nx, .slice (some ⟨b, 0, none⟩) n c] 26)) (.int .i64 0) (.slice none 0 0) 26
  have A1 := Below.nw w (.cells #[.int .i64 nx, .slice (some ⟨b, 0, none⟩) n c] 26)
  have B := A1.alloc A1.size (.cells #[.int .i64 0, .slice none 0 0] 26)
  have CO := fun w' (h' : Cs w' b 0 (n * 5) (MFFlight M)) => mailOf_any nx (some ⟨b, 0, none⟩) n c M w' hm (.inr ⟨b, 0, rfl, h'⟩) hs hw
  have CS := hf.below B hf.1
  simp only [World.size_alloc] at R1
  clear hf A1
  go_enter Try.func19, Try.ntmps19
  go_wp2_with fail
  refine (CO _ CS).mono ?_
  rintro e v ⟨V, rfl, q0, q1, hb⟩
  replace B := B.trans (hb.mono B.size)
  replace R1 := R1.below hb
  clear CO CS
  have hV := q0 h
  subst hV
  rw [h]
  clear q0 q1 hb
  unfold zml
  have A4 := Below.nw v (.cells #[.int .i64 0, .map none, .slice none 0 0] 44)
  replace B := B.trans (A4.mono B.size)
  obtain ⟨r0, r1, r2, r3, r4⟩ := R1.below A4
  clear A4 R1
  go_wp2_with fail
  generalize v.alloc (.cells #[.int .i64 0, .map none, .slice none 0 0] 44) = v4 at *
  have PB1 := ((But.refl (w.heap.size + 1) v4).setCell 0 (.int .i64 0)).setCell 1 (.slice none 0 0)
  exact bodyPost_ret (v := .agg #[.int .i64 0, .slice none 0 0]) (by simp (maxDischargeDepth := 6) [results, Try.results19, go_sem, *]) rfl ⟨rfl, B.trans (PB1.below (by omega) B.size)⟩
theorem cutG_inv {F : Int → Option FT} {G : Nat → FT} {m q : Nat} (hq : q < m) (h1 : ∀ j, j < m → F (G j).1 = some (G j)) (h2 : ∀ j k, j < k → k < m → (G j).1 ≠ (G k).1) (h3 : ∀ j, j < m → (Lit.int .i64 (G j).1).wf = true) :
    (∀ j, j < m - 1 → (fun y => if y = (G q).1 then none else F y) (cutG G q j).1 = some (cutG G q j)) ∧ (∀ j k, j < k → k < m - 1 → (cutG G q j).1 ≠ (cutG G q k).1) ∧ (∀ j, j < m - 1 → (Lit.int .i64 (cutG G q j).1).wf = true) := by
  have key : ∀ j, j < m - 1 → ∃ j', j' < m ∧ j' ≠ q ∧ cutG G q j = G j' ∧ (j < q → j' = j) ∧ (¬ j < q → j' = j + 1) := by
    intro j hj
    by_cases h : j < q
    · exact ⟨j, by omega, by omega, by rw [cutG, if_pos h], fun _ => rfl, fun q' => absurd h q'⟩
    · exact ⟨j + 1, by omega, by omega, by rw [cutG, if_neg h], fun q' => absurd q' h, fun _ => rfl⟩
  refine ⟨fun j hj => ?_, fun j k hjk hk => ?_, fun j hj => ?_⟩
  · obtain ⟨j', a, b, e, _, _⟩ := key j hj
    rw [e]
    show (if (G j').1 = (G q).1 then none else F (G j').1) = _
    rw [if_neg ?_]
    · exact h1 j' a
    · intro e'
      by_cases l : j' < q
      · exact h2 j' q l hq e'
      · exact h2 q j' (by omega) a e'.symm
  · obtain ⟨j', a, _, e, p1, p2⟩ := key j (by omega)
    obtain ⟨k', a', _, e', p1', p2'⟩ := key k hk
    rw [e, e']
    refine h2 j' k' ?_ a'
    by_cases x : j < q
    · by_cases y : k < q
      · rw [p1 x, p1' y]; exact hjk
      · rw [p1 x, p2' y]; omega
    · rw [p2 x, p2' (by omega)]; omega
  · obtain ⟨j', a, _, e, _, _⟩ := key j hj
    rw [e]; exact h3 j' a
def CiInv (nx : Int) (w : World) (jm bm n m : Nat) (G : Nat → FT) (wr : World) : Prop := ∃ br F, MB wr jm (.int .i64 nx) (.map (some bm)) (.slice (some ⟨br, 0, none⟩) m m) ∧ MapI wr bm n F ∧ RowF wr br 3 m m (idF G) ∧ jm ≠ br ∧ bm ≠ br ∧ (∀ j, j < m → F (G j).1 = some (G j)) ∧ (∀ j k, j < k → k < m → (G j).1 ≠ (G k).1) ∧ (∀ j, j < m → (Lit.int .i64 (G j).1).wf = true) ∧ B2 wr (w.heap.size + 1) (.int .i64 0) (.slice none 0 0) ∧ Below w.heap.size w wr
set_option maxRecDepth 100000 in
set_option maxHeartbeats 8000000 in
theorem implNetCut_done (nx nd : Int) (b n c : Nat) (M : Nat → FT) (w : World) (hm : n ≤ maxLen) (hf : Cs w b 0 (n * 5) (MFFlight M)) (hs : ∀ i, i < n → ((M i).2.2.2.1).size ≤ maxLen) (hw : ∀ i, i < n → (Lit.int .i64 (M i).1).wf = true) (h : netB nx M n = true) :
    Calls Try.prog 19 #[.agg #[.int .i64 nx, .slice (some ⟨b, 0, none⟩) n c], .int .i64 nd] w fun e w' => ∃ g, e = .returned (.agg #[.int .i64 nx, .slice (some ⟨g, 0, none⟩) (bG M nd n n).1 (bG M nd n n).1]) ∧ w.heap.size ≤ g ∧ RowF w' g 30 ((bG M nd n n).1 * 5) ((bG M nd n n).1 * 5) (MFFlight (bG M nd n n).2) ∧ Below w.heap.size w w' := by
  have hn40 := netB_n h
  have HL : Hid (∀ j, j < n → lk M n (M j).1 = some (M j)) := lk_mine (netB_nOk h)
  have HID : Hid (∀ j k, j < k → k < n → (M j).1 ≠ (M k).1) := nOk_ids (netB_nOk h)
  have HWF : Hid (∀ j, j < n → (Lit.int .i64 (M j).1).wf = true) := hw
  have HBO : Hid (∀ d, d ≤ n → (bG M nd n d).1 ≤ n ∧ n - d ≤ (bG M nd n d).1 ∧ (∀ j, j < n - d → (bG M nd n d).2 j = M j)) := fun d hd => by
    obtain ⟨i1, i2, _⟩ := bG_ok M nd n d hd
    have a1 := kc_le M nd (n - d)
    have a2 : kc M nd n ≤ kc M nd (n - d) + d := by
      have : ∀ e, kc M nd (n - d + e) ≤ kc M nd (n - d) + e := by
        intro e
        induction e with
        | zero => exact Nat.le_refl _
        | succ e ih => rw [← Nat.add_assoc, kc]; split <;> omega
      have q := this d
      rw [show n - d + d = n by omega] at q
      exact q
    exact ⟨by omega, by omega, i2⟩
  have R1 := B2.new (w.alloc (.cells #[.int .i64 nx, .slice (some ⟨b, 0, none⟩) n c] 26)) (.int .i64 0) (.slice none 0 0) 26
  have A1 := Below.nw w (.cells #[.int .i64 nx, .slice (some ⟨b, 0, none⟩) n c] 26)
  have B := A1.alloc A1.size (.cells #[.int .i64 0, .slice none 0 0] 26)
  have CO := fun w' (h' : Cs w' b 0 (n * 5) (MFFlight M)) => mailOf_any nx (some ⟨b, 0, none⟩) n c M w' hm (.inr ⟨b, 0, rfl, h'⟩) hs hw
  have CS := hf.below B hf.1
  simp only [World.size_alloc] at R1
  clear hf A1
  go_enter Try.func19, Try.ntmps19
  go_wp2_with fail
  refine (CO _ CS).mono ?_
  rintro e v ⟨V, rfl, q0, q1, hb⟩
  have hbs := hb.size
  simp at hbs
  replace B := B.trans (hb.mono B.size)
  replace R1 := R1.below hb
  clear CO CS
  obtain ⟨bm, br, rfl, hb1, hb2, hne, MP, RW⟩ := q1 h
  rw [h]
  clear q0 q1 hb h hs hw
  have lm := MP.lt
  have lr := RW.lt
  simp at hb1 hb2
  have A4 := Below.nw v (.cells #[.int .i64 nx, .map (some bm), .slice (some ⟨br, 0, none⟩) n n] 44)
  have X := MB.new v (.int .i64 nx) (.map (some bm)) (.slice (some ⟨br, 0, none⟩) n n) 44
  replace MP := MP.below A4
  replace RW := RowF.below' A4 RW
  replace B := B.trans (A4.mono B.size)
  replace R1 := R1.below A4
  clear A4
  obtain ⟨k0, k1, k2, k3, k4, k5, k6⟩ := id X
  have hjm1 : w.heap.size + 1 < v.heap.size := by omega
  go_upto_region 5 with fail
  generalize hjm : v.heap.size = jm at *
  generalize v.alloc (.cells #[.int .i64 nx, .map (some bm), .slice (some ⟨br, 0, none⟩) n n] 44) = v1 at *
  clear k0 k1 k2 k3 k4 k5 k6
  have W0 : IntKind.i64.wrap ((n : Int) - 1) = (n : Int) - 1 := Go.IntWalk.i64_in _ ⟨by omega, by omega⟩
  go_loopw [7] (fun s7 wr => ∃ d : Nat, d ≤ n ∧ s7 = .int .i64 ((n : Int) - 1 - (d : Int)) ∧ CiInv nx w jm bm n (bG M nd n d).1 (bG M nd n d).2 wr) (fun s7 _ => (intOf s7 + 1).toNat)
  case atStart => exact ⟨0, Nat.zero_le _, by simp, br, lk M n, X, MP, RW, by omega, hne, HL.out, HID.out, HWF.out, R1, B⟩
  case round =>
    clear X MP RW R1 B W0 hne lr hb2
    obtain ⟨d, hd, rfl, br, F, X, MP, RW, hjb, hbb, hF, hI, hWf, R1, B⟩ := hrel
    obtain ⟨m1, m2, m3⟩ := HBO.out d hd
    obtain ⟨k0, k1, k2, k3, k4, k5, k6⟩ := id X
    by_cases hlt : d < n
    · obtain ⟨p, hp⟩ : ∃ p : Nat, p = n - 1 - d := ⟨_, rfl⟩
      have ep : (n : Int) - 1 - (d : Int) = (p : Int) := by omega
      rw [ep]
      have hGp : (bG M nd n d).2 p = M p := m3 p (by omega)
      obtain ⟨x0, x1, x2, x3, x4, hM⟩ := tupFlight M p
      have hstep : bG M nd n (d + 1) = if cuB nd (M p) = true then ((bG M nd n d).1 - 1, cutG (bG M nd n d).2 p) else bG M nd n d := by rw [bG, ← hp]
      have HST := hstep
      have hpm : p < (bG M nd n d).1 := by omega
      have hmle : (bG M nd n d).1 ≤ 40 := by omega
      have ewp : (n : Int) - 1 - ((d + 1 : Nat) : Int) = (p : Int) - 1 := by omega
      have wwp : IntKind.i64.wrap ((p : Int) - 1) = (p : Int) - 1 := Go.IntWalk.i64_in _ ⟨by omega, by omega⟩
      have hcell : wr.cell? ⟨br, p, none⟩ = some (.int .i64 x0) := by
        have q := (RW.cs (Nat.le_refl _)).2 p hpm
        rw [Nat.zero_add] at q
        rw [q, idF, hGp, hM]
      have hFx : F x0 = some (x0, x1, x2, x3, x4) := by have q := hF p hpm; rw [hGp, hM] at q; exact q
      have hwx : (Lit.int .i64 x0).wf = true := by have q := hWf p hpm; rw [hGp, hM] at q; exact q
      have hinv := cutG_inv hpm hF hI hWf
      rw [hGp, hM] at hinv
      have HGM : Hid ((bG M nd n d).2 p = (x0, x1, x2, x3, x4)) := by rw [Hid, hGp, hM]
      have HFX : Hid (F x0 = some (x0, x1, x2, x3, x4)) := hFx
      have HIN := HidP.mk hinv
      have HFF := HidP.mk hF
      have HII := HidP.mk hI
      have HWW := HidP.mk hWf
      have HMM := HidP.mk hM
      clear hF hI hWf hinv hFx hGp hM m3 hstep
      have HSS := HidP.mk HST
      have HEW := HidP.mk ewp
      have HPR := HidP.mk (show bG M nd n d = ((bG M nd n d).1, (bG M nd n d).2) from rfl)
      clear HST hp ep ewp
      generalize (bG M nd n d).1 = mm at *
      generalize (bG M nd n d).2 = GG at *
      go_wp2_with fail
      refine (mailAt_any nx bm br mm n p F x0 x1 x2 x3 x4 _ hmle hpm MP RW.lt hcell hwx HFX.out).mono ?_
      rintro e v3 ⟨rfl, hb⟩
      replace B := B.trans (hb.mono B.size)
      replace R1 := R1.below hb
      replace X := X.below hb
      replace MP := MP.below hb
      replace RW := RowF.below' hb RW
      clear hb hcell k0 k1 k2 k3 k4 k5 k6
      have A6 := Below.nw v3 (.cells #[.int .i64 x0, .int .i64 x1, .int .i64 x2, .string x3, .int .i64 x4] 30)
      have P := F5.new v3 x0 x1 x2 x3 x4 30
      replace B := B.trans (A6.mono B.size)
      replace R1 := R1.below A6
      replace X := X.below A6
      replace MP := MP.below A6
      replace RW := RowF.below' A6 RW
      clear A6
      obtain ⟨p0, p1, p2, p3, p4, p5, p6, p7, p8, p9, p10⟩ := id P
      cases hc : cuB nd (M p)
      · have hnc : ¬ (x1 = nd ∨ x2 = nd) := by have q := hc; rw [HMM.out] at q; exact of_decide_eq_false q
        have d1 : decide (x1 = nd) = false := decide_eq_false (fun e => hnc (.inl e))
        have d1' : (x1 == nd) = false := by simp; exact fun e => hnc (.inl e)
        have d2 : decide (x2 = nd) = false := decide_eq_false (fun e => hnc (.inr e))
        have d2' : (x2 == nd) = false := by simp; exact fun e => hnc (.inr e)
        have HS2 : Hid (bG M nd n (d + 1) = (mm, GG)) := by rw [Hid, HSS.out, if_neg (by rw [hc]; decide)]; exact HPR.out
        clear hnc hc HSS HMM
        go_wp2_with fail
        go_roundw
        case rel => exact ⟨d + 1, by omega, by rw [HEW.out], by rw [HS2.out]; exact ⟨br, F, X, MP, RW, hjb, hbb, HFF.out, HII.out, HWW.out, R1, B⟩⟩
        case measure => (simp [intOf]; try omega)
      · have hyc : x1 = nd ∨ x2 = nd := by have q := hc; rw [HMM.out] at q; exact of_decide_eq_true q
        have HS2 : Hid (bG M nd n (d + 1) = (mm - 1, cutG GG p)) := by rw [Hid, HSS.out, if_pos hc]
        have CT := mailTake_any nx jm bm br mm n p F GG x0 x1 x2 x3 x4 _ hmle hpm X MP RW (by omega) hjb hbb hwx HGM.out HFX.out
        clear hc HSS HMM
        by_cases h1 : x1 = nd
        · subst h1
          clear hyc
          go_wp2_with fail
          refine CT.mono ?_
          rintro e v5 ⟨b5, rfl, hb5, X5, M5, R5, Z5⟩
          have hz4 := R1.1
          have D1 : B2 v5 (w.heap.size + 1) (.int .i64 0) (.slice none 0 0) := R1.but2 Z5 (by omega) (by omega)
          have lm5 := M5.lt
          have hjm5 := X.1
          have hbm5 := MP.lt
          replace B := B.trans (Z5.below (B := w.heap.size) (by omega) (by omega) B.size)
          clear Z5 R1 X MP RW CT P p0 p1 p2 p3 p4 p5 p6 p7 p8 p9 p10
          go_wp2_with fail
          go_roundw
          case rel => exact ⟨d + 1, by omega, by rw [HEW.out], by rw [HS2.out]; exact ⟨b5, _, X5, M5, R5, by omega, by omega, HIN.out.1, HIN.out.2.1, HIN.out.2.2, D1, B⟩⟩
          case measure => (simp [intOf]; try omega)
        · have h2 := hyc.resolve_left h1
          subst h2
          have d1 : decide (x1 = x2) = false := decide_eq_false h1
          have d1' : (x1 == x2) = false := by simp [h1]
          clear hyc
          go_wp2_with fail
          refine CT.mono ?_
          rintro e v5 ⟨b5, rfl, hb5, X5, M5, R5, Z5⟩
          have hz4 := R1.1
          have D1 : B2 v5 (w.heap.size + 1) (.int .i64 0) (.slice none 0 0) := R1.but2 Z5 (by omega) (by omega)
          have lm5 := M5.lt
          have hjm5 := X.1
          have hbm5 := MP.lt
          replace B := B.trans (Z5.below (B := w.heap.size) (by omega) (by omega) B.size)
          clear Z5 R1 X MP RW CT P p0 p1 p2 p3 p4 p5 p6 p7 p8 p9 p10
          go_wp2_with fail
          go_roundw
          case rel => exact ⟨d + 1, by omega, by rw [HEW.out], by rw [HS2.out]; exact ⟨b5, _, X5, M5, R5, by omega, by omega, HIN.out.1, HIN.out.2.1, HIN.out.2.2, D1, B⟩⟩
          case measure => (simp [intOf]; try omega)
    · have hdn : d = n := by omega
      subst hdn
      have e0 : (d : Int) - 1 - (d : Int) = -1 := by omega
      rw [e0]
      have hmle : (bG M nd d d).1 ≤ 40 := by omega
      have HFF := HidP.mk hF
      have HWW := HidP.mk hWf
      clear hF hI hWf m3
      obtain ⟨mm, hmE⟩ : ∃ mm, mm = (bG M nd d d).1 := ⟨_, rfl⟩
      obtain ⟨GG, hGE⟩ : ∃ GG, GG = (bG M nd d d).2 := ⟨_, rfl⟩
      rw [← hmE] at X RW HFF HWW hmle m1 m2 k3
      rw [← hGE] at RW HFF HWW
      have HME := HidP.mk hmE
      have HGE := HidP.mk hGE
      clear hmE hGE
      go_wp2_with fail
      refine (mailNet_any nx bm br mm d F GG _ hmle MP RW HFF.out HWW.out).mono ?_
      rintro e v6 ⟨g6, rfl, hg6, R6, hb⟩
      have hv5 := B.size
      replace B := B.trans (hb.mono B.size)
      have hR1 := R1.1
      obtain ⟨r0, r1, r2, r3, r4⟩ := R1.below hb
      clear hb k0 k1 k2 k3 k4 k5 k6 X MP RW
      go_wp2_with fail
      have PB1 := ((But.refl (w.heap.size + 1) v6).setCell 0 (.int .i64 nx)).setCell 1 (.slice (some ⟨g6, 0, none⟩) mm mm)
      exact bodyPost_ret (v := .agg #[.int .i64 nx, .slice (some ⟨g6, 0, none⟩) mm mm]) (by simp (maxDischargeDepth := 6) [results, Try.results19, go_sem, *]) rfl ⟨g6, by rw [← HME.out], by omega, by rw [← HME.out, ← HGE.out]; exact R6.but PB1 (by omega), B.trans (PB1.below (by omega) B.size)⟩
def CuIs (nx : Int) (M : Nat → FT) (n : Nat) (nd : Int) (X : Int) (m : Nat) (G : Nat → FT) : Prop :=
  (netB nx M n = false ∧ X = 0 ∧ m = 0) ∨ (netB nx M n = true ∧ X = nx ∧ m = kc M nd n ∧ G = kF M nd n)
theorem cu_ex (nx : Int) (M : Nat → FT) (n : Nat) (nd : Int) : ∃ X m G Y C, (CuIs nx M n nd X m G ∧ Y = zF ∧ C = (0 : Int)) ∧ m ≤ n := by
  cases h : netB nx M n
  · exact ⟨0, 0, M, zF, 0, ⟨.inl ⟨h, rfl, rfl⟩, rfl, rfl⟩, Nat.zero_le _⟩
  · exact ⟨nx, kc M nd n, kF M nd n, zF, 0, ⟨.inr ⟨h, rfl, rfl, rfl⟩, rfl, rfl⟩, kc_le M nd n⟩
theorem implNetCut_any (nx nd : Int) (b n c : Nat) (M : Nat → FT) (X : Int) (m : Nat) (G : Nat → FT) (w : World) (hm : n ≤ maxLen) (hf : Cs w b 0 (n * 5) (MFFlight M)) (hs : ∀ i, i < n → ((M i).2.2.2.1).size ≤ maxLen) (hw : ∀ i, i < n → (Lit.int .i64 (M i).1).wf = true) (h : CuIs nx M n nd X m G) :
    Calls Try.prog 19 #[.agg #[.int .i64 nx, .slice (some ⟨b, 0, none⟩) n c], .int .i64 nd] w fun e w' => ∃ a' c', e = .returned (.agg #[.int .i64 X, .slice a' m c']) ∧ w'.ownsRow w.heap.size 30 5 (.slice a' m c') m (frow G m) ∧ Below w.heap.size w w' := by
  rcases h with ⟨h, rfl, rfl⟩ | ⟨h, rfl, rfl, rfl⟩
  · exact (implNetCut_bad nx nd b n c M w hm hf hs hw h).mono fun e w' ⟨h1, h2⟩ => ⟨none, 0, h1, World.ownsRow_nil _ _ _ _, h2⟩
  · obtain ⟨e1, e2⟩ := bG_end M nd n
    have q := implNetCut_done X nd b n c M w hm hf hs hw h
    rw [e1] at q
    refine q.mono fun e w' ⟨g, h1, h2, h3, h4⟩ => ⟨_, _, h1, ?_, h4⟩
    have o := own_ofRow h3 h2 (by unfold maxLen; have := netB_n h; have := kc_le M nd n; omega)
    rw [frow_congr e2] at o
    exact o
end Go.Proofs.Ytfdcjfebfbpliaa
