/- Contracts of NetDouble. -/
import Derived.Test.YtfdcjfebfbpliaaN79
import Derived.WalkKit
import Derived.WalkSpells
import Derived.WalkLawsBesides
import Derived.Deep.RegionHeld
namespace Go.Proofs.Ytfdcjfebfbpliaa
open Go.RowKit
set_option linter.unusedVariables false
set_option maxHeartbeats 4000000 in
theorem specNetDouble_take (nx i : Int) (b n c : Nat) (M : Nat → FT) (X : Int) (m : Nat) (G : Nat → FT) (y0 y1 y2 : Int) (y3 : ByteArray) (y4 : Int) (C : Int) (w : World) (hm : n ≤ maxLen) (hf : Cs w b 0 (n * 5) (MFFlight M)) (hs : ∀ i, i < n → ((M i).2.2.2.1).size ≤ maxLen) (h : TkIs nx M n i X m G (y0, y1, y2, y3, y4) C) (hC : ¬ C = 0) :
    Calls Try.prog 11 #[.agg #[.int .i64 nx, .slice (some ⟨b, 0, none⟩) n c], .int .i64 i] w fun e w' => ∃ a' c', e = .returned (.tuple #[.agg #[.int .i64 X, .slice a' m c'], .int .i64 C]) ∧ w'.ownsRow w.heap.size 30 5 (.slice a' m c') m (frow G m) ∧ Below w.heap.size w w' := by
  have CT := fun w' (h' : Cs w' b 0 (n * 5) (MFFlight M)) => specNetTake_any nx i b n c M X m G y0 y1 y2 y3 y4 C w' hm h' hs h
  have A1 := Below.nw w (.cells #[.int .i64 nx, .slice (some ⟨b, 0, none⟩) n c] 26)
  have B := A1.alloc A1.size (.cells #[.int .i64 0, .slice none 0 0] 26)
  have N := (NB.new w nx (some ⟨b, 0, none⟩) n c 26).below (Below.nw _ (.cells #[.int .i64 0, .slice none 0 0] 26))
  have R := B2.new (w.alloc (.cells #[.int .i64 nx, .slice (some ⟨b, 0, none⟩) n c] 26)) (.int .i64 0) (.slice none 0 0) 26
  have CS := hf.below B hf.1
  simp only [World.size_alloc] at R
  clear hf hs h A1
  have dC : decide (C = 0) = false := decide_eq_false hC
  go_enter Try.func11, Try.ntmps11
  go_wp2_with fail
  refine (CT _ CS).mono ?_
  rintro e v ⟨a', c', rfl, S0, hb⟩
  replace B := B.trans (hb.mono B.size)
  replace R := R.below hb
  replace N := N.below hb
  replace CS := CS.below hb CS.1
  clear hb S0
  have A2 := Below.nw v (.cells #[.int .i64 X, .slice a' m c'] 26)
  have A3 := Below.nw (v.alloc (.cells #[.int .i64 X, .slice a' m c'] 26)) (.cells #[.int .i64 y0, .int .i64 y1, .int .i64 y2, .string y3, .int .i64 y4] 30)
  replace R := (R.below A2).below A3
  replace N := (N.below A2).below A3
  replace CS := (CS.below A2 CS.1).below A3 (CS.below A2 CS.1).1
  replace B := (B.trans (A2.mono B.size)).trans (A3.mono (B.trans (A2.mono B.size)).size)
  clear A2 A3
  obtain ⟨n0, n1, n2⟩ := id N
  go_wp2_with fail
  generalize (v.alloc (.cells #[.int .i64 X, .slice a' m c'] 26)).alloc (.cells #[.int .i64 y0, .int .i64 y1, .int .i64 y2, .string y3, .int .i64 y4] 30) = v2 at *
  have hv := R.1
  refine (CT _ CS).mono ?_
  rintro e v3 ⟨a2, c2, rfl, O2, hb⟩
  replace B := B.trans (hb.mono B.size)
  replace R := R.below hb
  clear hb N n0 n1 n2 CS CT
  have A2 := Below.nw v3 (.cells #[.int .i64 X, .slice a2 m c2] 26)
  have A3 := Below.nw (v3.alloc (.cells #[.int .i64 X, .slice a2 m c2] 26)) (.cells #[.int .i64 y0, .int .i64 y1, .int .i64 y2, .string y3, .int .i64 y4] 30)
  replace R := (R.below A2).below A3
  replace O2 := own_belowF (own_belowF O2 A2) A3
  replace B := (B.trans (A2.mono B.size)).trans (A3.mono (B.trans (A2.mono B.size)).size)
  have K := (NB.new v3 X a2 m c2 26).below A3
  clear A2 A3
  obtain ⟨k0, k1, k2⟩ := id K
  obtain ⟨r0, r1, r2, r3, r4⟩ := id R
  go_wp2_with fail
  generalize (v3.alloc (.cells #[.int .i64 X, .slice a2 m c2] 26)).alloc (.cells #[.int .i64 y0, .int .i64 y1, .int .i64 y2, .string y3, .int .i64 y4] 30) = v4 at *
  have PB := ((But.refl (w.heap.size + 1) v4).setCell 0 (.int .i64 X)).setCell 1 (.slice a2 m c2)
  exact bodyPost_ret (v := .tuple #[.agg #[.int .i64 X, .slice a2 m c2], .int .i64 C]) (by simp (maxDischargeDepth := 6) [results, Try.results11, go_sem, *]) rfl ⟨a2, c2, rfl, ownB_le (own_butF O2 PB (by omega)) (by omega), B.trans (PB.below (by omega) B.size)⟩
set_option maxHeartbeats 4000000 in
theorem specNetDouble_send (nx i : Int) (b n c : Nat) (M : Nat → FT) (X0 : Int) (m0 : Nat) (G0 : Nat → FT) (y0 y1 y2 : Int) (y3 : ByteArray) (y4 : Int) (X : Int) (m : Nat) (G : Nat → FT) (C : Int) (w : World) (hm : n ≤ maxLen) (hf : Cs w b 0 (n * 5) (MFFlight M)) (hs : ∀ i, i < n → ((M i).2.2.2.1).size ≤ maxLen) (h3 : y3.size ≤ maxLen) (h : TkIs nx M n i X0 m0 G0 (y0, y1, y2, y3, y4) 0) (hS : SdIs nx M n y1 y2 y3 y4 X m G C) :
    Calls Try.prog 11 #[.agg #[.int .i64 nx, .slice (some ⟨b, 0, none⟩) n c], .int .i64 i] w fun e w' => ∃ a' c', e = .returned (.tuple #[.agg #[.int .i64 X, .slice a' m c'], .int .i64 C]) ∧ w'.ownsRow w.heap.size 30 5 (.slice a' m c') m (frow G m) ∧ Below w.heap.size w w' := by
  have CT := fun w' (h' : Cs w' b 0 (n * 5) (MFFlight M)) => specNetTake_any nx i b n c M X0 m0 G0 y0 y1 y2 y3 y4 0 w' hm h' hs h
  have CN := fun w' (h' : Cs w' b 0 (n * 5) (MFFlight M)) => specNetSend_any nx y1 y2 y3 y4 b n c M X m G C w' hm h' hs h3 hS
  have A1 := Below.nw w (.cells #[.int .i64 nx, .slice (some ⟨b, 0, none⟩) n c] 26)
  have B := A1.alloc A1.size (.cells #[.int .i64 0, .slice none 0 0] 26)
  have N := (NB.new w nx (some ⟨b, 0, none⟩) n c 26).below (Below.nw _ (.cells #[.int .i64 0, .slice none 0 0] 26))
  have R := B2.new (w.alloc (.cells #[.int .i64 nx, .slice (some ⟨b, 0, none⟩) n c] 26)) (.int .i64 0) (.slice none 0 0) 26
  have CS := hf.below B hf.1
  simp only [World.size_alloc] at R
  clear hf hs h A1 hS h3
  go_enter Try.func11, Try.ntmps11
  go_wp2_with fail
  refine (CT _ CS).mono ?_
  rintro e v ⟨a', c', rfl, S0, hb⟩
  replace B := B.trans (hb.mono B.size)
  replace R := R.below hb
  replace N := N.below hb
  replace CS := CS.below hb CS.1
  clear hb S0 CT
  have A2 := Below.nw v (.cells #[.int .i64 X0, .slice a' m0 c'] 26)
  have A3 := Below.nw (v.alloc (.cells #[.int .i64 X0, .slice a' m0 c'] 26)) (.cells #[.int .i64 y0, .int .i64 y1, .int .i64 y2, .string y3, .int .i64 y4] 30)
  have P := F5.new (v.alloc (.cells #[.int .i64 X0, .slice a' m0 c'] 26)) y0 y1 y2 y3 y4 30
  simp only [World.size_alloc] at P
  replace R := (R.below A2).below A3
  replace N := (N.below A2).below A3
  replace CS := (CS.below A2 CS.1).below A3 (CS.below A2 CS.1).1
  replace B := (B.trans (A2.mono B.size)).trans (A3.mono (B.trans (A2.mono B.size)).size)
  clear A2 A3
  obtain ⟨n0, n1, n2⟩ := id N
  obtain ⟨p0, p1, p2, p3, p4, p5, p6, p7, p8, p9, p10⟩ := P
  go_wp2_with fail
  generalize (v.alloc (.cells #[.int .i64 X0, .slice a' m0 c'] 26)).alloc (.cells #[.int .i64 y0, .int .i64 y1, .int .i64 y2, .string y3, .int .i64 y4] 30) = v2 at *
  have hv := R.1
  refine (CN _ CS).mono ?_
  rintro e v3 ⟨a2, c2, rfl, O2, hb⟩
  replace B := B.trans (hb.mono B.size)
  obtain ⟨r0, r1, r2, r3, r4⟩ := R.below hb
  clear hb N n0 n1 n2 CS CN R p0 p1 p2 p3 p4 p5 p6 p7 p8 p9 p10
  go_wp2_with fail
  have PB := ((But.refl (w.heap.size + 1) v3).setCell 0 (.int .i64 X)).setCell 1 (.slice a2 m c2)
  exact bodyPost_ret (v := .tuple #[.agg #[.int .i64 X, .slice a2 m c2], .int .i64 C]) (by simp (maxDischargeDepth := 6) [results, Try.results11, go_sem, *]) rfl ⟨a2, c2, rfl, ownB_le (own_butF O2 PB (by omega)) (by omega), B.trans (PB.below (by omega) B.size)⟩
set_option maxHeartbeats 4000000 in
theorem implNetDouble_full (nx : Int) (i : Nat) (x0 x1 x2 : Int) (x3 : ByteArray) (x4 : Int) (b n c : Nat) (M : Nat → FT) (w : World) (hm : n ≤ maxLen) (hf : Cs w b 0 (n * 5) (MFFlight M)) (hs : ∀ i, i < n → ((M i).2.2.2.1).size ≤ maxLen) (hw : ∀ i, i < n → (Lit.int .i64 (M i).1).wf = true) (h : netB nx M n = true) (hin : i < n) (hY : M i = (x0, x1, x2, x3, x4)) (hfu : n = 40 ∨ nx = 1000000) :
    Calls Try.prog 10 #[.agg #[.int .i64 nx, .slice (some ⟨b, 0, none⟩) n c], .int .i64 (i : Int)] w fun e w' => ∃ g, e = .returned (.tuple #[.agg #[.int .i64 nx, .slice (some ⟨g, 0, none⟩) n n], .int .i64 3]) ∧ w.heap.size ≤ g ∧ RowF w' g 30 (n * 5) (n * 5) (MFFlight M) ∧ Below w.heap.size w w' := by
  have hn40 := netB_n h
  have HL : Hid (∀ j, j < n → lk M n (M j).1 = some (M j)) := lk_mine (netB_nOk h)
  have HWF : Hid (∀ j, j < n → (Lit.int .i64 (M j).1).wf = true) := hw
  have R1 := B2.new (w.alloc (.cells #[.int .i64 nx, .slice (some ⟨b, 0, none⟩) n c] 26)) (.int .i64 0) (.slice none 0 0) 26
  have A1 := Below.nw w (.cells #[.int .i64 nx, .slice (some ⟨b, 0, none⟩) n c] 26)
  have B := A1.alloc A1.size (.cells #[.int .i64 0, .slice none 0 0] 26)
  have CO := fun w' (h' : Cs w' b 0 (n * 5) (MFFlight M)) => mailOf_any nx (some ⟨b, 0, none⟩) n c M w' hm (.inr ⟨b, 0, rfl, h'⟩) hs hw
  have CS := hf.below B hf.1
  have hF : lk M n x0 = some (x0, x1, x2, x3, x4) := by
    have q := lk_mine (netB_nOk h) i hin
    rw [hY] at q
    exact q
  have hwi : (Lit.int .i64 x0).wf = true := by have q := hw i hin; rw [hY] at q; exact q
  have HF : Hid (lk M n x0 = some (x0, x1, x2, x3, x4)) := hF
  have HY : Hid (M i = (x0, x1, x2, x3, x4)) := hY
  clear hF hY
  simp only [World.size_alloc] at R1
  clear hf A1
  go_enter Try.func10, Try.ntmps10
  go_wp2_with fail
  refine (CO _ CS).mono ?_
  rintro e v ⟨V, rfl, q0, q1, hb⟩
  replace B := B.trans (hb.mono B.size)
  replace R1 := R1.below hb
  clear CO CS
  obtain ⟨bm, br, rfl, hb1, hb2, hne, MP, RW⟩ := q1 h
  rw [h]
  clear q0 q1 hb h hs hw
  have lm := MP.lt
  have lr := RW.lt
  have A4 := Below.nw v (.cells #[.int .i64 nx, .map (some bm), .slice (some ⟨br, 0, none⟩) n n] 44)
  have X := MB.new v (.int .i64 nx) (.map (some bm)) (.slice (some ⟨br, 0, none⟩) n n) 44
  replace MP := MP.below A4
  replace RW := RowF.below' A4 RW
  replace B := B.trans (A4.mono B.size)
  replace R1 := R1.below A4
  have CH := fun w' => mailHas_any nx (i : Int) bm br n w' hn40
  rw [decide_eq_true (show 0 ≤ (i : Int) ∧ (i : Int) < (n : Int) by omega)] at CH
  clear A4
  obtain ⟨k0, k1, k2, k3, k4, k5, k6⟩ := id X
  go_wp2_with fail
  generalize v.heap.size = jm at *
  refine (CH _).mono ?_
  rintro e v3 ⟨rfl, hb⟩
  replace B := B.trans (hb.mono B.size)
  replace R1 := R1.below hb
  replace X := X.below hb
  replace MP := MP.below hb
  replace RW := RowF.below' hb RW
  clear hb CH k0 k1 k2 k3 k4 k5 k6
  have hce : v3.cell? ⟨br, i, none⟩ = some (.int .i64 x0) := by
    have q := (RW.cs (Nat.le_refl _)).2 i hin
    rw [Nat.zero_add] at q
    rw [q, idF, HY.out]
  obtain ⟨k0, k1, k2, k3, k4, k5, k6⟩ := id X
  go_wp2_with fail
  refine (mailAt_any nx bm br n n i (lk M n) x0 x1 x2 x3 x4 _ hn40 hin MP RW.lt hce hwi HF.out).mono ?_
  rintro e v4 ⟨rfl, hb⟩
  replace B := B.trans (hb.mono B.size)
  replace R1 := R1.below hb
  replace X := X.below hb
  replace MP := MP.below hb
  replace RW := RowF.below' hb RW
  clear hb k0 k1 k2 k3 k4 k5 k6 hce
  go_wp2_with fail
  refine (mailSend_full nx jm bm br n x0 x1 x2 x3 x4 _ hn40 X hfu).mono ?_
  rintro e v5 ⟨rfl, hb⟩
  replace B := B.trans (hb.mono B.size)
  replace R1 := R1.below hb
  replace X := X.below hb
  replace MP := MP.below hb
  replace RW := RowF.below' hb RW
  clear hb hfu
  obtain ⟨k0, k1, k2, k3, k4, k5, k6⟩ := id X
  go_wp2_with fail
  refine (mailNet_any nx bm br n n (lk M n) M _ hn40 MP RW HL.out HWF.out).mono ?_
  rintro e v6 ⟨g6, rfl, hg6, R6, hb⟩
  have hv5 := B.size
  replace B := B.trans (hb.mono B.size)
  have hR1 := R1.1
  obtain ⟨r0, r1, r2, r3, r4⟩ := R1.below hb
  clear hb k0 k1 k2 k3 k4 k5 k6 X MP RW
  go_wp2_with fail
  have PB1 := ((But.refl (w.heap.size + 1) v6).setCell 0 (.int .i64 nx)).setCell 1 (.slice (some ⟨g6, 0, none⟩) n n)
  exact bodyPost_ret (v := .tuple #[.agg #[.int .i64 nx, .slice (some ⟨g6, 0, none⟩) n n], .int .i64 3]) (by simp (maxDischargeDepth := 6) [results, Try.results10, go_sem, *]) rfl ⟨g6, rfl, by omega, R6.but PB1 (by omega), B.trans (PB1.below (by omega) B.size)⟩
set_option maxHeartbeats 4000000 in
theorem implNetDouble_done (nx : Int) (i : Nat) (x0 x1 x2 : Int) (x3 : ByteArray) (x4 : Int) (b n c : Nat) (M : Nat → FT) (w : World) (hm : n ≤ maxLen) (hf : Cs w b 0 (n * 5) (MFFlight M)) (hs : ∀ i, i < n → ((M i).2.2.2.1).size ≤ maxLen) (hw : ∀ i, i < n → (Lit.int .i64 (M i).1).wf = true) (h : netB nx M n = true) (hin : i < n) (hY : M i = (x0, x1, x2, x3, x4)) (hfu : ¬ (n = 40 ∨ nx = 1000000)) :
    Calls Try.prog 10 #[.agg #[.int .i64 nx, .slice (some ⟨b, 0, none⟩) n c], .int .i64 (i : Int)] w fun e w' => ∃ g, e = .returned (.tuple #[.agg #[.int .i64 (nx + 1), .slice (some ⟨g, 0, none⟩) (n + 1) (n + 1)], .int .i64 0]) ∧ w.heap.size ≤ g ∧ RowF w' g 30 ((n + 1) * 5) ((n + 1) * 5) (MFFlight (insG M n (nx, x1, x2, x3, x4))) ∧ Below w.heap.size w w' := by
  have hn40 := netB_n h
  have hnxr := netB_rng h
  have hnx : 0 ≤ nx ∧ nx < 1000000 := ⟨hnxr.1, by have := hnxr.2; omega⟩
  have hn4 : n < 40 := by omega
  have HL : Hid (∀ j, j < n + 1 → (fun y => if y = nx then some (nx, x1, x2, x3, x4) else lk M n y) (insG M n (nx, x1, x2, x3, x4) j).1 = some (insG M n (nx, x1, x2, x3, x4) j)) := send_mine h rfl
  have HWF : Hid (∀ j, j < n + 1 → (Lit.int .i64 (insG M n (nx, x1, x2, x3, x4) j).1).wf = true) := by
    intro j hj
    by_cases h1 : j < n
    · rw [show insG M n (nx, x1, x2, x3, x4) j = M j by simp [insG, h1]]; exact hw j h1
    · have e1 : j = n := by omega
      subst e1
      have e := insG_at M j (nx, x1, x2, x3, x4)
      rw [e]
      show (Lit.int .i64 nx).wf = true
      simp only [Lit.wf, Bool.and_eq_true, decide_eq_true_eq]; exact ⟨by show (-9223372036854775808 : Int) ≤ nx; omega, by show nx ≤ (9223372036854775807 : Int); omega⟩
  have R1 := B2.new (w.alloc (.cells #[.int .i64 nx, .slice (some ⟨b, 0, none⟩) n c] 26)) (.int .i64 0) (.slice none 0 0) 26
  have A1 := Below.nw w (.cells #[.int .i64 nx, .slice (some ⟨b, 0, none⟩) n c] 26)
  have B := A1.alloc A1.size (.cells #[.int .i64 0, .slice none 0 0] 26)
  have CO := fun w' (h' : Cs w' b 0 (n * 5) (MFFlight M)) => mailOf_any nx (some ⟨b, 0, none⟩) n c M w' hm (.inr ⟨b, 0, rfl, h'⟩) hs hw
  have CS := hf.below B hf.1
  have hF : lk M n x0 = some (x0, x1, x2, x3, x4) := by
    have q := lk_mine (netB_nOk h) i hin
    rw [hY] at q
    exact q
  have hwi : (Lit.int .i64 x0).wf = true := by have q := hw i hin; rw [hY] at q; exact q
  have HF : Hid (lk M n x0 = some (x0, x1, x2, x3, x4)) := hF
  have HY : Hid (M i = (x0, x1, x2, x3, x4)) := hY
  clear hF hY
  simp only [World.size_alloc] at R1
  clear hf A1 hfu hnxr
  go_enter Try.func10, Try.ntmps10
  go_wp2_with fail
  refine (CO _ CS).mono ?_
  rintro e v ⟨V, rfl, q0, q1, hb⟩
  have hbs := hb.size
  simp at hbs
  replace B := B.trans (hb.mono B.size)
  replace R1 := R1.below hb
  clear CO CS
  obtain ⟨bm, br, rfl, hb1, hb2, hne, MP, RW⟩ := q1 h
  rw [h]
  clear q0 q1 hb h hs hw
  have lm := MP.lt
  have lr := RW.lt
  simp at hb1 hb2
  have A4 := Below.nw v (.cells #[.int .i64 nx, .map (some bm), .slice (some ⟨br, 0, none⟩) n n] 44)
  have X := MB.new v (.int .i64 nx) (.map (some bm)) (.slice (some ⟨br, 0, none⟩) n n) 44
  replace MP := MP.below A4
  replace RW := RowF.below' A4 RW
  replace B := B.trans (A4.mono B.size)
  replace R1 := R1.below A4
  have CH := fun w' => mailHas_any nx (i : Int) bm br n w' hn40
  rw [decide_eq_true (show 0 ≤ (i : Int) ∧ (i : Int) < (n : Int) by omega)] at CH
  clear A4
  obtain ⟨k0, k1, k2, k3, k4, k5, k6⟩ := id X
  go_wp2_with fail
  generalize v.heap.size = jm at *
  refine (CH _).mono ?_
  rintro e v3 ⟨rfl, hb⟩
  replace B := B.trans (hb.mono B.size)
  replace R1 := R1.below hb
  replace X := X.below hb
  replace MP := MP.below hb
  replace RW := RowF.below' hb RW
  clear hb CH k0 k1 k2 k3 k4 k5 k6
  have hce : v3.cell? ⟨br, i, none⟩ = some (.int .i64 x0) := by
    have q := (RW.cs (Nat.le_refl _)).2 i hin
    rw [Nat.zero_add] at q
    rw [q, idF, HY.out]
  obtain ⟨k0, k1, k2, k3, k4, k5, k6⟩ := id X
  go_wp2_with fail
  refine (mailAt_any nx bm br n n i (lk M n) x0 x1 x2 x3 x4 _ hn40 hin MP RW.lt hce hwi HF.out).mono ?_
  rintro e v4 ⟨rfl, hb⟩
  replace B := B.trans (hb.mono B.size)
  replace R1 := R1.below hb
  replace X := X.below hb
  replace MP := MP.below hb
  replace RW := RowF.below' hb RW
  clear hb k0 k1 k2 k3 k4 k5 k6 hce
  go_wp2_with fail
  refine (mailSend_done nx jm bm br n n (lk M n) M x0 x1 x2 x3 x4 _ hn4 (by omega) hnx X MP RW (by omega) (by omega) hne).mono ?_
  rintro e v5 ⟨b5, rfl, hb5, X5, M5, R5, Z5⟩
  have hz4 := R1.1
  have D1 : B2 v5 (w.heap.size + 1) (.int .i64 0) (.slice none 0 0) := R1.but2 Z5 (by omega) (by omega)
  replace B := B.trans (Z5.below (B := w.heap.size) (by omega) (by omega) B.size)
  clear Z5 R1 X MP RW
  obtain ⟨k0, k1, k2, k3, k4, k5, k6⟩ := id X5
  go_wp2_with fail
  refine (mailNet_any (nx + 1) bm b5 (n + 1) (n + 1) _ (insG M n (nx, x1, x2, x3, x4)) _ (by omega) M5 R5 HL.out HWF.out).mono ?_
  rintro e v6 ⟨g6, rfl, hg6, R6, hb⟩
  have hv5 := B.size
  replace B := B.trans (hb.mono B.size)
  have hR1 := D1.1
  obtain ⟨r0, r1, r2, r3, r4⟩ := D1.below hb
  clear hb k0 k1 k2 k3 k4 k5 k6 X5 M5 R5
  go_wp2_with fail
  have PB1 := ((But.refl (w.heap.size + 1) v6).setCell 0 (.int .i64 (nx + 1))).setCell 1 (.slice (some ⟨g6, 0, none⟩) (n + 1) (n + 1))
  exact bodyPost_ret (v := .tuple #[.agg #[.int .i64 (nx + 1), .slice (some ⟨g6, 0, none⟩) (n + 1) (n + 1)], .int .i64 0]) (by simp (maxDischargeDepth := 6) [results, Try.results10, go_sem, *]) rfl ⟨g6, rfl, by omega, R6.but PB1 (by omega), B.trans (PB1.below (by omega) B.size)⟩
set_option maxHeartbeats 4000000 in
theorem implNetDouble_bad (nx i : Int) (b n c : Nat) (M : Nat → FT) (w : World) (hm : n ≤ maxLen) (hf : Cs w b 0 (n * 5) (MFFlight M)) (hs : ∀ i, i < n → ((M i).2.2.2.1).size ≤ maxLen) (hw : ∀ i, i < n → (Lit.int .i64 (M i).1).wf = true) (h : netB nx M n = false) :
    Calls Try.prog 10 #[.agg #[.int .i64 nx, .slice (some ⟨b, 0, none⟩) n c], .int .i64 i] w fun e w' => e = .returned (.tuple #[.agg #[.int .i64 0, .slice none 0 0], .int .i64 1]) ∧ Below w.heap.size w w' := by
  have R1 := B2.new (w.alloc (.cells #[.int .i64 nx, .slice (some ⟨b, 0, none⟩) n c] 26)) (.int .i64 0) (.slice none 0 0) 26
  have A1 := Below.nw w (.cells #[.int .i64 nx, .slice (some ⟨b, 0, none⟩) n c] 26)
  have B := A1.alloc A1.size (.cells #[.int .i64 0, .slice none 0 0] 26)
  have CO := fun w' (h' : Cs w' b 0 (n * 5) (MFFlight M)) => mailOf_any nx (some ⟨b, 0, none⟩) n c M w' hm (.inr ⟨b, 0, rfl, h'⟩) hs hw
  have CS := hf.below B hf.1
  simp only [World.size_alloc] at R1
  clear hf A1
  go_enter Try.func10, Try.ntmps10
  go_wp2_with fail
  refine (CO _ CS).mono ?_
  rintro e v ⟨V, rfl, q0, q1, hb⟩
  replace B := B.trans (hb.mono B.size)
  replace R1 := R1.below hb
  clear CO CS
  have hV := q0 h
  subst hV
  rw [h]
  clear q0 q1 hb
  unfold zml
  have A4 := Below.nw v (.cells #[.int .i64 0, .map none, .slice none 0 0] 44)
  replace B := B.trans (A4.mono B.size)
  obtain ⟨r0, r1, r2, r3, r4⟩ := R1.below A4
  clear A4 R1
  go_wp2_with fail
  generalize v.alloc (.cells #[.int .i64 0, .map none, .slice none 0 0] 44) = v4 at *
  have PB1 := ((But.refl (w.heap.size + 1) v4).setCell 0 (.int .i64 0)).setCell 1 (.slice none 0 0)
  exact bodyPost_ret (v := .tuple #[.agg #[.int .i64 0, .slice none 0 0], .int .i64 1]) (by simp (maxDischargeDepth := 6) [results, Try.results10, go_sem, *]) rfl ⟨rfl, B.trans (PB1.below (by omega) B.size)⟩
set_option maxHeartbeats 4000000 in
theorem implNetDouble_none (nx i : Int) (b n c : Nat) (M : Nat → FT) (w : World) (hm : n ≤ maxLen) (hf : Cs w b 0 (n * 5) (MFFlight M)) (hs : ∀ i, i < n → ((M i).2.2.2.1).size ≤ maxLen) (hw : ∀ i, i < n → (Lit.int .i64 (M i).1).wf = true) (h : netB nx M n = true) (hit : ¬ (0 ≤ i ∧ i < (n : Int))) :
    Calls Try.prog 10 #[.agg #[.int .i64 nx, .slice (some ⟨b, 0, none⟩) n c], .int .i64 i] w fun e w' => ∃ g, e = .returned (.tuple #[.agg #[.int .i64 nx, .slice (some ⟨g, 0, none⟩) n n], .int .i64 2]) ∧ w.heap.size ≤ g ∧ RowF w' g 30 (n * 5) (n * 5) (MFFlight M) ∧ Below w.heap.size w w' := by
  have hn40 := netB_n h
  have HL : Hid (∀ j, j < n → lk M n (M j).1 = some (M j)) := lk_mine (netB_nOk h)
  have HWF : Hid (∀ j, j < n → (Lit.int .i64 (M j).1).wf = true) := hw
  have R1 := B2.new (w.alloc (.cells #[.int .i64 nx, .slice (some ⟨b, 0, none⟩) n c] 26)) (.int .i64 0) (.slice none 0 0) 26
  have A1 := Below.nw w (.cells #[.int .i64 nx, .slice (some ⟨b, 0, none⟩) n c] 26)
  have B := A1.alloc A1.size (.cells #[.int .i64 0, .slice none 0 0] 26)
  have CO := fun w' (h' : Cs w' b 0 (n * 5) (MFFlight M)) => mailOf_any nx (some ⟨b, 0, none⟩) n c M w' hm (.inr ⟨b, 0, rfl, h'⟩) hs hw
  have CS := hf.below B hf.1
  simp only [World.size_alloc] at R1
  clear hf A1
  go_enter Try.func10, Try.ntmps10
  go_wp2_with fail
  refine (CO _ CS).mono ?_
  rintro e v ⟨V, rfl, q0, q1, hb⟩
  replace B := B.trans (hb.mono B.size)
  replace R1 := R1.below hb
  clear CO CS
  obtain ⟨bm, br, rfl, hb1, hb2, hne, MP, RW⟩ := q1 h
  rw [h]
  clear q0 q1 hb h hs hw
  have A4 := Below.nw v (.cells #[.int .i64 nx, .map (some bm), .slice (some ⟨br, 0, none⟩) n n] 44)
  have X := MB.new v (.int .i64 nx) (.map (some bm)) (.slice (some ⟨br, 0, none⟩) n n) 44
  replace MP := MP.below A4
  replace RW := RowF.below' A4 RW
  replace B := B.trans (A4.mono B.size)
  replace R1 := R1.below A4
  have CH := fun w' => mailHas_any nx i bm br n w' hn40
  rw [decide_eq_false hit] at CH
  clear A4 hit
  obtain ⟨k0, k1, k2, k3, k4, k5, k6⟩ := id X
  go_wp2_with fail
  generalize v.heap.size = jm at *
  refine (CH _).mono ?_
  rintro e v3 ⟨rfl, hb⟩
  replace B := B.trans (hb.mono B.size)
  replace R1 := R1.below hb
  replace X := X.below hb
  replace MP := MP.below hb
  replace RW := RowF.below' hb RW
  clear hb CH k0 k1 k2 k3 k4 k5 k6
  obtain ⟨k0, k1, k2, k3, k4, k5, k6⟩ := id X
  go_wp2_with fail
  refine (mailNet_any nx bm br n n (lk M n) M _ hn40 MP RW HL.out HWF.out).mono ?_
  rintro e v6 ⟨g6, rfl, hg6, R6, hb⟩
  have hv5 := B.size
  replace B := B.trans (hb.mono B.size)
  have hR1 := R1.1
  obtain ⟨r0, r1, r2, r3, r4⟩ := R1.below hb
  clear hb k0 k1 k2 k3 k4 k5 k6 X MP RW
  go_wp2_with fail
  have PB1 := ((But.refl (w.heap.size + 1) v6).setCell 0 (.int .i64 nx)).setCell 1 (.slice (some ⟨g6, 0, none⟩) n n)
  exact bodyPost_ret (v := .tuple #[.agg #[.int .i64 nx, .slice (some ⟨g6, 0, none⟩) n n], .int .i64 2]) (by simp (maxDischargeDepth := 6) [results, Try.results10, go_sem, *]) rfl ⟨g6, rfl, by omega, R6.but PB1 (by omega), B.trans (PB1.below (by omega) B.size)⟩
theorem nOk_fl {nx : Int} {M : Nat → FT} : ∀ {n : Nat}, nOk nx M n = true → ∀ j, j < n → flT (M j) = true := by
  intro n
  induction n with
  | zero => intro _ j hj; exact absurd hj (Nat.not_lt_zero _)
  | succ k ih =>
    intro h j hj
    rw [nOk, Bool.and_eq_true, Bool.and_eq_true, Bool.and_eq_true] at h
    by_cases e : j = k
    · subst e; exact h.2.1.1
    · exact ih h.1 j (by omega)
def DbIs (nx : Int) (M : Nat → FT) (n : Nat) (i : Int) (X : Int) (m : Nat) (G : Nat → FT) (C : Int) : Prop :=
  (netB nx M n = false ∧ X = 0 ∧ m = 0 ∧ C = 1) ∨ (netB nx M n = true ∧ ¬ (0 ≤ i ∧ i < (n : Int)) ∧ X = nx ∧ m = n ∧ G = M ∧ C = 2) ∨ (netB nx M n = true ∧ ∃ k : Nat, i = (k : Int) ∧ k < n ∧ (((n = 40 ∨ nx = 1000000) ∧ X = nx ∧ m = n ∧ G = M ∧ C = 3) ∨ (¬ (n = 40 ∨ nx = 1000000) ∧ X = nx + 1 ∧ m = n + 1 ∧ G = insG M n (nx, (M k).2.1, (M k).2.2.1, (M k).2.2.2.1, (M k).2.2.2.2) ∧ C = 0)))
theorem db_ex (nx : Int) (M : Nat → FT) (n : Nat) (i : Int) : ∃ X m G Y C, (DbIs nx M n i X m G C ∧ Y = zF) ∧ m ≤ 41 := by
  cases h : netB nx M n
  · exact ⟨0, 0, M, zF, 1, ⟨.inl ⟨h, rfl, rfl, rfl⟩, rfl⟩, Nat.zero_le _⟩
  · have hn := netB_n h
    by_cases hi : 0 ≤ i ∧ i < (n : Int)
    · by_cases hu : n = 40 ∨ nx = 1000000
      · exact ⟨nx, n, M, zF, 3, ⟨.inr (.inr ⟨h, i.toNat, by omega, by omega, .inl ⟨hu, rfl, rfl, rfl, rfl⟩⟩), rfl⟩, by omega⟩
      · exact ⟨nx + 1, n + 1, _, zF, 0, ⟨.inr (.inr ⟨h, i.toNat, by omega, by omega, .inr ⟨hu, rfl, rfl, rfl, rfl⟩⟩), rfl⟩, by omega⟩
    · exact ⟨nx, n, M, zF, 2, ⟨.inr (.inl ⟨h, hi, rfl, rfl, rfl, rfl⟩), rfl⟩, by omega⟩
theorem specNetDouble_any (nx i : Int) (b n c : Nat) (M : Nat → FT) (X : Int) (m : Nat) (G : Nat → FT) (C : Int) (w : World) (hm : n ≤ maxLen) (hf : Cs w b 0 (n * 5) (MFFlight M)) (hs : ∀ i, i < n → ((M i).2.2.2.1).size ≤ maxLen) (h : DbIs nx M n i X m G C) :
    Calls Try.prog 11 #[.agg #[.int .i64 nx, .slice (some ⟨b, 0, none⟩) n c], .int .i64 i] w fun e w' => ∃ a' c', e = .returned (.tuple #[.agg #[.int .i64 X, .slice a' m c'], .int .i64 C]) ∧ w'.ownsRow w.heap.size 30 5 (.slice a' m c') m (frow G m) ∧ Below w.heap.size w w' := by
  rcases h with ⟨h, rfl, rfl, rfl⟩ | ⟨h, hi, rfl, rfl, rfl, rfl⟩ | ⟨h, k, rfl, hk, hh⟩
  · exact specNetDouble_take nx i b n c M 0 0 G 0 0 0 ⟨#[]⟩ 0 1 w hm hf hs (.inl ⟨h, rfl, rfl, rfl, rfl⟩) (by decide)
  · exact specNetDouble_take X i b m c G X m G 0 0 0 ⟨#[]⟩ 0 2 w hm hf hs (.inr (.inl ⟨h, hi, rfl, rfl, rfl, rfl, rfl⟩)) (by decide)
  · obtain ⟨y0, y1, y2, y3, y4, hY⟩ := tupFlight M k
    have hfl : flB y1 y2 y3 y4 = true := by have q := nOk_fl (netB_nOk h) k hk; rw [hY] at q; exact q
    have hb : (netB nx M n && flB y1 y2 y3 y4) = true := by rw [h, hfl]; rfl
    have h3 : y3.size ≤ maxLen := by have q := hs k hk; rw [hY] at q; exact q
    refine specNetDouble_send nx k b n c M nx (n - 1) (cutG M k) y0 y1 y2 y3 y4 X m G C w hm hf hs h3 (.inr (.inr ⟨h, k, rfl, hk, rfl, rfl, rfl, hY.symm, rfl⟩)) ?_
    rcases hh with ⟨hu, rfl, rfl, rfl, rfl⟩ | ⟨hu, rfl, rfl, rfl, rfl⟩
    · exact .inr (.inl ⟨hb, hu, rfl, rfl, rfl, rfl⟩)
    · exact .inr (.inr ⟨hb, hu, rfl, rfl, by rw [hY], rfl⟩)
theorem implNetDouble_any (nx i : Int) (b n c : Nat) (M : Nat → FT) (X : Int) (m : Nat) (G : Nat → FT) (C : Int) (w : World) (hm : n ≤ maxLen) (hf : Cs w b 0 (n * 5) (MFFlight M)) (hs : ∀ i, i < n → ((M i).2.2.2.1).size ≤ maxLen) (hw : ∀ i, i < n → (Lit.int .i64 (M i).1).wf = true) (h : DbIs nx M n i X m G C) :
    Calls Try.prog 10 #[.agg #[.int .i64 nx, .slice (some ⟨b, 0, none⟩) n c], .int .i64 i] w fun e w' => ∃ a' c', e = .returned (.tuple #[.agg #[.int .i64 X, .slice a' m c'], .int .i64 C]) ∧ w'.ownsRow w.heap.size 30 5 (.slice a' m c') m (frow G m) ∧ Below w.heap.size w w' := by
  rcases h with ⟨h, rfl, rfl, rfl⟩ | ⟨h, hi, rfl, rfl, rfl, rfl⟩ | ⟨h, k, rfl, hk, hh⟩
  · exact (implNetDouble_bad nx i b n c M w hm hf hs hw h).mono fun e w' ⟨h1, h2⟩ => ⟨none, 0, h1, World.ownsRow_nil _ _ _ _, h2⟩
  · exact (implNetDouble_none X i b m c G w hm hf hs hw h hi).mono fun e w' ⟨g, h1, h2, h3, h4⟩ => ⟨_, _, h1, own_ofRow h3 h2 hm, h4⟩
  · obtain ⟨y0, y1, y2, y3, y4, hY⟩ := tupFlight M k
    rcases hh with ⟨hu, rfl, rfl, rfl, rfl⟩ | ⟨hu, rfl, rfl, rfl, rfl⟩
    · exact (implNetDouble_full X k y0 y1 y2 y3 y4 b m c G w hm hf hs hw h hk hY hu).mono fun e w' ⟨g, h1, h2, h3, h4⟩ => ⟨_, _, h1, own_ofRow h3 h2 hm, h4⟩
    · rw [hY]
      exact (implNetDouble_done nx k y0 y1 y2 y3 y4 b n c M w hm hf hs hw h hk hY hu).mono fun e w' ⟨g, h1, h2, h3, h4⟩ => ⟨_, _, h1, own_ofRow h3 h2 (by unfold maxLen; have := netB_n h; omega), h4⟩
end Go.Proofs.Ytfdcjfebfbpliaa
