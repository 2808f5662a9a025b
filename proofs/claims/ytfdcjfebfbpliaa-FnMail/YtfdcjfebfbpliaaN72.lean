/- The contract of impl.NetMove. -/
import Derived.Test.YtfdcjfebfbpliaaN71
import Derived.Test.YtfdcjfebfbpliaaN67
import Derived.WalkKit
import Derived.WalkSpells
import Derived.WalkLawsBesides
import Derived.Deep.RegionHeld
namespace Go.Proofs.Ytfdcjfebfbpliaa
open Go.RowKit
set_option linter.unusedVariables false
theorem insG_at (G : Nat → FT) (i : Nat) (f : FT) : insG G i f i = f := by unfold insG; rw [if_neg (Nat.lt_irrefl _), if_pos rfl]
theorem move_mine {nx : Int} {M : Nat → FT} {n i t : Nat} {f : FT} (h : netB nx M n = true) (hi : i < n) (ht : t < n) (hf : M i = f) : ∀ j, j < n - 1 + 1 → (fun y => if y = f.1 then some f else (fun y => if y = f.1 then none else lk M n y) y) (insG (cutG M i) t f j).1 = some (insG (cutG M i) t f j) := by
  intro j hj
  have hc := cut_mine h hi
  rw [hf] at hc
  have key : ∀ k, k < n - 1 → (cutG M i k).1 ≠ f.1 := by
    intro k hk e
    have q := hc k hk
    simp only [if_pos e] at q
    exact absurd q (by simp)
  unfold insG
  by_cases h1 : j < t
  · simp only [if_pos h1]
    rw [if_neg (key j (by omega))]
    exact hc j (by omega)
  · by_cases h2 : j = t
    · simp only [if_neg h1, if_pos h2, if_true]
    · simp only [if_neg h1, if_neg h2]
      rw [if_neg (key (j - 1) (by omega))]
      exact hc (j - 1) (by omega)
theorem MB.but2 {w w' : World} {j q r : Nat} {u0 u1 u2 : Value} (h : MB w j u0 u1 u2) (hb : But2 q r w w') (hq : j ≠ q) (hr : j ≠ r) : MB w' j u0 u1 u2 := by
  obtain ⟨h0, c0, c1, c2, f0, f1, f2⟩ := h
  exact ⟨Nat.lt_of_lt_of_le h0 hb.2.2.2.1, by rw [hb.cell h0 hq hr]; exact c0, by rw [hb.cell h0 hq hr]; exact c1, by rw [hb.cell h0 hq hr]; exact c2, by rw [hb.frozen h0 hq hr]; exact f0, by rw [hb.frozen h0 hq hr]; exact f1, by rw [hb.frozen h0 hq hr]; exact f2⟩
set_option maxHeartbeats 4000000 in
theorem implNetMove_bad (nx i t : Int) (b n c : Nat) (M : Nat → FT) (w : World) (hm : n ≤ maxLen) (hf : Cs w b 0 (n * 5) (MFFlight M)) (hs : ∀ i, i < n → ((M i).2.2.2.1).size ≤ maxLen) (hw : ∀ i, i < n → (Lit.int .i64 (M i).1).wf = true) (h : netB nx M n = false) :
    Calls Try.prog 14 #[.agg #[.int .i64 nx, .slice (some ⟨b, 0, none⟩) n c], .int .i64 i, .int .i64 t] w fun e w' => e = .returned (.tuple #[.agg #[.int .i64 0, .slice none 0 0], .int .i64 1]) ∧ Below w.heap.size w w' := by
  have R1 := B2.new (w.alloc (.cells #[.int .i64 nx, .slice (some ⟨b, 0, none⟩) n c] 26)) (.int .i64 0) (.slice none 0 0) 26
  have A1 := Below.nw w (.cells #[.int .i64 nx, .slice (some ⟨b, 0, none⟩) n c] 26)
  have B := A1.alloc A1.size (.cells #[.int .i64 0, .slice none 0 0] 26)
  have CO := fun w' (h' : Cs w' b 0 (n * 5) (MFFlight M)) => mailOf_any nx (some ⟨b, 0, none⟩) n c M w' hm (.inr ⟨b, 0, rfl, h'⟩) hs hw
  have CS := hf.below B hf.1
  simp only [World.size_alloc] at R1
  clear hf A1
  go_enter Try.func14, Try.ntmps14
  go_wp2_with fail
  refine (CO _ CS).mono ?_
  rintro e v ⟨V, rfl, q0, q1, hb⟩
  replace B := B.trans (hb.mono B.size)
  replace R1 := R1.below hb
  clear CO CS
  have hV := q0 h
  subst hV
  rw [h]
  clear q0 q1 hb
  unfold zml
  have A4 := Below.nw v (.cells #[.int .i64 0, .map none, .slice none 0 0] 44)
  replace B := B.trans (A4.mono B.size)
  obtain ⟨r0, r1, r2, r3, r4⟩ := R1.below A4
  clear A4 R1
  go_wp2_with fail
  generalize v.alloc (.cells #[.int .i64 0, .map none, .slice none 0 0] 44) = v4 at *
  have PB1 := ((But.refl (w.heap.size + 1) v4).setCell 0 (.int .i64 0)).setCell 1 (.slice none 0 0)
  exact bodyPost_ret (v := .tuple #[.agg #[.int .i64 0, .slice none 0 0], .int .i64 1]) (by simp (maxDischargeDepth := 6) [results, Try.results14, go_sem, *]) rfl ⟨rfl, B.trans (PB1.below (by omega) B.size)⟩
set_option maxHeartbeats 4000000 in
theorem implNetMove_none (nx i t : Int) (b n c : Nat) (M : Nat → FT) (w : World) (hm : n ≤ maxLen) (hf : Cs w b 0 (n * 5) (MFFlight M)) (hs : ∀ i, i < n → ((M i).2.2.2.1).size ≤ maxLen) (hw : ∀ i, i < n → (Lit.int .i64 (M i).1).wf = true) (h : netB nx M n = true) (hit : ¬ ((0 ≤ i ∧ i < (n : Int)) ∧ (0 ≤ t ∧ t < (n : Int)))) :
    Calls Try.prog 14 #[.agg #[.int .i64 nx, .slice (some ⟨b, 0, none⟩) n c], .int .i64 i, .int .i64 t] w fun e w' => ∃ g, e = .returned (.tuple #[.agg #[.int .i64 nx, .slice (some ⟨g, 0, none⟩) n n], .int .i64 2]) ∧ w.heap.size ≤ g ∧ RowF w' g 30 (n * 5) (n * 5) (MFFlight M) ∧ Below w.heap.size w w' := by
  have hn40 := netB_n h
  have R1 := B2.new (w.alloc (.cells #[.int .i64 nx, .slice (some ⟨b, 0, none⟩) n c] 26)) (.int .i64 0) (.slice none 0 0) 26
  have A1 := Below.nw w (.cells #[.int .i64 nx, .slice (some ⟨b, 0, none⟩) n c] 26)
  have B := A1.alloc A1.size (.cells #[.int .i64 0, .slice none 0 0] 26)
  have CO := fun w' (h' : Cs w' b 0 (n * 5) (MFFlight M)) => mailOf_any nx (some ⟨b, 0, none⟩) n c M w' hm (.inr ⟨b, 0, rfl, h'⟩) hs hw
  have CS := hf.below B hf.1
  simp only [World.size_alloc] at R1
  clear hf A1
  go_enter Try.func14, Try.ntmps14
  go_wp2_with fail
  refine (CO _ CS).mono ?_
  rintro e v ⟨V, rfl, q0, q1, hb⟩
  replace B := B.trans (hb.mono B.size)
  replace R1 := R1.below hb
  clear CO CS
  obtain ⟨bm, br, rfl, _, _, hne, MP, RW⟩ := q1 h
  rw [h]
  have HG := lk_mine (netB_nOk h)
  clear q0 q1 hb
  have A4 := Below.nw v (.cells #[.int .i64 nx, .map (some bm), .slice (some ⟨br, 0, none⟩) n n] 44)
  replace B := B.trans (A4.mono B.size)
  replace R1 := R1.below A4
  have X := MB.new v (.int .i64 nx) (.map (some bm)) (.slice (some ⟨br, 0, none⟩) n n) 44
  replace MP := MP.below A4
  replace RW := RowF.below' A4 RW
  have CH := fun w' => mailHas_any nx i bm br n w' hn40
  have CT := fun w' => mailHas_any nx t bm br n w' hn40
  clear A4
  obtain ⟨k0, k1, k2, k3, k4, k5, k6⟩ := id X
  by_cases hi : 0 ≤ i ∧ i < (n : Int)
  · have ht : ¬ (0 ≤ t ∧ t < (n : Int)) := fun h => hit ⟨hi, h⟩
    rw [decide_eq_true hi] at CH
    rw [decide_eq_false ht] at CT
    go_wp2_with fail
    refine (CH _).mono ?_
    rintro e v3 ⟨rfl, hb⟩
    replace B := B.trans (hb.mono B.size)
    replace R1 := R1.below hb
    replace X := X.below hb
    replace MP := MP.below hb
    replace RW := RowF.below' hb RW
    clear hb CH k0 k1 k2 k3 k4 k5 k6
    obtain ⟨k0, k1, k2, k3, k4, k5, k6⟩ := id X
    go_wp2_with fail
    refine (CT _).mono ?_
    rintro e v3b ⟨rfl, hb⟩
    replace B := B.trans (hb.mono B.size)
    replace R1 := R1.below hb
    replace X := X.below hb
    replace MP := MP.below hb
    replace RW := RowF.below' hb RW
    clear hb CT k0 k1 k2 k3 k4 k5 k6
    obtain ⟨k0, k1, k2, k3, k4, k5, k6⟩ := id X
    go_wp2_with fail
    refine (mailNet_any nx bm br n n (lk M n) M _ hn40 MP RW HG hw).mono ?_
    rintro e v4 ⟨g, rfl, hg, RG, hb⟩
    have hg2 : w.heap.size + 1 < g := Nat.lt_of_lt_of_le R1.1 hg
    replace B := B.trans (hb.mono B.size)
    obtain ⟨r0, r1, r2, r3, r4⟩ := R1.below hb
    clear hb R1 X MP RW k0 k1 k2 k3 k4 k5 k6 HG
    go_wp2_with fail
    have PB1 := ((But.refl (w.heap.size + 1) v4).setCell 0 (.int .i64 nx)).setCell 1 (.slice (some ⟨g, 0, none⟩) n n)
    exact bodyPost_ret (v := .tuple #[.agg #[.int .i64 nx, .slice (some ⟨g, 0, none⟩) n n], .int .i64 2]) (by simp (maxDischargeDepth := 6) [results, Try.results14, go_sem, *]) rfl ⟨g, rfl, by omega, RG.but PB1 (by omega), B.trans (PB1.below (by omega) B.size)⟩
  · rw [decide_eq_false hi] at CH
    go_wp2_with fail
    refine (CH _).mono ?_
    rintro e v3 ⟨rfl, hb⟩
    replace B := B.trans (hb.mono B.size)
    replace R1 := R1.below hb
    replace X := X.below hb
    replace MP := MP.below hb
    replace RW := RowF.below' hb RW
    clear hb CH k0 k1 k2 k3 k4 k5 k6
    obtain ⟨k0, k1, k2, k3, k4, k5, k6⟩ := id X
    go_wp2_with fail
    refine (mailNet_any nx bm br n n (lk M n) M _ hn40 MP RW HG hw).mono ?_
    rintro e v4 ⟨g, rfl, hg, RG, hb⟩
    have hg2 : w.heap.size + 1 < g := Nat.lt_of_lt_of_le R1.1 hg
    replace B := B.trans (hb.mono B.size)
    obtain ⟨r0, r1, r2, r3, r4⟩ := R1.below hb
    clear hb R1 X MP RW k0 k1 k2 k3 k4 k5 k6 HG
    go_wp2_with fail
    have PB1 := ((But.refl (w.heap.size + 1) v4).setCell 0 (.int .i64 nx)).setCell 1 (.slice (some ⟨g, 0, none⟩) n n)
    exact bodyPost_ret (v := .tuple #[.agg #[.int .i64 nx, .slice (some ⟨g, 0, none⟩) n n], .int .i64 2]) (by simp (maxDischargeDepth := 6) [results, Try.results14, go_sem, *]) rfl ⟨g, rfl, by omega, RG.but PB1 (by omega), B.trans (PB1.below (by omega) B.size)⟩
set_option maxRecDepth 100000 in
set_option maxHeartbeats 4000000 in
theorem implNetMove_done (nx : Int) (i t b n c : Nat) (M : Nat → FT) (y0 y1 y2 : Int) (y3 : ByteArray) (y4 : Int) (w : World) (hm : n ≤ maxLen) (hf : Cs w b 0 (n * 5) (MFFlight M)) (hs : ∀ i, i < n → ((M i).2.2.2.1).size ≤ maxLen) (hw : ∀ i, i < n → (Lit.int .i64 (M i).1).wf = true) (h : netB nx M n = true) (hin : i < n) (htn : t < n) (hY : M i = (y0, y1, y2, y3, y4)) :
    Calls Try.prog 14 #[.agg #[.int .i64 nx, .slice (some ⟨b, 0, none⟩) n c], .int .i64 (i : Int), .int .i64 (t : Int)] w fun e w' => ∃ g, e = .returned (.tuple #[.agg #[.int .i64 nx, .slice (some ⟨g, 0, none⟩) (n - 1 + 1) (n - 1 + 1)], .int .i64 0]) ∧ w.heap.size ≤ g ∧ RowF w' g 30 ((n - 1 + 1) * 5) ((n - 1 + 1) * 5) (MFFlight (insG (cutG M i) t (y0, y1, y2, y3, y4))) ∧ Below w.heap.size w w' := by
  have hn40 := netB_n h
  have HGi := move_mine h hin htn hY
  replace HGi : Hid (∀ j, j < n - 1 + 1 → (fun y => if y = y0 then some (y0, y1, y2, y3, y4) else (fun y => if y = y0 then none else lk M n y) y) (insG (cutG M i) t (y0, y1, y2, y3, y4) j).1 = some (insG (cutG M i) t (y0, y1, y2, y3, y4) j)) := HGi
  have hF : lk M n y0 = some (y0, y1, y2, y3, y4) := by
    have q := lk_mine (netB_nOk h) i hin
    rw [hY] at q
    exact q
  have hwi : (Lit.int .i64 y0).wf = true := by have q := hw i hin; rw [hY] at q; exact q
  have HWc : Hid (∀ j, j < n - 1 + 1 → (Lit.int .i64 (insG (cutG M i) t (y0, y1, y2, y3, y4) j).1).wf = true) := by
    have hcw : ∀ k, k < n - 1 → (Lit.int .i64 (cutG M i k).1).wf = true := by
      intro k hk
      by_cases h1 : k < i
      · rw [show cutG M i k = M k by simp [cutG, h1]]; exact hw k (by omega)
      · rw [show cutG M i k = M (k + 1) by simp [cutG, h1]]; exact hw (k + 1) (by omega)
    intro j hj
    by_cases h1 : j < t
    · rw [show insG (cutG M i) t (y0, y1, y2, y3, y4) j = cutG M i j by simp [insG, h1]]; exact hcw j (by omega)
    · by_cases h2 : j = t
      · subst h2
        have e := insG_at (cutG M i) j (y0, y1, y2, y3, y4)
        rw [e]; exact hwi
      · rw [show insG (cutG M i) t (y0, y1, y2, y3, y4) j = cutG M i (j - 1) by simp [insG, h1, h2]]; exact hcw (j - 1) (by omega)
  have HY : Hid (M i = (y0, y1, y2, y3, y4)) := hY
  have HF : Hid (lk M n y0 = some (y0, y1, y2, y3, y4)) := hF
  clear hY hF
  have R1 := B2.new (w.alloc (.cells #[.int .i64 nx, .slice (some ⟨b, 0, none⟩) n c] 26)) (.int .i64 0) (.slice none 0 0) 26
  have A1 := Below.nw w (.cells #[.int .i64 nx, .slice (some ⟨b, 0, none⟩) n c] 26)
  have B := A1.alloc A1.size (.cells #[.int .i64 0, .slice none 0 0] 26)
  have CO := fun w' (h' : Cs w' b 0 (n * 5) (MFFlight M)) => mailOf_any nx (some ⟨b, 0, none⟩) n c M w' hm (.inr ⟨b, 0, rfl, h'⟩) hs hw
  have CS := hf.below B hf.1
  simp only [World.size_alloc] at R1
  clear hf A1
  go_enter Try.func14, Try.ntmps14
  go_wp2_with fail
  refine (CO _ CS).mono ?_
  rintro e v ⟨V, rfl, q0, q1, hb⟩
  have hbs := hb.size
  simp at hbs
  replace B := B.trans (hb.mono B.size)
  replace R1 := R1.below hb
  clear CO CS
  obtain ⟨bm, br, rfl, hb1, hb2, hne, MP, RW⟩ := q1 h
  rw [h]
  clear q0 q1 hb h hs hw
  have lm := MP.lt
  have lr := RW.lt
  simp at hb1 hb2
  have A4 := Below.nw v (.cells #[.int .i64 nx, .map (some bm), .slice (some ⟨br, 0, none⟩) n n] 44)
  replace B := B.trans (A4.mono B.size)
  replace R1 := R1.below A4
  have X := MB.new v (.int .i64 nx) (.map (some bm)) (.slice (some ⟨br, 0, none⟩) n n) 44
  replace MP := MP.below A4
  replace RW := RowF.below' A4 RW
  have CH := fun w' => mailHas_any nx (i : Int) bm br n w' hn40
  rw [decide_eq_true (show 0 ≤ (i : Int) ∧ (i : Int) < (n : Int) by omega)] at CH
  have CT := fun w' => mailHas_any nx (t : Int) bm br n w' hn40
  rw [decide_eq_true (show 0 ≤ (t : Int) ∧ (t : Int) < (n : Int) by omega)] at CT
  clear A4
  obtain ⟨k0, k1, k2, k3, k4, k5, k6⟩ := id X
  go_wp2_with fail
  generalize v.heap.size = jm at *
  refine (CH _).mono ?_
  rintro e v3 ⟨rfl, hb⟩
  replace B := B.trans (hb.mono B.size)
  replace R1 := R1.below hb
  replace X := X.below hb
  replace MP := MP.below hb
  replace RW := RowF.below' hb RW
  clear hb CH k0 k1 k2 k3 k4 k5 k6
  obtain ⟨k0, k1, k2, k3, k4, k5, k6⟩ := id X
  go_wp2_with fail
  refine (CT _).mono ?_
  rintro e v3b ⟨rfl, hb⟩
  replace B := B.trans (hb.mono B.size)
  replace R1 := R1.below hb
  replace X := X.below hb
  replace MP := MP.below hb
  replace RW := RowF.below' hb RW
  clear hb CT k0 k1 k2 k3 k4 k5 k6
  go_wp2_with fail
  refine (mailTake_any nx jm bm br n n i (lk M n) M y0 y1 y2 y3 y4 _ hn40 hin X MP RW (by omega) (by omega) hne hwi HY.out HF.out).mono ?_
  rintro e v4 ⟨bn, rfl, hbn, X4, MP4, RW4, U4⟩
  have hj3 := X.1
  have hm3 := MP.lt
  have hR3 := R1.1
  have D1 : B2 v4 (w.heap.size + 1) (.int .i64 0) (.slice none 0 0) := R1.but2 U4 (by omega) (by omega)
  replace B := B.trans (U4.below (B := w.heap.size) (by omega) (by omega) B.size)
  clear R1 X MP RW U4
  go_wp2_with fail
  refine (mailPut_any nx jm bm bn (n - 1) n t _ (cutG M i) y0 y1 y2 y3 y4 _ (by omega) (by omega) (by omega) X4 MP4 RW4 (by omega) (by omega) (by omega) hwi).mono ?_
  rintro e v5 ⟨bp, rfl, hbp, X5, MP5, RW5, U5⟩
  have R1 : B2 v5 (w.heap.size + 1) (.int .i64 0) (.slice none 0 0) := D1.but2 U5 (by omega) (by omega)
  replace B := B.trans (U5.below (B := w.heap.size) (by omega) (by omega) B.size)
  clear D1 X4 MP4 RW4 U5
  obtain ⟨k0, k1, k2, k3, k4, k5, k6⟩ := id X5
  go_wp2_with fail
  refine (mailNet_any nx bm bp (n - 1 + 1) (n + 1) _ (insG (cutG M i) t (y0, y1, y2, y3, y4)) _ (by omega) MP5 RW5 HGi.out HWc.out).mono ?_
  rintro e v6 ⟨g, rfl, hg, RG, hb⟩
  have hg2 : w.heap.size + 1 < g := Nat.lt_of_lt_of_le R1.1 hg
  replace B := B.trans (hb.mono B.size)
  obtain ⟨r0, r1, r2, r3, r4⟩ := R1.below hb
  clear hb R1 X5 MP5 RW5 k0 k1 k2 k3 k4 k5 k6
  go_wp2_with fail
  have PB1 := ((But.refl (w.heap.size + 1) v6).setCell 0 (.int .i64 nx)).setCell 1 (.slice (some ⟨g, 0, none⟩) (n - 1 + 1) (n - 1 + 1))
  exact bodyPost_ret (v := .tuple #[.agg #[.int .i64 nx, .slice (some ⟨g, 0, none⟩) (n - 1 + 1) (n - 1 + 1)], .int .i64 0]) (by simp (maxDischargeDepth := 6) [results, Try.results14, go_sem, *]) rfl ⟨g, rfl, by omega, RG.but PB1 (by omega), B.trans (PB1.below (by omega) B.size)⟩
end Go.Proofs.Ytfdcjfebfbpliaa
