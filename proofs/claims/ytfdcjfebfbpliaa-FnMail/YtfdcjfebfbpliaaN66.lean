/- The contract of impl.NetTake. -/
import Derived.Test.YtfdcjfebfbpliaaN65
import Derived.Deep.RegionHeld3
import Derived.Deep.DeepCutAuto
import Derived.WalkKit
import Derived.WalkSpells
import Derived.WalkLawsBesides
import Derived.Deep.RegionHeld
namespace Go.Proofs.Ytfdcjfebfbpliaa
open Go.RowKit
set_option linter.unusedVariables false
theorem nOk_ids {nx : Int} {M : Nat → FT} : ∀ {n : Nat}, nOk nx M n = true → ∀ j k, j < k → k < n → (M j).1 ≠ (M k).1 := by
  intro n
  induction n with
  | zero => intro _ j k _ hk; omega
  | succ n ih =>
    intro h j k hjk hk
    simp only [nOk, Bool.and_eq_true] at h
    by_cases e : k = n
    · subst e
      intro hq
      have hs : (lk M k (M k).1).isSome = true := lk_some.2 ⟨j, hjk, hq⟩
      have := h.2.2
      rw [hs] at this; exact absurd this (by decide)
    · exact ih h.1 j k hjk (by omega)
theorem lk_mine {nx : Int} {M : Nat → FT} : ∀ {n : Nat}, nOk nx M n = true → ∀ j, j < n → lk M n (M j).1 = some (M j) := by
  intro n
  induction n with
  | zero => intro _ j hj; omega
  | succ n ih =>
    intro h j hj
    have h0 := h
    simp only [nOk, Bool.and_eq_true] at h
    rw [lk]
    by_cases e : j = n
    · subst e; rw [if_pos rfl]
    · rw [if_neg (fun q => nOk_ids h0 j n (by omega) (by omega) q.symm)]
      exact ih h.1 j (by omega)
theorem netB_nOk {nx : Int} {M : Nat → FT} {n : Nat} (h : netB nx M n = true) : nOk nx M n = true := by
  simp only [netB, Bool.and_eq_true] at h; exact h.2
theorem cut_mine {nx : Int} {M : Nat → FT} {n i : Nat} (h : netB nx M n = true) (hi : i < n) : ∀ j, j < n - 1 → (fun y => if y = (M i).1 then none else lk M n y) (cutG M i j).1 = some (cutG M i j) := by
  intro j hj
  have hk := netB_nOk h
  unfold cutG
  by_cases e : j < i
  · simp only [if_pos e]
    rw [if_neg (nOk_ids hk j i e hi)]
    exact lk_mine hk j (by omega)
  · simp only [if_neg e]
    rw [if_neg (fun q => nOk_ids hk i (j + 1) (by omega) (by omega) q.symm)]
    exact lk_mine hk (j + 1) (by omega)
theorem B2.but2 {w w' : World} {j q r : Nat} {u0 u1 : Value} (h : B2 w j u0 u1) (hb : But2 q r w w') (hq : j ≠ q) (hr : j ≠ r) : B2 w' j u0 u1 :=
  ⟨Nat.lt_of_lt_of_le h.1 hb.2.2.2.1, by rw [hb.cell h.1 hq hr]; exact h.2.1, by rw [hb.cell h.1 hq hr]; exact h.2.2.1, by rw [hb.frozen h.1 hq hr]; exact h.2.2.2.1, by rw [hb.frozen h.1 hq hr]; exact h.2.2.2.2⟩
theorem F5.but2 {w w' : World} {j q r : Nat} {x0 x1 x2 : Int} {x3 : ByteArray} {x4 : Int} (h : F5 w j x0 x1 x2 x3 x4) (hb : But2 q r w w') (hq : j ≠ q) (hr : j ≠ r) : F5 w' j x0 x1 x2 x3 x4 := by
  obtain ⟨h0, c0, c1, c2, c3, c4, f0, f1, f2, f3, f4⟩ := h
  exact ⟨Nat.lt_of_lt_of_le h0 hb.2.2.2.1, by rw [hb.cell h0 hq hr]; exact c0, by rw [hb.cell h0 hq hr]; exact c1, by rw [hb.cell h0 hq hr]; exact c2, by rw [hb.cell h0 hq hr]; exact c3, by rw [hb.cell h0 hq hr]; exact c4, by rw [hb.frozen h0 hq hr]; exact f0, by rw [hb.frozen h0 hq hr]; exact f1, by rw [hb.frozen h0 hq hr]; exact f2, by rw [hb.frozen h0 hq hr]; exact f3, by rw [hb.frozen h0 hq hr]; exact f4⟩
theorem MB.alloc {w : World} {j : Nat} {u0 u1 u2 : Value} (h : MB w j u0 u1 u2) (ob : Obj) : MB (w.alloc ob) j u0 u1 u2 := h.below (Below.nw w ob)
set_option maxHeartbeats 4000000 in
theorem implNetTake_bad (nx i : Int) (b n c : Nat) (M : Nat → FT) (w : World) (hm : n ≤ maxLen) (hf : Cs w b 0 (n * 5) (MFFlight M)) (hs : ∀ i, i < n → ((M i).2.2.2.1).size ≤ maxLen) (hw : ∀ i, i < n → (Lit.int .i64 (M i).1).wf = true) (h : netB nx M n = false) :
    Calls Try.prog 8 #[.agg #[.int .i64 nx, .slice (some ⟨b, 0, none⟩) n c], .int .i64 i] w fun e w' => e = .returned (.tuple #[.agg #[.int .i64 0, .slice none 0 0], .agg #[.int .i64 0, .int .i64 0, .int .i64 0, .string ⟨#[]⟩, .int .i64 0], .int .i64 1]) ∧ Below w.heap.size w w' := by
  have N := ((NB.new w nx (some ⟨b, 0, none⟩) n c 26).below (Below.nw _ (.cells #[.int .i64 0, .slice none 0 0] 26))).below (Below.nw _ (.cells #[.int .i64 0, .int .i64 0, .int .i64 0, .string ⟨#[]⟩, .int .i64 0] 30))
  have R1 := (B2.new (w.alloc (.cells #[.int .i64 nx, .slice (some ⟨b, 0, none⟩) n c] 26)) (.int .i64 0) (.slice none 0 0) 26).below (Below.nw _ (.cells #[.int .i64 0, .int .i64 0, .int .i64 0, .string ⟨#[]⟩, .int .i64 0] 30))
  have R2 := F5.new ((w.alloc (.cells #[.int .i64 nx, .slice (some ⟨b, 0, none⟩) n c] 26)).alloc (.cells #[.int .i64 0, .slice none 0 0] 26)) 0 0 0 ⟨#[]⟩ 0 30
  have A1 := Below.nw w (.cells #[.int .i64 nx, .slice (some ⟨b, 0, none⟩) n c] 26)
  have A2 := A1.alloc A1.size (.cells #[.int .i64 0, .slice none 0 0] 26)
  have B := A2.alloc A2.size (.cells #[.int .i64 0, .int .i64 0, .int .i64 0, .string ⟨#[]⟩, .int .i64 0] 30)
  have CO := fun w' (h' : Cs w' b 0 (n * 5) (MFFlight M)) => mailOf_any nx (some ⟨b, 0, none⟩) n c M w' hm (.inr ⟨b, 0, rfl, h'⟩) hs hw
  have CS := hf.below B hf.1
  simp only [World.size_alloc] at R1 R2
  clear hf A1 A2
  go_enter Try.func8, Try.ntmps8
  go_wp2_with fail
  refine (CO _ CS).mono ?_
  rintro e v ⟨V, rfl, q0, q1, hb⟩
  have hbs := hb.size
  simp at hbs
  replace B := B.trans (hb.mono B.size)
  replace R1 := R1.below hb
  replace R2 := R2.below hb
  clear CO CS N
  have hV := q0 h
  subst hV
  rw [h]
  clear q0 q1 hb
  unfold zml
  have A4 := Below.nw v (.cells #[.int .i64 0, .map none, .slice none 0 0] 44)
  replace B := B.trans (A4.mono B.size)
  obtain ⟨r0, r1, r2, r3, r4⟩ := R1.below A4
  obtain ⟨f0, f1, f2, f3, f4, f5, f6, f7, f8, f9, f10⟩ := R2.below A4
  clear A4 R1 R2
  go_wp2_with fail
  generalize v.alloc (.cells #[.int .i64 0, .map none, .slice none 0 0] 44) = v4 at *
  have PB1 := ((But.refl (w.heap.size + 1) v4).setCell 0 (.int .i64 0)).setCell 1 (.slice none 0 0)
  have PB2 := put5_but ((v4.setCell ⟨w.heap.size + 1, 0, none⟩ (.int .i64 0)).setCell ⟨w.heap.size + 1, 1, none⟩ (.slice none 0 0)) (w.heap.size + 1 + 1) 0 (.int .i64 0) (.int .i64 0) (.int .i64 0) (.string ⟨#[]⟩) (.int .i64 0)
  exact bodyPost_ret (v := .tuple #[.agg #[.int .i64 0, .slice none 0 0], .agg #[.int .i64 0, .int .i64 0, .int .i64 0, .string ⟨#[]⟩, .int .i64 0], .int .i64 1]) (by simp (maxDischargeDepth := 6) [results, Try.results8, go_sem, *]) rfl ⟨rfl, (B.trans (PB1.below (by omega) B.size)).trans (PB2.below (by omega) (B.trans (PB1.below (B := w.heap.size) (by omega) B.size)).size)⟩
set_option maxHeartbeats 4000000 in
theorem implNetTake_none (nx i : Int) (b n c : Nat) (M : Nat → FT) (w : World) (hm : n ≤ maxLen) (hf : Cs w b 0 (n * 5) (MFFlight M)) (hs : ∀ i, i < n → ((M i).2.2.2.1).size ≤ maxLen) (hw : ∀ i, i < n → (Lit.int .i64 (M i).1).wf = true) (h : netB nx M n = true) (hi : ¬ (0 ≤ i ∧ i < (n : Int))) :
    Calls Try.prog 8 #[.agg #[.int .i64 nx, .slice (some ⟨b, 0, none⟩) n c], .int .i64 i] w fun e w' => ∃ g, e = .returned (.tuple #[.agg #[.int .i64 nx, .slice (some ⟨g, 0, none⟩) n n], .agg #[.int .i64 0, .int .i64 0, .int .i64 0, .string ⟨#[]⟩, .int .i64 0], .int .i64 2]) ∧ w.heap.size ≤ g ∧ RowF w' g 30 (n * 5) (n * 5) (MFFlight M) ∧ Below w.heap.size w w' := by
  have hn40 := netB_n h
  have N := ((NB.new w nx (some ⟨b, 0, none⟩) n c 26).below (Below.nw _ (.cells #[.int .i64 0, .slice none 0 0] 26))).below (Below.nw _ (.cells #[.int .i64 0, .int .i64 0, .int .i64 0, .string ⟨#[]⟩, .int .i64 0] 30))
  have R1 := (B2.new (w.alloc (.cells #[.int .i64 nx, .slice (some ⟨b, 0, none⟩) n c] 26)) (.int .i64 0) (.slice none 0 0) 26).below (Below.nw _ (.cells #[.int .i64 0, .int .i64 0, .int .i64 0, .string ⟨#[]⟩, .int .i64 0] 30))
  have R2 := F5.new ((w.alloc (.cells #[.int .i64 nx, .slice (some ⟨b, 0, none⟩) n c] 26)).alloc (.cells #[.int .i64 0, .slice none 0 0] 26)) 0 0 0 ⟨#[]⟩ 0 30
  have A1 := Below.nw w (.cells #[.int .i64 nx, .slice (some ⟨b, 0, none⟩) n c] 26)
  have A2 := A1.alloc A1.size (.cells #[.int .i64 0, .slice none 0 0] 26)
  have B := A2.alloc A2.size (.cells #[.int .i64 0, .int .i64 0, .int .i64 0, .string ⟨#[]⟩, .int .i64 0] 30)
  have CO := fun w' (h' : Cs w' b 0 (n * 5) (MFFlight M)) => mailOf_any nx (some ⟨b, 0, none⟩) n c M w' hm (.inr ⟨b, 0, rfl, h'⟩) hs hw
  have CS := hf.below B hf.1
  simp only [World.size_alloc] at R1 R2
  clear hf A1 A2
  go_enter Try.func8, Try.ntmps8
  go_wp2_with fail
  refine (CO _ CS).mono ?_
  rintro e v ⟨V, rfl, q0, q1, hb⟩
  have hbs := hb.size
  simp at hbs
  replace B := B.trans (hb.mono B.size)
  replace R1 := R1.below hb
  replace R2 := R2.below hb
  clear CO CS N
  obtain ⟨bm, br, rfl, _, _, hne, MP, RW⟩ := q1 h
  rw [h]
  have HG := lk_mine (netB_nOk h)
  clear q0 q1 hb
  have A4 := Below.nw v (.cells #[.int .i64 nx, .map (some bm), .slice (some ⟨br, 0, none⟩) n n] 44)
  replace B := B.trans (A4.mono B.size)
  replace R1 := R1.below A4
  replace R2 := R2.below A4
  have X := MB.new v (.int .i64 nx) (.map (some bm)) (.slice (some ⟨br, 0, none⟩) n n) 44
  replace MP := MP.below A4
  replace RW := RowF.below' A4 RW
  have CH := fun w' => mailHas_any nx i bm br n w' hn40
  rw [decide_eq_false hi] at CH
  clear A4
  obtain ⟨k0, k1, k2, k3, k4, k5, k6⟩ := id X
  go_wp2_with fail
  refine (CH _).mono ?_
  rintro e v3 ⟨rfl, hb⟩
  replace B := B.trans (hb.mono B.size)
  replace R1 := R1.below hb
  replace R2 := R2.below hb
  replace X := X.below hb
  replace MP := MP.below hb
  replace RW := RowF.below' hb RW
  clear hb CH k0 k1 k2 k3 k4 k5 k6
  obtain ⟨k0, k1, k2, k3, k4, k5, k6⟩ := id X
  go_wp2_with fail
  refine (mailNet_any nx bm br n n (lk M n) M _ hn40 MP RW HG hw).mono ?_
  rintro e v4 ⟨g, rfl, hg, RG, hb⟩
  have hg2 : w.heap.size + 1 + 1 < g := Nat.lt_of_lt_of_le R2.1 hg
  replace B := B.trans (hb.mono B.size)
  obtain ⟨r0, r1, r2, r3, r4⟩ := R1.below hb
  obtain ⟨f0, f1, f2, f3, f4, f5, f6, f7, f8, f9, f10⟩ := R2.below hb
  clear hb R1 R2 X MP RW k0 k1 k2 k3 k4 k5 k6 HG
  go_wp2_with fail
  have PB1 := ((But.refl (w.heap.size + 1) v4).setCell 0 (.int .i64 nx)).setCell 1 (.slice (some ⟨g, 0, none⟩) n n)
  have PB2 := put5_but ((v4.setCell ⟨w.heap.size + 1, 0, none⟩ (.int .i64 nx)).setCell ⟨w.heap.size + 1, 1, none⟩ (.slice (some ⟨g, 0, none⟩) n n)) (w.heap.size + 1 + 1) 0 (.int .i64 0) (.int .i64 0) (.int .i64 0) (.string ⟨#[]⟩) (.int .i64 0)
  exact bodyPost_ret (v := .tuple #[.agg #[.int .i64 nx, .slice (some ⟨g, 0, none⟩) n n], .agg #[.int .i64 0, .int .i64 0, .int .i64 0, .string ⟨#[]⟩, .int .i64 0], .int .i64 2]) (by simp (maxDischargeDepth := 6) [results, Try.results8, go_sem, *]) rfl ⟨g, rfl, by omega, (RG.but PB1 (by omega)).but PB2 (by omega), (B.trans (PB1.below (by omega) B.size)).trans (PB2.below (by omega) (B.trans (PB1.below (B := w.heap.size) (by omega) B.size)).size)⟩
set_option maxRecDepth 100000 in
set_option maxHeartbeats 4000000 in
theorem implNetTake_done (nx : Int) (i b n c : Nat) (M : Nat → FT) (y0 y1 y2 : Int) (y3 : ByteArray) (y4 : Int) (w : World) (hm : n ≤ maxLen) (hf : Cs w b 0 (n * 5) (MFFlight M)) (hs : ∀ i, i < n → ((M i).2.2.2.1).size ≤ maxLen) (hw : ∀ i, i < n → (Lit.int .i64 (M i).1).wf = true) (h : netB nx M n = true) (hin : i < n) (hY : M i = (y0, y1, y2, y3, y4)) :
    Calls Try.prog 8 #[.agg #[.int .i64 nx, .slice (some ⟨b, 0, none⟩) n c], .int .i64 (i : Int)] w fun e w' => ∃ g, e = .returned (.tuple #[.agg #[.int .i64 nx, .slice (some ⟨g, 0, none⟩) (n - 1) (n - 1)], .agg #[.int .i64 y0, .int .i64 y1, .int .i64 y2, .string y3, .int .i64 y4], .int .i64 0]) ∧ w.heap.size ≤ g ∧ RowF w' g 30 ((n - 1) * 5) ((n - 1) * 5) (MFFlight (cutG M i)) ∧ Below w.heap.size w w' := by
  have hn40 := netB_n h
  have HGi : Hid (∀ j, j < n - 1 → (fun y => if y = y0 then none else lk M n y) (cutG M i j).1 = some (cutG M i j)) := by
    have q := cut_mine h hin
    rw [hY] at q
    exact q
  have hF : lk M n y0 = some (y0, y1, y2, y3, y4) := by
    have q := lk_mine (netB_nOk h) i hin
    rw [hY] at q
    exact q
  have hwi : (Lit.int .i64 y0).wf = true := by have q := hw i hin; rw [hY] at q; exact q
  have HWc : Hid (∀ j, j < n - 1 → (Lit.int .i64 (cutG M i j).1).wf = true) := by
    intro j hj; unfold cutG; split
    · exact hw j (by omega)
    · exact hw (j + 1) (by omega)
  have HY : Hid (M i = (y0, y1, y2, y3, y4)) := hY
  have HF : Hid (lk M n y0 = some (y0, y1, y2, y3, y4)) := hF
  clear hY hF
  have N := ((NB.new w nx (some ⟨b, 0, none⟩) n c 26).below (Below.nw _ (.cells #[.int .i64 0, .slice none 0 0] 26))).below (Below.nw _ (.cells #[.int .i64 0, .int .i64 0, .int .i64 0, .string ⟨#[]⟩, .int .i64 0] 30))
  have R1 := (B2.new (w.alloc (.cells #[.int .i64 nx, .slice (some ⟨b, 0, none⟩) n c] 26)) (.int .i64 0) (.slice none 0 0) 26).below (Below.nw _ (.cells #[.int .i64 0, .int .i64 0, .int .i64 0, .string ⟨#[]⟩, .int .i64 0] 30))
  have R2 := F5.new ((w.alloc (.cells #[.int .i64 nx, .slice (some ⟨b, 0, none⟩) n c] 26)).alloc (.cells #[.int .i64 0, .slice none 0 0] 26)) 0 0 0 ⟨#[]⟩ 0 30
  have A1 := Below.nw w (.cells #[.int .i64 nx, .slice (some ⟨b, 0, none⟩) n c] 26)
  have A2 := A1.alloc A1.size (.cells #[.int .i64 0, .slice none 0 0] 26)
  have B := A2.alloc A2.size (.cells #[.int .i64 0, .int .i64 0, .int .i64 0, .string ⟨#[]⟩, .int .i64 0] 30)
  have CO := fun w' (h' : Cs w' b 0 (n * 5) (MFFlight M)) => mailOf_any nx (some ⟨b, 0, none⟩) n c M w' hm (.inr ⟨b, 0, rfl, h'⟩) hs hw
  have CS := hf.below B hf.1
  simp only [World.size_alloc] at R1 R2
  clear hf A1 A2
  go_enter Try.func8, Try.ntmps8
  go_wp2_with fail
  refine (CO _ CS).mono ?_
  rintro e v ⟨V, rfl, q0, q1, hb⟩
  have hbs := hb.size
  simp at hbs
  replace B := B.trans (hb.mono B.size)
  replace R1 := R1.below hb
  replace R2 := R2.below hb
  clear CO CS N
  obtain ⟨bm, br, rfl, hb1, hb2, hne, MP, RW⟩ := q1 h
  rw [h]
  clear q0 q1 hb h hs hw
  have lm := MP.lt
  have lr := RW.lt
  simp at hb1 hb2
  have A4 := Below.nw v (.cells #[.int .i64 nx, .map (some bm), .slice (some ⟨br, 0, none⟩) n n] 44)
  replace B := B.trans (A4.mono B.size)
  replace R1 := R1.below A4
  replace R2 := R2.below A4
  have X := MB.new v (.int .i64 nx) (.map (some bm)) (.slice (some ⟨br, 0, none⟩) n n) 44
  replace MP := MP.below A4
  replace RW := RowF.below' A4 RW
  have CH := fun w' => mailHas_any nx (i : Int) bm br n w' hn40
  rw [decide_eq_true (show 0 ≤ (i : Int) ∧ (i : Int) < (n : Int) by omega)] at CH
  clear A4
  obtain ⟨k0, k1, k2, k3, k4, k5, k6⟩ := id X
  go_wp2_with fail
  generalize v.heap.size = jm at *
  refine (CH _).mono ?_
  rintro e v3 ⟨rfl, hb⟩
  replace B := B.trans (hb.mono B.size)
  replace R1 := R1.below hb
  replace R2 := R2.below hb
  replace X := X.below hb
  replace MP := MP.below hb
  replace RW := RowF.below' hb RW
  clear hb CH k0 k1 k2 k3 k4 k5 k6
  go_wp2_with fail
  refine (mailTake_any nx jm bm br n n i (lk M n) M y0 y1 y2 y3 y4 _ hn40 hin X MP RW (by omega) (by omega) hne hwi HY.out HF.out).mono ?_
  rintro e v4 ⟨bn, rfl, hbn, X4, MP4, RW4, U4⟩
  have hR2 := R2.1
  have hj3 := X.1
  have D1 : B2 v4 (w.heap.size + 1) (.int .i64 0) (.slice none 0 0) := R1.but2 U4 (by omega) (by omega)
  have D2 : F5 v4 (w.heap.size + 1 + 1) 0 0 0 ⟨#[]⟩ 0 := R2.but2 U4 (by omega) (by omega)
  replace B := B.trans (U4.below (B := w.heap.size) (by omega) (by omega) B.size)
  clear R1 R2 X MP RW U4
  have A5 := Below.nw v4 (.cells #[.int .i64 y0, .int .i64 y1, .int .i64 y2, .string y3, .int .i64 y4] 30)
  have P := F5.new v4 y0 y1 y2 y3 y4 30
  have hj4 : jm < v4.heap.size := X4.1
  have hR4 : w.heap.size + 1 + 1 < v4.heap.size := D2.1
  replace B := B.trans (A5.mono B.size)
  have R1 := D1.below A5
  have R2 := D2.below A5
  have X := X4.below A5
  have MP := MP4.below A5
  have RW := RowF.below' A5 RW4
  clear A5 D1 D2 X4 MP4 RW4
  go_wp2_with fail
  generalize v4.heap.size = jf at *
  generalize v4.alloc (.cells #[.int .i64 y0, .int .i64 y1, .int .i64 y2, .string y3, .int .i64 y4] 30) = v at *
  obtain ⟨k0, k1, k2, k3, k4, k5, k6⟩ := id X
  obtain ⟨p0, p1, p2, p3, p4, p5, p6, p7, p8, p9, p10⟩ := id P
  obtain ⟨r0, r1, r2, r3, r4⟩ := id R1
  obtain ⟨f0, f1, f2, f3, f4, f5, f6, f7, f8, f9, f10⟩ := id R2
  refine wp_region_held_drew (S := (fun w' => w'.cell? ⟨jf, 0, none⟩ = some (.int .i64 y0) ∧ w'.cell? ⟨jf, 1, none⟩ = some (.int .i64 y1) ∧ w'.cell? ⟨jf, 2, none⟩ = some (.int .i64 y2) ∧ w'.cell? ⟨jf, 3, none⟩ = some (.string y3) ∧ w'.cell? ⟨jf, 4, none⟩ = some (.int .i64 y4) ∧ w'.cell? ⟨jm, 0, none⟩ = some (.int .i64 nx) ∧ w'.cell? ⟨jm, 1, none⟩ = some (.map (some bm)) ∧ w'.cell? ⟨jm, 2, none⟩ = some (.slice (some ⟨bn, 0, none⟩) (n - 1) (n - 1)))) (by kernel_rfl) ?_ (fun hHeld => ?_)
  · first | exact ⟨p1, p2, p3, p4, p5, k1, k2, k3⟩ | (simp (maxDischargeDepth := 6) [go_sem, *]; done)
  clear k0 k1 k2 k3 k4 k5 k6 p0 p1 p2 p3 p4 p5 p6 p7 p8 p9 p10 r0 r1 r2 r3 r4 f0 f1 f2 f3 f4 f5 f6 f7 f8 f9 f10
  replace X := X.drew
  replace P := P.drew
  replace R1 := R1.drew
  replace R2 := R2.drew
  replace MP := MP.drew
  replace RW : RowF v.drew bn 3 (n - 1) (n - 1) (idF (cutG M i)) := RW
  replace B := Below.drew B
  generalize v.drew = v at *
  (obtain ⟨k0, k1, k2, k3, k4, k5, k6⟩ := id X); (obtain ⟨p0, p1, p2, p3, p4, p5, p6, p7, p8, p9, p10⟩ := id P); (obtain ⟨r0, r1, r2, r3, r4⟩ := id R1); (obtain ⟨f0, f1, f2, f3, f4, f5, f6, f7, f8, f9, f10⟩ := id R2)
  refine wpAnyH_take (i := 0) (v := ?_) (by rw [List.getElem?_toArray]; rfl) (by kernel_rfl) (by kernel_rfl) (by kernel_rfl) (by intro _ _ _ h; exact h) (Or.inl ⟨by rfl, ?_⟩) (by assumption) ?_
  rotate_left
  · (intro w hSw; (try dsimp only at hSw); go_simp; all_goals with_reducible rfl)
  (try simp only [Act.put, List.setIfInBounds_toArray, List.set_cons_zero, List.set_cons_succ])
  refine wpAnyH_take (i := 2) (v := ?_) (by rw [List.getElem?_toArray]; rfl) (by kernel_rfl) (by kernel_rfl) (by kernel_rfl) (by intro _ _ _ h; exact h) (Or.inl ⟨by rfl, ?_⟩) (by assumption) ?_
  rotate_left
  · (intro w hSw; (try dsimp only at hSw); go_simp; all_goals with_reducible rfl)
  (try simp only [Act.put, List.setIfInBounds_toArray, List.set_cons_zero, List.set_cons_succ])
  refine wpAnyH_ready (rs := [1]) (by kernel_rfl) (by simp) ?_
  refine (AllReadyH.cons (by rw [List.getElem?_toArray]; rfl) (fun K hK => ?_) AllReadyH.nil)
  go_simp
  refine (mailNet_any nx bm bn (n - 1) n _ (cutG M i) _ (by omega) MP RW HGi.out HWc.out).mono ?_; rintro e v ⟨g, rfl, hg, RG, hb⟩; (have hg2 : w.heap.size + 1 + 1 < g := Nat.lt_of_lt_of_le f0 hg); clear k0 k1 k2 k3 k4 k5 k6 p0 p1 p2 p3 p4 p5 p6 p7 p8 p9 p10 r0 r1 r2 r3 r4 f0 f1 f2 f3 f4 f5 f6 f7 f8 f9 f10; (replace B := B.trans (hb.mono B.size)); (replace R1 := R1.below hb); (replace R2 := R2.below hb); (replace X := X.below hb); (replace P := P.below hb); clear hb MP RW; (obtain ⟨k0, k1, k2, k3, k4, k5, k6⟩ := id X); (obtain ⟨p0, p1, p2, p3, p4, p5, p6, p7, p8, p9, p10⟩ := id P); (obtain ⟨r0, r1, r2, r3, r4⟩ := id R1); (obtain ⟨f0, f1, f2, f3, f4, f5, f6, f7, f8, f9, f10⟩ := id R2)
  (try go_wp2_with fail)
  refine hK.out _ _ ?_ (fun hHeld => ?_)
  · first | exact ⟨p1, p2, p3, p4, p5, k1, k2, k3⟩ | (simp (maxDischargeDepth := 6) [go_sem, *]; done)
  clear hK K
  (try simp only [Act.put, List.setIfInBounds_toArray, List.set_cons_zero, List.set_cons_succ])
  refine wpAnyH_ready (rs := [3]) (by kernel_rfl) (by simp) ?_
  refine (AllReadyH.cons (by rw [List.getElem?_toArray]; rfl) (fun K hK => ?_) AllReadyH.nil)
  go_simp
  (have PB := ((But.refl (w.heap.size + 1) v).setCell 0 (.int .i64 nx)).setCell 1 (.slice (some ⟨g, 0, none⟩) (n - 1) (n - 1))); clear k0 k1 k2 k3 k4 k5 k6 p0 p1 p2 p3 p4 p5 p6 p7 p8 p9 p10 r0 r1 r2 r3 r4 f0 f1 f2 f3 f4 f5 f6 f7 f8 f9 f10; (replace R1 := R1.setB (.int .i64 nx) (.slice (some ⟨g, 0, none⟩) (n - 1) (n - 1))); (replace R2 := R2.but PB (by omega)); (replace X := X.but PB (by omega)); (replace P := P.but PB (by omega)); (replace RG := RG.but PB (by omega)); (replace B := B.trans (PB.below (by omega) B.size)); clear PB; (generalize (v.setCell ⟨w.heap.size + 1, 0, none⟩ (.int .i64 nx)).setCell ⟨w.heap.size + 1, 1, none⟩ (.slice (some ⟨g, 0, none⟩) (n - 1) (n - 1)) = v5 at *); (obtain ⟨k0, k1, k2, k3, k4, k5, k6⟩ := id X); (obtain ⟨p0, p1, p2, p3, p4, p5, p6, p7, p8, p9, p10⟩ := id P); (obtain ⟨r0, r1, r2, r3, r4⟩ := id R1); (obtain ⟨f0, f1, f2, f3, f4, f5, f6, f7, f8, f9, f10⟩ := id R2)
  refine hK.out _ _ ?_ (fun hHeld => ?_)
  · first | exact ⟨p1, p2, p3, p4, p5, k1, k2, k3⟩ | (simp (maxDischargeDepth := 6) [go_sem, *]; done)
  clear hK K
  (try simp only [Act.put, List.setIfInBounds_toArray, List.set_cons_zero, List.set_cons_succ])
  refine wpAnyH_ready (rs := [4]) (by kernel_rfl) (by simp) ?_
  refine (AllReadyH.cons (by rw [List.getElem?_toArray]; rfl) (fun K hK => ?_) AllReadyH.nil)
  go_simp
  (have PB := put5z_but v5 (w.heap.size + 1 + 1) (.int .i64 y0) (.int .i64 y1) (.int .i64 y2) (.string y3) (.int .i64 y4)); clear k0 k1 k2 k3 k4 k5 k6 p0 p1 p2 p3 p4 p5 p6 p7 p8 p9 p10 r0 r1 r2 r3 r4 f0 f1 f2 f3 f4 f5 f6 f7 f8 f9 f10; (replace R1 := R1.but PB (by omega)); (replace R2 := R2.set5 y0 y1 y2 y3 y4); (replace X := X.but PB (by omega)); (replace P := P.but PB (by omega)); (replace RG := RG.but PB (by omega)); (replace B := B.trans (PB.below (B := w.heap.size) (by omega) B.size)); clear PB; unfold put5z at R1 R2 X P RG B; (generalize ((((v5.setCell ⟨w.heap.size + 1 + 1, 0, none⟩ (.int .i64 y0)).setCell ⟨w.heap.size + 1 + 1, 1, none⟩ (.int .i64 y1)).setCell ⟨w.heap.size + 1 + 1, 2, none⟩ (.int .i64 y2)).setCell ⟨w.heap.size + 1 + 1, 3, none⟩ (.string y3)).setCell ⟨w.heap.size + 1 + 1, 4, none⟩ (.int .i64 y4) = v6 at *); (obtain ⟨k0, k1, k2, k3, k4, k5, k6⟩ := id X); (obtain ⟨p0, p1, p2, p3, p4, p5, p6, p7, p8, p9, p10⟩ := id P); (obtain ⟨r0, r1, r2, r3, r4⟩ := id R1); (obtain ⟨f0, f1, f2, f3, f4, f5, f6, f7, f8, f9, f10⟩ := id R2)
  refine hK.out _ _ ?_ (fun hHeld => ?_)
  · first | exact ⟨p1, p2, p3, p4, p5, k1, k2, k3⟩ | (simp (maxDischargeDepth := 6) [go_sem, *]; done)
  clear hK K
  (try simp only [Act.put, List.setIfInBounds_toArray, List.set_cons_zero, List.set_cons_succ])
  refine wpAnyH_take (i := 5) (v := ?_) (by rw [List.getElem?_toArray]; rfl) (by kernel_rfl) (by kernel_rfl) (by kernel_rfl) (by intro _ _ _ h; exact h) (Or.inl ⟨by rfl, ?_⟩) (by assumption) ?_
  rotate_left
  · (intro w hSw; (try dsimp only at hSw); go_simp; all_goals with_reducible rfl)
  (try simp only [Act.put, List.setIfInBounds_toArray, List.set_cons_zero, List.set_cons_succ])
  refine wpAnyH_done (by kernel_rfl) ?_ _
  go_wp2_with fail
  exact bodyPost_ret (v := .tuple #[.agg #[.int .i64 nx, .slice (some ⟨g, 0, none⟩) (n - 1) (n - 1)], .agg #[.int .i64 y0, .int .i64 y1, .int .i64 y2, .string y3, .int .i64 y4], .int .i64 0]) (by simp (maxDischargeDepth := 6) [results, Try.results8, go_sem, r1, r2, f1, f2, f3, f4, f5]) rfl ⟨g, rfl, by omega, RG, B⟩
end Go.Proofs.Ytfdcjfebfbpliaa
