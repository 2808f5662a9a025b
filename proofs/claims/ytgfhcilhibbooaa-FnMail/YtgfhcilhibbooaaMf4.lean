/- The contract of impl.NetTake. The contract of the mail: put. The contract of the mail: send. What NetTake tells, in one statement for each side. The contract of impl.NetMove. The contract of impl.NetSend. The walk of the exact law of NetTake. The contract of spec.NetMove. The contract of spec.NetSend. -/
import Derived.Test.YtgfhcilhibbooaaMf3
import Derived.Deep.RegionHeld3
import Derived.Deep.DeepCutAuto
import Derived.WalkKit
import Derived.WalkSpells
import Derived.WalkLawsBesides
import Derived.Deep.RegionHeld
import Derived.Laws.AppendOwnNone
namespace Go.Proofs.Ytgfhcilhibbooaa
open Go.RowKit
set_option linter.unusedVariables false
theorem nOk_ids {nx : Int} {M : Nat → FT} : ∀ {n : Nat}, nOk nx M n = true → ∀ j k, j < k → k < n → (M j).1 ≠ (M k).1 := by
  intro n
  induction n with
  | zero => intro _ j k _ hk; omega
  | succ n ih =>
    intro h j k hjk hk
    simp only [nOk, Bool.and_eq_true] at h
    by_cases e : k = n
    · subst e
      intro hq
      have hs : (lk M k (M k).1).isSome = true := lk_some.2 ⟨j, hjk, hq⟩
      have := h.2.2
      rw [hs] at this; exact absurd this (by decide)
    · exact ih h.1 j k hjk (by omega)
theorem lk_mine {nx : Int} {M : Nat → FT} : ∀ {n : Nat}, nOk nx M n = true → ∀ j, j < n → lk M n (M j).1 = some (M j) := by
  intro n
  induction n with
  | zero => intro _ j hj; omega
  | succ n ih =>
    intro h j hj
    have h0 := h
    simp only [nOk, Bool.and_eq_true] at h
    rw [lk]
    by_cases e : j = n
    · subst e; rw [if_pos rfl]
    · rw [if_neg (fun q => nOk_ids h0 j n (by omega) (by omega) q.symm)]
      exact ih h.1 j (by omega)
theorem netB_nOk {nx : Int} {M : Nat → FT} {n : Nat} (h : netB nx M n = true) : nOk nx M n = true := by
  simp only [netB, Bool.and_eq_true] at h; exact h.2
theorem cut_mine {nx : Int} {M : Nat → FT} {n i : Nat} (h : netB nx M n = true) (hi : i < n) : ∀ j, j < n - 1 → (fun y => if y = (M i).1 then none else lk M n y) (cutG M i j).1 = some (cutG M i j) := by
  intro j hj
  have hk := netB_nOk h
  unfold cutG
  by_cases e : j < i
  · simp only [if_pos e]
    rw [if_neg (nOk_ids hk j i e hi)]
    exact lk_mine hk j (by omega)
  · simp only [if_neg e]
    rw [if_neg (fun q => nOk_ids hk i (j + 1) (by omega) (by omega) q.symm)]
    exact lk_mine hk (j + 1) (by omega)
theorem B2.but2 {w w' : World} {j q r : Nat} {u0 u1 : Value} (h : B2 w j u0 u1) (hb : But2 q r w w') (hq : j ≠ q) (hr : j ≠ r) : B2 w' j u0 u1 :=
  ⟨Nat.lt_of_lt_of_le h.1 hb.2.2.2.1, by rw [hb.cell h.1 hq hr]; exact h.2.1, by rw [hb.cell h.1 hq hr]; exact h.2.2.1, by rw [hb.frozen h.1 hq hr]; exact h.2.2.2.1, by rw [hb.frozen h.1 hq hr]; exact h.2.2.2.2⟩
theorem F5.but2 {w w' : World} {j q r : Nat} {x0 x1 x2 : Int} {x3 : ByteArray} {x4 : Int} (h : F5 w j x0 x1 x2 x3 x4) (hb : But2 q r w w') (hq : j ≠ q) (hr : j ≠ r) : F5 w' j x0 x1 x2 x3 x4 := by
  obtain ⟨h0, c0, c1, c2, c3, c4, f0, f1, f2, f3, f4⟩ := h
  exact ⟨Nat.lt_of_lt_of_le h0 hb.2.2.2.1, by rw [hb.cell h0 hq hr]; exact c0, by rw [hb.cell h0 hq hr]; exact c1, by rw [hb.cell h0 hq hr]; exact c2, by rw [hb.cell h0 hq hr]; exact c3, by rw [hb.cell h0 hq hr]; exact c4, by rw [hb.frozen h0 hq hr]; exact f0, by rw [hb.frozen h0 hq hr]; exact f1, by rw [hb.frozen h0 hq hr]; exact f2, by rw [hb.frozen h0 hq hr]; exact f3, by rw [hb.frozen h0 hq hr]; exact f4⟩
theorem MB.alloc {w : World} {j : Nat} {u0 u1 u2 : Value} (h : MB w j u0 u1 u2) (ob : Obj) : MB (w.alloc ob) j u0 u1 u2 := h.below (Below.nw w ob)
set_option maxHeartbeats 4000000 in
theorem implNetTake_bad (nx i : Int) (b n c : Nat) (M : Nat → FT) (w : World) (hm : n ≤ maxLen) (hf : Cs w b 0 (n * 5) (MFFlight M)) (hs : ∀ i, i < n → ((M i).2.2.2.1).size ≤ maxLen) (hw : ∀ i, i < n → (Lit.int .i64 (M i).1).wf = true) (h : netB nx M n = false) :
    Calls Try.prog 8 #[.agg #[.int .i64 nx, .slice (some ⟨b, 0, none⟩) n c], .int .i64 i] w fun e w' => e = .returned (.tuple #[.agg #[.int .i64 0, .slice none 0 0], .agg #[.int .i64 0, .int .i64 0, .int .i64 0, .string ⟨#[]⟩, .int .i64 0], .int .i64 1]) ∧ Below w.heap.size w w' := by
  have N := ((NB.new w nx (some ⟨b, 0, none⟩) n c 26).below (Below.nw _ (.cells #[.int .i64 0, .slice none 0 0] 26))).below (Below.nw _ (.cells #[.int .i64 0, .int .i64 0, .int .i64 0, .string ⟨#[]⟩, .int .i64 0] 30))
  have R1 := (B2.new (w.alloc (.cells #[.int .i64 nx, .slice (some ⟨b, 0, none⟩) n c] 26)) (.int .i64 0) (.slice none 0 0) 26).below (Below.nw _ (.cells #[.int .i64 0, .int .i64 0, .int .i64 0, .string ⟨#[]⟩, .int .i64 0] 30))
  have R2 := F5.new ((w.alloc (.cells #[.int .i64 nx, .slice (some ⟨b, 0, none⟩) n c] 26)).alloc (.cells #[.int .i64 0, .slice none 0 0] 26)) 0 0 0 ⟨#[]⟩ 0 30
  have A1 := Below.nw w (.cells #[.int .i64 nx, .slice (some ⟨b, 0, none⟩) n c] 26)
  have A2 := A1.alloc A1.size (.cells #[.int .i64 0, .slice none 0 0] 26)
  have B := A2.alloc A2.size (.cells #[.int .i64 0, .int .i64 0, .int .i64 0, .string ⟨#[]⟩, .int .i64 0] 30)
  have CO := fun w' (h' : Cs w' b 0 (n * 5) (MFFlight M)) => mailOf_any nx (some ⟨b, 0, none⟩) n c M w' hm (.inr ⟨b, 0, rfl, h'⟩) hs hw
  have CS := hf.below B hf.1
  simp only [World.size_alloc] at R1 R2
  clear hf A1 A2
  go_enter Try.func8, Try.ntmps8
  go_wp2_with fail
  refine (CO _ CS).mono ?_
  rintro e v ⟨V, rfl, q0, q1, hb⟩
  have hbs := hb.size
  simp at hbs
  replace B := B.trans (hb.mono B.size)
  replace R1 := R1.below hb
  replace R2 := R2.below hb
  clear CO CS N
  have hV := q0 h
  subst hV
  rw [h]
  clear q0 q1 hb
  unfold zml
  have A4 := Below.nw v (.cells #[.int .i64 0, .map none, .slice none 0 0] 53)
  replace B := B.trans (A4.mono B.size)
  obtain ⟨r0, r1, r2, r3, r4⟩ := R1.below A4
  obtain ⟨f0, f1, f2, f3, f4, f5, f6, f7, f8, f9, f10⟩ := R2.below A4
  clear A4 R1 R2
  go_wp2_with fail
  generalize v.alloc (.cells #[.int .i64 0, .map none, .slice none 0 0] 53) = v4 at *
  have PB1 := ((But.refl (w.heap.size + 1) v4).setCell 0 (.int .i64 0)).setCell 1 (.slice none 0 0)
  have PB2 := put5_but ((v4.setCell ⟨w.heap.size + 1, 0, none⟩ (.int .i64 0)).setCell ⟨w.heap.size + 1, 1, none⟩ (.slice none 0 0)) (w.heap.size + 1 + 1) 0 (.int .i64 0) (.int .i64 0) (.int .i64 0) (.string ⟨#[]⟩) (.int .i64 0)
  exact bodyPost_ret (v := .tuple #[.agg #[.int .i64 0, .slice none 0 0], .agg #[.int .i64 0, .int .i64 0, .int .i64 0, .string ⟨#[]⟩, .int .i64 0], .int .i64 1]) (by simp (maxDischargeDepth := 6) [results, Try.results8, go_sem, *]) rfl ⟨rfl, (B.trans (PB1.below (by omega) B.size)).trans (PB2.below (by omega) (B.trans (PB1.below (B := w.heap.size) (by omega) B.size)).size)⟩
set_option maxHeartbeats 4000000 in
theorem implNetTake_none (nx i : Int) (b n c : Nat) (M : Nat → FT) (w : World) (hm : n ≤ maxLen) (hf : Cs w b 0 (n * 5) (MFFlight M)) (hs : ∀ i, i < n → ((M i).2.2.2.1).size ≤ maxLen) (hw : ∀ i, i < n → (Lit.int .i64 (M i).1).wf = true) (h : netB nx M n = true) (hi : ¬ (0 ≤ i ∧ i < (n : Int))) :
    Calls Try.prog 8 #[.agg #[.int .i64 nx, .slice (some ⟨b, 0, none⟩) n c], .int .i64 i] w fun e w' => ∃ g, e = .returned (.tuple #[.agg #[.int .i64 nx, .slice (some ⟨g, 0, none⟩) n n], .agg #[.int .i64 0, .int .i64 0, .int .i64 0, .string ⟨#[]⟩, .int .i64 0], .int .i64 2]) ∧ w.heap.size ≤ g ∧ RowF w' g 30 (n * 5) (n * 5) (MFFlight M) ∧ Below w.heap.size w w' := by
  have hn40 := netB_n h
  have N := ((NB.new w nx (some ⟨b, 0, none⟩) n c 26).below (Below.nw _ (.cells #[.int .i64 0, .slice none 0 0] 26))).below (Below.nw _ (.cells #[.int .i64 0, .int .i64 0, .int .i64 0, .string ⟨#[]⟩, .int .i64 0] 30))
  have R1 := (B2.new (w.alloc (.cells #[.int .i64 nx, .slice (some ⟨b, 0, none⟩) n c] 26)) (.int .i64 0) (.slice none 0 0) 26).below (Below.nw _ (.cells #[.int .i64 0, .int .i64 0, .int .i64 0, .string ⟨#[]⟩, .int .i64 0] 30))
  have R2 := F5.new ((w.alloc (.cells #[.int .i64 nx, .slice (some ⟨b, 0, none⟩) n c] 26)).alloc (.cells #[.int .i64 0, .slice none 0 0] 26)) 0 0 0 ⟨#[]⟩ 0 30
  have A1 := Below.nw w (.cells #[.int .i64 nx, .slice (some ⟨b, 0, none⟩) n c] 26)
  have A2 := A1.alloc A1.size (.cells #[.int .i64 0, .slice none 0 0] 26)
  have B := A2.alloc A2.size (.cells #[.int .i64 0, .int .i64 0, .int .i64 0, .string ⟨#[]⟩, .int .i64 0] 30)
  have CO := fun w' (h' : Cs w' b 0 (n * 5) (MFFlight M)) => mailOf_any nx (some ⟨b, 0, none⟩) n c M w' hm (.inr ⟨b, 0, rfl, h'⟩) hs hw
  have CS := hf.below B hf.1
  simp only [World.size_alloc] at R1 R2
  clear hf A1 A2
  go_enter Try.func8, Try.ntmps8
  go_wp2_with fail
  refine (CO _ CS).mono ?_
  rintro e v ⟨V, rfl, q0, q1, hb⟩
  have hbs := hb.size
  simp at hbs
  replace B := B.trans (hb.mono B.size)
  replace R1 := R1.below hb
  replace R2 := R2.below hb
  clear CO CS N
  obtain ⟨bm, br, rfl, _, _, hne, MP, RW⟩ := q1 h
  rw [h]
  have HG := lk_mine (netB_nOk h)
  clear q0 q1 hb
  have A4 := Below.nw v (.cells #[.int .i64 nx, .map (some bm), .slice (some ⟨br, 0, none⟩) n n] 53)
  replace B := B.trans (A4.mono B.size)
  replace R1 := R1.below A4
  replace R2 := R2.below A4
  have X := MB.new v (.int .i64 nx) (.map (some bm)) (.slice (some ⟨br, 0, none⟩) n n) 53
  replace MP := MP.below A4
  replace RW := RowF.below' A4 RW
  have CH := fun w' => mailHas_any nx i bm br n w' hn40
  rw [decide_eq_false hi] at CH
  clear A4
  obtain ⟨k0, k1, k2, k3, k4, k5, k6⟩ := id X
  go_wp2_with fail
  refine (CH _).mono ?_
  rintro e v3 ⟨rfl, hb⟩
  replace B := B.trans (hb.mono B.size)
  replace R1 := R1.below hb
  replace R2 := R2.below hb
  replace X := X.below hb
  replace MP := MP.below hb
  replace RW := RowF.below' hb RW
  clear hb CH k0 k1 k2 k3 k4 k5 k6
  obtain ⟨k0, k1, k2, k3, k4, k5, k6⟩ := id X
  go_wp2_with fail
  refine (mailNet_any nx bm br n n (lk M n) M _ hn40 MP RW HG hw).mono ?_
  rintro e v4 ⟨g, rfl, hg, RG, hb⟩
  have hg2 : w.heap.size + 1 + 1 < g := Nat.lt_of_lt_of_le R2.1 hg
  replace B := B.trans (hb.mono B.size)
  obtain ⟨r0, r1, r2, r3, r4⟩ := R1.below hb
  obtain ⟨f0, f1, f2, f3, f4, f5, f6, f7, f8, f9, f10⟩ := R2.below hb
  clear hb R1 R2 X MP RW k0 k1 k2 k3 k4 k5 k6 HG
  go_wp2_with fail
  have PB1 := ((But.refl (w.heap.size + 1) v4).setCell 0 (.int .i64 nx)).setCell 1 (.slice (some ⟨g, 0, none⟩) n n)
  have PB2 := put5_but ((v4.setCell ⟨w.heap.size + 1, 0, none⟩ (.int .i64 nx)).setCell ⟨w.heap.size + 1, 1, none⟩ (.slice (some ⟨g, 0, none⟩) n n)) (w.heap.size + 1 + 1) 0 (.int .i64 0) (.int .i64 0) (.int .i64 0) (.string ⟨#[]⟩) (.int .i64 0)
  exact bodyPost_ret (v := .tuple #[.agg #[.int .i64 nx, .slice (some ⟨g, 0, none⟩) n n], .agg #[.int .i64 0, .int .i64 0, .int .i64 0, .string ⟨#[]⟩, .int .i64 0], .int .i64 2]) (by simp (maxDischargeDepth := 6) [results, Try.results8, go_sem, *]) rfl ⟨g, rfl, by omega, (RG.but PB1 (by omega)).but PB2 (by omega), (B.trans (PB1.below (by omega) B.size)).trans (PB2.below (by omega) (B.trans (PB1.below (B := w.heap.size) (by omega) B.size)).size)⟩
set_option maxRecDepth 100000 in
set_option maxHeartbeats 4000000 in
theorem implNetTake_done (nx : Int) (i b n c : Nat) (M : Nat → FT) (y0 y1 y2 : Int) (y3 : ByteArray) (y4 : Int) (w : World) (hm : n ≤ maxLen) (hf : Cs w b 0 (n * 5) (MFFlight M)) (hs : ∀ i, i < n → ((M i).2.2.2.1).size ≤ maxLen) (hw : ∀ i, i < n → (Lit.int .i64 (M i).1).wf = true) (h : netB nx M n = true) (hin : i < n) (hY : M i = (y0, y1, y2, y3, y4)) :
    Calls Try.prog 8 #[.agg #[.int .i64 nx, .slice (some ⟨b, 0, none⟩) n c], .int .i64 (i : Int)] w fun e w' => ∃ g, e = .returned (.tuple #[.agg #[.int .i64 nx, .slice (some ⟨g, 0, none⟩) (n - 1) (n - 1)], .agg #[.int .i64 y0, .int .i64 y1, .int .i64 y2, .string y3, .int .i64 y4], .int .i64 0]) ∧ w.heap.size ≤ g ∧ RowF w' g 30 ((n - 1) * 5) ((n - 1) * 5) (MFFlight (cutG M i)) ∧ Below w.heap.size w w' := by
  have hn40 := netB_n h
  have HGi : Hid (∀ j, j < n - 1 → (fun y => if y = y0 then none else lk M n y) (cutG M i j).1 = some (cutG M i j)) := by
    have q := cut_mine h hin
    rw [hY] at q
    exact q
  have hF : lk M n y0 = some (y0, y1, y2, y3, y4) := by
    have q := lk_mine (netB_nOk h) i hin
    rw [hY] at q
    exact q
  have hwi : (Lit.int .i64 y0).wf = true := by have q := hw i hin; rw [hY] at q; exact q
  have HWc : Hid (∀ j, j < n - 1 → (Lit.int .i64 (cutG M i j).1).wf = true) := by
    intro j hj; unfold cutG; split
    · exact hw j (by omega)
    · exact hw (j + 1) (by omega)
  have HY : Hid (M i = (y0, y1, y2, y3, y4)) := hY
  have HF : Hid (lk M n y0 = some (y0, y1, y2, y3, y4)) := hF
  clear hY hF
  have N := ((NB.new w nx (some ⟨b, 0, none⟩) n c 26).below (Below.nw _ (.cells #[.int .i64 0, .slice none 0 0] 26))).below (Below.nw _ (.cells #[.int .i64 0, .int .i64 0, .int .i64 0, .string ⟨#[]⟩, .int .i64 0] 30))
  have R1 := (B2.new (w.alloc (.cells #[.int .i64 nx, .slice (some ⟨b, 0, none⟩) n c] 26)) (.int .i64 0) (.slice none 0 0) 26).below (Below.nw _ (.cells #[.int .i64 0, .int .i64 0, .int .i64 0, .string ⟨#[]⟩, .int .i64 0] 30))
  have R2 := F5.new ((w.alloc (.cells #[.int .i64 nx, .slice (some ⟨b, 0, none⟩) n c] 26)).alloc (.cells #[.int .i64 0, .slice none 0 0] 26)) 0 0 0 ⟨#[]⟩ 0 30
  have A1 := Below.nw w (.cells #[.int .i64 nx, .slice (some ⟨b, 0, none⟩) n c] 26)
  have A2 := A1.alloc A1.size (.cells #[.int .i64 0, .slice none 0 0] 26)
  have B := A2.alloc A2.size (.cells #[.int .i64 0, .int .i64 0, .int .i64 0, .string ⟨#[]⟩, .int .i64 0] 30)
  have CO := fun w' (h' : Cs w' b 0 (n * 5) (MFFlight M)) => mailOf_any nx (some ⟨b, 0, none⟩) n c M w' hm (.inr ⟨b, 0, rfl, h'⟩) hs hw
  have CS := hf.below B hf.1
  simp only [World.size_alloc] at R1 R2
  clear hf A1 A2
  go_enter Try.func8, Try.ntmps8
  go_wp2_with fail
  refine (CO _ CS).mono ?_
  rintro e v ⟨V, rfl, q0, q1, hb⟩
  have hbs := hb.size
  simp at hbs
  replace B := B.trans (hb.mono B.size)
  replace R1 := R1.below hb
  replace R2 := R2.below hb
  clear CO CS N
  obtain ⟨bm, br, rfl, hb1, hb2, hne, MP, RW⟩ := q1 h
  rw [h]
  clear q0 q1 hb h hs hw
  have lm := MP.lt
  have lr := RW.lt
  simp at hb1 hb2
  have A4 := Below.nw v (.cells #[.int .i64 nx, .map (some bm), .slice (some ⟨br, 0, none⟩) n n] 53)
  replace B := B.trans (A4.mono B.size)
  replace R1 := R1.below A4
  replace R2 := R2.below A4
  have X := MB.new v (.int .i64 nx) (.map (some bm)) (.slice (some ⟨br, 0, none⟩) n n) 53
  replace MP := MP.below A4
  replace RW := RowF.below' A4 RW
  have CH := fun w' => mailHas_any nx (i : Int) bm br n w' hn40
  rw [decide_eq_true (show 0 ≤ (i : Int) ∧ (i : Int) < (n : Int) by omega)] at CH
  clear A4
  obtain ⟨k0, k1, k2, k3, k4, k5, k6⟩ := id X
  go_wp2_with fail
  generalize v.heap.size = jm at *
  refine (CH _).mono ?_
  rintro e v3 ⟨rfl, hb⟩
  replace B := B.trans (hb.mono B.size)
  replace R1 := R1.below hb
  replace R2 := R2.below hb
  replace X := X.below hb
  replace MP := MP.below hb
  replace RW := RowF.below' hb RW
  clear hb CH k0 k1 k2 k3 k4 k5 k6
  go_wp2_with fail
  refine (mailTake_any nx jm bm br n n i (lk M n) M y0 y1 y2 y3 y4 _ hn40 hin X MP RW (by omega) (by omega) hne hwi HY.out HF.out).mono ?_
  rintro e v4 ⟨bn, rfl, hbn, X4, MP4, RW4, U4⟩
  have hR2 := R2.1
  have hj3 := X.1
  have D1 : B2 v4 (w.heap.size + 1) (.int .i64 0) (.slice none 0 0) := R1.but2 U4 (by omega) (by omega)
  have D2 : F5 v4 (w.heap.size + 1 + 1) 0 0 0 ⟨#[]⟩ 0 := R2.but2 U4 (by omega) (by omega)
  replace B := B.trans (U4.below (B := w.heap.size) (by omega) (by omega) B.size)
  clear R1 R2 X MP RW U4
  have A5 := Below.nw v4 (.cells #[.int .i64 y0, .int .i64 y1, .int .i64 y2, .string y3, .int .i64 y4] 30)
  have P := F5.new v4 y0 y1 y2 y3 y4 30
  have hj4 : jm < v4.heap.size := X4.1
  have hR4 : w.heap.size + 1 + 1 < v4.heap.size := D2.1
  replace B := B.trans (A5.mono B.size)
  have R1 := D1.below A5
  have R2 := D2.below A5
  have X := X4.below A5
  have MP := MP4.below A5
  have RW := RowF.below' A5 RW4
  clear A5 D1 D2 X4 MP4 RW4
  go_wp2_with fail
  generalize v4.heap.size = jf at *
  generalize v4.alloc (.cells #[.int .i64 y0, .int .i64 y1, .int .i64 y2, .string y3, .int .i64 y4] 30) = v at *
  obtain ⟨k0, k1, k2, k3, k4, k5, k6⟩ := id X
  obtain ⟨p0, p1, p2, p3, p4, p5, p6, p7, p8, p9, p10⟩ := id P
  obtain ⟨r0, r1, r2, r3, r4⟩ := id R1
  obtain ⟨f0, f1, f2, f3, f4, f5, f6, f7, f8, f9, f10⟩ := id R2
  refine wp_region_held_drew (S := (fun w' => w'.cell? ⟨jf, 0, none⟩ = some (.int .i64 y0) ∧ w'.cell? ⟨jf, 1, none⟩ = some (.int .i64 y1) ∧ w'.cell? ⟨jf, 2, none⟩ = some (.int .i64 y2) ∧ w'.cell? ⟨jf, 3, none⟩ = some (.string y3) ∧ w'.cell? ⟨jf, 4, none⟩ = some (.int .i64 y4) ∧ w'.cell? ⟨jm, 0, none⟩ = some (.int .i64 nx) ∧ w'.cell? ⟨jm, 1, none⟩ = some (.map (some bm)) ∧ w'.cell? ⟨jm, 2, none⟩ = some (.slice (some ⟨bn, 0, none⟩) (n - 1) (n - 1)))) (by kernel_rfl) ?_ (fun hHeld => ?_)
  · first | exact ⟨p1, p2, p3, p4, p5, k1, k2, k3⟩ | (simp (maxDischargeDepth := 6) [go_sem, *]; done)
  clear k0 k1 k2 k3 k4 k5 k6 p0 p1 p2 p3 p4 p5 p6 p7 p8 p9 p10 r0 r1 r2 r3 r4 f0 f1 f2 f3 f4 f5 f6 f7 f8 f9 f10
  replace X := X.drew
  replace P := P.drew
  replace R1 := R1.drew
  replace R2 := R2.drew
  replace MP := MP.drew
  replace RW : RowF v.drew bn 3 (n - 1) (n - 1) (idF (cutG M i)) := RW
  replace B := Below.drew B
  generalize v.drew = v at *
  (obtain ⟨k0, k1, k2, k3, k4, k5, k6⟩ := id X); (obtain ⟨p0, p1, p2, p3, p4, p5, p6, p7, p8, p9, p10⟩ := id P); (obtain ⟨r0, r1, r2, r3, r4⟩ := id R1); (obtain ⟨f0, f1, f2, f3, f4, f5, f6, f7, f8, f9, f10⟩ := id R2)
  refine wpAnyH_take (i := 0) (v := ?_) (by rw [List.getElem?_toArray]; rfl) (by kernel_rfl) (by kernel_rfl) (by kernel_rfl) (by intro _ _ _ h; exact h) (Or.inl ⟨by rfl, ?_⟩) (by assumption) ?_
  rotate_left
  · (intro w hSw; (try dsimp only at hSw); go_simp; all_goals with_reducible rfl)
  (try simp only [Act.put, List.setIfInBounds_toArray, List.set_cons_zero, List.set_cons_succ])
  refine wpAnyH_take (i := 2) (v := ?_) (by rw [List.getElem?_toArray]; rfl) (by kernel_rfl) (by kernel_rfl) (by kernel_rfl) (by intro _ _ _ h; exact h) (Or.inl ⟨by rfl, ?_⟩) (by assumption) ?_
  rotate_left
  · (intro w hSw; (try dsimp only at hSw); go_simp; all_goals with_reducible rfl)
  (try simp only [Act.put, List.setIfInBounds_toArray, List.set_cons_zero, List.set_cons_succ])
  refine wpAnyH_ready (rs := [1]) (by kernel_rfl) (by simp) ?_
  refine (AllReadyH.cons (by rw [List.getElem?_toArray]; rfl) (fun K hK => ?_) AllReadyH.nil)
  go_simp
  refine (mailNet_any nx bm bn (n - 1) n _ (cutG M i) _ (by omega) MP RW HGi.out HWc.out).mono ?_; rintro e v ⟨g, rfl, hg, RG, hb⟩; (have hg2 : w.heap.size + 1 + 1 < g := Nat.lt_of_lt_of_le f0 hg); clear k0 k1 k2 k3 k4 k5 k6 p0 p1 p2 p3 p4 p5 p6 p7 p8 p9 p10 r0 r1 r2 r3 r4 f0 f1 f2 f3 f4 f5 f6 f7 f8 f9 f10; (replace B := B.trans (hb.mono B.size)); (replace R1 := R1.below hb); (replace R2 := R2.below hb); (replace X := X.below hb); (replace P := P.below hb); clear hb MP RW; (obtain ⟨k0, k1, k2, k3, k4, k5, k6⟩ := id X); (obtain ⟨p0, p1, p2, p3, p4, p5, p6, p7, p8, p9, p10⟩ := id P); (obtain ⟨r0, r1, r2, r3, r4⟩ := id R1); (obtain ⟨f0, f1, f2, f3, f4, f5, f6, f7, f8, f9, f10⟩ := id R2)
  (try go_wp2_with fail)
  refine hK.out _ _ ?_ (fun hHeld => ?_)
  · first | exact ⟨p1, p2, p3, p4, p5, k1, k2, k3⟩ | (simp (maxDischargeDepth := 6) [go_sem, *]; done)
  clear hK K
  (try simp only [Act.put, List.setIfInBounds_toArray, List.set_cons_zero, List.set_cons_succ])
  refine wpAnyH_ready (rs := [3]) (by kernel_rfl) (by simp) ?_
  refine (AllReadyH.cons (by rw [List.getElem?_toArray]; rfl) (fun K hK => ?_) AllReadyH.nil)
  go_simp
  (have PB := ((But.refl (w.heap.size + 1) v).setCell 0 (.int .i64 nx)).setCell 1 (.slice (some ⟨g, 0, none⟩) (n - 1) (n - 1))); clear k0 k1 k2 k3 k4 k5 k6 p0 p1 p2 p3 p4 p5 p6 p7 p8 p9 p10 r0 r1 r2 r3 r4 f0 f1 f2 f3 f4 f5 f6 f7 f8 f9 f10; (replace R1 := R1.setB (.int .i64 nx) (.slice (some ⟨g, 0, none⟩) (n - 1) (n - 1))); (replace R2 := R2.but PB (by omega)); (replace X := X.but PB (by omega)); (replace P := P.but PB (by omega)); (replace RG := RG.but PB (by omega)); (replace B := B.trans (PB.below (by omega) B.size)); clear PB; (generalize (v.setCell ⟨w.heap.size + 1, 0, none⟩ (.int .i64 nx)).setCell ⟨w.heap.size + 1, 1, none⟩ (.slice (some ⟨g, 0, none⟩) (n - 1) (n - 1)) = v5 at *); (obtain ⟨k0, k1, k2, k3, k4, k5, k6⟩ := id X); (obtain ⟨p0, p1, p2, p3, p4, p5, p6, p7, p8, p9, p10⟩ := id P); (obtain ⟨r0, r1, r2, r3, r4⟩ := id R1); (obtain ⟨f0, f1, f2, f3, f4, f5, f6, f7, f8, f9, f10⟩ := id R2)
  refine hK.out _ _ ?_ (fun hHeld => ?_)
  · first | exact ⟨p1, p2, p3, p4, p5, k1, k2, k3⟩ | (simp (maxDischargeDepth := 6) [go_sem, *]; done)
  clear hK K
  (try simp only [Act.put, List.setIfInBounds_toArray, List.set_cons_zero, List.set_cons_succ])
  refine wpAnyH_ready (rs := [4]) (by kernel_rfl) (by simp) ?_
  refine (AllReadyH.cons (by rw [List.getElem?_toArray]; rfl) (fun K hK => ?_) AllReadyH.nil)
  go_simp
  (have PB := put5z_but v5 (w.heap.size + 1 + 1) (.int .i64 y0) (.int .i64 y1) (.int .i64 y2) (.string y3) (.int .i64 y4)); clear k0 k1 k2 k3 k4 k5 k6 p0 p1 p2 p3 p4 p5 p6 p7 p8 p9 p10 r0 r1 r2 r3 r4 f0 f1 f2 f3 f4 f5 f6 f7 f8 f9 f10; (replace R1 := R1.but PB (by omega)); (replace R2 := R2.set5 y0 y1 y2 y3 y4); (replace X := X.but PB (by omega)); (replace P := P.but PB (by omega)); (replace RG := RG.but PB (by omega)); (replace B := B.trans (PB.below (B := w.heap.size) (by omega) B.size)); clear PB; unfold put5z at R1 R2 X P RG B; (generalize ((((v5.setCell ⟨w.heap.size + 1 + 1, 0, none⟩ (.int .i64 y0)).setCell ⟨w.heap.size + 1 + 1, 1, none⟩ (.int .i64 y1)).setCell ⟨w.heap.size + 1 + 1, 2, none⟩ (.int .i64 y2)).setCell ⟨w.heap.size + 1 + 1, 3, none⟩ (.string y3)).setCell ⟨w.heap.size + 1 + 1, 4, none⟩ (.int .i64 y4) = v6 at *); (obtain ⟨k0, k1, k2, k3, k4, k5, k6⟩ := id X); (obtain ⟨p0, p1, p2, p3, p4, p5, p6, p7, p8, p9, p10⟩ := id P); (obtain ⟨r0, r1, r2, r3, r4⟩ := id R1); (obtain ⟨f0, f1, f2, f3, f4, f5, f6, f7, f8, f9, f10⟩ := id R2)
  refine hK.out _ _ ?_ (fun hHeld => ?_)
  · first | exact ⟨p1, p2, p3, p4, p5, k1, k2, k3⟩ | (simp (maxDischargeDepth := 6) [go_sem, *]; done)
  clear hK K
  (try simp only [Act.put, List.setIfInBounds_toArray, List.set_cons_zero, List.set_cons_succ])
  refine wpAnyH_take (i := 5) (v := ?_) (by rw [List.getElem?_toArray]; rfl) (by kernel_rfl) (by kernel_rfl) (by kernel_rfl) (by intro _ _ _ h; exact h) (Or.inl ⟨by rfl, ?_⟩) (by assumption) ?_
  rotate_left
  · (intro w hSw; (try dsimp only at hSw); go_simp; all_goals with_reducible rfl)
  (try simp only [Act.put, List.setIfInBounds_toArray, List.set_cons_zero, List.set_cons_succ])
  refine wpAnyH_done (by kernel_rfl) ?_ _
  go_wp2_with fail
  exact bodyPost_ret (v := .tuple #[.agg #[.int .i64 nx, .slice (some ⟨g, 0, none⟩) (n - 1) (n - 1)], .agg #[.int .i64 y0, .int .i64 y1, .int .i64 y2, .string y3, .int .i64 y4], .int .i64 0]) (by simp (maxDischargeDepth := 6) [results, Try.results8, go_sem, r1, r2, f1, f2, f3, f4, f5]) rfl ⟨g, rfl, by omega, RG, B⟩
end Go.Proofs.Ytgfhcilhibbooaa
namespace Go.Proofs.Ytgfhcilhibbooaa
open Go.RowKit
set_option linter.unusedVariables false
def insG (G : Nat → FT) (i : Nat) (f : FT) (k : Nat) : FT := if k < i then G k else if k = i then f else G (k - 1)
theorem put_row {w : World} {g n i : Nat} {G : Nat → FT} {x0 x1 x2 : Int} {x3 : ByteArray} {x4 : Int} (hi : i ≤ n) (h : w.heap[g]? = some (.cells (splice ((splice (List.replicate (n + 1) (Value.int .i64 0)) 0 (seg G 0 i)).set i (.int .i64 x0)) (i + 1) (seg G i (n - i))).toArray 3 (0, 0))) : RowF w g 3 (n + 1) (n + 1) (idF (insG G i (x0, x1, x2, x3, x4))) := by
  have e0 : splice (List.replicate (n + 1) (Value.int .i64 0)) 0 (seg G 0 i) = seg G 0 i ++ List.replicate (n + 1 - i) (Value.int .i64 0) := by
    unfold splice; simp [seg_len]
  have e1 : (seg G 0 i ++ List.replicate (n + 1 - i) (Value.int .i64 0)).set i (.int .i64 x0) = seg G 0 i ++ (.int .i64 x0 :: List.replicate (n - i) (Value.int .i64 0)) := by
    rw [List.set_append_right _ _ (by rw [seg_len]; exact Nat.le_refl _), seg_len, Nat.sub_self, show n + 1 - i = (n - i) + 1 by omega, List.replicate_succ, List.set_cons_zero]
  have e2 : splice (seg G 0 i ++ (.int .i64 x0 :: List.replicate (n - i) (Value.int .i64 0))) (i + 1) (seg G i (n - i)) = seg G 0 i ++ (.int .i64 x0 :: seg G i (n - i)) := by
    have c : seg G 0 i ++ (Value.int .i64 x0 :: List.replicate (n - i) (Value.int .i64 0)) = (seg G 0 i ++ [.int .i64 x0]) ++ List.replicate (n - i) (Value.int .i64 0) := by simp
    have l : (seg G 0 i ++ [Value.int .i64 x0]).length = i + 1 := by simp [seg_len]
    unfold splice
    rw [c, List.take_append_of_le_length (by rw [l]; exact Nat.le_refl _), List.take_of_length_le (by rw [l]; exact Nat.le_refl _), List.drop_eq_nil_of_le (by simp [seg_len]; omega), List.append_nil]
    simp
  rw [e0, e1, e2] at h
  refine ⟨fun k => idF (insG G i (x0, x1, x2, x3, x4)) k, ⟨_, h, by simp [seg_len]; omega, fun k hk => ?_⟩, fun _ _ => rfl⟩
  rw [List.getElem?_toArray]
  by_cases hki : k < i
  · rw [List.getElem?_append_left (by rw [seg_len]; exact hki)]
    simp [seg, hki, idF, insG]
  · rw [List.getElem?_append_right (by rw [seg_len]; omega), seg_len]
    by_cases hke : k = i
    · subst hke; simp [idF, insG]
    · have h2 : k - i = (k - i - 1) + 1 := by omega
      rw [h2, List.getElem?_cons_succ]
      have h3 : k - i - 1 < n - i := by omega
      have h4 : i + (k - i - 1) = k - 1 := by omega
      simp [seg, h3, idF, insG, hki, hke, h4]
set_option maxRecDepth 100000 in
set_option maxHeartbeats 4000000 in
theorem mailPut_any (nx : Int) (j bm br n q i : Nat) (F : Int → Option FT) (G : Nat → FT) (x0 x1 x2 : Int) (x3 : ByteArray) (x4 : Int) (w : World) (hn : n ≤ 40) (hi : i ≤ n) (hq : q ≤ 1000) (X : MB w j (.int .i64 nx) (.map (some bm)) (.slice (some ⟨br, 0, none⟩) n n)) (MP : MapI w bm q F) (RW : RowF w br 3 n n (idF G)) (h1 : j ≠ bm) (h2 : j ≠ br) (h3 : bm ≠ br) (hw : (Lit.int .i64 x0).wf = true) :
    Calls Try.prog 30 #[.pointer (some ⟨j, 0, none⟩), .agg #[.int .i64 x0, .int .i64 x1, .int .i64 x2, .string x3, .int .i64 x4], .int .i64 (i : Int)] w fun e w' => ∃ b, e = .returned (.tuple #[]) ∧ w.heap.size ≤ b ∧ MB w' j (.int .i64 nx) (.map (some bm)) (.slice (some ⟨b, 0, none⟩) (n + 1) (n + 1)) ∧ MapI w' bm (q + 1) (fun y => if y = x0 then some (x0, x1, x2, x3, x4) else F y) ∧ RowF w' b 3 (n + 1) (n + 1) (idF (insG G i (x0, x1, x2, x3, x4))) ∧ But2 j bm w w' := by
  have A1 := Below.nw w (.cells #[.int .i64 x0, .int .i64 x1, .int .i64 x2, .string x3, .int .i64 x4] 30)
  have P := F5.new w x0 x1 x2 x3 x4 30
  have hj := X.1
  have hm := MP.lt
  have hr := RW.lt
  have U : But2 j bm w (w.alloc (.cells #[.int .i64 x0, .int .i64 x1, .int .i64 x2, .string x3, .int .i64 x4] 30)) := But2.ofBelow A1
  replace X := X.below A1
  replace MP := MP.below A1
  replace RW := RowF.below' A1 RW
  have hmk0 := mk_rowI (n + 1) (by omega)
  have hn1 : ((n + 1 : Nat) : Int) = (n : Int) + 1 := by omega
  rw [hn1] at hmk0
  clear hn1 A1
  go_enter Try.func30, Try.ntmps30
  go_wp2_with fail
  generalize hjf : w.heap.size = jf at *
  generalize w.alloc (.cells #[.int .i64 x0, .int .i64 x1, .int .i64 x2, .string x3, .int .i64 x4] 30) = v1 at *
  obtain ⟨w2, hup, MP2, hg⟩ := (MP.drew).put hw (by unfold maxLen; omega) (x0, x1, x2, x3, x4)
  simp only [fv] at hup
  have Bm := But.ofGrown hg
  have X2 := (X.drew).but Bm h1
  have RW2 := RowF.but (show RowF v1.drew br 3 n n (idF G) from RW) Bm (fun e => h3 e.symm)
  have P2 := (P.drew).but Bm (by omega)
  have U2 : But2 j bm w w2 := (But2.trans (b := v1.drew) U (But2.right Bm))
  obtain ⟨k0, k1, k2, k3, k4, k5, k6⟩ := id X
  obtain ⟨p0, p1, p2, p3, p4, p5, p6, p7, p8, p9, p10⟩ := id P
  go_region
  clear k0 k1 k2 k3 k4 k5 k6 p0 p1 p2 p3 p4 p5 p6 p7 p8 p9 p10 hup hg Bm MP X RW P U
  obtain ⟨k0, k1, k2, k3, k4, k5, k6⟩ := id X2
  go_upto_region 3 with fail
  have hZ := rowI_heap w2 (n + 1)
  have A3 := Below.nw w2 (rowObjI (n + 1))
  have s2 : w.heap.size ≤ w2.heap.size := U2.2.2.2.1
  rw [hjf] at s2
  have X3 := X2.below A3
  have MP3 := MP2.below A3
  have RW3 := RowF.below' A3 RW2
  have P3 := P2.below A3
  have U3 := U2.trans (But2.ofBelow A3)
  have lj : j < w2.heap.size := X2.1
  have lm : bm < w2.heap.size := MP2.lt
  have lr : br < w2.heap.size := RW2.lt
  have lf : jf < w2.heap.size := P2.1
  clear k0 k1 k2 k3 k4 k5 k6 hmk0 X2 MP2 RW2 P2 U2 A3
  have hs3 : (w2.alloc (rowObjI (n + 1))).heap.size = w2.heap.size + 1 := by simp
  generalize w2.heap.size = g at *
  generalize w2.alloc (rowObjI (n + 1)) = w3 at *
  obtain ⟨k0, k1, k2, k3, k4, k5, k6⟩ := id X3
  have c1 : ∀ k v, (seg G 0 i)[k]? = some v → w3.cell? ((⟨br, 0, none⟩ : Addr).add k) = some v := by
    intro k v hv
    obtain ⟨hk, rfl⟩ := seg_get hv
    have h := (RW3.cs (Nat.le_refl _)).2 k (by omega)
    rw [Nat.zero_add]
    unfold Addr.add
    split
    · next e => subst e; exact h
    · exact h
  have hli2 : (i : Int) ≤ (n : Int) := by omega
  obtain ⟨w4, hcp, HG4, B4⟩ : ∃ w4, (Builtin.copy_ #[51, 51] 3 #[.slice (some ⟨g, 0, none⟩) (n + 1) (n + 1), .slice (some ⟨br, 0, none⟩) i n]).run Try.prog w3 = .ok (goInt i) w4 ∧ Hid (w4.heap[g]? = some (.cells (splice (List.replicate (n + 1) (Value.int .i64 0)) 0 (seg G 0 i)).toArray 3 (0, 0))) ∧ Below g w3 w4 := by
    have h := run_copy_row (P := Try.prog) w3 51 51 3 3 g 0 (n + 1) (n + 1) ⟨br, 0, none⟩ i n (List.replicate (n + 1) (Value.int .i64 0)).toArray 3 (seg G 0 i) Try.underlying51 infoSzI hZ (by rw [seg_len]; exact (Nat.min_eq_left (by omega)).symm) c1 (by simp [seg_len]; omega) (seg_one G 0 i)
    rw [seg_len] at h
    refine ⟨_, h, ?_, below_setRow (Below.refl _ _) (Nat.le_refl _) _⟩
    show _ = _
    rw [setRow_heap w3 g _ _ 3 _ hZ]
    simp [splice, seg_len]
  have Bg : But g w3 w4 := ⟨B4.os, B4.tape, B4.output, B4.size, fun k hk hkg => B4.block k (by omega)⟩
  have X4 := X3.but Bg (by omega)
  have MP4 := MP3.but Bg (by omega)
  have RW4 := RW3.but Bg (by omega)
  have P4 := P3.but Bg (by omega)
  have U4 := U3.new B4 (by omega)
  have lg : g < w4.heap.size := by have := B4.size; omega
  clear hZ c1
  go_upto_region 4 with fail
  clear k0 k1 k2 k3 k4 k5 k6 hcp X3 MP3 RW3 P3 U3 B4 Bg hs3
  have hl1 : (splice (List.replicate (n + 1) (Value.int .i64 0)) 0 (seg G 0 i)).length = n + 1 := by
    rw [length_splice _ _ _ (by simp [seg_len]; omega)]; simp
  have ci : ∃ u, w4.cell? ⟨g, i, none⟩ = some u := by
    refine ⟨(splice (List.replicate (n + 1) (Value.int .i64 0)) 0 (seg G 0 i))[i]'(by rw [hl1]; omega), ?_⟩
    have hk : i < (splice (List.replicate (n + 1) (Value.int .i64 0)) 0 (seg G 0 i)).length := by rw [hl1]; omega
    simp [World.cell?, HG4.out, hk]
  obtain ⟨u, cu⟩ := ci
  have fu : w4.frozen? ⟨g, i, none⟩ = false := by simp [World.frozen?, HG4.out]
  have HG5 : Hid ((w4.setCell ⟨g, i, none⟩ (.int .i64 x0)).heap[g]? = some (.cells ((splice (List.replicate (n + 1) (Value.int .i64 0)) 0 (seg G 0 i)).set i (.int .i64 x0)).toArray 3 (0, 0))) := by
    show _ = _
    rw [setCell_eq_setRow w4 g i _ 3 (0, 0) _ HG4.out, setRow_heap w4 g _ _ 3 _ HG4.out]
    simp
  have Bc := But.one w4 g i (.int .i64 x0)
  have X5 := X4.but Bc (by omega)
  have MP5 := MP4.but Bc (by omega)
  have RW5 := RW4.but Bc (by omega)
  have U5 : But2 j bm w (w4.setCell ⟨g, i, none⟩ (.int .i64 x0)) := U4.new (Bc.below (B := g) (Nat.le_refl _) (Nat.le_of_lt lg)) (by omega)
  have lg5 : g < (w4.setCell ⟨g, i, none⟩ (.int .i64 x0)).heap.size := by simpa using lg
  obtain ⟨p0, p1, p2, p3, p4, p5, p6, p7, p8, p9, p10⟩ := id P4
  have hli3 : (i : Int) < ((n + 1 : Nat) : Int) := by omega
  have hli4 : (i : Int) < (n : Int) + 1 := by omega
  go_upto_region 5 with fail
  generalize w4.setCell ⟨g, i, none⟩ (.int .i64 x0) = w5 at *
  clear p0 p1 p2 p3 p4 p5 p6 p7 p8 p9 p10 cu fu HG4 X4 MP4 RW4 P4 U4 lg Bc hli3 hli4
  obtain ⟨k0, k1, k2, k3, k4, k5, k6⟩ := id X5
  by_cases hlast : i = n
  · have e1 : (i : Int) = (n : Int) := by omega
    have e2 : (i : Int) + 1 = ((n + 1 : Nat) : Int) := by omega
    have hcp := run_copy_none (P := Try.prog) w5.drew 51 51 3 3 (some ⟨g, 0, none⟩) (some ⟨br, 0, none⟩) 0 0 0 0 Try.underlying51 infoSzI rfl
    have HG6 : Hid (w5.drew.heap[g]? = some (.cells (splice ((splice (List.replicate (n + 1) (Value.int .i64 0)) 0 (seg G 0 i)).set i (.int .i64 x0)) (i + 1) (seg G i (n - i))).toArray 3 (0, 0))) := by
      have h : w5.drew.heap[g]? = w5.heap[g]? := rfl
      show _ = _
      rw [h, HG5.out, show n - i = 0 by omega]
      simp [splice, seg]
    have X6 := X5.drew
    have MP6 := MP5.drew
    have U6 : But2 j bm w w5.drew := U5
    go_region
    generalize w5.drew = w6 at *
    clear k0 k1 k2 k3 k4 k5 k6 hcp X5 MP5 RW5 U5
    obtain ⟨k0, k1, k2, k3, k4, k5, k6⟩ := id X6
    go_wp2_with fail
    have Bj := But.one w6 j 2 (.slice (some ⟨g, 0, none⟩) (n + 1) (n + 1))
    have U7 := U6.trans (But2.left (q := bm) Bj)
    exact bodyPost_end (v := .tuple #[]) (by simp [results, Try.results30, go_sem]) rfl ⟨g, rfl, by omega, MB.set2 X6 _, MP6.but Bj (fun e => h1 e.symm), (put_row hi HG6.out).but Bj (by omega), U7⟩
  · have e1 : (i : Int) < (n : Int) := by omega
    have e2 : (i : Int) + 1 < ((n + 1 : Nat) : Int) := by omega
    have RD : RowF w5.drew br 3 n n (idF G) := RW5
    have c2 : ∀ k v, (seg G i (n - i))[k]? = some v → w5.drew.cell? ((⟨br, i, none⟩ : Addr).add k) = some v := by
      intro k v hv
      obtain ⟨hk, rfl⟩ := seg_get hv
      have h := (RD.cs (Nat.le_refl _)).2 (i + k) (by omega)
      rw [Nat.zero_add] at h
      unfold Addr.add
      split
      · next e => subst e; exact h
      · exact h
    have hl2 : ((splice (List.replicate (n + 1) (Value.int .i64 0)) 0 (seg G 0 i)).set i (Value.int .i64 x0)).length = n + 1 := by simp [hl1]
    obtain ⟨w6, hcp, HG6, B6⟩ : ∃ w6, (Builtin.copy_ #[51, 51] 3 #[.slice (some ⟨g, i + 1, none⟩) (n - i) (n - i), .slice (some ⟨br, i, none⟩) (n - i) (n - i)]).run Try.prog w5.drew = .ok (goInt ((n - i : Nat) : Int)) w6 ∧ Hid (w6.heap[g]? = some (.cells (splice ((splice (List.replicate (n + 1) (Value.int .i64 0)) 0 (seg G 0 i)).set i (.int .i64 x0)) (i + 1) (seg G i (n - i))).toArray 3 (0, 0))) ∧ But g w5 w6 := by
      have hg4 : w5.drew.heap[g]? = some (.cells ((splice (List.replicate (n + 1) (Value.int .i64 0)) 0 (seg G 0 i)).set i (.int .i64 x0)).toArray 3 (0, 0)) := HG5.out
      have h := run_copy_row (P := Try.prog) w5.drew 51 51 3 3 g (i + 1) (n - i) (n - i) ⟨br, i, none⟩ (n - i) (n - i) _ 3 (seg G i (n - i)) Try.underlying51 infoSzI hg4 (by rw [seg_len]; exact (Nat.min_self _).symm) c2 (by simp [hl1, seg_len]; omega) (seg_one G i (n - i))
      have hl : (seg G i (n - i)).length = n - i := seg_len _ _ _
      rw [hl] at h
      refine ⟨_, h, ?_, rfl, rfl, rfl, by simp [World.setRow], fun k hk hkg => ?_⟩
      · show _ = _
        rw [setRow_heap w5.drew g _ _ 3 _ hg4]
        simp [splice, hl]
      · exact setRow_other w5.drew g k _ hkg
    have X6 := X5.but B6 (by omega)
    have MP6 := MP5.but B6 (by omega)
    have U6 : But2 j bm w w6 := ⟨B6.1.trans U5.1, B6.2.1.trans U5.2.1, B6.2.2.1.trans U5.2.2.1, Nat.le_trans U5.2.2.2.1 B6.2.2.2.1, fun k hk a b => (B6.2.2.2.2 k (Nat.lt_of_lt_of_le hk U5.2.2.2.1) (by omega)).trans (U5.2.2.2.2 k hk a b)⟩
    clear RD c2 hl2
    go_region
    clear k0 k1 k2 k3 k4 k5 k6 hcp X5 MP5 RW5 U5
    obtain ⟨k0, k1, k2, k3, k4, k5, k6⟩ := id X6
    go_wp2_with fail
    have Bj := But.one w6 j 2 (.slice (some ⟨g, 0, none⟩) (n + 1) (n + 1))
    have U7 := U6.trans (But2.left (q := bm) Bj)
    exact bodyPost_end (v := .tuple #[]) (by simp [results, Try.results30, go_sem]) rfl ⟨g, rfl, by omega, MB.set2 X6 _, MP6.but Bj (fun e => h1 e.symm), (put_row hi HG6.out).but Bj (by omega), U7⟩
end Go.Proofs.Ytgfhcilhibbooaa
namespace Go.Proofs.Ytgfhcilhibbooaa
open Go.RowKit
set_option linter.unusedVariables false
theorem MB.set0 {w : World} {j : Nat} {u0 u1 u2 : Value} (h : MB w j u0 u1 u2) (a0 : Value) : MB (w.setCell ⟨j, 0, none⟩ a0) j a0 u1 u2 := by
  obtain ⟨h0, c0, c1, c2, f0, f1, f2⟩ := h
  exact ⟨by simpa using h0, World.cell?_setCell_same _ _ _ c0, by rw [World.cell?_setCell_other _ _ _ _ (by simp)]; exact c1, by rw [World.cell?_setCell_other _ _ _ _ (by simp)]; exact c2, by simpa using f0, by simpa using f1, by simpa using f2⟩
theorem F5.set0 {w : World} {j : Nat} {x0 x1 x2 : Int} {x3 : ByteArray} {x4 : Int} (h : F5 w j x0 x1 x2 x3 x4) (y0 : Int) : F5 (w.setCell ⟨j, 0, none⟩ (.int .i64 y0)) j y0 x1 x2 x3 x4 := by
  obtain ⟨h0, c0, c1, c2, c3, c4, f0, f1, f2, f3, f4⟩ := h
  exact ⟨by simpa using h0, World.cell?_setCell_same _ _ _ c0, by rw [World.cell?_setCell_other _ _ _ _ (by simp)]; exact c1, by rw [World.cell?_setCell_other _ _ _ _ (by simp)]; exact c2, by rw [World.cell?_setCell_other _ _ _ _ (by simp)]; exact c3, by rw [World.cell?_setCell_other _ _ _ _ (by simp)]; exact c4, by simpa using f0, by simpa using f1, by simpa using f2, by simpa using f3, by simpa using f4⟩
set_option maxHeartbeats 2000000 in
theorem mailSend_full (nx : Int) (j bm br n : Nat) (x0 x1 x2 : Int) (x3 : ByteArray) (x4 : Int) (w : World) (hn : n ≤ 40) (X : MB w j (.int .i64 nx) (.map (some bm)) (.slice (some ⟨br, 0, none⟩) n n)) (hf : n = 40 ∨ nx = 1000000) :
    Calls Try.prog 27 #[.pointer (some ⟨j, 0, none⟩), .agg #[.int .i64 x0, .int .i64 x1, .int .i64 x2, .string x3, .int .i64 x4]] w fun e w' => e = .returned (.bool false) ∧ Below w.heap.size w w' := by
  have A1 := Below.nw w (.cells #[.int .i64 x0, .int .i64 x1, .int .i64 x2, .string x3, .int .i64 x4] 30)
  replace X := X.below A1
  obtain ⟨k0, k1, k2, k3, k4, k5, k6⟩ := id X
  by_cases h : n = 40
  · subst h
    go_enter Try.func27, Try.ntmps27
    go_wp2_with fail
    go_ret
    exact ⟨rfl, A1⟩
  · have h2 := hf.resolve_left h
    subst h2
    have d1 : ((n : Int) == 40) = false := by simp; omega
    have d2 : decide ((n : Int) = 40) = false := decide_eq_false (by omega)
    clear hf
    go_enter Try.func27, Try.ntmps27
    go_wp2_with fail
    go_ret
    exact ⟨rfl, A1⟩
set_option maxRecDepth 100000 in
set_option maxHeartbeats 4000000 in
theorem mailSend_done (nx : Int) (j bm br n q : Nat) (F : Int → Option FT) (G : Nat → FT) (x0 x1 x2 : Int) (x3 : ByteArray) (x4 : Int) (w : World) (hn : n < 40) (hq : q ≤ 1000) (hnx : 0 ≤ nx ∧ nx < 1000000) (X : MB w j (.int .i64 nx) (.map (some bm)) (.slice (some ⟨br, 0, none⟩) n n)) (MP : MapI w bm q F) (RW : RowF w br 3 n n (idF G)) (h1 : j ≠ bm) (h2 : j ≠ br) (h3 : bm ≠ br) :
    Calls Try.prog 27 #[.pointer (some ⟨j, 0, none⟩), .agg #[.int .i64 x0, .int .i64 x1, .int .i64 x2, .string x3, .int .i64 x4]] w fun e w' => ∃ b, e = .returned (.bool true) ∧ w.heap.size ≤ b ∧ MB w' j (.int .i64 (nx + 1)) (.map (some bm)) (.slice (some ⟨b, 0, none⟩) (n + 1) (n + 1)) ∧ MapI w' bm (q + 1) (fun y => if y = nx then some (nx, x1, x2, x3, x4) else F y) ∧ RowF w' b 3 (n + 1) (n + 1) (idF (insG G n (nx, x1, x2, x3, x4))) ∧ But2 j bm w w' := by
  have hwf : (Lit.int .i64 nx).wf = true := by simp only [Lit.wf, Bool.and_eq_true, decide_eq_true_eq]; exact ⟨by show (-9223372036854775808 : Int) ≤ nx; omega, by show nx ≤ (9223372036854775807 : Int); omega⟩
  have A1 := Below.nw w (.cells #[.int .i64 x0, .int .i64 x1, .int .i64 x2, .string x3, .int .i64 x4] 30)
  have hjw := X.1
  have hbm : bm < w.heap.size := MP.lt
  have hbr : br < w.heap.size := RW.lt
  have P := F5.new w x0 x1 x2 x3 x4 30
  have Z : But2 j bm w (w.alloc (.cells #[.int .i64 x0, .int .i64 x1, .int .i64 x2, .string x3, .int .i64 x4] 30)) := But2.ofBelow A1
  replace X := X.below A1
  replace MP := MP.below A1
  replace RW := RowF.below' A1 RW
  have d1 : ((n : Int) == 40) = false := by simp; omega
  have d2 : decide ((n : Int) = 40) = false := decide_eq_false (by omega)
  have d3 : (nx == 1000000) = false := by simp; omega
  have d4 : decide (nx = 1000000) = false := decide_eq_false (by omega)
  have e1 : ¬ (n : Int) = 40 := by omega
  have e2 : ¬ nx = 1000000 := by omega
  clear A1
  obtain ⟨k0, k1, k2, k3, k4, k5, k6⟩ := id X
  obtain ⟨p0, p1, p2, p3, p4, p5, p6, p7, p8, p9, p10⟩ := id P
  go_enter Try.func27, Try.ntmps27
  go_upto_region 3 with fail
  generalize hwv : w.alloc (.cells #[.int .i64 x0, .int .i64 x1, .int .i64 x2, .string x3, .int .i64 x4] 30) = v at *
  have PB := But.one v w.heap.size 0 (.int .i64 nx)
  have P' := P.set0 nx
  have X' := X.but PB (by omega)
  have MP' := MP.but PB (by omega)
  have RW' := RW.but PB (by omega)
  have Z' := Z.new (PB.below (B := w.heap.size) (Nat.le_refl _) Z.2.2.2.1) (Nat.le_refl _)
  go_upto_region 4 with fail
  clear k0 k1 k2 k3 k4 k5 k6 p0 p1 p2 p3 p4 p5 p6 p7 p8 p9 p10 P X MP RW Z PB hwv
  generalize v.setCell ⟨w.heap.size, 0, none⟩ (.int .i64 nx) = v at *
  have PB := But.one v j 0 (.int .i64 (nx + 1))
  have P := P'.but PB (by omega)
  have X := X'.set0 (.int .i64 (nx + 1))
  have MP := MP'.but PB (fun e => h1 e.symm)
  have RW := RW'.but PB (fun e => h2 e.symm)
  have Z := Z'.trans (But2.left PB)
  obtain ⟨k0, k1, k2, k3, k4, k5, k6⟩ := id X'
  go_upto_region 5 with fail
  clear k0 k1 k2 k3 k4 k5 k6 P' X' MP' RW' Z' PB
  generalize v.setCell ⟨j, 0, none⟩ (.int .i64 (nx + 1)) = v at *
  have CP := fun (v : World) (X : MB v j (.int .i64 (nx + 1)) (.map (some bm)) (.slice (some ⟨br, 0, none⟩) n n)) (MP : MapI v bm q F) (RW : RowF v br 3 n n (idF G)) => mailPut_any (nx + 1) j bm br n q n F G nx x1 x2 x3 x4 v (by omega) (Nat.le_refl _) hq X MP RW h1 h2 h3 hwf
  obtain ⟨k0, k1, k2, k3, k4, k5, k6⟩ := id X
  obtain ⟨p0, p1, p2, p3, p4, p5, p6, p7, p8, p9, p10⟩ := id P
  have hvw : w.heap.size ≤ v.heap.size := Z.2.2.2.1
  refine wp_region_held_drew (S := (fun _ => True)) (by kernel_rfl) ?_ (fun hHeld => ?_)
  · trivial
  clear k0 k1 k2 k3 k4 k5 k6 p0 p1 p2 p3 p4 p5 p6 p7 p8 p9 p10
  replace X := X.drew
  replace P := P.drew
  replace MP := MP.drew
  replace RW : RowF v.drew br 3 n n (idF G) := RW
  replace Z : But2 j bm w v.drew := Z
  replace hvw : w.heap.size ≤ v.drew.heap.size := hvw
  generalize v.drew = v at *
  obtain ⟨k0, k1, k2, k3, k4, k5, k6⟩ := id X; obtain ⟨p0, p1, p2, p3, p4, p5, p6, p7, p8, p9, p10⟩ := id P
  refine wpAnyH_take (i := 0) (v := ?_) (by rw [List.getElem?_toArray]; rfl) (by kernel_rfl) (by kernel_rfl) (by kernel_rfl) (by intro _ _ _ h; exact h) (Or.inl ⟨by rfl, ?_⟩) (by assumption) ?_
  rotate_left
  · (intro w hSw; (try dsimp only at hSw); go_simp; all_goals with_reducible rfl)
  (try simp only [Act.put, List.setIfInBounds_toArray, List.set_cons_zero, List.set_cons_succ])
  refine wpAnyH_take (i := 2) (v := ?_) (by rw [List.getElem?_toArray]; rfl) (by kernel_rfl) (by kernel_rfl) (by kernel_rfl) (by intro _ _ _ h; exact h) (Or.inl ⟨by rfl, ?_⟩) (by assumption) ?_
  rotate_left
  · (intro w hSw; (try dsimp only at hSw); go_simp; all_goals with_reducible rfl)
  (try simp only [Act.put, List.setIfInBounds_toArray, List.set_cons_zero, List.set_cons_succ])
  refine wpAnyH_take (i := 3) (v := ?_) (by rw [List.getElem?_toArray]; rfl) (by kernel_rfl) (by kernel_rfl) (by kernel_rfl) (by intro _ _ _ h; exact h) (Or.inl ⟨by rfl, ?_⟩) (by assumption) ?_
  rotate_left
  · (intro w hSw; (try dsimp only at hSw); go_simp; all_goals with_reducible rfl)
  (try simp only [Act.put, List.setIfInBounds_toArray, List.set_cons_zero, List.set_cons_succ])
  refine wpAnyH_take (i := 4) (v := ?_) (by rw [List.getElem?_toArray]; rfl) (by kernel_rfl) (by kernel_rfl) (by kernel_rfl) (by intro _ _ _ h; exact h) (Or.inl ⟨by rfl, ?_⟩) (by assumption) ?_
  rotate_left
  · (intro w hSw; (try dsimp only at hSw); go_simp; all_goals with_reducible rfl)
  (try simp only [Act.put, List.setIfInBounds_toArray, List.set_cons_zero, List.set_cons_succ])
  refine wpAnyH_ready (rs := [1, 5]) (by kernel_rfl) (by simp) ?_
  refine (AllReadyH.cons (by rw [List.getElem?_toArray]; rfl) (fun K hK => ?_) (AllReadyH.cons (by rw [List.getElem?_toArray]; rfl) (fun K hK => ?_) AllReadyH.nil))
  · go_simp
    refine hK.out _ _ ?_ (fun hHeld => ?_)
    · trivial
    clear hK K
    (try simp only [Act.put, List.setIfInBounds_toArray, List.set_cons_zero, List.set_cons_succ])
    refine wpAnyH_ready (rs := [5]) (by kernel_rfl) (by simp) ?_
    refine (AllReadyH.cons (by rw [List.getElem?_toArray]; rfl) (fun K hK => ?_) AllReadyH.nil)
    go_simp
    refine hK.out _ _ ?_ (fun hHeld => ?_)
    · trivial
    clear hK K
    (try simp only [Act.put, List.setIfInBounds_toArray, List.set_cons_zero, List.set_cons_succ])
    refine wpAnyH_take (i := 6) (v := ?_) (by rw [List.getElem?_toArray]; rfl) (by kernel_rfl) (by kernel_rfl) (by kernel_rfl) (by intro _ _ _ h; exact h) (Or.inl ⟨by rfl, ?_⟩) (by assumption) ?_
    rotate_left
    · (intro w hSw; (try dsimp only at hSw); go_simp; all_goals with_reducible rfl)
    (try simp only [Act.put, List.setIfInBounds_toArray, List.set_cons_zero, List.set_cons_succ])
    refine wpAnyH_ready (rs := [7]) (by kernel_rfl) (by simp) ?_
    refine (AllReadyH.cons (by rw [List.getElem?_toArray]; rfl) (fun K hK => ?_) AllReadyH.nil)
    go_simp
    refine (CP _ X MP RW).mono ?_; rintro e v5 ⟨b5, rfl, hb5, X5, M5, R5, Z5⟩; (have F1 : Hid (∃ b, w.heap.size ≤ b ∧ MB v5 j (.int .i64 (nx + 1)) (.map (some bm)) (.slice (some ⟨b, 0, none⟩) (n + 1) (n + 1)) ∧ MapI v5 bm (q + 1) (fun y => if y = nx then some (nx, x1, x2, x3, x4) else F y) ∧ RowF v5 b 3 (n + 1) (n + 1) (idF (insG G n (nx, x1, x2, x3, x4))) ∧ But2 j bm w v5) := ⟨b5, Nat.le_trans hvw hb5, X5, M5, R5, Z.trans Z5⟩); clear X5 M5 R5 Z5 hb5 X MP RW Z P CP; clear k0 k1 k2 k3 k4 k5 k6 p0 p1 p2 p3 p4 p5 p6 p7 p8 p9 p10
    (try go_wp2_with fail)
    refine hK.out _ _ ?_ (fun hHeld => ?_)
    · trivial
    clear hK K
    (try simp only [Act.put, List.setIfInBounds_toArray, List.set_cons_zero, List.set_cons_succ])
    refine wpAnyH_done (by kernel_rfl) ?_ _
    go_wp2_with fail
    go_ret
    obtain ⟨b, q1, q2, q3, q4, q5⟩ := F1.out
    exact ⟨b, rfl, q1, q2, q3, q4, q5⟩
  · go_simp
    refine hK.out _ _ ?_ (fun hHeld => ?_)
    · trivial
    clear hK K
    (try simp only [Act.put, List.setIfInBounds_toArray, List.set_cons_zero, List.set_cons_succ])
    refine wpAnyH_take (i := 6) (v := ?_) (by rw [List.getElem?_toArray]; rfl) (by kernel_rfl) (by kernel_rfl) (by kernel_rfl) (by intro _ _ _ h; exact h) (Or.inl ⟨by rfl, ?_⟩) (by assumption) ?_
    rotate_left
    · (intro w hSw; (try dsimp only at hSw); go_simp; all_goals with_reducible rfl)
    (try simp only [Act.put, List.setIfInBounds_toArray, List.set_cons_zero, List.set_cons_succ])
    refine wpAnyH_ready (rs := [1]) (by kernel_rfl) (by simp) ?_
    refine (AllReadyH.cons (by rw [List.getElem?_toArray]; rfl) (fun K hK => ?_) AllReadyH.nil)
    go_simp
    refine hK.out _ _ ?_ (fun hHeld => ?_)
    · trivial
    clear hK K
    (try simp only [Act.put, List.setIfInBounds_toArray, List.set_cons_zero, List.set_cons_succ])
    refine wpAnyH_ready (rs := [7]) (by kernel_rfl) (by simp) ?_
    refine (AllReadyH.cons (by rw [List.getElem?_toArray]; rfl) (fun K hK => ?_) AllReadyH.nil)
    go_simp
    refine (CP _ X MP RW).mono ?_; rintro e v5 ⟨b5, rfl, hb5, X5, M5, R5, Z5⟩; (have F1 : Hid (∃ b, w.heap.size ≤ b ∧ MB v5 j (.int .i64 (nx + 1)) (.map (some bm)) (.slice (some ⟨b, 0, none⟩) (n + 1) (n + 1)) ∧ MapI v5 bm (q + 1) (fun y => if y = nx then some (nx, x1, x2, x3, x4) else F y) ∧ RowF v5 b 3 (n + 1) (n + 1) (idF (insG G n (nx, x1, x2, x3, x4))) ∧ But2 j bm w v5) := ⟨b5, Nat.le_trans hvw hb5, X5, M5, R5, Z.trans Z5⟩); clear X5 M5 R5 Z5 hb5 X MP RW Z P CP; clear k0 k1 k2 k3 k4 k5 k6 p0 p1 p2 p3 p4 p5 p6 p7 p8 p9 p10
    (try go_wp2_with fail)
    refine hK.out _ _ ?_ (fun hHeld => ?_)
    · trivial
    clear hK K
    (try simp only [Act.put, List.setIfInBounds_toArray, List.set_cons_zero, List.set_cons_succ])
    refine wpAnyH_done (by kernel_rfl) ?_ _
    go_wp2_with fail
    go_ret
    obtain ⟨b, q1, q2, q3, q4, q5⟩ := F1.out
    exact ⟨b, rfl, q1, q2, q3, q4, q5⟩
end Go.Proofs.Ytgfhcilhibbooaa
namespace Go.Proofs.Ytgfhcilhibbooaa
open Go.RowKit
set_option linter.unusedVariables false
theorem own_ofRow {w : World} {base g n : Nat} {G : Nat → FT} (h : RowF w g 30 (n * 5) (n * 5) (MFFlight G)) (hb : base ≤ g) (hn : n ≤ maxLen) : w.ownsRow base 30 5 (.slice (some ⟨g, 0, none⟩) n n) n (frow G n) := by
  obtain ⟨q, ⟨c, h1, h2, h3⟩, h4⟩ := h
  refine ⟨frow_len G n, .inr ⟨g, n, c, rfl, hb, h1, Nat.le_refl _, hn, h2, ?_⟩⟩
  apply List.ext_getElem?
  intro j
  by_cases hj : j < n * 5
  · rw [List.getElem?_take, if_pos hj]
    have e := h3 j hj
    rw [h4 j hj] at e
    have e2 : (frow G n)[j]? = some (MFFlight G j) := by simp [frow, hj]
    rw [e2]
    simpa using e
  · rw [List.getElem?_take, if_neg hj, List.getElem?_eq_none (by rw [frow_len]; omega)]
theorem zF_eq {y0 y1 y2 : Int} {y3 : ByteArray} {y4 : Int} (h : ((y0, y1, y2, y3, y4) : FT) = zF) : y0 = 0 ∧ y1 = 0 ∧ y2 = 0 ∧ y3 = ⟨#[]⟩ ∧ y4 = 0 := by
  unfold zF at h
  have h' : ((y0, y1, y2, y3, y4) : Int × Int × Int × ByteArray × Int) = (0, 0, 0, ⟨#[]⟩, 0) := h
  simp only [Prod.mk.injEq] at h'
  exact h'
theorem specNetTake_any (nx i : Int) (b n c : Nat) (M : Nat → FT) (X : Int) (m : Nat) (G : Nat → FT) (y0 y1 y2 : Int) (y3 : ByteArray) (y4 : Int) (C : Int) (w : World) (hm : n ≤ maxLen) (hf : Cs w b 0 (n * 5) (MFFlight M)) (hs : ∀ i, i < n → ((M i).2.2.2.1).size ≤ maxLen) (h : TkIs nx M n i X m G (y0, y1, y2, y3, y4) C) :
    Calls Try.prog 7 #[.agg #[.int .i64 nx, .slice (some ⟨b, 0, none⟩) n c], .int .i64 i] w fun e w' => ∃ a' c', e = .returned (.tuple #[.agg #[.int .i64 X, .slice a' m c'], .agg #[.int .i64 y0, .int .i64 y1, .int .i64 y2, .string y3, .int .i64 y4], .int .i64 C]) ∧ w'.ownsRow w.heap.size 30 5 (.slice a' m c') m (frow G m) ∧ Below w.heap.size w w' := by
  rcases h with ⟨h, rfl, rfl, hy, rfl⟩ | ⟨h, hi, rfl, rfl, rfl, hy, rfl⟩ | ⟨h, k, rfl, hk, rfl, rfl, rfl, hy, rfl⟩
  · obtain ⟨rfl, rfl, rfl, rfl, rfl⟩ := zF_eq hy
    exact (specNetTake_bad nx i b n c M w hm hf hs h).mono fun e w' ⟨h1, h2⟩ => ⟨none, 0, h1, World.ownsRow_nil _ _ _ _, h2⟩
  · obtain ⟨rfl, rfl, rfl, rfl, rfl⟩ := zF_eq hy
    exact specNetTake_none X i b m c G w hm hf hs h hi
  · exact specNetTake_done X k b n c M y0 y1 y2 y3 y4 w hm hf hs h hk hy.symm
theorem implNetTake_any (nx i : Int) (b n c : Nat) (M : Nat → FT) (X : Int) (m : Nat) (G : Nat → FT) (y0 y1 y2 : Int) (y3 : ByteArray) (y4 : Int) (C : Int) (w : World) (hm : n ≤ maxLen) (hf : Cs w b 0 (n * 5) (MFFlight M)) (hs : ∀ i, i < n → ((M i).2.2.2.1).size ≤ maxLen) (hw : ∀ i, i < n → (Lit.int .i64 (M i).1).wf = true) (h : TkIs nx M n i X m G (y0, y1, y2, y3, y4) C) :
    Calls Try.prog 8 #[.agg #[.int .i64 nx, .slice (some ⟨b, 0, none⟩) n c], .int .i64 i] w fun e w' => ∃ a' c', e = .returned (.tuple #[.agg #[.int .i64 X, .slice a' m c'], .agg #[.int .i64 y0, .int .i64 y1, .int .i64 y2, .string y3, .int .i64 y4], .int .i64 C]) ∧ w'.ownsRow w.heap.size 30 5 (.slice a' m c') m (frow G m) ∧ Below w.heap.size w w' := by
  rcases h with ⟨h, rfl, rfl, hy, rfl⟩ | ⟨h, hi, rfl, rfl, rfl, hy, rfl⟩ | ⟨h, k, rfl, hk, rfl, rfl, rfl, hy, rfl⟩
  · obtain ⟨rfl, rfl, rfl, rfl, rfl⟩ := zF_eq hy
    exact (implNetTake_bad nx i b n c M w hm hf hs hw h).mono fun e w' ⟨h1, h2⟩ => ⟨none, 0, h1, World.ownsRow_nil _ _ _ _, h2⟩
  · obtain ⟨rfl, rfl, rfl, rfl, rfl⟩ := zF_eq hy
    exact (implNetTake_none X i b m c G w hm hf hs hw h hi).mono fun e w' ⟨g, h1, h2, h3, h4⟩ => ⟨_, _, h1, own_ofRow h3 h2 hm, h4⟩
  · exact (implNetTake_done X k b n c M y0 y1 y2 y3 y4 w hm hf hs hw h hk hy.symm).mono fun e w' ⟨g, h1, h2, h3, h4⟩ => ⟨_, _, h1, own_ofRow h3 h2 (by unfold maxLen; have := netB_n h; omega), h4⟩
end Go.Proofs.Ytgfhcilhibbooaa
namespace Go.Proofs.Ytgfhcilhibbooaa
open Go.RowKit
set_option linter.unusedVariables false
theorem insG_at (G : Nat → FT) (i : Nat) (f : FT) : insG G i f i = f := by unfold insG; rw [if_neg (Nat.lt_irrefl _), if_pos rfl]
theorem move_mine {nx : Int} {M : Nat → FT} {n i t : Nat} {f : FT} (h : netB nx M n = true) (hi : i < n) (ht : t < n) (hf : M i = f) : ∀ j, j < n - 1 + 1 → (fun y => if y = f.1 then some f else (fun y => if y = f.1 then none else lk M n y) y) (insG (cutG M i) t f j).1 = some (insG (cutG M i) t f j) := by
  intro j hj
  have hc := cut_mine h hi
  rw [hf] at hc
  have key : ∀ k, k < n - 1 → (cutG M i k).1 ≠ f.1 := by
    intro k hk e
    have q := hc k hk
    simp only [if_pos e] at q
    exact absurd q (by simp)
  unfold insG
  by_cases h1 : j < t
  · simp only [if_pos h1]
    rw [if_neg (key j (by omega))]
    exact hc j (by omega)
  · by_cases h2 : j = t
    · simp only [if_neg h1, if_pos h2, if_true]
    · simp only [if_neg h1, if_neg h2]
      rw [if_neg (key (j - 1) (by omega))]
      exact hc (j - 1) (by omega)
theorem MB.but2 {w w' : World} {j q r : Nat} {u0 u1 u2 : Value} (h : MB w j u0 u1 u2) (hb : But2 q r w w') (hq : j ≠ q) (hr : j ≠ r) : MB w' j u0 u1 u2 := by
  obtain ⟨h0, c0, c1, c2, f0, f1, f2⟩ := h
  exact ⟨Nat.lt_of_lt_of_le h0 hb.2.2.2.1, by rw [hb.cell h0 hq hr]; exact c0, by rw [hb.cell h0 hq hr]; exact c1, by rw [hb.cell h0 hq hr]; exact c2, by rw [hb.frozen h0 hq hr]; exact f0, by rw [hb.frozen h0 hq hr]; exact f1, by rw [hb.frozen h0 hq hr]; exact f2⟩
set_option maxHeartbeats 4000000 in
theorem implNetMove_bad (nx i t : Int) (b n c : Nat) (M : Nat → FT) (w : World) (hm : n ≤ maxLen) (hf : Cs w b 0 (n * 5) (MFFlight M)) (hs : ∀ i, i < n → ((M i).2.2.2.1).size ≤ maxLen) (hw : ∀ i, i < n → (Lit.int .i64 (M i).1).wf = true) (h : netB nx M n = false) :
    Calls Try.prog 14 #[.agg #[.int .i64 nx, .slice (some ⟨b, 0, none⟩) n c], .int .i64 i, .int .i64 t] w fun e w' => e = .returned (.tuple #[.agg #[.int .i64 0, .slice none 0 0], .int .i64 1]) ∧ Below w.heap.size w w' := by
  have R1 := B2.new (w.alloc (.cells #[.int .i64 nx, .slice (some ⟨b, 0, none⟩) n c] 26)) (.int .i64 0) (.slice none 0 0) 26
  have A1 := Below.nw w (.cells #[.int .i64 nx, .slice (some ⟨b, 0, none⟩) n c] 26)
  have B := A1.alloc A1.size (.cells #[.int .i64 0, .slice none 0 0] 26)
  have CO := fun w' (h' : Cs w' b 0 (n * 5) (MFFlight M)) => mailOf_any nx (some ⟨b, 0, none⟩) n c M w' hm (.inr ⟨b, 0, rfl, h'⟩) hs hw
  have CS := hf.below B hf.1
  simp only [World.size_alloc] at R1
  clear hf A1
  go_enter Try.func14, Try.ntmps14
  go_wp2_with fail
  refine (CO _ CS).mono ?_
  rintro e v ⟨V, rfl, q0, q1, hb⟩
  replace B := B.trans (hb.mono B.size)
  replace R1 := R1.below hb
  clear CO CS
  have hV := q0 h
  subst hV
  rw [h]
  clear q0 q1 hb
  unfold zml
  have A4 := Below.nw v (.cells #[.int .i64 0, .map none, .slice none 0 0] 53)
  replace B := B.trans (A4.mono B.size)
  obtain ⟨r0, r1, r2, r3, r4⟩ := R1.below A4
  clear A4 R1
  go_wp2_with fail
  generalize v.alloc (.cells #[.int .i64 0, .map none, .slice none 0 0] 53) = v4 at *
  have PB1 := ((But.refl (w.heap.size + 1) v4).setCell 0 (.int .i64 0)).setCell 1 (.slice none 0 0)
  exact bodyPost_ret (v := .tuple #[.agg #[.int .i64 0, .slice none 0 0], .int .i64 1]) (by simp (maxDischargeDepth := 6) [results, Try.results14, go_sem, *]) rfl ⟨rfl, B.trans (PB1.below (by omega) B.size)⟩
set_option maxHeartbeats 4000000 in
theorem implNetMove_none (nx i t : Int) (b n c : Nat) (M : Nat → FT) (w : World) (hm : n ≤ maxLen) (hf : Cs w b 0 (n * 5) (MFFlight M)) (hs : ∀ i, i < n → ((M i).2.2.2.1).size ≤ maxLen) (hw : ∀ i, i < n → (Lit.int .i64 (M i).1).wf = true) (h : netB nx M n = true) (hit : ¬ ((0 ≤ i ∧ i < (n : Int)) ∧ (0 ≤ t ∧ t < (n : Int)))) :
    Calls Try.prog 14 #[.agg #[.int .i64 nx, .slice (some ⟨b, 0, none⟩) n c], .int .i64 i, .int .i64 t] w fun e w' => ∃ g, e = .returned (.tuple #[.agg #[.int .i64 nx, .slice (some ⟨g, 0, none⟩) n n], .int .i64 2]) ∧ w.heap.size ≤ g ∧ RowF w' g 30 (n * 5) (n * 5) (MFFlight M) ∧ Below w.heap.size w w' := by
  have hn40 := netB_n h
  have R1 := B2.new (w.alloc (.cells #[.int .i64 nx, .slice (some ⟨b, 0, none⟩) n c] 26)) (.int .i64 0) (.slice none 0 0) 26
  have A1 := Below.nw w (.cells #[.int .i64 nx, .slice (some ⟨b, 0, none⟩) n c] 26)
  have B := A1.alloc A1.size (.cells #[.int .i64 0, .slice none 0 0] 26)
  have CO := fun w' (h' : Cs w' b 0 (n * 5) (MFFlight M)) => mailOf_any nx (some ⟨b, 0, none⟩) n c M w' hm (.inr ⟨b, 0, rfl, h'⟩) hs hw
  have CS := hf.below B hf.1
  simp only [World.size_alloc] at R1
  clear hf A1
  go_enter Try.func14, Try.ntmps14
  go_wp2_with fail
  refine (CO _ CS).mono ?_
  rintro e v ⟨V, rfl, q0, q1, hb⟩
  replace B := B.trans (hb.mono B.size)
  replace R1 := R1.below hb
  clear CO CS
  obtain ⟨bm, br, rfl, _, _, hne, MP, RW⟩ := q1 h
  rw [h]
  have HG := lk_mine (netB_nOk h)
  clear q0 q1 hb
  have A4 := Below.nw v (.cells #[.int .i64 nx, .map (some bm), .slice (some ⟨br, 0, none⟩) n n] 53)
  replace B := B.trans (A4.mono B.size)
  replace R1 := R1.below A4
  have X := MB.new v (.int .i64 nx) (.map (some bm)) (.slice (some ⟨br, 0, none⟩) n n) 53
  replace MP := MP.below A4
  replace RW := RowF.below' A4 RW
  have CH := fun w' => mailHas_any nx i bm br n w' hn40
  have CT := fun w' => mailHas_any nx t bm br n w' hn40
  clear A4
  obtain ⟨k0, k1, k2, k3, k4, k5, k6⟩ := id X
  by_cases hi : 0 ≤ i ∧ i < (n : Int)
  · have ht : ¬ (0 ≤ t ∧ t < (n : Int)) := fun h => hit ⟨hi, h⟩
    rw [decide_eq_true hi] at CH
    rw [decide_eq_false ht] at CT
    go_wp2_with fail
    refine (CH _).mono ?_
    rintro e v3 ⟨rfl, hb⟩
    replace B := B.trans (hb.mono B.size)
    replace R1 := R1.below hb
    replace X := X.below hb
    replace MP := MP.below hb
    replace RW := RowF.below' hb RW
    clear hb CH k0 k1 k2 k3 k4 k5 k6
    obtain ⟨k0, k1, k2, k3, k4, k5, k6⟩ := id X
    go_wp2_with fail
    refine (CT _).mono ?_
    rintro e v3b ⟨rfl, hb⟩
    replace B := B.trans (hb.mono B.size)
    replace R1 := R1.below hb
    replace X := X.below hb
    replace MP := MP.below hb
    replace RW := RowF.below' hb RW
    clear hb CT k0 k1 k2 k3 k4 k5 k6
    obtain ⟨k0, k1, k2, k3, k4, k5, k6⟩ := id X
    go_wp2_with fail
    refine (mailNet_any nx bm br n n (lk M n) M _ hn40 MP RW HG hw).mono ?_
    rintro e v4 ⟨g, rfl, hg, RG, hb⟩
    have hg2 : w.heap.size + 1 < g := Nat.lt_of_lt_of_le R1.1 hg
    replace B := B.trans (hb.mono B.size)
    obtain ⟨r0, r1, r2, r3, r4⟩ := R1.below hb
    clear hb R1 X MP RW k0 k1 k2 k3 k4 k5 k6 HG
    go_wp2_with fail
    have PB1 := ((But.refl (w.heap.size + 1) v4).setCell 0 (.int .i64 nx)).setCell 1 (.slice (some ⟨g, 0, none⟩) n n)
    exact bodyPost_ret (v := .tuple #[.agg #[.int .i64 nx, .slice (some ⟨g, 0, none⟩) n n], .int .i64 2]) (by simp (maxDischargeDepth := 6) [results, Try.results14, go_sem, *]) rfl ⟨g, rfl, by omega, RG.but PB1 (by omega), B.trans (PB1.below (by omega) B.size)⟩
  · rw [decide_eq_false hi] at CH
    go_wp2_with fail
    refine (CH _).mono ?_
    rintro e v3 ⟨rfl, hb⟩
    replace B := B.trans (hb.mono B.size)
    replace R1 := R1.below hb
    replace X := X.below hb
    replace MP := MP.below hb
    replace RW := RowF.below' hb RW
    clear hb CH k0 k1 k2 k3 k4 k5 k6
    obtain ⟨k0, k1, k2, k3, k4, k5, k6⟩ := id X
    go_wp2_with fail
    refine (mailNet_any nx bm br n n (lk M n) M _ hn40 MP RW HG hw).mono ?_
    rintro e v4 ⟨g, rfl, hg, RG, hb⟩
    have hg2 : w.heap.size + 1 < g := Nat.lt_of_lt_of_le R1.1 hg
    replace B := B.trans (hb.mono B.size)
    obtain ⟨r0, r1, r2, r3, r4⟩ := R1.below hb
    clear hb R1 X MP RW k0 k1 k2 k3 k4 k5 k6 HG
    go_wp2_with fail
    have PB1 := ((But.refl (w.heap.size + 1) v4).setCell 0 (.int .i64 nx)).setCell 1 (.slice (some ⟨g, 0, none⟩) n n)
    exact bodyPost_ret (v := .tuple #[.agg #[.int .i64 nx, .slice (some ⟨g, 0, none⟩) n n], .int .i64 2]) (by simp (maxDischargeDepth := 6) [results, Try.results14, go_sem, *]) rfl ⟨g, rfl, by omega, RG.but PB1 (by omega), B.trans (PB1.below (by omega) B.size)⟩
set_option maxRecDepth 100000 in
set_option maxHeartbeats 4000000 in
theorem implNetMove_done (nx : Int) (i t b n c : Nat) (M : Nat → FT) (y0 y1 y2 : Int) (y3 : ByteArray) (y4 : Int) (w : World) (hm : n ≤ maxLen) (hf : Cs w b 0 (n * 5) (MFFlight M)) (hs : ∀ i, i < n → ((M i).2.2.2.1).size ≤ maxLen) (hw : ∀ i, i < n → (Lit.int .i64 (M i).1).wf = true) (h : netB nx M n = true) (hin : i < n) (htn : t < n) (hY : M i = (y0, y1, y2, y3, y4)) :
    Calls Try.prog 14 #[.agg #[.int .i64 nx, .slice (some ⟨b, 0, none⟩) n c], .int .i64 (i : Int), .int .i64 (t : Int)] w fun e w' => ∃ g, e = .returned (.tuple #[.agg #[.int .i64 nx, .slice (some ⟨g, 0, none⟩) (n - 1 + 1) (n - 1 + 1)], .int .i64 0]) ∧ w.heap.size ≤ g ∧ RowF w' g 30 ((n - 1 + 1) * 5) ((n - 1 + 1) * 5) (MFFlight (insG (cutG M i) t (y0, y1, y2, y3, y4))) ∧ Below w.heap.size w w' := by
  have hn40 := netB_n h
  have HGi := move_mine h hin htn hY
  replace HGi : Hid (∀ j, j < n - 1 + 1 → (fun y => if y = y0 then some (y0, y1, y2, y3, y4) else (fun y => if y = y0 then none else lk M n y) y) (insG (cutG M i) t (y0, y1, y2, y3, y4) j).1 = some (insG (cutG M i) t (y0, y1, y2, y3, y4) j)) := HGi
  have hF : lk M n y0 = some (y0, y1, y2, y3, y4) := by
    have q := lk_mine (netB_nOk h) i hin
    rw [hY] at q
    exact q
  have hwi : (Lit.int .i64 y0).wf = true := by have q := hw i hin; rw [hY] at q; exact q
  have HWc : Hid (∀ j, j < n - 1 + 1 → (Lit.int .i64 (insG (cutG M i) t (y0, y1, y2, y3, y4) j).1).wf = true) := by
    have hcw : ∀ k, k < n - 1 → (Lit.int .i64 (cutG M i k).1).wf = true := by
      intro k hk
      by_cases h1 : k < i
      · rw [show cutG M i k = M k by simp [cutG, h1]]; exact hw k (by omega)
      · rw [show cutG M i k = M (k + 1) by simp [cutG, h1]]; exact hw (k + 1) (by omega)
    intro j hj
    by_cases h1 : j < t
    · rw [show insG (cutG M i) t (y0, y1, y2, y3, y4) j = cutG M i j by simp [insG, h1]]; exact hcw j (by omega)
    · by_cases h2 : j = t
      · subst h2
        have e := insG_at (cutG M i) j (y0, y1, y2, y3, y4)
        rw [e]; exact hwi
      · rw [show insG (cutG M i) t (y0, y1, y2, y3, y4) j = cutG M i (j - 1) by simp [insG, h1, h2]]; exact hcw (j - 1) (by omega)
  have HY : Hid (M i = (y0, y1, y2, y3, y4)) := hY
  have HF : Hid (lk M n y0 = some (y0, y1, y2, y3, y4)) := hF
  clear hY hF
  have R1 := B2.new (w.alloc (.cells #[.int .i64 nx, .slice (some ⟨b, 0, none⟩) n c] 26)) (.int .i64 0) (.slice none 0 0) 26
  have A1 := Below.nw w (.cells #[.int .i64 nx, .slice (some ⟨b, 0, none⟩) n c] 26)
  have B := A1.alloc A1.size (.cells #[.int .i64 0, .slice none 0 0] 26)
  have CO := fun w' (h' : Cs w' b 0 (n * 5) (MFFlight M)) => mailOf_any nx (some ⟨b, 0, none⟩) n c M w' hm (.inr ⟨b, 0, rfl, h'⟩) hs hw
  have CS := hf.below B hf.1
  simp only [World.size_alloc] at R1
  clear hf A1
  go_enter Try.func14, Try.ntmps14
  go_wp2_with fail
  refine (CO _ CS).mono ?_
  rintro e v ⟨V, rfl, q0, q1, hb⟩
  have hbs := hb.size
  simp at hbs
  replace B := B.trans (hb.mono B.size)
  replace R1 := R1.below hb
  clear CO CS
  obtain ⟨bm, br, rfl, hb1, hb2, hne, MP, RW⟩ := q1 h
  rw [h]
  clear q0 q1 hb h hs hw
  have lm := MP.lt
  have lr := RW.lt
  simp at hb1 hb2
  have A4 := Below.nw v (.cells #[.int .i64 nx, .map (some bm), .slice (some ⟨br, 0, none⟩) n n] 53)
  replace B := B.trans (A4.mono B.size)
  replace R1 := R1.below A4
  have X := MB.new v (.int .i64 nx) (.map (some bm)) (.slice (some ⟨br, 0, none⟩) n n) 53
  replace MP := MP.below A4
  replace RW := RowF.below' A4 RW
  have CH := fun w' => mailHas_any nx (i : Int) bm br n w' hn40
  rw [decide_eq_true (show 0 ≤ (i : Int) ∧ (i : Int) < (n : Int) by omega)] at CH
  have CT := fun w' => mailHas_any nx (t : Int) bm br n w' hn40
  rw [decide_eq_true (show 0 ≤ (t : Int) ∧ (t : Int) < (n : Int) by omega)] at CT
  clear A4
  obtain ⟨k0, k1, k2, k3, k4, k5, k6⟩ := id X
  go_wp2_with fail
  generalize v.heap.size = jm at *
  refine (CH _).mono ?_
  rintro e v3 ⟨rfl, hb⟩
  replace B := B.trans (hb.mono B.size)
  replace R1 := R1.below hb
  replace X := X.below hb
  replace MP := MP.below hb
  replace RW := RowF.below' hb RW
  clear hb CH k0 k1 k2 k3 k4 k5 k6
  obtain ⟨k0, k1, k2, k3, k4, k5, k6⟩ := id X
  go_wp2_with fail
  refine (CT _).mono ?_
  rintro e v3b ⟨rfl, hb⟩
  replace B := B.trans (hb.mono B.size)
  replace R1 := R1.below hb
  replace X := X.below hb
  replace MP := MP.below hb
  replace RW := RowF.below' hb RW
  clear hb CT k0 k1 k2 k3 k4 k5 k6
  go_wp2_with fail
  refine (mailTake_any nx jm bm br n n i (lk M n) M y0 y1 y2 y3 y4 _ hn40 hin X MP RW (by omega) (by omega) hne hwi HY.out HF.out).mono ?_
  rintro e v4 ⟨bn, rfl, hbn, X4, MP4, RW4, U4⟩
  have hj3 := X.1
  have hm3 := MP.lt
  have hR3 := R1.1
  have D1 : B2 v4 (w.heap.size + 1) (.int .i64 0) (.slice none 0 0) := R1.but2 U4 (by omega) (by omega)
  replace B := B.trans (U4.below (B := w.heap.size) (by omega) (by omega) B.size)
  clear R1 X MP RW U4
  go_wp2_with fail
  refine (mailPut_any nx jm bm bn (n - 1) n t _ (cutG M i) y0 y1 y2 y3 y4 _ (by omega) (by omega) (by omega) X4 MP4 RW4 (by omega) (by omega) (by omega) hwi).mono ?_
  rintro e v5 ⟨bp, rfl, hbp, X5, MP5, RW5, U5⟩
  have R1 : B2 v5 (w.heap.size + 1) (.int .i64 0) (.slice none 0 0) := D1.but2 U5 (by omega) (by omega)
  replace B := B.trans (U5.below (B := w.heap.size) (by omega) (by omega) B.size)
  clear D1 X4 MP4 RW4 U5
  obtain ⟨k0, k1, k2, k3, k4, k5, k6⟩ := id X5
  go_wp2_with fail
  refine (mailNet_any nx bm bp (n - 1 + 1) (n + 1) _ (insG (cutG M i) t (y0, y1, y2, y3, y4)) _ (by omega) MP5 RW5 HGi.out HWc.out).mono ?_
  rintro e v6 ⟨g, rfl, hg, RG, hb⟩
  have hg2 : w.heap.size + 1 < g := Nat.lt_of_lt_of_le R1.1 hg
  replace B := B.trans (hb.mono B.size)
  obtain ⟨r0, r1, r2, r3, r4⟩ := R1.below hb
  clear hb R1 X5 MP5 RW5 k0 k1 k2 k3 k4 k5 k6
  go_wp2_with fail
  have PB1 := ((But.refl (w.heap.size + 1) v6).setCell 0 (.int .i64 nx)).setCell 1 (.slice (some ⟨g, 0, none⟩) (n - 1 + 1) (n - 1 + 1))
  exact bodyPost_ret (v := .tuple #[.agg #[.int .i64 nx, .slice (some ⟨g, 0, none⟩) (n - 1 + 1) (n - 1 + 1)], .int .i64 0]) (by simp (maxDischargeDepth := 6) [results, Try.results14, go_sem, *]) rfl ⟨g, rfl, by omega, RG.but PB1 (by omega), B.trans (PB1.below (by omega) B.size)⟩
end Go.Proofs.Ytgfhcilhibbooaa
namespace Go.Proofs.Ytgfhcilhibbooaa
open Go.RowKit
set_option linter.unusedVariables false
theorem nOk_in {nx : Int} {M : Nat → FT} : ∀ {n : Nat}, nOk nx M n = true → ∀ j, j < n → (M j).1 < nx := by
  intro n
  induction n with
  | zero => intro _ j hj; exact absurd hj (Nat.not_lt_zero _)
  | succ k ih =>
    intro h j hj
    rw [nOk, Bool.and_eq_true, Bool.and_eq_true, Bool.and_eq_true] at h
    by_cases e : j = k
    · subst e
      have := h.2.1.2
      rw [inB, decide_eq_true_eq] at this
      omega
    · exact ih h.1 j (by omega)
theorem netB_rng {nx : Int} {M : Nat → FT} {n : Nat} (h : netB nx M n = true) : 0 ≤ nx ∧ nx ≤ 1000000 := by
  rw [netB, Bool.and_eq_true, Bool.and_eq_true, decide_eq_true_eq] at h
  exact h.1.1
theorem send_mine {nx : Int} {M : Nat → FT} {n : Nat} {f : FT} (h : netB nx M n = true) (hf : f.1 = nx) : ∀ j, j < n + 1 → (fun y => if y = nx then some f else lk M n y) (insG M n f j).1 = some (insG M n f j) := by
  intro j hj
  by_cases h1 : j < n
  · have e : insG M n f j = M j := by simp [insG, h1]
    rw [e]
    have hin := nOk_in (netB_nOk h) j h1
    show (if (M j).1 = nx then some f else lk M n (M j).1) = _
    rw [if_neg (by omega)]
    exact lk_mine (netB_nOk h) j h1
  · have e1 : j = n := by omega
    subst e1
    rw [insG_at]
    show (if f.1 = nx then some f else lk M j f.1) = _
    rw [if_pos hf]
end Go.Proofs.Ytgfhcilhibbooaa
namespace Go.Proofs.Ytgfhcilhibbooaa
open Go.RowKit
set_option linter.unusedVariables false
def SrcL (w : World) (a : Option Addr) (m : Nat) (F : Nat → Value) (L : Nat) : Prop := m = 0 ∨ ∃ b off, a = some ⟨b, off, none⟩ ∧ b < L ∧ Cs w b off m F
theorem SrcL.of {w : World} {a : Option Addr} {m : Nat} {F : Nat → Value} (h : SrcC w a m F) : SrcL w a m F w.heap.size := by
  rcases h with h | ⟨b, off, h1, h2⟩
  · exact .inl h
  · exact .inr ⟨b, off, h1, h2.1, h2⟩
theorem SrcL.src {w : World} {a : Option Addr} {m L : Nat} {F : Nat → Value} (h : SrcL w a m F L) : SrcC w a m F := by
  rcases h with h | ⟨b, off, h1, _, h2⟩
  · exact .inl h
  · exact .inr ⟨b, off, h1, h2⟩
theorem SrcL.below {w w' : World} {a : Option Addr} {m L : Nat} {F : Nat → Value} (h : SrcL w a m F L) (hb : Below w.heap.size w w') : SrcL w' a m F L := by
  rcases h with h | ⟨b, off, h1, h3, h2⟩
  · exact .inl h
  · exact .inr ⟨b, off, h1, h3, h2.below hb h2.1⟩
theorem SrcL.but {w w' : World} {a : Option Addr} {m L q : Nat} {F : Nat → Value} (h : SrcL w a m F L) (hb : But q w w') (hq : L ≤ q) : SrcL w' a m F L := by
  rcases h with h | ⟨b, off, h1, h3, h2⟩
  · exact .inl h
  · exact .inr ⟨b, off, h1, h3, h2.but hb (by omega)⟩
theorem own_belowF {w w' : World} {base : Nat} {e : TypeId} {size : Nat} {v : Value} {n : Nat} {xs : List Value} (h : w.ownsRow base e size v n xs) (hb : Below w.heap.size w w') : w'.ownsRow base e size v n xs := ownB_below h hb
theorem own_butNe {w w' : World} {base p : Nat} {e : TypeId} {size : Nat} {v : Value} {n : Nat} {xs : List Value} (h : w.ownsRow base e size v n xs) (hb : But p w w') (hp : p < base) : w'.ownsRow base e size v n xs := own_butF h hb hp
end Go.Proofs.Ytgfhcilhibbooaa
namespace Go.Proofs.Ytgfhcilhibbooaa
open Go.RowKit
set_option linter.unusedVariables false
theorem frow_congr {G H : Nat → FT} {m : Nat} (h : ∀ k, k < m → G k = H k) : frow G m = frow H m := by
  unfold frow
  apply List.map_congr_left
  intro j hj
  have hj' : j < m * 5 := List.mem_range.1 hj
  unfold MFFlight
  rw [h (j / 5) (by omega)]
theorem frow_ins1 {G : Nat → FT} {t : Nat} {x0 x1 x2 : Int} {x3 : ByteArray} {x4 : Int} (f : FT) (hf : f = (x0, x1, x2, x3, x4)) : frow G t ++ [.int .i64 x0, .int .i64 x1, .int .i64 x2, .string x3, .int .i64 x4] = frow (insG G t f) (t + 1) := by
  rw [frow_congr (G := G) (H := insG G t f) (fun k hk => by unfold insG; rw [if_pos hk])]
  exact frow_add ((insG_at G t f).trans hf)
def part (G : Nat → FT) (t m : Nat) : List Value := (List.range (m * 5)).map fun k => MFFlight G (t * 5 + k)
theorem part_len (G : Nat → FT) (t m : Nat) : (part G t m).length = m * 5 := by simp [part]
theorem part_get {G : Nat → FT} {t m k : Nat} {v : Value} (h : (part G t m)[k]? = some v) : k < m * 5 ∧ v = MFFlight G (t * 5 + k) := by
  have hk : k < (part G t m).length := (List.getElem?_eq_some_iff.1 h).1
  rw [part_len] at hk
  refine ⟨hk, ?_⟩
  simp [part, hk] at h
  exact h.symm
theorem part_one (G : Nat → FT) (t m : Nat) : ∀ v ∈ part G t m, v.oneCell' = true := by
  intro v hv
  simp only [part, List.mem_map] at hv
  obtain ⟨j, _, rfl⟩ := hv
  unfold MFFlight MCFlight
  split <;> rfl
theorem frow_part {G : Nat → FT} {t m : Nat} {f : FT} : frow (insG G t f) (t + 1) ++ part G t m = frow (insG G t f) (t + 1 + m) := by
  have e : part G t m = (List.range (m * 5)).map fun k => MFFlight (insG G t f) ((t + 1) * 5 + k) := by
    unfold part
    apply List.map_congr_left
    intro k hk
    unfold MFFlight
    rw [show (t * 5 + k) / 5 = t + k / 5 by omega, show ((t + 1) * 5 + k) / 5 = t + 1 + k / 5 by omega, show (t * 5 + k) % 5 = k % 5 by omega, show ((t + 1) * 5 + k) % 5 = k % 5 by omega]
    have : insG G t f (t + 1 + k / 5) = G (t + k / 5) := by
      unfold insG
      rw [if_neg (by omega), if_neg (by omega)]
      congr 1
      omega
    rw [this]
  have r : List.range ((t + 1 + m) * 5) = List.range ((t + 1) * 5) ++ (List.range (m * 5)).map fun x => (t + 1) * 5 + x := by
    rw [Nat.add_mul (t + 1) m 5, List.range_add]
  rw [e]
  unfold frow
  rw [r, List.map_append, List.map_map]
  rfl
end Go.Proofs.Ytgfhcilhibbooaa
namespace Go.Proofs.Ytgfhcilhibbooaa
open Go.RowKit
set_option linter.unusedVariables false
theorem run_append_new {P : Program} (w : World) (base : Nat) (t ty e : TypeId) (i : TypeInfo) (z : Value) (size bytes : Nat) (ht : P.underlying t = some (.slice e)) (hi : P.info? e = some i) (hz : i.zero = some z)
    (hsize : i.size = size) (hby : i.bytes = bytes) (hzs : z.cells.size = size) (hsz : 0 < size)
    (v : Value) (n : Nat) (xs : List Value) (hown : w.ownsRow base e size v n xs)
    (a : Addr) (m c : Nat) (news : List Value) (hl : news.length = m * size) (hnews : ∀ j u, news[j]? = some u → w.cell? (a.add j) = some u) (h1 : ∀ u ∈ news, u.oneCell' = true)
    (h63 : n + m ≤ maxLen) (hbytes : (n + m) * bytes ≤ 140737488355328) (hbase : base ≤ w.heap.size) :
    ∃ v' w', (Builtin.append_ #[t, t] ty #[v, .slice (some a) m c]).run P w = .ok v' w' ∧ w'.ownsRow base e size v' (n + m) (xs ++ news) ∧ w.grownBy w' v.ownBlock ∧ (∀ g, v'.ownBlock = some g → v.ownBlock = some g ∨ w.heap.size ≤ g) := by
  obtain ⟨v', w', hr, h2, h3, _⟩ := run_append_own (P := P) w base t ty e i z size bytes ht hi hz hsize hby hzs hsz v n xs hown a m c news hl hnews h1 h63 hbytes hbase
  refine ⟨v', w', hr, h2, h3, ?_⟩
  subst hsize
  subst hby
  intro g0 hg0
  have hsmall : n + m ≤ 9223372036854775807 := by simp only [maxLen] at h63; omega
  rcases hown.2 with ⟨rfl, rfl⟩ | ⟨g, cap, cur, rfl, hbg, hg, hnc, hcm, hcs, htake⟩
  · by_cases hm : m = 0
    · subst hm
      obtain ⟨v2, w2, hr2, _, _, h4⟩ := run_append_own (P := P) w base t ty e i z i.size i.bytes ht hi hz rfl rfl hzs hsz _ 0 xs hown a 0 c news hl hnews h1 h63 hbytes hbase
      rw [hr] at hr2
      injection hr2 with e1 _
      rw [e1, h4.2 ⟨rfl, rfl⟩] at hg0
      simp [Value.ownBlock] at hg0
    · have hr2 := run_append_nil (P := P) w t ty e i z ht hi hz a m c news hl hnews (by omega) (by omega) (by have hb := hbytes; simp only [Nat.zero_add] at hb; omega)
      rw [hr] at hr2
      injection hr2 with e1 _
      rw [e1] at hg0
      simp [Value.ownBlock] at hg0
      exact .inr (by omega)
  · by_cases hroom : n + m ≤ cap
    · have hfit : n * i.size + news.length ≤ cur.size := by rw [hl, hcs, ← Nat.add_mul]; exact Nat.mul_le_mul_right _ hroom
      have hr2 := run_append_room (P := P) w t ty e i ht hi g n cap cur hg a m c news hl hnews h1 hroom hfit
      rw [hr] at hr2
      injection hr2 with e1 _
      rw [e1] at hg0
      exact .inl hg0
    · have holds : ∀ j u, xs[j]? = some u → w.cell? ((⟨g, 0, none⟩ : Addr).add j) = some u := hown.cells (g := g) rfl
      have hr2 := run_append_grow (P := P) w t ty e i z ht hi hz ⟨g, 0, none⟩ n cap xs hown.1 holds a m c news hl hnews (by omega) (by omega) (growslice_fits (by omega) hbytes)
      rw [hr] at hr2
      injection hr2 with e1 _
      rw [e1] at hg0
      simp [Value.ownBlock] at hg0
      exact .inr (by omega)
theorem wpList_append_new {P : Program} {w : World} {ops : Array Oper} {rest : List Oper} {o : Oper} {a : Act} {Q : Exit → Act → World → Prop} (hgd : o.guard = none) (s x : Operand) (t : TypeId)
    (ho : o.op = .call { callee := .builtin .append, args := #[s, x], argTypes := #[t, t] })
    (base : Nat) (e : TypeId) (i : TypeInfo) (z : Value) (size bytes : Nat) (ht : P.underlying t = some (.slice e)) (hi : P.info? e = some i) (hz : i.zero = some z)
    (hsize : i.size = size) (hby : i.bytes = bytes) (hzs : z.cells.size = size) (hsz : 0 < size)
    (v : Value) (n : Nat) (xs : List Value) (hs : a.eval s = v) (hown : w.ownsRow base e size v n xs)
    (ad : Addr) (m c : Nat) (news : List Value) (hx : a.eval x = .slice (some ad) m c) (hl : news.length = m * size) (hnews : ∀ j u, news[j]? = some u → w.cell? (ad.add j) = some u) (h1 : ∀ u ∈ news, u.oneCell' = true)
    (h63 : n + m ≤ maxLen) (hbytes : (n + m) * bytes ≤ 140737488355328) (hbase : base ≤ w.heap.size)
    (h : ∀ v' w', w'.ownsRow base e size v' (n + m) (xs ++ news) → w.grownBy w' v.ownBlock → (∀ g, v'.ownBlock = some g → v.ownBlock = some g ∨ w.heap.size ≤ g) → wpList P ops Q rest (a.put o.dst v') w') : wpList P ops Q (o :: rest) a w := by
  refine wpList_plain hgd fun _ hK => ?_
  obtain ⟨v', w', hr, h2, h3, h4⟩ := run_append_new (P := P) w base t o.type e i z size bytes ht hi hz hsize hby hzs hsz v n xs hown ad m c news hl hnews h1 h63 hbytes hbase
  unfold Oper.wp execOp
  simp only [ho, resolve, invoke, builtin, Sem.run_bind, Sem.run_pure, Result.andThen_ok, List.map_toArray, List.map_cons, List.map_nil, hs, hx, hr]
  exact hK _ _ (h v' w' h2 h3 h4)
theorem own_neF {w w' : World} {base p : Nat} {e : TypeId} {size : Nat} {v : Value} {n : Nat} {xs : List Value} (h : w.ownsRow base e size v n xs) (hb : But p w w') (hp : ∀ g, v.ownBlock = some g → g ≠ p) : w'.ownsRow base e size v n xs :=
  World.ownsRow.kept h hb.gr (by
    cases e : v.ownBlock with
    | none => exact .inl rfl
    | some g => exact .inr (fun q => hp g e (by injection q)))
theorem grown_belG {w w' : World} {o : Option Nat} {B : Nat} (hg : w.grownBy w' o) (hB : B ≤ w.heap.size) (hne : ∀ b, b < B → some b ≠ o) : Below B w w' := ⟨hg.os, hg.tape, hg.output, hg.size, fun k hk => hg.block k (by omega) (hne k hk)⟩
theorem frozG {w w' : World} {o : Option Nat} {b i : Nat} (hg : w.grownBy w' o) (hb : b < w.heap.size) (hne : some b ≠ o) : w'.frozen? ⟨b, i, none⟩ = w.frozen? ⟨b, i, none⟩ := by
  have := hg.block b hb hne
  simp only [World.frozen?]
  rw [this]
theorem B2.keptG {w w' : World} {j : Nat} {u0 u1 : Value} {o : Option Nat} (h : B2 w j u0 u1) (hg : w.grownBy w' o) (hne : some j ≠ o) : B2 w' j u0 u1 := by
  obtain ⟨h0, h1, h2, h3, h4⟩ := h
  exact ⟨Nat.lt_of_lt_of_le h0 hg.size, hg.cell h1 hne, hg.cell h2 hne, by rw [frozG hg h0 hne]; exact h3, by rw [frozG hg h0 hne]; exact h4⟩
theorem B2.set0 {w : World} {j : Nat} {u0 u1 : Value} (h : B2 w j u0 u1) (a0 : Value) : B2 (w.setCell ⟨j, 0, none⟩ a0) j a0 u1 := by
  obtain ⟨h0, h1, h2, h3, h4⟩ := h
  exact ⟨by simpa using h0, World.cell?_setCell_same _ _ _ h1, by rw [World.cell?_setCell_other _ _ _ _ (by simp)]; exact h2, by simpa using h3, by simpa using h4⟩
set_option maxHeartbeats 4000000 in
theorem specNetSend_bad (nx x1 x2 : Int) (x3 : ByteArray) (x4 : Int) (b n c : Nat) (M : Nat → FT) (w : World) (hm : n ≤ maxLen) (hf : Cs w b 0 (n * 5) (MFFlight M)) (hs : ∀ i, i < n → ((M i).2.2.2.1).size ≤ maxLen) (h3 : x3.size ≤ maxLen) (h : (netB nx M n && flB x1 x2 x3 x4) = false) :
    Calls Try.prog 29 #[.agg #[.int .i64 nx, .slice (some ⟨b, 0, none⟩) n c], .int .i64 x1, .int .i64 x2, .string x3, .int .i64 x4] w fun e w' => e = .returned (.tuple #[.agg #[.int .i64 0, .slice none 0 0], .int .i64 1]) ∧ Below w.heap.size w w' := by
  have A1 := Below.nw w (.cells #[.int .i64 nx, .slice (some ⟨b, 0, none⟩) n c] 26)
  have A2 := Below.nw (w.alloc (.cells #[.int .i64 nx, .slice (some ⟨b, 0, none⟩) n c] 26)) (.cells #[.int .i64 0, .slice none 0 0] 26)
  have A3 := Below.nw ((w.alloc (.cells #[.int .i64 nx, .slice (some ⟨b, 0, none⟩) n c] 26)).alloc (.cells #[.int .i64 0, .slice none 0 0] 26)) (.cells #[.int .i64 nx, .int .i64 x1, .int .i64 x2, .string x3, .int .i64 x4] 30)
  have B := (A1.trans (A2.mono A1.size)).trans (A3.mono (A1.trans (A2.mono A1.size)).size)
  have N := ((NB.new w nx (some ⟨b, 0, none⟩) n c 26).below A2).below A3
  have R := (B2.new (w.alloc (.cells #[.int .i64 nx, .slice (some ⟨b, 0, none⟩) n c] 26)) (.int .i64 0) (.slice none 0 0) 26).below A3
  have P := F5.new ((w.alloc (.cells #[.int .i64 nx, .slice (some ⟨b, 0, none⟩) n c] 26)).alloc (.cells #[.int .i64 0, .slice none 0 0] 26)) nx x1 x2 x3 x4 30
  have CS := hf.below B hf.1
  have N0 := (NB.new w nx (some ⟨b, 0, none⟩) n c 26).below A2
  simp only [World.size_alloc] at R P
  have CO := specNetOk_any nx (some ⟨b, 0, none⟩) n c M _ hm (.inr ⟨b, 0, rfl, CS⟩) hs
  have CF := fun w' => l5Flight_any nx x1 x2 x3 x4 w' h3
  clear hf A1 A2 A3
  obtain ⟨n0, n1, n2⟩ := id N0
  go_enter Try.func29, Try.ntmps29
  go_upto_region 2 with fail
  clear n0 n1 n2 N0
  generalize ((w.alloc (.cells #[.int .i64 nx, .slice (some ⟨b, 0, none⟩) n c] 26)).alloc (.cells #[.int .i64 0, .slice none 0 0] 26)).alloc (.cells #[.int .i64 nx, .int .i64 x1, .int .i64 x2, .string x3, .int .i64 x4] 30) = v at *
  obtain ⟨n0, n1, n2⟩ := id N
  go_wp2_with fail
  refine CO.mono ?_
  rintro e v1 ⟨rfl, hb⟩
  clear n0 n1 n2 CO
  replace B := B.trans (hb.mono B.size)
  replace N := N.below hb
  replace R := R.below hb
  replace P := P.below hb
  replace CS := CS.below hb CS.1
  clear hb
  cases hn : netB nx M n
  · clear h CF
    obtain ⟨r0, r1, r2, r3, r4⟩ := id R
    go_wp2_with fail
    have PB1 := ((But.refl (w.heap.size + 1) v1).setCell 0 (.int .i64 0)).setCell 1 (.slice none 0 0)
    exact bodyPost_ret (v := .tuple #[.agg #[.int .i64 0, .slice none 0 0], .int .i64 1]) (by simp (maxDischargeDepth := 6) [results, Try.results29, go_sem, *]) rfl ⟨rfl, B.trans (PB1.below (by omega) B.size)⟩
  · have hfl : flB x1 x2 x3 x4 = false := by simpa [hn] using h
    rw [hfl] at CF
    clear h
    obtain ⟨p0, p1, p2, p3, p4, p5, p6, p7, p8, p9, p10⟩ := id P
    go_wp2_with fail
    refine (CF _).mono ?_
    rintro e v2 ⟨rfl, hb⟩
    clear p0 p1 p2 p3 p4 p5 p6 p7 p8 p9 p10 CF
    replace B := B.trans (hb.mono B.size)
    replace N := N.below hb
    replace R := R.below hb
    replace P := P.below hb
    replace CS := CS.below hb CS.1
    clear hb
    obtain ⟨r0, r1, r2, r3, r4⟩ := id R
    go_wp2_with fail
    have PB1 := ((But.refl (w.heap.size + 1) v2).setCell 0 (.int .i64 0)).setCell 1 (.slice none 0 0)
    exact bodyPost_ret (v := .tuple #[.agg #[.int .i64 0, .slice none 0 0], .int .i64 1]) (by simp (maxDischargeDepth := 6) [results, Try.results29, go_sem, *]) rfl ⟨rfl, B.trans (PB1.below (by omega) B.size)⟩
set_option maxHeartbeats 4000000 in
theorem specNetSend_full (nx x1 x2 : Int) (x3 : ByteArray) (x4 : Int) (b n c : Nat) (M : Nat → FT) (w : World) (hm : n ≤ maxLen) (hf : Cs w b 0 (n * 5) (MFFlight M)) (hs : ∀ i, i < n → ((M i).2.2.2.1).size ≤ maxLen) (h3 : x3.size ≤ maxLen) (h : netB nx M n = true) (hfl : flB x1 x2 x3 x4 = true) (hfu : n = 40 ∨ nx = 1000000) :
    Calls Try.prog 29 #[.agg #[.int .i64 nx, .slice (some ⟨b, 0, none⟩) n c], .int .i64 x1, .int .i64 x2, .string x3, .int .i64 x4] w fun e w' => ∃ a' c', e = .returned (.tuple #[.agg #[.int .i64 nx, .slice a' n c'], .int .i64 3]) ∧ w'.ownsRow w.heap.size 30 5 (.slice a' n c') n (frow M n) ∧ Below w.heap.size w w' := by
  have hn40 := netB_n h
  have A1 := Below.nw w (.cells #[.int .i64 nx, .slice (some ⟨b, 0, none⟩) n c] 26)
  have A2 := Below.nw (w.alloc (.cells #[.int .i64 nx, .slice (some ⟨b, 0, none⟩) n c] 26)) (.cells #[.int .i64 0, .slice none 0 0] 26)
  have A3 := Below.nw ((w.alloc (.cells #[.int .i64 nx, .slice (some ⟨b, 0, none⟩) n c] 26)).alloc (.cells #[.int .i64 0, .slice none 0 0] 26)) (.cells #[.int .i64 nx, .int .i64 x1, .int .i64 x2, .string x3, .int .i64 x4] 30)
  have B := (A1.trans (A2.mono A1.size)).trans (A3.mono (A1.trans (A2.mono A1.size)).size)
  have N := ((NB.new w nx (some ⟨b, 0, none⟩) n c 26).below A2).below A3
  have R := (B2.new (w.alloc (.cells #[.int .i64 nx, .slice (some ⟨b, 0, none⟩) n c] 26)) (.int .i64 0) (.slice none 0 0) 26).below A3
  have P := F5.new ((w.alloc (.cells #[.int .i64 nx, .slice (some ⟨b, 0, none⟩) n c] 26)).alloc (.cells #[.int .i64 0, .slice none 0 0] 26)) nx x1 x2 x3 x4 30
  have CS := hf.below B hf.1
  have N0 := (NB.new w nx (some ⟨b, 0, none⟩) n c 26).below A2
  simp only [World.size_alloc] at R P
  have CO := specNetOk_any nx (some ⟨b, 0, none⟩) n c M _ hm (.inr ⟨b, 0, rfl, CS⟩) hs
  have CF := fun w' => l5Flight_any nx x1 x2 x3 x4 w' h3
  clear hf A1 A2 A3
  obtain ⟨n0, n1, n2⟩ := id N0
  go_enter Try.func29, Try.ntmps29
  go_upto_region 2 with fail
  clear n0 n1 n2 N0
  generalize ((w.alloc (.cells #[.int .i64 nx, .slice (some ⟨b, 0, none⟩) n c] 26)).alloc (.cells #[.int .i64 0, .slice none 0 0] 26)).alloc (.cells #[.int .i64 nx, .int .i64 x1, .int .i64 x2, .string x3, .int .i64 x4] 30) = v at *
  obtain ⟨n0, n1, n2⟩ := id N
  go_wp2_with fail
  refine CO.mono ?_
  rintro e v1 ⟨rfl, hb⟩
  clear n0 n1 n2 CO
  replace B := B.trans (hb.mono B.size)
  replace N := N.below hb
  replace R := R.below hb
  replace P := P.below hb
  replace CS := CS.below hb CS.1
  clear hb
  rw [h]
  rw [hfl] at CF
  clear h hfl
  obtain ⟨p0, p1, p2, p3, p4, p5, p6, p7, p8, p9, p10⟩ := id P
  go_wp2_with fail
  refine (CF _).mono ?_
  rintro e v2 ⟨rfl, hb⟩
  clear p0 p1 p2 p3 p4 p5 p6 p7 p8 p9 p10 CF
  replace B := B.trans (hb.mono B.size)
  replace N := N.below hb
  replace R := R.below hb
  replace P := P.below hb
  replace CS := CS.below hb CS.1
  clear hb
  obtain ⟨n0, n1, n2⟩ := id N
  go_wp2_with fail
  refine (l5Copy_any nx b n c M _ hn40 CS).mono ?_
  rintro e v3 ⟨a2, c2, rfl, O, hb⟩
  clear n0 n1 n2
  have hz2 : w.heap.size + 1 < v2.heap.size := R.1
  have hz3 := hb.size
  replace B := B.trans (hb.mono B.size)
  replace N := N.below hb
  replace R := R.below hb
  replace P := P.below hb
  clear hb CS
  have HOL : Hid (∀ g, (Value.slice a2 n c2).ownBlock = some g → v2.heap.size ≤ g ∧ g < v3.heap.size) := fun g hg => World.ownsRow.lt O g hg
  have A4 := Below.nw v3 (.cells #[.int .i64 nx, .slice a2 n c2] 26)
  have K := B2.new v3 (.int .i64 nx) (.slice a2 n c2) 26
  replace B := B.trans (A4.mono B.size)
  replace N := N.below A4
  replace R := R.below A4
  replace P := P.below A4
  replace O := own_belowF O A4
  clear A4
  go_upto_region 5 with fail
  generalize hk3 : v3.heap.size = k3 at *
  generalize v3.alloc (.cells #[.int .i64 nx, .slice a2 n c2] 26) = v4 at *
  obtain ⟨n0, n1, n2⟩ := id N
  obtain ⟨k0, k1, k2, k4, k5⟩ := id K
  by_cases h40 : n = 40
  · subst h40
    clear hfu
    obtain ⟨r0, r1, r2, r3, r4⟩ := id R
    go_wp2_with fail
    have PB1 := ((But.refl (w.heap.size + 1) v4).setCell 0 (.int .i64 nx)).setCell 1 (.slice a2 40 c2)
    exact bodyPost_ret (v := .tuple #[.agg #[.int .i64 nx, .slice a2 40 c2], .int .i64 3]) (by simp (maxDischargeDepth := 6) [results, Try.results29, go_sem, *]) rfl ⟨a2, c2, rfl, ownB_le (own_butF O PB1 (by omega)) (by omega), B.trans (PB1.below (by omega) B.size)⟩
  · have h6 := hfu.resolve_left h40
    subst h6
    have d1 : ((n : Int) == 40) = false := by simp; omega
    have d2 : decide ((n : Int) = 40) = false := decide_eq_false (by omega)
    clear hfu
    obtain ⟨r0, r1, r2, r3, r4⟩ := id R
    go_wp2_with fail
    have PB1 := ((But.refl (w.heap.size + 1) v4).setCell 0 (.int .i64 1000000)).setCell 1 (.slice a2 n c2)
    exact bodyPost_ret (v := .tuple #[.agg #[.int .i64 1000000, .slice a2 n c2], .int .i64 3]) (by simp (maxDischargeDepth := 6) [results, Try.results29, go_sem, *]) rfl ⟨a2, c2, rfl, ownB_le (own_butF O PB1 (by omega)) (by omega), B.trans (PB1.below (by omega) B.size)⟩
set_option maxRecDepth 100000 in
set_option maxHeartbeats 4000000 in
theorem specNetSend_done (nx x1 x2 : Int) (x3 : ByteArray) (x4 : Int) (b n c : Nat) (M : Nat → FT) (w : World) (hm : n ≤ maxLen) (hf : Cs w b 0 (n * 5) (MFFlight M)) (hs : ∀ i, i < n → ((M i).2.2.2.1).size ≤ maxLen) (h3 : x3.size ≤ maxLen) (h : netB nx M n = true) (hfl : flB x1 x2 x3 x4 = true) (hfu : ¬ (n = 40 ∨ nx = 1000000)) (Y : FT) (hY : Y = (nx, x1, x2, x3, x4)) :
    Calls Try.prog 29 #[.agg #[.int .i64 nx, .slice (some ⟨b, 0, none⟩) n c], .int .i64 x1, .int .i64 x2, .string x3, .int .i64 x4] w fun e w' => ∃ a' c', e = .returned (.tuple #[.agg #[.int .i64 (nx + 1), .slice a' (n + 1) c'], .int .i64 0]) ∧ w'.ownsRow w.heap.size 30 5 (.slice a' (n + 1) c') (n + 1) (frow (insG M n Y) (n + 1)) ∧ Below w.heap.size w w' := by
  have HY : Hid (Y = (nx, x1, x2, x3, x4)) := hY
  clear hY
  obtain ⟨i0, hi, hz0, hz1, hz2'⟩ := infoF_parts
  have hn40 := netB_n h
  have hnxr := netB_rng h
  have hnx : nx < 1000000 := by have := hnxr.2; omega
  have hn4 : n < 40 := by omega
  have d1 : ((n : Int) == 40) = false := by simp; omega
  have d2 : decide ((n : Int) = 40) = false := decide_eq_false (by omega)
  have d3 : (nx == 1000000) = false := by simp; omega
  have d4 : decide (nx = 1000000) = false := decide_eq_false (by omega)
  have A1 := Below.nw w (.cells #[.int .i64 nx, .slice (some ⟨b, 0, none⟩) n c] 26)
  have A2 := Below.nw (w.alloc (.cells #[.int .i64 nx, .slice (some ⟨b, 0, none⟩) n c] 26)) (.cells #[.int .i64 0, .slice none 0 0] 26)
  have A3 := Below.nw ((w.alloc (.cells #[.int .i64 nx, .slice (some ⟨b, 0, none⟩) n c] 26)).alloc (.cells #[.int .i64 0, .slice none 0 0] 26)) (.cells #[.int .i64 nx, .int .i64 x1, .int .i64 x2, .string x3, .int .i64 x4] 30)
  have B := (A1.trans (A2.mono A1.size)).trans (A3.mono (A1.trans (A2.mono A1.size)).size)
  have N := ((NB.new w nx (some ⟨b, 0, none⟩) n c 26).below A2).below A3
  have R := (B2.new (w.alloc (.cells #[.int .i64 nx, .slice (some ⟨b, 0, none⟩) n c] 26)) (.int .i64 0) (.slice none 0 0) 26).below A3
  have P := F5.new ((w.alloc (.cells #[.int .i64 nx, .slice (some ⟨b, 0, none⟩) n c] 26)).alloc (.cells #[.int .i64 0, .slice none 0 0] 26)) nx x1 x2 x3 x4 30
  have CS := hf.below B hf.1
  have N0 := (NB.new w nx (some ⟨b, 0, none⟩) n c 26).below A2
  simp only [World.size_alloc] at R P
  have CO := specNetOk_any nx (some ⟨b, 0, none⟩) n c M _ hm (.inr ⟨b, 0, rfl, CS⟩) hs
  have CF := fun w' => l5Flight_any nx x1 x2 x3 x4 w' h3
  clear hf A1 A2 A3
  obtain ⟨n0, n1, n2⟩ := id N0
  go_enter Try.func29, Try.ntmps29
  go_upto_region 2 with fail
  clear n0 n1 n2 N0
  generalize ((w.alloc (.cells #[.int .i64 nx, .slice (some ⟨b, 0, none⟩) n c] 26)).alloc (.cells #[.int .i64 0, .slice none 0 0] 26)).alloc (.cells #[.int .i64 nx, .int .i64 x1, .int .i64 x2, .string x3, .int .i64 x4] 30) = v at *
  obtain ⟨n0, n1, n2⟩ := id N
  go_wp2_with fail
  refine CO.mono ?_
  rintro e v1 ⟨rfl, hb⟩
  clear n0 n1 n2 CO
  replace B := B.trans (hb.mono B.size)
  replace N := N.below hb
  replace R := R.below hb
  replace P := P.below hb
  replace CS := CS.below hb CS.1
  clear hb
  rw [h]
  rw [hfl] at CF
  clear h hfl hfu
  obtain ⟨p0, p1, p2, p3, p4, p5, p6, p7, p8, p9, p10⟩ := id P
  go_wp2_with fail
  refine (CF _).mono ?_
  rintro e v2 ⟨rfl, hb⟩
  clear p0 p1 p2 p3 p4 p5 p6 p7 p8 p9 p10 CF
  replace B := B.trans (hb.mono B.size)
  replace N := N.below hb
  replace R := R.below hb
  replace P := P.below hb
  replace CS := CS.below hb CS.1
  clear hb
  obtain ⟨n0, n1, n2⟩ := id N
  go_wp2_with fail
  refine (l5Copy_any nx b n c M _ hn40 CS).mono ?_
  rintro e v3 ⟨a2, c2, rfl, O, hb⟩
  clear n0 n1 n2
  have hz2 : w.heap.size + 1 < v2.heap.size := R.1
  have hz3 := hb.size
  replace B := B.trans (hb.mono B.size)
  replace N := N.below hb
  replace R := R.below hb
  replace P := P.below hb
  clear hb CS
  have HOL : Hid (∀ g, (Value.slice a2 n c2).ownBlock = some g → v2.heap.size ≤ g ∧ g < v3.heap.size) := fun g hg => World.ownsRow.lt O g hg
  have A4 := Below.nw v3 (.cells #[.int .i64 nx, .slice a2 n c2] 26)
  have K := B2.new v3 (.int .i64 nx) (.slice a2 n c2) 26
  replace B := B.trans (A4.mono B.size)
  replace N := N.below A4
  replace R := R.below A4
  replace P := P.below A4
  replace O := own_belowF O A4
  clear A4
  go_upto_region 5 with fail
  generalize hk3 : v3.heap.size = k3 at *
  generalize v3.alloc (.cells #[.int .i64 nx, .slice a2 n c2] 26) = v4 at *
  obtain ⟨n0, n1, n2⟩ := id N
  go_upto_region 7 with fail
  clear n0 n1 n2 N d1 d2 d3 d4
  have own1 := World.ownsRow.alloc O (.cells #[.int .i64 nx, .int .i64 x1, .int .i64 x2, .string x3, .int .i64 x4] 30)
  have A6 := Below.nw v4 (.cells #[.int .i64 nx, .int .i64 x1, .int .i64 x2, .string x3, .int .i64 x4] 30)
  have HN2 : Hid (∀ j u, [Value.int .i64 nx, .int .i64 x1, .int .i64 x2, .string x3, .int .i64 x4][j]? = some u → (v4.alloc (.cells #[.int .i64 nx, .int .i64 x1, .int .i64 x2, .string x3, .int .i64 x4] 30)).cell? ((⟨v4.heap.size, 0, none⟩ : Addr).add j) = some u) := fun j u hu => five_at v4 nx x1 x2 x3 x4 30 j u hu
  have hk4 : k3 < v4.heap.size := K.1
  have hs6 : v2.heap.size ≤ (v4.alloc (.cells #[.int .i64 nx, .int .i64 x1, .int .i64 x2, .string x3, .int .i64 x4] 30)).heap.size := by have := A6.size; omega
  obtain ⟨p0, p1, p2, p3, p4, p5, p6, p7, p8, p9, p10⟩ := id P
  obtain ⟨k0, k1, k2, k4, k5⟩ := id K
  go_wp2_with (at_builtin; refine wpList_append_new rfl _ _ 24 rfl (v2.heap.size) 30 i0 (.agg #[.int .i64 0, .int .i64 0, .int .i64 0, .string ⟨#[]⟩, .int .i64 0]) 5 48 Try.underlying24 hi hz0 hz1 hz2' rfl (by decide) _ _ _ rfl own1 ⟨v4.heap.size, 0, none⟩ 1 1 [.int .i64 nx, .int .i64 x1, .int .i64 x2, .string x3, .int .i64 x4] rfl rfl HN2.out (five_one _ _ _ _ _) ?c3 ?c4 ?c5 ?_)
  case c3 => unfold maxLen; omega
  case c4 => omega
  case c5 => exact hs6
  intro vq wq hown2 hgrow hfr
  have hown3 : wq.ownsRow (v2.heap.size) 30 5 vq (n + 1) (frow (insG M n Y) (n + 1)) := (by have q := hown2; rw [frow_ins1 Y HY.out] at q; exact q)
  have hne : some k3 ≠ (Value.slice a2 n c2).ownBlock := fun e => by have := (HOL.out k3 e.symm).2; omega
  have KQ := (K.below A6).keptG hgrow hne
  have RQ := (R.below A6).keptG hgrow (fun e => by have := (HOL.out _ e.symm).1; omega)
  have BQ := (B.trans (A6.mono B.size)).trans (grown_belG hgrow (B.trans (A6.mono B.size)).size (fun q h e => by have := (HOL.out q e.symm).1; omega))
  have NQ : Hid (∀ g, vq.ownBlock = some g → g ≠ k3) := fun g hg e => by rcases hfr g hg with q | q; (exact hne (by rw [q, e])); (have := A6.size; omega)
  clear k0 k1 k2 k4 k5 p0 p1 p2 p3 p4 p5 p6 p7 p8 p9 p10 hown2 hgrow hfr own1 HN2
  obtain ⟨a3, c3, rfl, _, _, _⟩ := ownF_src hown3
  obtain ⟨k0, k1, k2, k4, k5⟩ := id KQ
  go_upto_region 8 with fail
  have PK := But.one wq k3 1 (.slice a3 (n + 1) c3)
  have K2 := KQ.set1 (.slice a3 (n + 1) c3)
  have R2 := RQ.but PK (by omega)
  have O2 := own_neF hown3 PK NQ.out
  have B2' := BQ.trans (PK.below (B := w.heap.size) (by omega) BQ.size)
  clear k0 k1 k2 k4 k5 PK KQ RQ hown3 BQ K R P B O A6
  generalize wq.setCell ⟨k3, 1, none⟩ (.slice a3 (n + 1) c3) = v5 at *
  have PK := But.one v5 k3 0 (.int .i64 (nx + 1))
  have K3 := K2.set0 (.int .i64 (nx + 1))
  have R3 := R2.but PK (by omega)
  have O3 := own_neF O2 PK NQ.out
  have B3 := B2'.trans (PK.below (B := w.heap.size) (by omega) B2'.size)
  have hw1 : IntKind.i64.wrap (nx + 1) = nx + 1 := Go.IntWalk.i64_in _ ⟨by omega, by omega⟩
  obtain ⟨k0, k1, k2, k4, k5⟩ := id K2
  go_upto_region 9 with fail
  clear k0 k1 k2 k4 k5 PK K2 R2 O2 B2'
  generalize v5.setCell ⟨k3, 0, none⟩ (.int .i64 (nx + 1)) = v6 at *
  obtain ⟨k0, k1, k2, k4, k5⟩ := id K3
  obtain ⟨r0, r1, r2, r3, r4⟩ := id R3
  go_wp2_with fail
  have PB1 := ((But.refl (w.heap.size + 1) v6).setCell 0 (.int .i64 (nx + 1))).setCell 1 (.slice a3 (n + 1) c3)
  exact bodyPost_ret (v := .tuple #[.agg #[.int .i64 (nx + 1), .slice a3 (n + 1) c3], .int .i64 0]) (by simp (maxDischargeDepth := 6) [results, Try.results29, go_sem, *]) rfl ⟨a3, c3, rfl, ownB_le (own_butF O3 PB1 (by omega)) (by omega), B3.trans (PB1.below (by omega) B3.size)⟩
end Go.Proofs.Ytgfhcilhibbooaa
