/- The contract of impl.NetSend. -/
import Derived.Test.YtjhnfnehdiapcaaN76
import Derived.Test.YtjhnfnehdiapcaaN72
import Derived.WalkKit
import Derived.WalkSpells
import Derived.WalkLawsBesides
import Derived.Deep.RegionHeld
namespace Go.Proofs.Ytjhnfnehdiapcaa
open Go.RowKit
set_option linter.unusedVariables false
theorem nOk_in {nx : Int} {M : Nat → FT} : ∀ {n : Nat}, nOk nx M n = true → ∀ j, j < n → (M j).1 < nx := by
  intro n
  induction n with
  | zero => intro _ j hj; exact absurd hj (Nat.not_lt_zero _)
  | succ k ih =>
    intro h j hj
    rw [nOk, Bool.and_eq_true, Bool.and_eq_true, Bool.and_eq_true] at h
    by_cases e : j = k
    · subst e
      have := h.2.1.2
      rw [inB, decide_eq_true_eq] at this
      omega
    · exact ih h.1 j (by omega)
theorem netB_rng {nx : Int} {M : Nat → FT} {n : Nat} (h : netB nx M n = true) : 0 ≤ nx ∧ nx ≤ 1000000 := by
  rw [netB, Bool.and_eq_true, Bool.and_eq_true, decide_eq_true_eq] at h
  exact h.1.1
theorem send_mine {nx : Int} {M : Nat → FT} {n : Nat} {f : FT} (h : netB nx M n = true) (hf : f.1 = nx) : ∀ j, j < n + 1 → (fun y => if y = nx then some f else lk M n y) (insG M n f j).1 = some (insG M n f j) := by
  intro j hj
  by_cases h1 : j < n
  · have e : insG M n f j = M j := by simp [insG, h1]
    rw [e]
    have hin := nOk_in (netB_nOk h) j h1
    show (if (M j).1 = nx then some f else lk M n (M j).1) = _
    rw [if_neg (by omega)]
    exact lk_mine (netB_nOk h) j h1
  · have e1 : j = n := by omega
    subst e1
    rw [insG_at]
    show (if f.1 = nx then some f else lk M j f.1) = _
    rw [if_pos hf]
set_option maxHeartbeats 4000000 in
theorem implNetSend_bad (nx x1 x2 : Int) (x3 : ByteArray) (x4 : Int) (b n c : Nat) (M : Nat → FT) (w : World) (hm : n ≤ maxLen) (hf : Cs w b 0 (n * 5) (MFFlight M)) (hs : ∀ i, i < n → ((M i).2.2.2.1).size ≤ maxLen) (hw : ∀ i, i < n → (Lit.int .i64 (M i).1).wf = true) (h3 : x3.size ≤ maxLen) (h : (netB nx M n && flB x1 x2 x3 x4) = false) :
    Calls Try.prog 27 #[.agg #[.int .i64 nx, .slice (some ⟨b, 0, none⟩) n c], .int .i64 x1, .int .i64 x2, .string x3, .int .i64 x4] w fun e w' => e = .returned (.tuple #[.agg #[.int .i64 0, .slice none 0 0], .int .i64 1]) ∧ Below w.heap.size w w' := by
  have R1 := B2.new (w.alloc (.cells #[.int .i64 nx, .slice (some ⟨b, 0, none⟩) n c] 26)) (.int .i64 0) (.slice none 0 0) 26
  have A1 := Below.nw w (.cells #[.int .i64 nx, .slice (some ⟨b, 0, none⟩) n c] 26)
  have B := A1.alloc A1.size (.cells #[.int .i64 0, .slice none 0 0] 26)
  have CO := fun w' (h' : Cs w' b 0 (n * 5) (MFFlight M)) => mailOf_any nx (some ⟨b, 0, none⟩) n c M w' hm (.inr ⟨b, 0, rfl, h'⟩) hs hw
  have CS := hf.below B hf.1
  simp only [World.size_alloc] at R1
  clear hf A1
  go_enter Try.func27, Try.ntmps27
  go_wp2_with fail
  refine (CO _ CS).mono ?_
  rintro e v ⟨V, rfl, q0, q1, hb⟩
  replace B := B.trans (hb.mono B.size)
  replace R1 := R1.below hb
  clear CO CS
  cases hn : netB nx M n
  · have hV := q0 hn
    subst hV
    clear q0 q1 hb h
    unfold zml
    have A4 := Below.nw v (.cells #[.int .i64 0, .map none, .slice none 0 0] 55)
    have A5 := Below.nw (v.alloc (.cells #[.int .i64 0, .map none, .slice none 0 0] 55)) (.cells #[.int .i64 0, .int .i64 x1, .int .i64 x2, .string x3, .int .i64 x4] 30)
    replace B := (B.trans (A4.mono B.size)).trans (A5.mono (B.trans (A4.mono B.size)).size)
    obtain ⟨r0, r1, r2, r3, r4⟩ := (R1.below A4).below A5
    clear A4 A5 R1
    go_wp2_with fail
    generalize (v.alloc (.cells #[.int .i64 0, .map none, .slice none 0 0] 55)).alloc (.cells #[.int .i64 0, .int .i64 x1, .int .i64 x2, .string x3, .int .i64 x4] 30) = v4 at *
    have PB1 := ((But.refl (w.heap.size + 1) v4).setCell 0 (.int .i64 0)).setCell 1 (.slice none 0 0)
    exact bodyPost_ret (v := .tuple #[.agg #[.int .i64 0, .slice none 0 0], .int .i64 1]) (by simp (maxDischargeDepth := 6) [results, Try.results27, go_sem, *]) rfl ⟨rfl, B.trans (PB1.below (by omega) B.size)⟩
  · obtain ⟨bm, br, rfl, hb1, hb2, hne, MP, RW⟩ := q1 hn
    have hfl : flB x1 x2 x3 x4 = false := by simpa [hn] using h
    clear q0 q1 hb h MP RW hne hb1 hb2
    have CF := fun w' => flightOk_any 0 x1 x2 x3 x4 w' h3
    rw [hfl] at CF
    have A4 := Below.nw v (.cells #[.int .i64 nx, .map (some bm), .slice (some ⟨br, 0, none⟩) n n] 55)
    have A5 := Below.nw (v.alloc (.cells #[.int .i64 nx, .map (some bm), .slice (some ⟨br, 0, none⟩) n n] 55)) (.cells #[.int .i64 0, .int .i64 x1, .int .i64 x2, .string x3, .int .i64 x4] 30)
    have P := F5.new (v.alloc (.cells #[.int .i64 nx, .map (some bm), .slice (some ⟨br, 0, none⟩) n n] 55)) 0 x1 x2 x3 x4 30
    simp only [World.size_alloc] at P
    replace B := (B.trans (A4.mono B.size)).trans (A5.mono (B.trans (A4.mono B.size)).size)
    replace R1 := (R1.below A4).below A5
    clear A4 A5
    obtain ⟨p0, p1, p2, p3, p4, p5, p6, p7, p8, p9, p10⟩ := P
    go_wp2_with fail
    refine (CF _).mono ?_
    rintro e v4 ⟨rfl, hb⟩
    replace B := B.trans (hb.mono B.size)
    obtain ⟨r0, r1, r2, r3, r4⟩ := R1.below hb
    clear hb R1 CF p0 p1 p2 p3 p4 p5 p6 p7 p8 p9 p10
    go_wp2_with fail
    have PB1 := ((But.refl (w.heap.size + 1) v4).setCell 0 (.int .i64 0)).setCell 1 (.slice none 0 0)
    exact bodyPost_ret (v := .tuple #[.agg #[.int .i64 0, .slice none 0 0], .int .i64 1]) (by simp (maxDischargeDepth := 6) [results, Try.results27, go_sem, *]) rfl ⟨rfl, B.trans (PB1.below (by omega) B.size)⟩
set_option maxHeartbeats 4000000 in
theorem implNetSend_full (nx x1 x2 : Int) (x3 : ByteArray) (x4 : Int) (b n c : Nat) (M : Nat → FT) (w : World) (hm : n ≤ maxLen) (hf : Cs w b 0 (n * 5) (MFFlight M)) (hs : ∀ i, i < n → ((M i).2.2.2.1).size ≤ maxLen) (hw : ∀ i, i < n → (Lit.int .i64 (M i).1).wf = true) (h3 : x3.size ≤ maxLen) (h : netB nx M n = true) (hfl : flB x1 x2 x3 x4 = true) (hfu : n = 40 ∨ nx = 1000000) :
    Calls Try.prog 27 #[.agg #[.int .i64 nx, .slice (some ⟨b, 0, none⟩) n c], .int .i64 x1, .int .i64 x2, .string x3, .int .i64 x4] w fun e w' => ∃ g, e = .returned (.tuple #[.agg #[.int .i64 nx, .slice (some ⟨g, 0, none⟩) n n], .int .i64 3]) ∧ w.heap.size ≤ g ∧ RowF w' g 30 (n * 5) (n * 5) (MFFlight M) ∧ Below w.heap.size w w' := by
  have hn40 := netB_n h
  have HL : Hid (∀ j, j < n → lk M n (M j).1 = some (M j)) := lk_mine (netB_nOk h)
  have HWF : Hid (∀ j, j < n → (Lit.int .i64 (M j).1).wf = true) := hw
  have R1 := B2.new (w.alloc (.cells #[.int .i64 nx, .slice (some ⟨b, 0, none⟩) n c] 26)) (.int .i64 0) (.slice none 0 0) 26
  have A1 := Below.nw w (.cells #[.int .i64 nx, .slice (some ⟨b, 0, none⟩) n c] 26)
  have B := A1.alloc A1.size (.cells #[.int .i64 0, .slice none 0 0] 26)
  have CO := fun w' (h' : Cs w' b 0 (n * 5) (MFFlight M)) => mailOf_any nx (some ⟨b, 0, none⟩) n c M w' hm (.inr ⟨b, 0, rfl, h'⟩) hs hw
  have CS := hf.below B hf.1
  have CF := fun w' => flightOk_any 0 x1 x2 x3 x4 w' h3
  rw [hfl] at CF
  simp only [World.size_alloc] at R1
  clear hf A1 hfl
  go_enter Try.func27, Try.ntmps27
  go_wp2_with fail
  refine (CO _ CS).mono ?_
  rintro e v ⟨V, rfl, q0, q1, hb⟩
  replace B := B.trans (hb.mono B.size)
  replace R1 := R1.below hb
  clear CO CS
  obtain ⟨bm, br, rfl, hb1, hb2, hne, MP, RW⟩ := q1 h
  rw [h]
  clear q0 q1 hb h hs hw
  have lm := MP.lt
  have lr := RW.lt
  have A4 := Below.nw v (.cells #[.int .i64 nx, .map (some bm), .slice (some ⟨br, 0, none⟩) n n] 55)
  have A5 := Below.nw (v.alloc (.cells #[.int .i64 nx, .map (some bm), .slice (some ⟨br, 0, none⟩) n n] 55)) (.cells #[.int .i64 0, .int .i64 x1, .int .i64 x2, .string x3, .int .i64 x4] 30)
  have P := F5.new (v.alloc (.cells #[.int .i64 nx, .map (some bm), .slice (some ⟨br, 0, none⟩) n n] 55)) 0 x1 x2 x3 x4 30
  have X := (MB.new v (.int .i64 nx) (.map (some bm)) (.slice (some ⟨br, 0, none⟩) n n) 55).below A5
  simp only [World.size_alloc] at P
  replace MP := (MP.below A4).below A5
  replace RW := RowF.below' A5 (RowF.below' A4 RW)
  replace B := (B.trans (A4.mono B.size)).trans (A5.mono (B.trans (A4.mono B.size)).size)
  replace R1 := (R1.below A4).below A5
  clear A4 A5
  obtain ⟨p0, p1, p2, p3, p4, p5, p6, p7, p8, p9, p10⟩ := id P
  go_wp2_with fail
  generalize v.heap.size = jm at *
  refine (CF _).mono ?_
  rintro e v4 ⟨rfl, hb⟩
  replace B := B.trans (hb.mono B.size)
  replace R1 := R1.below hb
  replace P := P.below hb
  replace X := X.below hb
  replace MP := MP.below hb
  replace RW := RowF.below' hb RW
  clear hb CF p0 p1 p2 p3 p4 p5 p6 p7 p8 p9 p10
  obtain ⟨p0, p1, p2, p3, p4, p5, p6, p7, p8, p9, p10⟩ := id P
  go_wp2_with fail
  refine (mailSend_full nx jm bm br n 0 x1 x2 x3 x4 _ hn40 X hfu).mono ?_
  rintro e v5 ⟨rfl, hb⟩
  replace B := B.trans (hb.mono B.size)
  replace R1 := R1.below hb
  replace X := X.below hb
  replace MP := MP.below hb
  replace RW := RowF.below' hb RW
  clear hb P p0 p1 p2 p3 p4 p5 p6 p7 p8 p9 p10 hfu
  obtain ⟨k0, k1, k2, k3, k4, k5, k6⟩ := id X
  go_wp2_with fail
  refine (mailNet_any nx bm br n n (lk M n) M _ hn40 MP RW HL.out HWF.out).mono ?_
  rintro e v6 ⟨g6, rfl, hg6, R6, hb⟩
  have hv5 := B.size
  replace B := B.trans (hb.mono B.size)
  have hR1 := R1.1
  obtain ⟨r0, r1, r2, r3, r4⟩ := R1.below hb
  clear hb k0 k1 k2 k3 k4 k5 k6 X MP RW
  go_wp2_with fail
  have PB1 := ((But.refl (w.heap.size + 1) v6).setCell 0 (.int .i64 nx)).setCell 1 (.slice (some ⟨g6, 0, none⟩) n n)
  exact bodyPost_ret (v := .tuple #[.agg #[.int .i64 nx, .slice (some ⟨g6, 0, none⟩) n n], .int .i64 3]) (by simp (maxDischargeDepth := 6) [results, Try.results27, go_sem, *]) rfl ⟨g6, rfl, by omega, R6.but PB1 (by omega), B.trans (PB1.below (by omega) B.size)⟩
set_option maxHeartbeats 4000000 in
theorem implNetSend_done (nx x1 x2 : Int) (x3 : ByteArray) (x4 : Int) (b n c : Nat) (M : Nat → FT) (w : World) (hm : n ≤ maxLen) (hf : Cs w b 0 (n * 5) (MFFlight M)) (hs : ∀ i, i < n → ((M i).2.2.2.1).size ≤ maxLen) (hw : ∀ i, i < n → (Lit.int .i64 (M i).1).wf = true) (h3 : x3.size ≤ maxLen) (h : netB nx M n = true) (hfl : flB x1 x2 x3 x4 = true) (hfu : ¬ (n = 40 ∨ nx = 1000000)) :
    Calls Try.prog 27 #[.agg #[.int .i64 nx, .slice (some ⟨b, 0, none⟩) n c], .int .i64 x1, .int .i64 x2, .string x3, .int .i64 x4] w fun e w' => ∃ g, e = .returned (.tuple #[.agg #[.int .i64 (nx + 1), .slice (some ⟨g, 0, none⟩) (n + 1) (n + 1)], .int .i64 0]) ∧ w.heap.size ≤ g ∧ RowF w' g 30 ((n + 1) * 5) ((n + 1) * 5) (MFFlight (insG M n (nx, x1, x2, x3, x4))) ∧ Below w.heap.size w w' := by
  have hn40 := netB_n h
  have hnxr := netB_rng h
  have hnx : 0 ≤ nx ∧ nx < 1000000 := ⟨hnxr.1, by have := hnxr.2; omega⟩
  have hn4 : n < 40 := by omega
  have HL : Hid (∀ j, j < n + 1 → (fun y => if y = nx then some (nx, x1, x2, x3, x4) else lk M n y) (insG M n (nx, x1, x2, x3, x4) j).1 = some (insG M n (nx, x1, x2, x3, x4) j)) := send_mine h rfl
  have HWF : Hid (∀ j, j < n + 1 → (Lit.int .i64 (insG M n (nx, x1, x2, x3, x4) j).1).wf = true) := by
    intro j hj
    by_cases h1 : j < n
    · rw [show insG M n (nx, x1, x2, x3, x4) j = M j by simp [insG, h1]]; exact hw j h1
    · have e1 : j = n := by omega
      subst e1
      have e := insG_at M j (nx, x1, x2, x3, x4)
      rw [e]
      show (Lit.int .i64 nx).wf = true
      simp only [Lit.wf, Bool.and_eq_true, decide_eq_true_eq]; exact ⟨by show (-9223372036854775808 : Int) ≤ nx; omega, by show nx ≤ (9223372036854775807 : Int); omega⟩
  have R1 := B2.new (w.alloc (.cells #[.int .i64 nx, .slice (some ⟨b, 0, none⟩) n c] 26)) (.int .i64 0) (.slice none 0 0) 26
  have A1 := Below.nw w (.cells #[.int .i64 nx, .slice (some ⟨b, 0, none⟩) n c] 26)
  have B := A1.alloc A1.size (.cells #[.int .i64 0, .slice none 0 0] 26)
  have CO := fun w' (h' : Cs w' b 0 (n * 5) (MFFlight M)) => mailOf_any nx (some ⟨b, 0, none⟩) n c M w' hm (.inr ⟨b, 0, rfl, h'⟩) hs hw
  have CS := hf.below B hf.1
  have CF := fun w' => flightOk_any 0 x1 x2 x3 x4 w' h3
  rw [hfl] at CF
  simp only [World.size_alloc] at R1
  clear hf A1 hfl hfu hnxr
  go_enter Try.func27, Try.ntmps27
  go_wp2_with fail
  refine (CO _ CS).mono ?_
  rintro e v ⟨V, rfl, q0, q1, hb⟩
  have hbs := hb.size
  simp at hbs
  replace B := B.trans (hb.mono B.size)
  replace R1 := R1.below hb
  clear CO CS
  obtain ⟨bm, br, rfl, hb1, hb2, hne, MP, RW⟩ := q1 h
  rw [h]
  clear q0 q1 hb h hs hw
  have lm := MP.lt
  have lr := RW.lt
  simp at hb1 hb2
  have A4 := Below.nw v (.cells #[.int .i64 nx, .map (some bm), .slice (some ⟨br, 0, none⟩) n n] 55)
  have A5 := Below.nw (v.alloc (.cells #[.int .i64 nx, .map (some bm), .slice (some ⟨br, 0, none⟩) n n] 55)) (.cells #[.int .i64 0, .int .i64 x1, .int .i64 x2, .string x3, .int .i64 x4] 30)
  have P := F5.new (v.alloc (.cells #[.int .i64 nx, .map (some bm), .slice (some ⟨br, 0, none⟩) n n] 55)) 0 x1 x2 x3 x4 30
  have X := (MB.new v (.int .i64 nx) (.map (some bm)) (.slice (some ⟨br, 0, none⟩) n n) 55).below A5
  simp only [World.size_alloc] at P
  replace MP := (MP.below A4).below A5
  replace RW := RowF.below' A5 (RowF.below' A4 RW)
  replace B := (B.trans (A4.mono B.size)).trans (A5.mono (B.trans (A4.mono B.size)).size)
  replace R1 := (R1.below A4).below A5
  clear A4 A5
  obtain ⟨p0, p1, p2, p3, p4, p5, p6, p7, p8, p9, p10⟩ := id P
  go_wp2_with fail
  generalize v.heap.size = jm at *
  refine (CF _).mono ?_
  rintro e v4 ⟨rfl, hb⟩
  replace B := B.trans (hb.mono B.size)
  replace R1 := R1.below hb
  replace P := P.below hb
  replace X := X.below hb
  replace MP := MP.below hb
  replace RW := RowF.below' hb RW
  clear hb CF p0 p1 p2 p3 p4 p5 p6 p7 p8 p9 p10
  obtain ⟨p0, p1, p2, p3, p4, p5, p6, p7, p8, p9, p10⟩ := id P
  go_wp2_with fail
  refine (mailSend_done nx jm bm br n n (lk M n) M 0 x1 x2 x3 x4 _ hn4 (by omega) hnx X MP RW (by omega) (by omega) hne).mono ?_
  rintro e v5 ⟨b5, rfl, hb5, X5, M5, R5, Z5⟩
  have hz4 := R1.1
  have D1 : B2 v5 (w.heap.size + 1) (.int .i64 0) (.slice none 0 0) := R1.but2 Z5 (by omega) (by omega)
  replace B := B.trans (Z5.below (B := w.heap.size) (by omega) (by omega) B.size)
  clear Z5 R1 X MP RW P p0 p1 p2 p3 p4 p5 p6 p7 p8 p9 p10
  obtain ⟨k0, k1, k2, k3, k4, k5, k6⟩ := id X5
  go_wp2_with fail
  refine (mailNet_any (nx + 1) bm b5 (n + 1) (n + 1) _ (insG M n (nx, x1, x2, x3, x4)) _ (by omega) M5 R5 HL.out HWF.out).mono ?_
  rintro e v6 ⟨g6, rfl, hg6, R6, hb⟩
  have hv5 := B.size
  replace B := B.trans (hb.mono B.size)
  have hR1 := D1.1
  obtain ⟨r0, r1, r2, r3, r4⟩ := D1.below hb
  clear hb k0 k1 k2 k3 k4 k5 k6 X5 M5 R5
  go_wp2_with fail
  have PB1 := ((But.refl (w.heap.size + 1) v6).setCell 0 (.int .i64 (nx + 1))).setCell 1 (.slice (some ⟨g6, 0, none⟩) (n + 1) (n + 1))
  exact bodyPost_ret (v := .tuple #[.agg #[.int .i64 (nx + 1), .slice (some ⟨g6, 0, none⟩) (n + 1) (n + 1)], .int .i64 0]) (by simp (maxDischargeDepth := 6) [results, Try.results27, go_sem, *]) rfl ⟨g6, rfl, by omega, R6.but PB1 (by omega), B.trans (PB1.below (by omega) B.size)⟩
end Go.Proofs.Ytjhnfnehdiapcaa
