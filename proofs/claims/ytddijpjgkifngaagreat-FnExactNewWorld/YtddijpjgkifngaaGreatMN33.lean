/- The contract of impl.mailOf, whole. The contract of impl.NetOk, and th -/
import Derived.Test.YtddijpjgkifngaaGreatMN0
import Derived.Test.YtddijpjgkifngaaGreatMN28
namespace Go.Proofs.YtddijpjgkifngaaGreat
open Go.RowKit
set_option linter.unusedVariables false
set_option maxRecDepth 100000
set_option maxHeartbeats 16000000
theorem gk (nx : Int) (b off n c : Nat) (M : Nat → FT) (w : World) (h : 0 ≤ nx ∧ nx ≤ 1000000) (hn : n ≤ 40) (hf : Cs w b off (n * 5) (ap M)) (hs : ∀ i, i < n → ((M i).2.2.2.1).size ≤ maxLen) (hw : ∀ i, i < n → (Lit.int .i64 (M i).1).wf = true) :
 Calls Tryz.prog 184 #[.agg #[.int .i64 nx, .slice (some ⟨b, off, none⟩) n c]] w fun e w' => ∃ V : Value, e = .returned (.tuple #[V, .bool (aH nx M n)]) ∧ (aH nx M n = false → V = zml) ∧ (aH nx M n = true → ∃ bm br, V = .agg #[.int .i64 nx, .map (some bm), .slice (some ⟨br, 0, none⟩) n n] ∧ Ml w' w.heap.size bm br n M) ∧ Below w.heap.size w w' := by
 have HF : Hid (Cs w b off (n * 5) (ap M)) := hf
 have HS : Hid (∀ i, i < n → ((M i).2.2.2.1).size ≤ maxLen) := hs
 have HW : Hid (∀ i, i < n → (Lit.int .i64 (M i).1).wf = true) := hw
 have bw := hf.1
 clear hf hs hw
 have z1 : (w.alloc (.cells #[.int .i64 nx, .slice (some ⟨b, off, none⟩) n c] 49)).heap.size = w.heap.size + 1 := by simp
 have N := (NB.new w nx (some ⟨b, off, none⟩) n c 49).below (Below.nw _ (.cells #[.int .i64 0, .map none, .slice none 0 0] 237))
 have R := MB.new (w.alloc (.cells #[.int .i64 nx, .slice (some ⟨b, off, none⟩) n c] 49)) (.int .i64 0) (.map none) (.slice none 0 0) 237
 rw [z1] at R
 have B := (Below.nw w (.cells #[.int .i64 nx, .slice (some ⟨b, off, none⟩) n c] 49)).trans ((Below.nw (w.alloc (.cells #[.int .i64 nx, .slice (some ⟨b, off, none⟩) n c] 49)) (.cells #[.int .i64 0, .map none, .slice none 0 0] 237)).mono (by simp))
 have h1 : ¬ nx < 0 := by omega
 have h2 : ¬ 1000000 < nx := by omega
 have hn40 : n ≤ 40 := hn
 have h3 : ¬ (40 : Int) < (n : Int) := by omega
 have hmm := eE n
 have hmr0 := de n (by omega)
 have HNX : Hid (0 ≤ nx ∧ nx ≤ 1000000) := h
 clear h z1
 go_enter Tryz.func184, Tryz.ntmps184
 go_upto_region 3 with fail
 generalize (w.alloc (.cells #[.int .i64 nx, .slice (some ⟨b, off, none⟩) n c] 49)).alloc (.cells #[.int .i64 0, .map none, .slice none 0 0] 237) = wz at *
 obtain ⟨n0, n1, n2⟩ := id N
 go_cut [4] (fun s4 wx => ∃ bx bm br : Nat, s4 = .pointer (some ⟨bx, 0, none⟩) ∧ w.heap.size + 1 < bx ∧ w.heap.size + 1 < bm ∧ w.heap.size + 1 < br ∧ bx ≠ bm ∧ bx ≠ br ∧ bm ≠ br ∧ MB wx bx (.int .i64 nx) (.map (some bm)) (.slice (some ⟨br, 0, none⟩) n n) ∧ aL wx bm 0 (fun _ => none) ∧ ao wx br 3 n 0 (idF M) ∧ NB wx w.heap.size nx (some ⟨b, off, none⟩) n c ∧ MB wx (w.heap.size + 1) (.int .i64 0) (.map none) (.slice none 0 0) ∧ Below w.heap.size w wx)
 case first =>
  refine wp_region_held_drew (S := (fun w' => w'.cell? ⟨w.heap.size, 0, none⟩ = some (.int .i64 nx) ∧ w'.cell? ⟨w.heap.size, 1, none⟩ = some (.slice (some ⟨b, off, none⟩) n c))) (by kernel_rfl) ?_ (fun hHeld => ?_)
  ·first | exact ⟨n1, n2⟩ | (simp (maxDischargeDepth := 6) [go_sem, *]; done)
  clear n0 n1 n2
  replace N := N.drew
  replace R := R.drew
  replace B := Below.drew B
  have hR0 : w.heap.size + 1 < wz.drew.heap.size := R.1
  generalize wz.drew = v0 at *
  obtain ⟨n0, n1, n2⟩ := id N
  refine zT4 0 ?_
  refine zTk 4 ?_
  refine zT2 6 ?_
  refine zTk 8 ?_
  refine wpAnyH_ready (rs := [5, 9, 11]) (by kernel_rfl) (by simp) ?_
  refine (zCc (fun K hK => ?_) (zCc (fun K hK => ?_) (zR fun K hK => ?_)))
  ·go_simp
   (have A := Below.nw v0 (.map #[] 0)); (have MP := aL.made v0); (replace N := N.below A); (replace R := R.below A); (have hlt0 : v0.heap.size < (v0.alloc (.map #[] 0)).heap.size := by simp); (replace B := B.trans (A.mono B.size)); clear A n0 n1 n2; (generalize v0.alloc (.map #[] 0) = v1 at *); obtain ⟨n0, n1, n2⟩ := id N
   refine hK.out _ _ ?_ (fun hHeld => ?_)
   ·first | exact ⟨n1, n2⟩ | (simp (maxDischargeDepth := 6) [go_sem, *]; done)
   clear hK K
   (try simp only [zA])
   refine wpAnyH_ready (rs := [9, 11]) (by kernel_rfl) (by simp) ?_
   refine (zCc (fun K hK => ?_) (zR fun K hK => ?_))
   ·go_simp
    (have A := Below.nw v1 (am n)); (replace MP := MP.below A); (have RW := aM v1 n (idF M)); (replace N := N.below A); (replace R := R.below A); (have hlt1 : v1.heap.size < (v1.alloc (am n)).heap.size := by simp); (replace B := B.trans (A.mono B.size)); clear A n0 n1 n2; (generalize v1.alloc (am n) = v2 at *); obtain ⟨n0, n1, n2⟩ := id N
    refine hK.out _ _ ?_ (fun hHeld => ?_)
    ·first | exact ⟨n1, n2⟩ | (simp (maxDischargeDepth := 6) [go_sem, *]; done)
    clear hK K
    (try simp only [zA])
    refine zTk 10 ?_
    refine zQ 11 fun K hK => ?_
    go_simp
    (have A := Below.nw v2 (.cells #[.int .i64 0, .map none, .slice none 0 0] 237)); (replace MP := MP.below A); (replace RW := ao.below' A RW); (have X := MB.new v2 (.int .i64 0) (.map none) (.slice none 0 0) 237); (replace N := N.below A); (replace R := R.below A); (have hlt2 : v2.heap.size < (v2.alloc (.cells #[.int .i64 0, .map none, .slice none 0 0] 237)).heap.size := by simp); (replace B := B.trans (A.mono B.size)); clear A n0 n1 n2; (generalize v2.alloc (.cells #[.int .i64 0, .map none, .slice none 0 0] 237) = v3 at *); obtain ⟨n0, n1, n2⟩ := id N; have k0 : _ ∧ _ := X
    refine hK.out _ _ ?_ (fun hHeld => ?_)
    ·first | exact ⟨n1, n2⟩ | (simp (maxDischargeDepth := 6) [go_sem, *]; done)
    clear hK K
    (try simp only [zA])
    refine zQ 12 fun K hK => ?_
    go_simp
    refine hK.out _ _ ?_ (fun hHeld => ?_)
    ·first | exact ⟨n1, n2⟩ | (simp (maxDischargeDepth := 6) [go_sem, *]; done)
    clear hK K
    (try simp only [zA])
    refine wpAnyH_done (by kernel_rfl) ?_ _
    go_wp2_with fail
    go_meet
    case rel =>
     have PB := aK v3 (v2.heap.size) (.int .i64 nx) (.map (some (v0.heap.size))) (.slice (some ⟨v1.heap.size, 0, none⟩) n n)
     have l0 := R.1
     exact ⟨v2.heap.size, v0.heap.size, v1.heap.size, rfl, by omega, by omega, by omega, by omega, by omega, by omega, X.set _ _ _, MP.but PB (by omega), RW.but PB (by omega), N.but PB (by omega), R.but PB (by omega), B.trans (PB.below (by omega) B.size)⟩
   ·go_simp
    (have A := Below.nw v1 (.cells #[.int .i64 0, .map none, .slice none 0 0] 237)); (replace MP := MP.below A); (have X := MB.new v1 (.int .i64 0) (.map none) (.slice none 0 0) 237); (replace N := N.below A); (replace R := R.below A); (have hlt1 : v1.heap.size < (v1.alloc (.cells #[.int .i64 0, .map none, .slice none 0 0] 237)).heap.size := by simp); (replace B := B.trans (A.mono B.size)); clear A n0 n1 n2; (generalize v1.alloc (.cells #[.int .i64 0, .map none, .slice none 0 0] 237) = v2 at *); obtain ⟨n0, n1, n2⟩ := id N
    refine hK.out _ _ ?_ (fun hHeld => ?_)
    ·first | exact ⟨n1, n2⟩ | (simp (maxDischargeDepth := 6) [go_sem, *]; done)
    clear hK K
    (try simp only [zA])
    refine zQ 9 fun K hK => ?_
    go_simp
    (have A := Below.nw v2 (am n)); (replace MP := MP.below A); (replace X := X.below A); (have RW := aM v2 n (idF M)); (replace N := N.below A); (replace R := R.below A); (have hlt2 : v2.heap.size < (v2.alloc (am n)).heap.size := by simp); (replace B := B.trans (A.mono B.size)); clear A n0 n1 n2; (generalize v2.alloc (am n) = v3 at *); obtain ⟨n0, n1, n2⟩ := id N; have k0 : _ ∧ _ := X
    refine hK.out _ _ ?_ (fun hHeld => ?_)
    ·first | exact ⟨n1, n2⟩ | (simp (maxDischargeDepth := 6) [go_sem, *]; done)
    clear hK K
    (try simp only [zA])
    refine zTk 10 ?_
    refine zQ 12 fun K hK => ?_
    go_simp
    refine hK.out _ _ ?_ (fun hHeld => ?_)
    ·first | exact ⟨n1, n2⟩ | (simp (maxDischargeDepth := 6) [go_sem, *]; done)
    clear hK K
    (try simp only [zA])
    refine wpAnyH_done (by kernel_rfl) ?_ _
    go_wp2_with fail
    go_meet
    case rel =>
     have PB := aK v3 (v1.heap.size) (.int .i64 nx) (.map (some (v0.heap.size))) (.slice (some ⟨v2.heap.size, 0, none⟩) n n)
     have l0 := R.1
     exact ⟨v1.heap.size, v0.heap.size, v2.heap.size, rfl, by omega, by omega, by omega, by omega, by omega, by omega, X.set _ _ _, MP.but PB (by omega), RW.but PB (by omega), N.but PB (by omega), R.but PB (by omega), B.trans (PB.below (by omega) B.size)⟩
  ·go_simp
   (have A := Below.nw v0 (am n)); (have RW := aM v0 n (idF M)); (replace N := N.below A); (replace R := R.below A); (have hlt0 : v0.heap.size < (v0.alloc (am n)).heap.size := by simp); (replace B := B.trans (A.mono B.size)); clear A n0 n1 n2; (generalize v0.alloc (am n) = v1 at *); obtain ⟨n0, n1, n2⟩ := id N
   refine hK.out _ _ ?_ (fun hHeld => ?_)
   ·first | exact ⟨n1, n2⟩ | (simp (maxDischargeDepth := 6) [go_sem, *]; done)
   clear hK K
   (try simp only [zA])
   refine wpAnyH_ready (rs := [5, 11]) (by kernel_rfl) (by simp) ?_
   refine (zCc (fun K hK => ?_) (zR fun K hK => ?_))
   ·go_simp
    (have A := Below.nw v1 (.map #[] 0)); (replace RW := ao.below' A RW); (have MP := aL.made v1); (replace N := N.below A); (replace R := R.below A); (have hlt1 : v1.heap.size < (v1.alloc (.map #[] 0)).heap.size := by simp); (replace B := B.trans (A.mono B.size)); clear A n0 n1 n2; (generalize v1.alloc (.map #[] 0) = v2 at *); obtain ⟨n0, n1, n2⟩ := id N
    refine hK.out _ _ ?_ (fun hHeld => ?_)
    ·first | exact ⟨n1, n2⟩ | (simp (maxDischargeDepth := 6) [go_sem, *]; done)
    clear hK K
    (try simp only [zA])
    refine zTk 10 ?_
    refine zQ 11 fun K hK => ?_
    go_simp
    (have A := Below.nw v2 (.cells #[.int .i64 0, .map none, .slice none 0 0] 237)); (replace RW := ao.below' A RW); (replace MP := MP.below A); (have X := MB.new v2 (.int .i64 0) (.map none) (.slice none 0 0) 237); (replace N := N.below A); (replace R := R.below A); (have hlt2 : v2.heap.size < (v2.alloc (.cells #[.int .i64 0, .map none, .slice none 0 0] 237)).heap.size := by simp); (replace B := B.trans (A.mono B.size)); clear A n0 n1 n2; (generalize v2.alloc (.cells #[.int .i64 0, .map none, .slice none 0 0] 237) = v3 at *); obtain ⟨n0, n1, n2⟩ := id N; have k0 : _ ∧ _ := X
    refine hK.out _ _ ?_ (fun hHeld => ?_)
    ·first | exact ⟨n1, n2⟩ | (simp (maxDischargeDepth := 6) [go_sem, *]; done)
    clear hK K
    (try simp only [zA])
    refine zQ 12 fun K hK => ?_
    go_simp
    refine hK.out _ _ ?_ (fun hHeld => ?_)
    ·first | exact ⟨n1, n2⟩ | (simp (maxDischargeDepth := 6) [go_sem, *]; done)
    clear hK K
    (try simp only [zA])
    refine wpAnyH_done (by kernel_rfl) ?_ _
    go_wp2_with fail
    go_meet
    case rel =>
     have PB := aK v3 (v2.heap.size) (.int .i64 nx) (.map (some (v1.heap.size))) (.slice (some ⟨v0.heap.size, 0, none⟩) n n)
     have l0 := R.1
     exact ⟨v2.heap.size, v1.heap.size, v0.heap.size, rfl, by omega, by omega, by omega, by omega, by omega, by omega, X.set _ _ _, MP.but PB (by omega), RW.but PB (by omega), N.but PB (by omega), R.but PB (by omega), B.trans (PB.below (by omega) B.size)⟩
   ·go_simp
    (have A := Below.nw v1 (.cells #[.int .i64 0, .map none, .slice none 0 0] 237)); (replace RW := ao.below' A RW); (have X := MB.new v1 (.int .i64 0) (.map none) (.slice none 0 0) 237); (replace N := N.below A); (replace R := R.below A); (have hlt1 : v1.heap.size < (v1.alloc (.cells #[.int .i64 0, .map none, .slice none 0 0] 237)).heap.size := by simp); (replace B := B.trans (A.mono B.size)); clear A n0 n1 n2; (generalize v1.alloc (.cells #[.int .i64 0, .map none, .slice none 0 0] 237) = v2 at *); obtain ⟨n0, n1, n2⟩ := id N
    refine hK.out _ _ ?_ (fun hHeld => ?_)
    ·first | exact ⟨n1, n2⟩ | (simp (maxDischargeDepth := 6) [go_sem, *]; done)
    clear hK K
    (try simp only [zA])
    refine zQ 5 fun K hK => ?_
    go_simp
    (have A := Below.nw v2 (.map #[] 0)); (replace RW := ao.below' A RW); (replace X := X.below A); (have MP := aL.made v2); (replace N := N.below A); (replace R := R.below A); (have hlt2 : v2.heap.size < (v2.alloc (.map #[] 0)).heap.size := by simp); (replace B := B.trans (A.mono B.size)); clear A n0 n1 n2; (generalize v2.alloc (.map #[] 0) = v3 at *); obtain ⟨n0, n1, n2⟩ := id N; have k0 : _ ∧ _ := X
    refine hK.out _ _ ?_ (fun hHeld => ?_)
    ·first | exact ⟨n1, n2⟩ | (simp (maxDischargeDepth := 6) [go_sem, *]; done)
    clear hK K
    (try simp only [zA])
    refine zTk 10 ?_
    refine zQ 12 fun K hK => ?_
    go_simp
    refine hK.out _ _ ?_ (fun hHeld => ?_)
    ·first | exact ⟨n1, n2⟩ | (simp (maxDischargeDepth := 6) [go_sem, *]; done)
    clear hK K
    (try simp only [zA])
    refine wpAnyH_done (by kernel_rfl) ?_ _
    go_wp2_with fail
    go_meet
    case rel =>
     have PB := aK v3 (v1.heap.size) (.int .i64 nx) (.map (some (v2.heap.size))) (.slice (some ⟨v0.heap.size, 0, none⟩) n n)
     have l0 := R.1
     exact ⟨v1.heap.size, v2.heap.size, v0.heap.size, rfl, by omega, by omega, by omega, by omega, by omega, by omega, X.set _ _ _, MP.but PB (by omega), RW.but PB (by omega), N.but PB (by omega), R.but PB (by omega), B.trans (PB.below (by omega) B.size)⟩
  ·go_simp
   (have A := Below.nw v0 (.cells #[.int .i64 0, .map none, .slice none 0 0] 237)); (have X := MB.new v0 (.int .i64 0) (.map none) (.slice none 0 0) 237); (replace N := N.below A); (replace R := R.below A); (have hlt0 : v0.heap.size < (v0.alloc (.cells #[.int .i64 0, .map none, .slice none 0 0] 237)).heap.size := by simp); (replace B := B.trans (A.mono B.size)); clear A n0 n1 n2; (generalize v0.alloc (.cells #[.int .i64 0, .map none, .slice none 0 0] 237) = v1 at *); obtain ⟨n0, n1, n2⟩ := id N
   refine hK.out _ _ ?_ (fun hHeld => ?_)
   ·first | exact ⟨n1, n2⟩ | (simp (maxDischargeDepth := 6) [go_sem, *]; done)
   clear hK K
   (try simp only [zA])
   refine wpAnyH_ready (rs := [5, 9]) (by kernel_rfl) (by simp) ?_
   refine (zCc (fun K hK => ?_) (zR fun K hK => ?_))
   ·go_simp
    (have A := Below.nw v1 (.map #[] 0)); (replace X := X.below A); (have MP := aL.made v1); (replace N := N.below A); (replace R := R.below A); (have hlt1 : v1.heap.size < (v1.alloc (.map #[] 0)).heap.size := by simp); (replace B := B.trans (A.mono B.size)); clear A n0 n1 n2; (generalize v1.alloc (.map #[] 0) = v2 at *); obtain ⟨n0, n1, n2⟩ := id N
    refine hK.out _ _ ?_ (fun hHeld => ?_)
    ·first | exact ⟨n1, n2⟩ | (simp (maxDischargeDepth := 6) [go_sem, *]; done)
    clear hK K
    (try simp only [zA])
    refine zQ 9 fun K hK => ?_
    go_simp
    (have A := Below.nw v2 (am n)); (replace X := X.below A); (replace MP := MP.below A); (have RW := aM v2 n (idF M)); (replace N := N.below A); (replace R := R.below A); (have hlt2 : v2.heap.size < (v2.alloc (am n)).heap.size := by simp); (replace B := B.trans (A.mono B.size)); clear A n0 n1 n2; (generalize v2.alloc (am n) = v3 at *); obtain ⟨n0, n1, n2⟩ := id N; have k0 : _ ∧ _ := X
    refine hK.out _ _ ?_ (fun hHeld => ?_)
    ·first | exact ⟨n1, n2⟩ | (simp (maxDischargeDepth := 6) [go_sem, *]; done)
    clear hK K
    (try simp only [zA])
    refine zTk 10 ?_
    refine zQ 12 fun K hK => ?_
    go_simp
    refine hK.out _ _ ?_ (fun hHeld => ?_)
    ·first | exact ⟨n1, n2⟩ | (simp (maxDischargeDepth := 6) [go_sem, *]; done)
    clear hK K
    (try simp only [zA])
    refine wpAnyH_done (by kernel_rfl) ?_ _
    go_wp2_with fail
    go_meet
    case rel =>
     have PB := aK v3 (v0.heap.size) (.int .i64 nx) (.map (some (v1.heap.size))) (.slice (some ⟨v2.heap.size, 0, none⟩) n n)
     have l0 := R.1
     exact ⟨v0.heap.size, v1.heap.size, v2.heap.size, rfl, by omega, by omega, by omega, by omega, by omega, by omega, X.set _ _ _, MP.but PB (by omega), RW.but PB (by omega), N.but PB (by omega), R.but PB (by omega), B.trans (PB.below (by omega) B.size)⟩
   ·go_simp
    (have A := Below.nw v1 (am n)); (replace X := X.below A); (have RW := aM v1 n (idF M)); (replace N := N.below A); (replace R := R.below A); (have hlt1 : v1.heap.size < (v1.alloc (am n)).heap.size := by simp); (replace B := B.trans (A.mono B.size)); clear A n0 n1 n2; (generalize v1.alloc (am n) = v2 at *); obtain ⟨n0, n1, n2⟩ := id N
    refine hK.out _ _ ?_ (fun hHeld => ?_)
    ·first | exact ⟨n1, n2⟩ | (simp (maxDischargeDepth := 6) [go_sem, *]; done)
    clear hK K
    (try simp only [zA])
    refine zQ 5 fun K hK => ?_
    go_simp
    (have A := Below.nw v2 (.map #[] 0)); (replace X := X.below A); (replace RW := ao.below' A RW); (have MP := aL.made v2); (replace N := N.below A); (replace R := R.below A); (have hlt2 : v2.heap.size < (v2.alloc (.map #[] 0)).heap.size := by simp); (replace B := B.trans (A.mono B.size)); clear A n0 n1 n2; (generalize v2.alloc (.map #[] 0) = v3 at *); obtain ⟨n0, n1, n2⟩ := id N; have k0 : _ ∧ _ := X
    refine hK.out _ _ ?_ (fun hHeld => ?_)
    ·first | exact ⟨n1, n2⟩ | (simp (maxDischargeDepth := 6) [go_sem, *]; done)
    clear hK K
    (try simp only [zA])
    refine zTk 10 ?_
    refine zQ 12 fun K hK => ?_
    go_simp
    refine hK.out _ _ ?_ (fun hHeld => ?_)
    ·first | exact ⟨n1, n2⟩ | (simp (maxDischargeDepth := 6) [go_sem, *]; done)
    clear hK K
    (try simp only [zA])
    refine wpAnyH_done (by kernel_rfl) ?_ _
    go_wp2_with fail
    go_meet
    case rel =>
     have PB := aK v3 (v0.heap.size) (.int .i64 nx) (.map (some (v2.heap.size))) (.slice (some ⟨v1.heap.size, 0, none⟩) n n)
     have l0 := R.1
     exact ⟨v0.heap.size, v2.heap.size, v1.heap.size, rfl, by omega, by omega, by omega, by omega, by omega, by omega, X.set _ _ _, MP.but PB (by omega), RW.but PB (by omega), N.but PB (by omega), R.but PB (by omega), B.trans (PB.below (by omega) B.size)⟩
 case rest =>
  obtain ⟨bx, bm, br, rfl, hbx, hbm, hbr, hxm, hxr, hmr, X', MP', RW', N', R', B'⟩ := hcut
  clear N R B hmm hmr0
  obtain ⟨n0, n1, n2⟩ := id N'
  go_wp2_with fail
  go_loopw [38] (fun i wr => ∃ k : Nat, k ≤ n ∧ i = .int .i64 k ∧ nOk nx M k = true ∧ MB wr bx (.int .i64 nx) (.map (some bm)) (.slice (some ⟨br, 0, none⟩) n n) ∧ aL wr bm k (lk M k) ∧ ao wr br 3 n k (idF M) ∧ NB wr w.heap.size nx (some ⟨b, off, none⟩) n c ∧ MB wr (w.heap.size + 1) (.int .i64 0) (.map none) (.slice none 0 0) ∧ Below w.heap.size w wr) (fun i _ => n - (intOf i).toNat)
  case atStart => exact ⟨0, Nat.zero_le _, rfl, rfl, X', MP', RW', N', R', B'⟩
  case round =>
   obtain ⟨k, hk, rfl, hok, X, MP, RW, N, R, B⟩ := hrel
   clear X' MP' RW' N' R' B' n0 n1 n2
   have HOK : Hid (nOk nx M k = true) := hok
   clear hok
   by_cases hlt : k < n
   ·obtain ⟨x0, x1, x2, x3, x4, hM⟩ := be M k
    obtain ⟨c0, c1, c2, c3, c4⟩ := (HF.out.below B bw).elFlight hlt hM
    have hli : (k : Int) < (n : Int) := by omega
    have hsz : x3.size ≤ maxLen := by have := HS.out k hlt; rw [hM] at this; exact this
    have hwf : (Lit.int .i64 x0).wf = true := by have := HW.out k hlt; rw [hM] at this; exact this
    have HMK : Hid (M k = fT x0 x1 x2 x3 x4) := hM
    have HST : Hid (nOk nx M (k + 1) = (nOk nx M k && (flB x1 x2 x3 x4 && inB nx x0 && !(lk M k x0).isSome))) := by rw [Hid, nOk, hM]; rfl
    have HNO : Hid ((flB x1 x2 x3 x4 && inB nx x0 && !(lk M k x0).isSome) = false → nOk nx M n = false) := fun h => dN (by rw [hM]; exact h) n hlt
    have HI1 : Hid ((M k).1 = x0) := by rw [hM]; rfl
    have HLK : Hid (∀ y, lk M (k + 1) y = if y = x0 then some (M k) else lk M k y) := j7 HI1.out
    have bwr : b < wr.heap.size := Nat.lt_of_lt_of_le bw B.size
    clear hM
    have A1 := Below.nw wr (.cells #[.int .i64 x0, .int .i64 x1, .int .i64 x2, .string x3, .int .i64 x4] 101)
    have FB := cO.new wr x0 x1 x2 x3 x4 101
    obtain ⟨y0, y1, y2, y3, y4, hy⟩ : ∃ (y0 y1 y2 : Int) (y3 : ByteArray) (y4 : Int), (lk M k x0).getD zF = fT y0 y1 y2 y3 y4 := ⟨_, _, _, _, _, rfl⟩
    have hlook := (MP.below A1).look_ok hwf
    rw [hy] at hlook
    simp only [fv, fT] at hlook
    have hl1 : wr.heap.size < (wr.alloc (.cells #[.int .i64 x0, .int .i64 x1, .int .i64 x2, .string x3, .int .i64 x4] 101)).heap.size := by simp
    have hxf := X.1
    have hmf := MP.lt
    have hrf := RW.lt
    have hfb := R.1
    obtain ⟨_, m0, m1, m2, -, -, -⟩ := id X
    go_upto_region 7 with fail
    clear c0 c1 c2 c3 c4 m0 m1 m2
    replace X := X.below A1
    replace MP := MP.below A1
    replace RW := ao.below' A1 RW
    replace N := N.below A1
    replace R := R.below A1
    replace B := B.trans (A1.mono B.size)
    generalize hbf : wr.heap.size = bf at *
    generalize wr.alloc (.cells #[.int .i64 x0, .int .i64 x1, .int .i64 x2, .string x3, .int .i64 x4] 101) = w7 at *
    clear A1 hbf
    have A2 := Below.nw w7 (.cells #[.int .i64 y0, .int .i64 y1, .int .i64 y2, .string y3, .int .i64 y4] 101)
    obtain ⟨_, m0, m1, m2, -, -, -⟩ := id X
    obtain ⟨_, f0, f1, f2, f3, f4⟩ := id FB
    go_upto_region 8 with fail
    clear m0 m1 m2 f0 f1 f2 f3 f4 hlook hy
    replace X := X.below A2
    replace MP := MP.below A2
    replace RW := ao.below' A2 RW
    replace N := N.below A2
    replace R := R.below A2
    replace B := B.trans (A2.mono B.size)
    replace FB := FB.below A2
    generalize w7.alloc (.cells #[.int .i64 y0, .int .i64 y1, .int .i64 y2, .string y3, .int .i64 y4] 101) = wz at *
    clear A2
    obtain ⟨n0, n1, n2⟩ := id N
    obtain ⟨f9, f0, f1, f2, f3, f4⟩ := id FB
    cases htw : (lk M k x0).isSome
    ·by_cases hx0 : x0 < 0
     ·have HB : Hid (aH nx M n = false) := bq (HNO.out (by rw [inB, decide_eq_false (by omega)]; simp))
      go_upto_region 9 with fail
      clear n0 n1 n2 f0 f1 f2 f3 f4
      have RQ := R.set (.int .i64 0) (.map none) (.slice none 0 0)
      have BQ : Below w.heap.size w (((wz.setCell ⟨w.heap.size + 1, 0, none⟩ (.int .i64 0)).setCell ⟨w.heap.size + 1, 1, none⟩ (.map none)).setCell ⟨w.heap.size + 1, 2, none⟩ (.slice none 0 0)) := ((B.setCell (by simp) _).setCell (by simp) _).setCell (by simp) _
      obtain ⟨r0, r1, r2, r3, r4, r5, r6⟩ := R
      go_wp2_with fail
      generalize (((wz.setCell ⟨w.heap.size + 1, 0, none⟩ (.int .i64 0)).setCell ⟨w.heap.size + 1, 1, none⟩ (.map none)).setCell ⟨w.heap.size + 1, 2, none⟩ (.slice none 0 0)) = wq at *
      obtain ⟨q0, q1, q2, q3, q4, q5, q6⟩ := RQ
      exact bodyPost_ret (v := .tuple #[.agg #[.int .i64 0, .map none, .slice none 0 0], .bool false]) (by simp (maxDischargeDepth := 6) [results, Tryz.results184, go_sem, q1, q2, q3]) rfl ⟨.agg #[.int .i64 0, .map none, .slice none 0 0], by rw [HB.out], fun _ => rfl, fun h => (by rw [HB.out] at h; cases h), BQ⟩
     ·by_cases hx1 : nx ≤ x0
      ·have HB : Hid (aH nx M n = false) := bq (HNO.out (by rw [inB, decide_eq_false (by omega)]; simp))
       go_upto_region 9 with fail
       clear n0 n1 n2 f0 f1 f2 f3 f4
       have RQ := R.set (.int .i64 0) (.map none) (.slice none 0 0)
       have BQ : Below w.heap.size w (((wz.setCell ⟨w.heap.size + 1, 0, none⟩ (.int .i64 0)).setCell ⟨w.heap.size + 1, 1, none⟩ (.map none)).setCell ⟨w.heap.size + 1, 2, none⟩ (.slice none 0 0)) := ((B.setCell (by simp) _).setCell (by simp) _).setCell (by simp) _
       obtain ⟨r0, r1, r2, r3, r4, r5, r6⟩ := R
       go_wp2_with fail
       generalize (((wz.setCell ⟨w.heap.size + 1, 0, none⟩ (.int .i64 0)).setCell ⟨w.heap.size + 1, 1, none⟩ (.map none)).setCell ⟨w.heap.size + 1, 2, none⟩ (.slice none 0 0)) = wq at *
       obtain ⟨q0, q1, q2, q3, q4, q5, q6⟩ := RQ
       exact bodyPost_ret (v := .tuple #[.agg #[.int .i64 0, .map none, .slice none 0 0], .bool false]) (by simp (maxDischargeDepth := 6) [results, Tryz.results184, go_sem, q1, q2, q3]) rfl ⟨.agg #[.int .i64 0, .map none, .slice none 0 0], by rw [HB.out], fun _ => rfl, fun h => (by rw [HB.out] at h; cases h), BQ⟩
      ·go_wp2_with fail
       refine (e8 x0 x1 x2 x3 x4 _ hsz).mono ?_
       rintro e w9 ⟨rfl, hb⟩
       clear n0 n1 n2 f9 f0 f1 f2 f3 f4
       replace X := X.below hb
       replace MP := MP.below hb
       replace RW := ao.below' hb RW
       replace N := N.below hb
       replace R := R.below hb
       replace B := B.trans (hb.mono B.size)
       replace FB := FB.below hb
       clear hb
       cases hfl : flB x1 x2 x3 x4
       ·have HB : Hid (aH nx M n = false) := bq (HNO.out (by rw [hfl]; rfl))
        generalize w9 = wz at *
        go_upto_region 9 with fail
        have RQ := R.set (.int .i64 0) (.map none) (.slice none 0 0)
        have BQ : Below w.heap.size w (((wz.setCell ⟨w.heap.size + 1, 0, none⟩ (.int .i64 0)).setCell ⟨w.heap.size + 1, 1, none⟩ (.map none)).setCell ⟨w.heap.size + 1, 2, none⟩ (.slice none 0 0)) := ((B.setCell (by simp) _).setCell (by simp) _).setCell (by simp) _
        obtain ⟨r0, r1, r2, r3, r4, r5, r6⟩ := R
        go_wp2_with fail
        generalize (((wz.setCell ⟨w.heap.size + 1, 0, none⟩ (.int .i64 0)).setCell ⟨w.heap.size + 1, 1, none⟩ (.map none)).setCell ⟨w.heap.size + 1, 2, none⟩ (.slice none 0 0)) = wq at *
        obtain ⟨q0, q1, q2, q3, q4, q5, q6⟩ := RQ
        exact bodyPost_ret (v := .tuple #[.agg #[.int .i64 0, .map none, .slice none 0 0], .bool false]) (by simp (maxDischargeDepth := 6) [results, Tryz.results184, go_sem, q1, q2, q3]) rfl ⟨.agg #[.int .i64 0, .map none, .slice none 0 0], by rw [HB.out], fun _ => rfl, fun h => (by rw [HB.out] at h; cases h), BQ⟩
       ·have HOK1 : Hid (nOk nx M (k + 1) = true) := by rw [Hid, HST.out, HOK.out, hfl, htw, inB, decide_eq_true (by omega)]; rfl
        go_upto_region 10 with fail
        obtain ⟨w10, hup, MP1, hg⟩ := MP.put hwf (by unfold maxLen; omega) (fT x0 x1 x2 x3 x4)
        simp only [fv, fT] at hup
        obtain ⟨_, m0, m1, m2, -, -, -⟩ := id X
        obtain ⟨f9, f0, f1, f2, f3, f4⟩ := id FB
        go_upto_region 11 with fail
        clear m0 m1 m2 f9 f0 f1 f2 f3 f4 hup MP
        have PB := But.ofGrown hg
        replace X := X.but PB hxm
        replace RW := RW.but PB (fun e => hmr e.symm)
        replace N := N.but PB (by omega)
        replace R := R.but PB (by omega)
        replace FB := FB.but PB (by omega)
        replace B := B.trans (PB.below (B := w.heap.size) (by omega) B.size)
        replace MP1 : aL w10 bm (k + 1) (lk M (k + 1)) := MP1.congr (fun y => by rw [HLK.out y, HMK.out])
        clear hg PB
        obtain ⟨_, m0, m1, m2, -, -, -⟩ := id X
        obtain ⟨f9, f0, f1, f2, f3, f4⟩ := id FB
        obtain ⟨⟨v5, e5⟩, g5⟩ := RW.facts k hlt
        have r9 := RW.lt
        have P5 := But.one w10 br k (.int .i64 x0)
        go_wp2_with fail
        go_roundw
        case rel => exact ⟨k + 1, by omega, by go_num, HOK1.out, X.but P5 hxr, MP1.but P5 hmr, RW.put (k + 1) rfl (by rw [idF, HI1.out]), N.but P5 (by omega), R.but P5 (by omega), B.trans (P5.below (B := w.heap.size) (by omega) B.size)⟩
        case measure => simp [intOf]; omega
    ·have HB : Hid (aH nx M n = false) := bq (HNO.out (by rw [htw]; simp))
     go_upto_region 9 with fail
     clear n0 n1 n2 f0 f1 f2 f3 f4
     have RQ := R.set (.int .i64 0) (.map none) (.slice none 0 0)
     have BQ : Below w.heap.size w (((wz.setCell ⟨w.heap.size + 1, 0, none⟩ (.int .i64 0)).setCell ⟨w.heap.size + 1, 1, none⟩ (.map none)).setCell ⟨w.heap.size + 1, 2, none⟩ (.slice none 0 0)) := ((B.setCell (by simp) _).setCell (by simp) _).setCell (by simp) _
     obtain ⟨r0, r1, r2, r3, r4, r5, r6⟩ := R
     go_wp2_with fail
     generalize (((wz.setCell ⟨w.heap.size + 1, 0, none⟩ (.int .i64 0)).setCell ⟨w.heap.size + 1, 1, none⟩ (.map none)).setCell ⟨w.heap.size + 1, 2, none⟩ (.slice none 0 0)) = wq at *
     obtain ⟨q0, q1, q2, q3, q4, q5, q6⟩ := RQ
     exact bodyPost_ret (v := .tuple #[.agg #[.int .i64 0, .map none, .slice none 0 0], .bool false]) (by simp (maxDischargeDepth := 6) [results, Tryz.results184, go_sem, q1, q2, q3]) rfl ⟨.agg #[.int .i64 0, .map none, .slice none 0 0], by rw [HB.out], fun _ => rfl, fun h => (by rw [HB.out] at h; cases h), BQ⟩
   ·have hkn : k = n := by omega
    subst hkn
    have hli : ¬ (k : Int) < (k : Int) := by omega
    have HG : Hid (aH nx M k = true) := df HNX.out hn HOK.out
    have RQ := R.set (.int .i64 nx) (.map (some bm)) (.slice (some ⟨br, 0, none⟩) k k)
    have PB := aK wr (w.heap.size + 1) (.int .i64 nx) (.map (some bm)) (.slice (some ⟨br, 0, none⟩) k k)
    have MQ : Ml (((wr.setCell ⟨w.heap.size + 1, 0, none⟩ (.int .i64 nx)).setCell ⟨w.heap.size + 1, 1, none⟩ (.map (some bm))).setCell ⟨w.heap.size + 1, 2, none⟩ (.slice (some ⟨br, 0, none⟩) k k)) w.heap.size bm br k M := ⟨by omega, by omega, hmr, MP.but PB (by omega), RW.but PB (by omega)⟩
    have BQ := B.trans (PB.below (B := w.heap.size) (by omega) B.size)
    obtain ⟨r0, r1, r2, r3, r4, r5, r6⟩ := R
    obtain ⟨y0, y1, y2, y3, -, -, -⟩ := X
    go_wp2_with fail
    clear MP RW
    generalize (((wr.setCell ⟨w.heap.size + 1, 0, none⟩ (.int .i64 nx)).setCell ⟨w.heap.size + 1, 1, none⟩ (.map (some bm))).setCell ⟨w.heap.size + 1, 2, none⟩ (.slice (some ⟨br, 0, none⟩) k k)) = wq at *
    obtain ⟨q0, q1, q2, q3, q4, q5, q6⟩ := RQ
    exact bodyPost_ret (v := .tuple #[.agg #[.int .i64 nx, .map (some bm), .slice (some ⟨br, 0, none⟩) k k], .bool true]) (by simp (maxDischargeDepth := 6) [results, Tryz.results184, go_sem, q1, q2, q3]) rfl ⟨.agg #[.int .i64 nx, .map (some bm), .slice (some ⟨br, 0, none⟩) k k], by rw [HG.out], fun h => (by rw [HG.out] at h; cases h), fun _ => ⟨bm, br, rfl, MQ⟩, BQ⟩
theorem ia (nx : Int) (a : Option Addr) (n c : Nat) (M : Nat → FT) (w : World) (hm : n ≤ maxLen) (hf : ae w a (n * 5) (ap M)) (hs : ∀ i, i < n → ((M i).2.2.2.1).size ≤ maxLen) (hw : ∀ i, i < n → (Lit.int .i64 (M i).1).wf = true) :
 Calls Tryz.prog 184 #[.agg #[.int .i64 nx, .slice a n c]] w fun e w' => ∃ V : Value, e = .returned (.tuple #[V, .bool (aH nx M n)]) ∧ (aH nx M n = false → V = zml) ∧ (aH nx M n = true → ∃ bm br, V = .agg #[.int .i64 nx, .map (some bm), .slice (some ⟨br, 0, none⟩) n n] ∧ Ml w' w.heap.size bm br n M) ∧ Below w.heap.size w w' := by
 by_cases h : 0 ≤ nx ∧ nx ≤ 1000000
 ·by_cases hl : n ≤ 40
  ·rcases hf with h0 | ⟨b, off, rfl, hf⟩
   ·exact gl nx a c M w h n (show n = 0 by omega)
   ·exact gk nx b off n c M w h hl hf hs hw
  ·exact gj nx a n c M w hm h hl
 ·exact i8 nx a n c M w h
theorem eh (nx : Int) (a : Option Addr) (n c : Nat) (M : Nat → FT) (w : World) (hm : n ≤ maxLen) (hf : ae w a (n * 5) (ap M)) (hs : ∀ i, i < n → ((M i).2.2.2.1).size ≤ maxLen) (hw : ∀ i, i < n → (Lit.int .i64 (M i).1).wf = true) :
 Calls Tryz.prog 151 #[.agg #[.int .i64 nx, .slice a n c]] w fun e w' => e = .returned (.bool (aH nx M n)) ∧ Below w.heap.size w w' := by
 have A0 := Below.nw w (.cells #[.int .i64 nx, .slice a n c] 49)
 have C := ia nx a n c M _ hm (hf.below A0) hs hw
 clear hf hs hw
 go_enter Tryz.func151, Tryz.ntmps151
 go_wp2_with fail
 refine C.mono ?_
 rintro e w1 ⟨V, rfl, h0, h1, hb⟩
 have B := A0.trans (hb.mono A0.size)
 clear C hb A0
 cases hB : aH nx M n
 ·have hV := h0 hB
  subst hV
  clear h0 h1
  unfold zml
  go_wp2_with fail
  go_ret
  exact ⟨ab hB.symm, B.alloc B.size _⟩
 ·obtain ⟨bm, br, rfl, -⟩ := h1 hB
  clear h0 h1
  go_wp2_with fail
  go_ret
  exact ⟨ab hB.symm, B.alloc B.size _⟩
end Go.Proofs.YtddijpjgkifngaaGreat
